/- wide.Sum, walked: the exact sum of what stands at each place that both lists have, or the error as soon as a sum on the way is none. -/
import Derived.Test.YtgkglkoipocgaaaProg
import Derived.Test.YtgkglkoipocgaaaIt
import Derived.Test.YtgkglkoipocgaaaHd
import Derived.Test.YtgkglkoipocgaaaPr
import Derived.Test.YtgkglkoipocgaaaW4
import Derived.Test.YtgkglkoipocgaaaW6
import Derived.Shelf.Abstract
import Derived.Shelf.RegionOpen
import Derived.WalkKit
import Derived.OwnWalkIn
import Derived.TacticsInMore
import Derived.LoopNIn
import Derived.LoopIn
import Derived.Lib.Hide
import Derived.Outline
import Derived.WalkMore
import Derived.Deep.QuietTactic
import Derived.BigQuiet
import Derived.Laws.ResultCell
import Derived.Deep.RegionHeld3
set_option linter.unusedVariables false
set_option linter.unusedSimpArgs false
namespace Go.Proofs.Ytgkglkoipocgaaa.Wm
/-- the sum of the first k products; none, if one on the way is more than may be -/
def sm (xs ys : List Int) : Nat → Option Int
  | 0 => some 0
  | k + 1 => match sm xs ys k with
    | none => none
    | some s => if In (s + xs.getD k 0 * ys.getD k 0) then some (s + xs.getD k 0 * ys.getD k 0) else none
theorem sm_some {xs ys : List Int} {k : Nat} {s : Int} (h : sm xs ys k = some s) : In s := by
  cases k with
  | zero => cases h; unfold In; omega
  | succ k =>
    simp only [sm] at h
    split at h
    · cases h
    · split at h
      · cases h; assumption
      · cases h
theorem sm_none {xs ys : List Int} {k : Nat} (h : sm xs ys k = none) : ∀ n, k ≤ n → sm xs ys n = none := by
  intro n hn
  induction hn with
  | refl => exact h
  | step _ ih => simp only [sm, ih]
def smV (o : Option Int) : Int := o.getD 0
def smE (o : Option Int) : Int := if o.isSome then 0 else 20
end Go.Proofs.Ytgkglkoipocgaaa.Wm
namespace Go.Proofs.Ytgkglkoipocgaaa.Fx
open Go Go.RowKit Go.Shelf Wm
attribute [local go_sem] Oper.semAt_some
/-- the boxes of the sum and the error -/
structure SB (p q : Nat) (h : Int) (l : Nat) (er : Int) (X : World) : Prop where
  r : X.heap[p]? = some (.cells #[.int .i64 h, .int .u64 l] 85 (0, 0))
  s : X.heap[q]? = some (.cells #[.int .i64 er] 27 (0, 0))
  ne : p ≠ q
theorem SB.kept {B p q l : Nat} {h er : Int} {X Y : World} (k : Kept B X Y) (s : SB p q h l er X) : SB p q h l er Y := ⟨k.cells s.r, k.cells s.s, s.ne⟩
theorem SB.facts {p q l : Nat} {h er : Int} {X : World} (s : SB p q h l er X) :
    X.cell? ⟨p, 0, none⟩ = some (.int .i64 h) ∧ X.cell? ⟨p, 1, none⟩ = some (.int .u64 l) ∧ X.cell? ⟨q, 0, none⟩ = some (.int .i64 er) ∧ X.frozen? ⟨p, 0, none⟩ = false ∧ X.frozen? ⟨p, 1, none⟩ = false ∧ X.frozen? ⟨q, 0, none⟩ = false :=
  ⟨by rw [cell_of_row _ _ _ _ _ _ s.r]; rfl, by rw [cell_of_row _ _ _ _ _ _ s.r]; rfl, by rw [cell_of_row _ _ _ _ _ _ s.s]; rfl, frozen_row s.r, frozen_row s.r, frozen_row s.s⟩
theorem SB.lt {p q l : Nat} {h er : Int} {X : World} (s : SB p q h l er X) : p < X.heap.size ∧ q < X.heap.size := ⟨(Array.getElem?_eq_some_iff.1 s.r).1, (Array.getElem?_eq_some_iff.1 s.s).1⟩
theorem SB.put1 {p q l l2 : Nat} {h h2 er er2 : Int} {X : World} (s : SB p q h l er X) : SB p q h2 l2 er2 (((X.setCell ⟨p, 0, none⟩ (.int .i64 h2)).setCell ⟨p, 1, none⟩ (.int .u64 l2)).setCell ⟨q, 0, none⟩ (.int .i64 er2)) := by
  have h1 := heap_setCell_same X _ 0 _ _ (.int .i64 h2) s.r
  have h3 := heap_setCell_same _ _ 1 _ _ (.int .u64 l2) h1
  refine ⟨?_, ?_, s.ne⟩
  · rw [heap_setCell_other _ _ _ _ s.ne]
    exact h3
  · have h4 : ((X.setCell ⟨p, 0, none⟩ (.int .i64 h2)).setCell ⟨p, 1, none⟩ (.int .u64 l2)).heap[q]? = some (.cells #[.int .i64 er] 27 (0, 0)) := by
      rw [heap_setCell_other _ _ _ _ (Ne.symm s.ne), heap_setCell_other _ _ _ _ (Ne.symm s.ne)]
      exact s.s
    exact heap_setCell_same _ _ 0 _ _ _ h4
theorem SB.put2 {p q l l2 : Nat} {h h2 er er2 : Int} {X : World} (s : SB p q h l er X) : SB p q h2 l2 er2 (((X.setCell ⟨q, 0, none⟩ (.int .i64 er2)).setCell ⟨p, 0, none⟩ (.int .i64 h2)).setCell ⟨p, 1, none⟩ (.int .u64 l2)) := by
  have a : (X.setCell ⟨q, 0, none⟩ (.int .i64 er2)).heap[p]? = some (.cells #[.int .i64 h, .int .u64 l] 85 (0, 0)) := by rw [heap_setCell_other _ _ _ _ s.ne]; exact s.r
  have h1 := heap_setCell_same _ _ 0 _ _ (.int .i64 h2) a
  have h3 := heap_setCell_same _ _ 1 _ _ (.int .u64 l2) h1
  refine ⟨h3, ?_, s.ne⟩
  rw [heap_setCell_other _ _ _ _ (Ne.symm s.ne), heap_setCell_other _ _ _ _ (Ne.symm s.ne)]
  exact heap_setCell_same _ _ 0 _ _ _ s.s
theorem block5 (w : World) (A B C D E : Obj) : (((((w.alloc A).alloc B).alloc C).alloc D).alloc E).heap[w.heap.size]? = some A ∧ (((((w.alloc A).alloc B).alloc C).alloc D).alloc E).heap[w.heap.size + 1]? = some B ∧ (((((w.alloc A).alloc B).alloc C).alloc D).alloc E).heap[w.heap.size + 1 + 1]? = some C ∧
    (((((w.alloc A).alloc B).alloc C).alloc D).alloc E).heap[w.heap.size + 1 + 1 + 1]? = some D ∧ (((((w.alloc A).alloc B).alloc C).alloc D).alloc E).heap[w.heap.size + 1 + 1 + 1 + 1]? = some E := by
  have h0 := heap_alloc_new w A
  have h1 := heap_alloc_new (w.alloc A) B
  have h2 := heap_alloc_new ((w.alloc A).alloc B) C
  have h3 := heap_alloc_new (((w.alloc A).alloc B).alloc C) D
  have h4 := heap_alloc_new ((((w.alloc A).alloc B).alloc C).alloc D) E
  simp only [World.size_alloc] at h1 h2 h3 h4
  exact ⟨step_row (step_row (step_row (step_row h0))), step_row (step_row (step_row h1)), step_row (step_row h2), step_row h3, h4⟩
/-- answers the sum, or the error -/
def RetS (o : Option Int) (w : World) (e : Ending) (w' : World) : Prop := ∃ h : Int, ∃ l : Nat, e = .returned (.tuple #[.agg #[.int .i64 h, .int .u64 l], .int .i64 (smE o)]) ∧ At (smV o) h l ∧ Below w.heap.size w w'
/-- what the iterator reads, and all that was -/
structure SM (xs ys : List Int) (oa ob : Option Addr) (ca cb : Nat) (w W : World) : Prop where
  a : W.heap[w.heap.size + 1 + 1 + 1]? = some (.cells #[.slice oa xs.length ca] 115 (0, 0))
  b : W.heap[w.heap.size + 1 + 1 + 1 + 1]? = some (.cells #[.slice ob ys.length cb] 115 (0, 0))
  r : W.heap[w.heap.size]? = some (.cells #[.int .i64 0, .int .u64 0] 85 (0, 0))
  below : Below w.heap.size w W
theorem SM.kept {xs ys : List Int} {oa ob : Option Addr} {ca cb B : Nat} {w W X : World} (hB : w.heap.size ≤ B) (k : Kept B W X) (s : SM xs ys oa ob ca cb w W) : SM xs ys oa ob ca cb w X := ⟨k.cells s.a, k.cells s.b, k.cells s.r, k.below hB s.below⟩
theorem SM.reads {xs ys : List Int} {oa ob : Option Addr} {ca cb : Nat} {w W : World} (s : SM xs ys oa ob ca cb w W) (hx : Sl w oa xs) (hy : Sl w ob ys) : PairM xs ys oa ob ca cb (w.heap.size + 1 + 1 + 1) (w.heap.size + 1 + 1 + 1 + 1) W :=
  ⟨by rw [cell_of_row _ _ _ _ _ _ s.a]; rfl, by rw [cell_of_row _ _ _ _ _ _ s.b]; rfl, hx.below s.below, hy.below s.below⟩
theorem SM.set {xs ys : List Int} {oa ob : Option Addr} {ca cb : Nat} {w W : World} (s : SM xs ys oa ob ca cb w W) {p : Nat} (o : Nat) (v : Value) (h0 : w.heap.size < p) (h1 : p < w.heap.size + 1 + 1 + 1) : SM xs ys oa ob ca cb w (W.setCell ⟨p, o, none⟩ v) :=
  ⟨by rw [heap_setCell_other _ _ _ _ (by show _ ≠ p; omega)]; exact s.a, by rw [heap_setCell_other _ _ _ _ (by show _ ≠ p; omega)]; exact s.b, by rw [heap_setCell_other _ _ _ _ (by show _ ≠ p; omega)]; exact s.r, Below.setCell s.below (Nat.le_of_lt h0) _⟩
/-- the frame in a round -/
def SA (xs ys : List Int) (oa ob : Option Addr) (ca cb : Nat) (w : World) (k : Nat) (a : Act) : Prop :=
  a = { tmps := #[.slice oa xs.length ca, .slice ob ys.length cb, undef, undef, .pointer (some ⟨w.heap.size, 0, none⟩), .int .i64 0, .pointer (some ⟨w.heap.size + 1, 0, none⟩), .pointer (some ⟨w.heap.size + 1 + 1, 0, none⟩), .int .i64 (xs.getD k 0), .int .i64 (ys.getD k 0), .agg #[.int .i64 0, .int .u64 0],
    .slice oa xs.length ca, .slice ob ys.length cb, .func (.func 80) #[] #[.pointer (some ⟨w.heap.size + 1 + 1 + 1, 0, none⟩), .pointer (some ⟨w.heap.size + 1 + 1 + 1 + 1, 0, none⟩)], .int .i64 (xs.getD k 0), .int .i64 (ys.getD k 0), undef, undef, undef, undef, undef, undef, undef, undef, undef, undef, undef, undef], defers := [] }
/-- behind k rounds -/
def SI (xs ys : List Int) (oa ob : Option Addr) (ca cb : Nat) (w : World) (k : Nat) (W : World) : Prop := ∃ s h l, sm xs ys k = some s ∧ At s h l ∧ SB (w.heap.size + 1) (w.heap.size + 1 + 1) h l 0 W ∧ SM xs ys oa ob ca cb w W
/-- left by an error -/
def SX (xs ys : List Int) (oa ob : Option Addr) (ca cb : Nat) (w : World) (W : World) : Prop := sm xs ys (min xs.length ys.length) = none ∧ SB (w.heap.size + 1) (w.heap.size + 1 + 1) 0 0 20 W ∧ SM xs ys oa ob ca cb w W

theorem keeps_below {W X : World} (h : Below W.heap.size W X) : KeepsOthers W X :=
  ⟨h.size, fun k o hk _ => by rw [h.block k (Array.getElem?_eq_some_iff.1 hk).1]; exact hk⟩
theorem sum_on {xs ys : List Int} {oa ob : Option Addr} {ca cb k B : Nat} {w W wn : World} {s x y h h2 : Int} {lo l2 : Nat} {a : Act} (hs : sm xs ys (k + 1) = if In (s + x * y) then some (s + x * y) else none) (hi : In (s + x * y)) (hk : k < min xs.length ys.length)
    (sb : SB (w.heap.size + 1) (w.heap.size + 1 + 1) h lo 0 wn) (sM : SM xs ys oa ob ca cb w wn) (hq : At (s + x * y) h2 l2) (hb : Below W.heap.size W wn) :
    upPost B 0 (SI xs ys oa ob ca cb w (k + 1)) (SX xs ys oa ob ca cb w) W .normal a (((wn.setCell ⟨w.heap.size + 1, 0, none⟩ (.int .i64 h2)).setCell ⟨w.heap.size + 1, 1, none⟩ (.int .u64 l2)).setCell ⟨w.heap.size + 1 + 1, 0, none⟩ (.int .i64 0)) :=
  ⟨((((keeps_below hb).trans (KeepsOthers.setCell _ _ _)).trans (KeepsOthers.setCell _ _ _)).trans (KeepsOthers.setCell _ _ _)).from _, _, h2, l2, by rw [hs, if_pos hi], hq, sb.put1,
    ((sM.set 0 _ (by omega) (by omega)).set 1 _ (by omega) (by omega)).set 0 _ (by omega) (by omega)⟩
theorem sum_off {xs ys : List Int} {oa ob : Option Addr} {ca cb k B : Nat} {w W wn : World} {s x y h h2 : Int} {lo l2 : Nat} {a : Act} (hs : sm xs ys (k + 1) = if In (s + x * y) then some (s + x * y) else none) (hi : ¬ In (s + x * y)) (hk : k < min xs.length ys.length)
    (sb : SB (w.heap.size + 1) (w.heap.size + 1 + 1) h lo 0 wn) (sM : SM xs ys oa ob ca cb w wn) (hq : At 0 h2 l2) (hb : Below W.heap.size W wn) :
    upPost B 0 (SI xs ys oa ob ca cb w (k + 1)) (SX xs ys oa ob ca cb w) W (.exit 0) a (((wn.setCell ⟨w.heap.size + 1, 0, none⟩ (.int .i64 h2)).setCell ⟨w.heap.size + 1, 1, none⟩ (.int .u64 l2)).setCell ⟨w.heap.size + 1 + 1, 0, none⟩ (.int .i64 20)) := by
  obtain ⟨rfl, rfl⟩ : h2 = 0 ∧ l2 = 0 := by unfold At at hq; omega
  exact ⟨rfl, ((((keeps_below hb).trans (KeepsOthers.setCell _ _ _)).trans (KeepsOthers.setCell _ _ _)).trans (KeepsOthers.setCell _ _ _)).from _, sm_none (by rw [hs, if_neg hi]) _ (by omega), sb.put1,
    ((sM.set 0 _ (by omega) (by omega)).set 1 _ (by omega) (by omega)).set 0 _ (by omega) (by omega)⟩
set_option maxRecDepth 100000 in
set_option maxHeartbeats 2000000 in
theorem sum_any (xs ys : List Int) (oa ob : Option Addr) (ca cb : Nat) (w : World) (lx : xs.length ≤ 1000000) (ly : ys.length ≤ 1000000) (bx : ∀ j, -9223372036854775808 ≤ xs.getD j 0 ∧ xs.getD j 0 ≤ 9223372036854775807) (by0 : ∀ j, -9223372036854775808 ≤ ys.getD j 0 ∧ ys.getD j 0 ≤ 9223372036854775807)
    (hx : Sl w oa xs) (hy : Sl w ob ys) :
    Calls Try.prog 65 #[.slice oa xs.length ca, .slice ob ys.length cb] w (RetS (sm xs ys (min xs.length ys.length)) w) := by
  have BX := Lib.hid bx; clear bx
  have BY := Lib.hid by0; clear by0
  have HX := Lib.hid hx; clear hx
  have HY := Lib.hid hy; clear hy
  refine (callsIn_wide (n := 5)).1 ?_
  refine callsIn_of_wp_marks Try.func65 rfl trivial ?_ rfl
  simp only [Try.ntmps65, List.size_toArray, List.length_cons, List.length_nil, Nat.reduceAdd, Nat.reduceSub, Array.replicate_succ, Array.replicate_zero, List.push_toArray, List.append_toArray, List.nil_append, List.cons_append]
  refine wpIn_wide.2 ?_
  go_wp2_with fail
  go_step3
  go_wp2_with fail
  go_step3
  go_wp2_with fail
  refine (pairs_w _ _ _ _ _ _ _).mono ?_
  rintro e w' ⟨rfl, rfl⟩
  go_wp2_with fail
  obtain ⟨W0, hW0⟩ : ∃ W0, (((((w.alloc (.cells #[.int .i64 0, .int .u64 0] 85)).alloc (.cells #[.int .i64 0, .int .u64 0] 85)).alloc (.cells #[.int .i64 0] 27)).alloc (.cells #[.slice oa xs.length ca] 115)).alloc (.cells #[.slice ob ys.length cb] 115)) = W0 := ⟨_, rfl⟩
  have hB0 : Below w.heap.size w W0 := by rw [← hW0]; go_grown
  have hS0 : W0.heap.size = w.heap.size + 5 := by rw [← hW0]; simp
  have sb0 : SB (w.heap.size + 1) (w.heap.size + 1 + 1) 0 0 0 W0 := by
    rw [← hW0]
    exact ⟨(block5 w _ _ _ _ _).2.1, (block5 w _ _ _ _ _).2.2.1, by omega⟩
  have sm0 : SM xs ys oa ob ca cb w W0 := by
    refine ⟨?_, ?_, ?_, hB0⟩
    · rw [← hW0]; exact (block5 w _ _ _ _ _).2.2.2.1
    · rw [← hW0]; exact (block5 w _ _ _ _ _).2.2.2.2
    · rw [← hW0]; exact (block5 w _ _ _ _ _).1
  rw [hW0]
  clear hW0
  have LB : SI xs ys oa ob ca cb w 0 W0 := ⟨0, 0, 0, rfl, by unfold At; omega, sb0, sm0⟩
  have hHD := pairs_hands xs ys oa ob ca cb (w.heap.size + 1 + 1 + 1) (w.heap.size + 1 + 1 + 1 + 1) lx ly
  clear sb0 sm0
  refine wpIn_wide.1 (wpIn_range_num (F := Fence.wide) (n := 5) rfl (by omega) (gf := 80) (lb := #[.pointer (some ⟨w.heap.size + 1 + 1 + 1, 0, none⟩), .pointer (some ⟨w.heap.size + 1 + 1 + 1 + 1, 0, none⟩)]) rfl trivial (enters_of Try.func80 (by kernel_rfl) rfl)
    hHD (fun _ => rfl) 0 (SI xs ys oa ob ca cb w) (SX xs ys oa ob ca cb w)
    (fun k a' W => SA xs ys oa ob ca cb w k a' ∧ SI xs ys oa ob ca cb w k W)
    ?i1 ?i2 ?i3 ?i4 ?i5 LB ?assign ?body ?done ?stop)
  case i1 => rintro k W X ⟨s, h, l, h1, h2, h3, h4⟩ hk; exact ⟨s, h, l, h1, h2, h3.kept hk, h4.kept (by omega) hk⟩
  case i2 => rintro W X ⟨h1, h3, h4⟩ hk; exact ⟨h1, h3.kept hk, h4.kept (by omega) hk⟩
  case i3 => rintro k a W X ⟨h0, s, h, l, h1, h2, h3, h4⟩ hk; exact ⟨h0, s, h, l, h1, h2, h3.kept hk, h4.kept (by omega) hk⟩
  case i4 => rintro k W ⟨s, h, l, h1, h2, h3, h4⟩; exact h4.reads HX.out HY.out
  case i5 => rintro W ⟨h1, h3, h4⟩; exact h4.reads HX.out HY.out
  case assign =>
    intro l k W C hk hI hC
    simp only [pairElem]
    gi_wp2
    exact hC _ _ (KeepsFrom.refl _ _) ⟨rfl, hI⟩
  case body =>
    rintro l k a' W hk ⟨ha, s, h, lo, hs, hat, sb, sM⟩
    unfold SA at ha
    subst ha
    obtain ⟨x, hxk⟩ : ∃ x, xs.getD k 0 = x := ⟨_, rfl⟩
    obtain ⟨y, hyk⟩ : ∃ y, ys.getD k 0 = y := ⟨_, rfl⟩
    have bx := BX.out k
    have by1 := BY.out k
    rw [hxk] at bx ⊢
    rw [hyk] at by1 ⊢
    have hs1 : sm xs ys (k + 1) = if In (s + x * y) then some (s + x * y) else none := by simp only [sm, hs, hxk, hyk]
    have HS1 := Lib.hid hs1
    have HAT := Lib.hid hat
    have HK := Lib.hid hk
    clear hs1 hxk hyk hs hat hk
    obtain ⟨c0, c1, c2, f0, f1, f2⟩ := sb.facts
    have SBH := Lib.hid sb
    have SMH := Lib.hid sM
    clear sb sM
    have hW0l : w.heap.size + 5 ≤ W0.heap.size := by omega
    by_cases hi : In (s + x * y)
    · have hAdd : Hid (∀ (ph : Int) (pl : Nat) (wz : World), At (x * y) ph pl → Calls Try.prog 76 #[.agg #[.int .i64 h, .int .u64 lo], .agg #[.int .i64 ph, .int .u64 pl]] wz fun e w' => ∃ qh : Int, ∃ ql : Nat, e = .returned (.tuple #[.agg #[.int .i64 qh, .int .u64 ql], .int .i64 0]) ∧ At (s + x * y) qh ql ∧ Below wz.heap.size wz w') :=
        Lib.hid fun ph pl wz hp => (add_any s (x * y) h ph lo pl wz HAT.out hp).mono fun e w' ⟨a, b, he, ha, hb⟩ => ⟨a, b, by rw [he, errE, if_pos hi], by rw [valE, if_pos hi] at ha; exact ha, hb⟩
      gi_wp2
      refine held_region (S := fun _ => True) (by kernel_rfl) trivial (fun hHeld => ?_)
      refine held_take (fun _ => trivial) (by kernel_rfl) (i := 1) (oi := _) (v := ?_) rfl (by kernel_rfl) (by kernel_rfl) (by kernel_rfl) (fun _ _ _ h => h) (by assumption) (Or.inl ⟨by kernel_rfl, ?_⟩) ?_
      rotate_left
      · intro wz hSw; (first | (go_simp; done) | (go_simp; with_reducible rfl))
      (try simp only [Act.put, List.getElem_toArray, List.getElem_cons_zero, List.getElem_cons_succ, List.setIfInBounds_toArray, List.set_cons_zero, List.set_cons_succ])
      refine held_take (fun _ => trivial) (by kernel_rfl) (i := 2) (oi := _) (v := ?_) rfl (by kernel_rfl) (by kernel_rfl) (by kernel_rfl) (fun _ _ _ h => h) (by assumption) (Or.inl ⟨by kernel_rfl, ?_⟩) ?_
      rotate_left
      · intro wz hSw; (first | (go_simp; done) | (go_simp; with_reducible rfl))
      (try simp only [Act.put, List.getElem_toArray, List.getElem_cons_zero, List.getElem_cons_succ, List.setIfInBounds_toArray, List.set_cons_zero, List.set_cons_succ])
      refine held_step2 (fun _ => trivial) (i := 0) (j := 3) (o := _) (o2 := _) (by kernel_rfl) rfl rfl (fun K hK => ?_) (fun K hK => ?_)
      · go_simp
        refine hK.out _ _ trivial (fun hHeld => ?_)
        clear hK K
        (try simp only [Act.put, List.getElem_toArray, List.getElem_cons_zero, List.getElem_cons_succ, List.setIfInBounds_toArray, List.set_cons_zero, List.set_cons_succ])
        refine held_step (fun _ => trivial) (i := 3) (o := _) (by kernel_rfl) rfl (fun K hK => ?_)
        go_simp
        refine ⟨trivial, CallsIn.inRound l (callsIn_wide.2 ((mul_any x y _ (by omega) (by omega) (by omega) (by omega)).mono ?_))⟩
        rintro e wm ⟨ph, pl, rfl, hp, hbm⟩
        dsimp only
        refine hK.out _ _ trivial (fun hHeld => ?_)
        clear hK K
        (try simp only [Act.put, List.getElem_toArray, List.getElem_cons_zero, List.getElem_cons_succ, List.setIfInBounds_toArray, List.set_cons_zero, List.set_cons_succ])
        have hbW : Below W.heap.size W wm := bdrew 1 hbm
        have sb1 := SB.kept (B := 0) (Kept.of_below hbW) SBH.out
        have sm1 := SM.kept (B := w.heap.size) (Nat.le_refl _) (Kept.of_below hbW) SMH.out
        obtain ⟨m0, m1, m2, e0, e1, e2⟩ := sb1.facts
        have SBM := Lib.hid sb1
        have SMM := Lib.hid sm1
        clear sb1 sm1
        refine held_step (fun _ => trivial) (i := 4) (o := _) (by kernel_rfl) rfl (fun K hK => ?_)
        go_simp
        refine ⟨trivial, CallsIn.inRound l (callsIn_wide.2 ((hAdd.out ph pl _ hp).mono ?_))⟩
        rintro e wn ⟨qh, ql, rfl, hq, hbn⟩
        dsimp only
        refine hK.out _ _ trivial (fun hHeld => ?_)
        clear hK K
        (try simp only [Act.put, List.getElem_toArray, List.getElem_cons_zero, List.getElem_cons_succ, List.setIfInBounds_toArray, List.set_cons_zero, List.set_cons_succ])
        have sb2 := SB.kept (B := 0) (Kept.of_below hbn) SBM.out
        have sm2 := SM.kept (B := w.heap.size) (Nat.le_refl _) (Kept.of_below hbn) SMM.out
        obtain ⟨n0, n1, n2, g0, g1, g2⟩ := sb2.facts
        have SBN := Lib.hid sb2
        have SMN := Lib.hid sm2
        clear sb2 sm2
        refine held_take (fun _ => trivial) (by kernel_rfl) (i := 5) (oi := _) (v := ?_) rfl (by kernel_rfl) (by kernel_rfl) (by kernel_rfl) (fun _ _ _ h => h) (by assumption) (Or.inl ⟨by kernel_rfl, ?_⟩) ?_
        rotate_left
        · intro wz hSw; (first | (go_simp; done) | (go_simp; with_reducible rfl))
        (try simp only [Act.put, List.getElem_toArray, List.getElem_cons_zero, List.getElem_cons_succ, List.setIfInBounds_toArray, List.set_cons_zero, List.set_cons_succ])
        refine held_take (fun _ => trivial) (by kernel_rfl) (i := 6) (oi := _) (v := ?_) rfl (by kernel_rfl) (by kernel_rfl) (by kernel_rfl) (fun _ _ _ h => h) (by assumption) (Or.inl ⟨by kernel_rfl, ?_⟩) ?_
        rotate_left
        · intro wz hSw; (first | (go_simp; done) | (go_simp; with_reducible rfl))
        (try simp only [Act.put, List.getElem_toArray, List.getElem_cons_zero, List.getElem_cons_succ, List.setIfInBounds_toArray, List.set_cons_zero, List.set_cons_succ])
        refine held_take (fun _ => trivial) (by kernel_rfl) (i := 7) (oi := _) (v := ?_) rfl (by kernel_rfl) (by kernel_rfl) (by kernel_rfl) (fun _ _ _ h => h) (by assumption) (Or.inl ⟨by kernel_rfl, ?_⟩) ?_
        rotate_left
        · intro wz hSw; (first | (go_simp; done) | (go_simp; with_reducible rfl))
        (try simp only [Act.put, List.getElem_toArray, List.getElem_cons_zero, List.getElem_cons_succ, List.setIfInBounds_toArray, List.set_cons_zero, List.set_cons_succ])
        refine held_step (fun _ => trivial) (i := 8) (o := _) (by kernel_rfl) rfl (fun K hK => ?_)
        go_simp
        refine hK.out _ _ trivial (fun hHeld => ?_)
        clear hK K
        (try simp only [Act.put, List.getElem_toArray, List.getElem_cons_zero, List.getElem_cons_succ, List.setIfInBounds_toArray, List.set_cons_zero, List.set_cons_succ])
        refine held_step (fun _ => trivial) (i := 9) (o := _) (by kernel_rfl) rfl (fun K hK => ?_)
        go_simp
        refine hK.out _ _ trivial (fun hHeld => ?_)
        clear hK K
        (try simp only [Act.put, List.getElem_toArray, List.getElem_cons_zero, List.getElem_cons_succ, List.setIfInBounds_toArray, List.set_cons_zero, List.set_cons_succ])
        refine held_done (by kernel_rfl) ?_ _
        clear hHeld
        gi_wp2
        exact sum_on HS1.out hi HK.out SBN.out SMN.out hq (hbW.trans (hbn.mono hbW.size))
      · go_simp
        refine ⟨trivial, CallsIn.inRound l (callsIn_wide.2 ((mul_any x y _ (by omega) (by omega) (by omega) (by omega)).mono ?_))⟩
        rintro e wm ⟨ph, pl, rfl, hp, hbm⟩
        dsimp only
        refine hK.out _ _ trivial (fun hHeld => ?_)
        clear hK K
        (try simp only [Act.put, List.getElem_toArray, List.getElem_cons_zero, List.getElem_cons_succ, List.setIfInBounds_toArray, List.set_cons_zero, List.set_cons_succ])
        have hbW : Below W.heap.size W wm := bdrew 1 hbm
        have sb1 := SB.kept (B := 0) (Kept.of_below hbW) SBH.out
        have sm1 := SM.kept (B := w.heap.size) (Nat.le_refl _) (Kept.of_below hbW) SMH.out
        obtain ⟨m0, m1, m2, e0, e1, e2⟩ := sb1.facts
        have SBM := Lib.hid sb1
        have SMM := Lib.hid sm1
        clear sb1 sm1
        refine held_step (fun _ => trivial) (i := 0) (o := _) (by kernel_rfl) rfl (fun K hK => ?_)
        go_simp
        refine hK.out _ _ trivial (fun hHeld => ?_)
        clear hK K
        (try simp only [Act.put, List.getElem_toArray, List.getElem_cons_zero, List.getElem_cons_succ, List.setIfInBounds_toArray, List.set_cons_zero, List.set_cons_succ])
        refine held_step (fun _ => trivial) (i := 4) (o := _) (by kernel_rfl) rfl (fun K hK => ?_)
        go_simp
        refine ⟨trivial, CallsIn.inRound l (callsIn_wide.2 ((hAdd.out ph pl _ hp).mono ?_))⟩
        rintro e wn ⟨qh, ql, rfl, hq, hbn⟩
        dsimp only
        refine hK.out _ _ trivial (fun hHeld => ?_)
        clear hK K
        (try simp only [Act.put, List.getElem_toArray, List.getElem_cons_zero, List.getElem_cons_succ, List.setIfInBounds_toArray, List.set_cons_zero, List.set_cons_succ])
        have sb2 := SB.kept (B := 0) (Kept.of_below hbn) SBM.out
        have sm2 := SM.kept (B := w.heap.size) (Nat.le_refl _) (Kept.of_below hbn) SMM.out
        obtain ⟨n0, n1, n2, g0, g1, g2⟩ := sb2.facts
        have SBN := Lib.hid sb2
        have SMN := Lib.hid sm2
        clear sb2 sm2
        refine held_take (fun _ => trivial) (by kernel_rfl) (i := 5) (oi := _) (v := ?_) rfl (by kernel_rfl) (by kernel_rfl) (by kernel_rfl) (fun _ _ _ h => h) (by assumption) (Or.inl ⟨by kernel_rfl, ?_⟩) ?_
        rotate_left
        · intro wz hSw; (first | (go_simp; done) | (go_simp; with_reducible rfl))
        (try simp only [Act.put, List.getElem_toArray, List.getElem_cons_zero, List.getElem_cons_succ, List.setIfInBounds_toArray, List.set_cons_zero, List.set_cons_succ])
        refine held_take (fun _ => trivial) (by kernel_rfl) (i := 6) (oi := _) (v := ?_) rfl (by kernel_rfl) (by kernel_rfl) (by kernel_rfl) (fun _ _ _ h => h) (by assumption) (Or.inl ⟨by kernel_rfl, ?_⟩) ?_
        rotate_left
        · intro wz hSw; (first | (go_simp; done) | (go_simp; with_reducible rfl))
        (try simp only [Act.put, List.getElem_toArray, List.getElem_cons_zero, List.getElem_cons_succ, List.setIfInBounds_toArray, List.set_cons_zero, List.set_cons_succ])
        refine held_take (fun _ => trivial) (by kernel_rfl) (i := 7) (oi := _) (v := ?_) rfl (by kernel_rfl) (by kernel_rfl) (by kernel_rfl) (fun _ _ _ h => h) (by assumption) (Or.inl ⟨by kernel_rfl, ?_⟩) ?_
        rotate_left
        · intro wz hSw; (first | (go_simp; done) | (go_simp; with_reducible rfl))
        (try simp only [Act.put, List.getElem_toArray, List.getElem_cons_zero, List.getElem_cons_succ, List.setIfInBounds_toArray, List.set_cons_zero, List.set_cons_succ])
        refine held_step (fun _ => trivial) (i := 8) (o := _) (by kernel_rfl) rfl (fun K hK => ?_)
        go_simp
        refine hK.out _ _ trivial (fun hHeld => ?_)
        clear hK K
        (try simp only [Act.put, List.getElem_toArray, List.getElem_cons_zero, List.getElem_cons_succ, List.setIfInBounds_toArray, List.set_cons_zero, List.set_cons_succ])
        refine held_step (fun _ => trivial) (i := 9) (o := _) (by kernel_rfl) rfl (fun K hK => ?_)
        go_simp
        refine hK.out _ _ trivial (fun hHeld => ?_)
        clear hK K
        (try simp only [Act.put, List.getElem_toArray, List.getElem_cons_zero, List.getElem_cons_succ, List.setIfInBounds_toArray, List.set_cons_zero, List.set_cons_succ])
        refine held_done (by kernel_rfl) ?_ _
        clear hHeld
        gi_wp2
        exact sum_on HS1.out hi HK.out SBN.out SMN.out hq (hbW.trans (hbn.mono hbW.size))
    · have hAdd : Hid (∀ (ph : Int) (pl : Nat) (wz : World), At (x * y) ph pl → Calls Try.prog 76 #[.agg #[.int .i64 h, .int .u64 lo], .agg #[.int .i64 ph, .int .u64 pl]] wz fun e w' => ∃ qh : Int, ∃ ql : Nat, e = .returned (.tuple #[.agg #[.int .i64 qh, .int .u64 ql], .int .i64 20]) ∧ At 0 qh ql ∧ Below wz.heap.size wz w') :=
        Lib.hid fun ph pl wz hp => (add_any s (x * y) h ph lo pl wz HAT.out hp).mono fun e w' ⟨a, b, he, ha, hb⟩ => ⟨a, b, by rw [he, errE, if_neg hi], by rw [valE, if_neg hi] at ha; exact ha, hb⟩
      gi_wp2
      refine held_region (S := fun _ => True) (by kernel_rfl) trivial (fun hHeld => ?_)
      refine held_take (fun _ => trivial) (by kernel_rfl) (i := 1) (oi := _) (v := ?_) rfl (by kernel_rfl) (by kernel_rfl) (by kernel_rfl) (fun _ _ _ h => h) (by assumption) (Or.inl ⟨by kernel_rfl, ?_⟩) ?_
      rotate_left
      · intro wz hSw; (first | (go_simp; done) | (go_simp; with_reducible rfl))
      (try simp only [Act.put, List.getElem_toArray, List.getElem_cons_zero, List.getElem_cons_succ, List.setIfInBounds_toArray, List.set_cons_zero, List.set_cons_succ])
      refine held_take (fun _ => trivial) (by kernel_rfl) (i := 2) (oi := _) (v := ?_) rfl (by kernel_rfl) (by kernel_rfl) (by kernel_rfl) (fun _ _ _ h => h) (by assumption) (Or.inl ⟨by kernel_rfl, ?_⟩) ?_
      rotate_left
      · intro wz hSw; (first | (go_simp; done) | (go_simp; with_reducible rfl))
      (try simp only [Act.put, List.getElem_toArray, List.getElem_cons_zero, List.getElem_cons_succ, List.setIfInBounds_toArray, List.set_cons_zero, List.set_cons_succ])
      refine held_step2 (fun _ => trivial) (i := 0) (j := 3) (o := _) (o2 := _) (by kernel_rfl) rfl rfl (fun K hK => ?_) (fun K hK => ?_)
      · go_simp
        refine hK.out _ _ trivial (fun hHeld => ?_)
        clear hK K
        (try simp only [Act.put, List.getElem_toArray, List.getElem_cons_zero, List.getElem_cons_succ, List.setIfInBounds_toArray, List.set_cons_zero, List.set_cons_succ])
        refine held_step (fun _ => trivial) (i := 3) (o := _) (by kernel_rfl) rfl (fun K hK => ?_)
        go_simp
        refine ⟨trivial, CallsIn.inRound l (callsIn_wide.2 ((mul_any x y _ (by omega) (by omega) (by omega) (by omega)).mono ?_))⟩
        rintro e wm ⟨ph, pl, rfl, hp, hbm⟩
        dsimp only
        refine hK.out _ _ trivial (fun hHeld => ?_)
        clear hK K
        (try simp only [Act.put, List.getElem_toArray, List.getElem_cons_zero, List.getElem_cons_succ, List.setIfInBounds_toArray, List.set_cons_zero, List.set_cons_succ])
        have hbW : Below W.heap.size W wm := bdrew 1 hbm
        have sb1 := SB.kept (B := 0) (Kept.of_below hbW) SBH.out
        have sm1 := SM.kept (B := w.heap.size) (Nat.le_refl _) (Kept.of_below hbW) SMH.out
        obtain ⟨m0, m1, m2, e0, e1, e2⟩ := sb1.facts
        have SBM := Lib.hid sb1
        have SMM := Lib.hid sm1
        clear sb1 sm1
        refine held_step (fun _ => trivial) (i := 4) (o := _) (by kernel_rfl) rfl (fun K hK => ?_)
        go_simp
        refine ⟨trivial, CallsIn.inRound l (callsIn_wide.2 ((hAdd.out ph pl _ hp).mono ?_))⟩
        rintro e wn ⟨qh, ql, rfl, hq, hbn⟩
        dsimp only
        refine hK.out _ _ trivial (fun hHeld => ?_)
        clear hK K
        (try simp only [Act.put, List.getElem_toArray, List.getElem_cons_zero, List.getElem_cons_succ, List.setIfInBounds_toArray, List.set_cons_zero, List.set_cons_succ])
        have sb2 := SB.kept (B := 0) (Kept.of_below hbn) SBM.out
        have sm2 := SM.kept (B := w.heap.size) (Nat.le_refl _) (Kept.of_below hbn) SMM.out
        obtain ⟨n0, n1, n2, g0, g1, g2⟩ := sb2.facts
        have SBN := Lib.hid sb2
        have SMN := Lib.hid sm2
        clear sb2 sm2
        refine held_take (fun _ => trivial) (by kernel_rfl) (i := 5) (oi := _) (v := ?_) rfl (by kernel_rfl) (by kernel_rfl) (by kernel_rfl) (fun _ _ _ h => h) (by assumption) (Or.inl ⟨by kernel_rfl, ?_⟩) ?_
        rotate_left
        · intro wz hSw; (first | (go_simp; done) | (go_simp; with_reducible rfl))
        (try simp only [Act.put, List.getElem_toArray, List.getElem_cons_zero, List.getElem_cons_succ, List.setIfInBounds_toArray, List.set_cons_zero, List.set_cons_succ])
        refine held_take (fun _ => trivial) (by kernel_rfl) (i := 6) (oi := _) (v := ?_) rfl (by kernel_rfl) (by kernel_rfl) (by kernel_rfl) (fun _ _ _ h => h) (by assumption) (Or.inl ⟨by kernel_rfl, ?_⟩) ?_
        rotate_left
        · intro wz hSw; (first | (go_simp; done) | (go_simp; with_reducible rfl))
        (try simp only [Act.put, List.getElem_toArray, List.getElem_cons_zero, List.getElem_cons_succ, List.setIfInBounds_toArray, List.set_cons_zero, List.set_cons_succ])
        refine held_take (fun _ => trivial) (by kernel_rfl) (i := 7) (oi := _) (v := ?_) rfl (by kernel_rfl) (by kernel_rfl) (by kernel_rfl) (fun _ _ _ h => h) (by assumption) (Or.inl ⟨by kernel_rfl, ?_⟩) ?_
        rotate_left
        · intro wz hSw; (first | (go_simp; done) | (go_simp; with_reducible rfl))
        (try simp only [Act.put, List.getElem_toArray, List.getElem_cons_zero, List.getElem_cons_succ, List.setIfInBounds_toArray, List.set_cons_zero, List.set_cons_succ])
        refine held_step (fun _ => trivial) (i := 8) (o := _) (by kernel_rfl) rfl (fun K hK => ?_)
        go_simp
        refine hK.out _ _ trivial (fun hHeld => ?_)
        clear hK K
        (try simp only [Act.put, List.getElem_toArray, List.getElem_cons_zero, List.getElem_cons_succ, List.setIfInBounds_toArray, List.set_cons_zero, List.set_cons_succ])
        refine held_step (fun _ => trivial) (i := 9) (o := _) (by kernel_rfl) rfl (fun K hK => ?_)
        go_simp
        refine hK.out _ _ trivial (fun hHeld => ?_)
        clear hK K
        (try simp only [Act.put, List.getElem_toArray, List.getElem_cons_zero, List.getElem_cons_succ, List.setIfInBounds_toArray, List.set_cons_zero, List.set_cons_succ])
        refine held_done (by kernel_rfl) ?_ _
        clear hHeld
        gi_wp2
        exact sum_off HS1.out hi HK.out SBN.out SMN.out hq (hbW.trans (hbn.mono hbW.size))
      · go_simp
        refine ⟨trivial, CallsIn.inRound l (callsIn_wide.2 ((mul_any x y _ (by omega) (by omega) (by omega) (by omega)).mono ?_))⟩
        rintro e wm ⟨ph, pl, rfl, hp, hbm⟩
        dsimp only
        refine hK.out _ _ trivial (fun hHeld => ?_)
        clear hK K
        (try simp only [Act.put, List.getElem_toArray, List.getElem_cons_zero, List.getElem_cons_succ, List.setIfInBounds_toArray, List.set_cons_zero, List.set_cons_succ])
        have hbW : Below W.heap.size W wm := bdrew 1 hbm
        have sb1 := SB.kept (B := 0) (Kept.of_below hbW) SBH.out
        have sm1 := SM.kept (B := w.heap.size) (Nat.le_refl _) (Kept.of_below hbW) SMH.out
        obtain ⟨m0, m1, m2, e0, e1, e2⟩ := sb1.facts
        have SBM := Lib.hid sb1
        have SMM := Lib.hid sm1
        clear sb1 sm1
        refine held_step (fun _ => trivial) (i := 0) (o := _) (by kernel_rfl) rfl (fun K hK => ?_)
        go_simp
        refine hK.out _ _ trivial (fun hHeld => ?_)
        clear hK K
        (try simp only [Act.put, List.getElem_toArray, List.getElem_cons_zero, List.getElem_cons_succ, List.setIfInBounds_toArray, List.set_cons_zero, List.set_cons_succ])
        refine held_step (fun _ => trivial) (i := 4) (o := _) (by kernel_rfl) rfl (fun K hK => ?_)
        go_simp
        refine ⟨trivial, CallsIn.inRound l (callsIn_wide.2 ((hAdd.out ph pl _ hp).mono ?_))⟩
        rintro e wn ⟨qh, ql, rfl, hq, hbn⟩
        dsimp only
        refine hK.out _ _ trivial (fun hHeld => ?_)
        clear hK K
        (try simp only [Act.put, List.getElem_toArray, List.getElem_cons_zero, List.getElem_cons_succ, List.setIfInBounds_toArray, List.set_cons_zero, List.set_cons_succ])
        have sb2 := SB.kept (B := 0) (Kept.of_below hbn) SBM.out
        have sm2 := SM.kept (B := w.heap.size) (Nat.le_refl _) (Kept.of_below hbn) SMM.out
        obtain ⟨n0, n1, n2, g0, g1, g2⟩ := sb2.facts
        have SBN := Lib.hid sb2
        have SMN := Lib.hid sm2
        clear sb2 sm2
        refine held_take (fun _ => trivial) (by kernel_rfl) (i := 5) (oi := _) (v := ?_) rfl (by kernel_rfl) (by kernel_rfl) (by kernel_rfl) (fun _ _ _ h => h) (by assumption) (Or.inl ⟨by kernel_rfl, ?_⟩) ?_
        rotate_left
        · intro wz hSw; (first | (go_simp; done) | (go_simp; with_reducible rfl))
        (try simp only [Act.put, List.getElem_toArray, List.getElem_cons_zero, List.getElem_cons_succ, List.setIfInBounds_toArray, List.set_cons_zero, List.set_cons_succ])
        refine held_take (fun _ => trivial) (by kernel_rfl) (i := 6) (oi := _) (v := ?_) rfl (by kernel_rfl) (by kernel_rfl) (by kernel_rfl) (fun _ _ _ h => h) (by assumption) (Or.inl ⟨by kernel_rfl, ?_⟩) ?_
        rotate_left
        · intro wz hSw; (first | (go_simp; done) | (go_simp; with_reducible rfl))
        (try simp only [Act.put, List.getElem_toArray, List.getElem_cons_zero, List.getElem_cons_succ, List.setIfInBounds_toArray, List.set_cons_zero, List.set_cons_succ])
        refine held_take (fun _ => trivial) (by kernel_rfl) (i := 7) (oi := _) (v := ?_) rfl (by kernel_rfl) (by kernel_rfl) (by kernel_rfl) (fun _ _ _ h => h) (by assumption) (Or.inl ⟨by kernel_rfl, ?_⟩) ?_
        rotate_left
        · intro wz hSw; (first | (go_simp; done) | (go_simp; with_reducible rfl))
        (try simp only [Act.put, List.getElem_toArray, List.getElem_cons_zero, List.getElem_cons_succ, List.setIfInBounds_toArray, List.set_cons_zero, List.set_cons_succ])
        refine held_step (fun _ => trivial) (i := 8) (o := _) (by kernel_rfl) rfl (fun K hK => ?_)
        go_simp
        refine hK.out _ _ trivial (fun hHeld => ?_)
        clear hK K
        (try simp only [Act.put, List.getElem_toArray, List.getElem_cons_zero, List.getElem_cons_succ, List.setIfInBounds_toArray, List.set_cons_zero, List.set_cons_succ])
        refine held_step (fun _ => trivial) (i := 9) (o := _) (by kernel_rfl) rfl (fun K hK => ?_)
        go_simp
        refine hK.out _ _ trivial (fun hHeld => ?_)
        clear hK K
        (try simp only [Act.put, List.getElem_toArray, List.getElem_cons_zero, List.getElem_cons_succ, List.setIfInBounds_toArray, List.set_cons_zero, List.set_cons_succ])
        refine held_done (by kernel_rfl) ?_ _
        clear hHeld
        gi_wp2
        exact sum_off HS1.out hi HK.out SBN.out SMN.out hq (hbW.trans (hbn.mono hbW.size))
  case done =>
    rintro D W hD ⟨s, h, lo, hs, hat, sb, sM⟩ hdef
    have HSF := Lib.hid hs
    have HAT := Lib.hid hat
    clear hs hat
    obtain ⟨c0, c1, c2, f0, f1, f2⟩ := sb.facts
    have SMH := Lib.hid sM
    rw [hS0] at hD
    have hrr := sM.r
    clear sb sM
    have r0 : W.cell? ⟨w.heap.size, 0, none⟩ = some (.int .i64 0) := by rw [cell_of_row _ _ _ _ _ _ hrr]; rfl
    have r1 : W.cell? ⟨w.heap.size, 1, none⟩ = some (.int .u64 0) := by rw [cell_of_row _ _ _ _ _ _ hrr]; rfl
    have r2 : W.frozen? ⟨w.heap.size, 0, none⟩ = false := frozen_row hrr
    have r3 : W.frozen? ⟨w.heap.size, 1, none⟩ = false := frozen_row hrr
    have HRR := Lib.hid hrr
    clear hrr
    go_wp2_with fail
    refine wp_region_noPanic ?_
    refine (wpIn_wide (n := 5)).1 (held_region (F := Fence.wide) (S := (fun X => X.cell? ⟨w.heap.size + 1, 0, none⟩ = some (.int .i64 h) ∧ X.cell? ⟨w.heap.size + 1, 1, none⟩ = some (.int .u64 lo) ∧ X.cell? ⟨w.heap.size + 1 + 1, 0, none⟩ = some (.int .i64 0))) (by kernel_rfl) ⟨c0, c1, c2⟩ (fun hHeld => ?_))
    refine held_take (fun _ => trivial) (by kernel_rfl) (i := 0) (oi := _) (v := ?_) rfl (by kernel_rfl) (by kernel_rfl) (by kernel_rfl) (fun _ _ _ h => h) (by assumption) (Or.inl ⟨by kernel_rfl, ?_⟩) ?_
    rotate_left
    · intro wz hSw; obtain ⟨h1, h2, h3⟩ := hSw; (first | (go_simp; done) | (go_simp; with_reducible rfl))
    (try simp only [Act.put, List.getElem_toArray, List.getElem_cons_zero, List.getElem_cons_succ, List.setIfInBounds_toArray, List.set_cons_zero, List.set_cons_succ])
    refine held_take (fun _ => trivial) (by kernel_rfl) (i := 1) (oi := _) (v := ?_) rfl (by kernel_rfl) (by kernel_rfl) (by kernel_rfl) (fun _ _ _ h => h) (by assumption) (Or.inl ⟨by kernel_rfl, ?_⟩) ?_
    rotate_left
    · intro wz hSw; obtain ⟨h1, h2, h3⟩ := hSw; (first | (go_simp; done) | (go_simp; with_reducible rfl))
    (try simp only [Act.put, List.getElem_toArray, List.getElem_cons_zero, List.getElem_cons_succ, List.setIfInBounds_toArray, List.set_cons_zero, List.set_cons_succ])
    refine held_step (fun _ => trivial) (i := 2) (o := _) (by kernel_rfl) rfl (fun K hK => ?_)
    go_simp
    refine hK.out _ _ ⟨by simp [go_sem, *], by simp [go_sem, *], by simp [go_sem, *]⟩ (fun hHeld => ?_)
    clear hK K
    (try simp only [Act.put, List.getElem_toArray, List.getElem_cons_zero, List.getElem_cons_succ, List.setIfInBounds_toArray, List.set_cons_zero, List.set_cons_succ])
    refine held_take (fun _ => trivial) (by kernel_rfl) (i := 3) (oi := _) (v := ?_) rfl (by kernel_rfl) (by kernel_rfl) (by kernel_rfl) (fun _ _ _ h => h) (by assumption) (Or.inl ⟨by kernel_rfl, ?_⟩) ?_
    rotate_left
    · intro wz hSw; (first | (go_simp; done) | (go_simp; with_reducible rfl))
    (try simp only [Act.put, List.getElem_toArray, List.getElem_cons_zero, List.getElem_cons_succ, List.setIfInBounds_toArray, List.set_cons_zero, List.set_cons_succ])
    refine held_done (by kernel_rfl) ?_ _
    refine NoPanic.normal ?_
    clear hHeld
    go_wp2_with fail
    rw [Exit.noGoto_ret]
    have hdf : (((W.setCell ⟨w.heap.size, 0, none⟩ (.int .i64 h)).setCell ⟨w.heap.size, 1, none⟩ (.int .u64 lo)).drew).heap[D]? = some (.deferred (some [])) := (((KeepsOthers.setCell W ⟨w.heap.size, 0, none⟩ (.int .i64 h)).trans (KeepsOthers.setCell _ ⟨w.heap.size, 1, none⟩ (.int .u64 lo))).same D _ hdef rfl)
    refine ⟨by simp, .inl ⟨_, _, rfl, run_takeDeferred hdf, ?_⟩⟩
    have hbl : Below w.heap.size w ((((W.setCell ⟨w.heap.size, 0, none⟩ (.int .i64 h)).setCell ⟨w.heap.size, 1, none⟩ (.int .u64 lo)).drew).putObj D (.deferred none)) :=
      (Below.drew ((SMH.out.below.setCell (p := ⟨w.heap.size, 0, none⟩) (Nat.le_refl _) _).setCell (p := ⟨w.heap.size, 1, none⟩) (Nat.le_refl _) _)).trans (belowK_b (w := w) (Nat.le_refl _) _ D _ _ (by omega) hdf rfl rfl)
    have hrow : ((((W.setCell ⟨w.heap.size, 0, none⟩ (.int .i64 h)).setCell ⟨w.heap.size, 1, none⟩ (.int .u64 lo)).drew).putObj D (.deferred none)).heap[w.heap.size]? = some (.cells #[.int .i64 h, .int .u64 lo] 85 (0, 0)) := by
      rw [World.putObj_heap_other (by omega)]
      exact heap_setCell_same _ _ 1 _ _ _ (heap_setCell_same _ _ 0 _ _ _ HRR.out)
    refine ⟨.tuple #[.agg #[.int .i64 h, .int .u64 lo], .int .i64 0], ?_, ?_⟩
    · have k0 := (cell_of_row _ _ 0 _ _ _ hrow)
      have k1 := (cell_of_row _ _ 1 _ _ _ hrow)
      generalize ((((W.setCell ⟨w.heap.size, 0, none⟩ (.int .i64 h)).setCell ⟨w.heap.size, 1, none⟩ (.int .u64 lo)).drew).putObj D (.deferred none)) = Y at k0 k1 ⊢
      clear hrow hbl hdf hdef r0 r1 r2 r3 c0 c1 c2 f0 f1 f2
      have k0' : Y.cell? ⟨w.heap.size, 0, none⟩ = some (.int .i64 h) := k0
      have k1' : Y.cell? ⟨w.heap.size, 1, none⟩ = some (.int .u64 lo) := k1
      clear k0 k1
      simp [results, Try.results65, go_sem, *]
    · exact ⟨h, lo, by rw [HSF.out]; rfl, by rw [HSF.out]; exact HAT.out, hbl⟩
  case stop =>
    rintro D W hD ⟨hs, sb, sM⟩ hdef
    have HSF := Lib.hid hs
    clear hs
    obtain ⟨c0, c1, c2, f0, f1, f2⟩ := sb.facts
    have SMH := Lib.hid sM
    rw [hS0] at hD
    have hrr := sM.r
    clear sb sM
    have r0 : W.cell? ⟨w.heap.size, 0, none⟩ = some (.int .i64 0) := by rw [cell_of_row _ _ _ _ _ _ hrr]; rfl
    have r1 : W.cell? ⟨w.heap.size, 1, none⟩ = some (.int .u64 0) := by rw [cell_of_row _ _ _ _ _ _ hrr]; rfl
    have r2 : W.frozen? ⟨w.heap.size, 0, none⟩ = false := frozen_row hrr
    have r3 : W.frozen? ⟨w.heap.size, 1, none⟩ = false := frozen_row hrr
    have HRR := Lib.hid hrr
    clear hrr
    refine wpIn_wide.2 ?_
    go_wp2_with fail
    refine wp_region_noPanic ?_
    refine (wpIn_wide (n := 5)).1 (held_region (F := Fence.wide) (S := (fun X => X.cell? ⟨w.heap.size + 1, 0, none⟩ = some (.int .i64 0) ∧ X.cell? ⟨w.heap.size + 1, 1, none⟩ = some (.int .u64 0) ∧ X.cell? ⟨w.heap.size + 1 + 1, 0, none⟩ = some (.int .i64 20))) (by kernel_rfl) ⟨c0, c1, c2⟩ (fun hHeld => ?_))
    refine held_take (fun _ => trivial) (by kernel_rfl) (i := 0) (oi := _) (v := ?_) rfl (by kernel_rfl) (by kernel_rfl) (by kernel_rfl) (fun _ _ _ h => h) (by assumption) (Or.inl ⟨by kernel_rfl, ?_⟩) ?_
    rotate_left
    · intro wz hSw; obtain ⟨h1, h2, h3⟩ := hSw; (first | (go_simp; done) | (go_simp; with_reducible rfl))
    (try simp only [Act.put, List.getElem_toArray, List.getElem_cons_zero, List.getElem_cons_succ, List.setIfInBounds_toArray, List.set_cons_zero, List.set_cons_succ])
    refine held_take (fun _ => trivial) (by kernel_rfl) (i := 1) (oi := _) (v := ?_) rfl (by kernel_rfl) (by kernel_rfl) (by kernel_rfl) (fun _ _ _ h => h) (by assumption) (Or.inl ⟨by kernel_rfl, ?_⟩) ?_
    rotate_left
    · intro wz hSw; obtain ⟨h1, h2, h3⟩ := hSw; (first | (go_simp; done) | (go_simp; with_reducible rfl))
    (try simp only [Act.put, List.getElem_toArray, List.getElem_cons_zero, List.getElem_cons_succ, List.setIfInBounds_toArray, List.set_cons_zero, List.set_cons_succ])
    refine held_step (fun _ => trivial) (i := 2) (o := _) (by kernel_rfl) rfl (fun K hK => ?_)
    go_simp
    refine hK.out _ _ ⟨by simp [go_sem, *], by simp [go_sem, *], by simp [go_sem, *]⟩ (fun hHeld => ?_)
    clear hK K
    (try simp only [Act.put, List.getElem_toArray, List.getElem_cons_zero, List.getElem_cons_succ, List.setIfInBounds_toArray, List.set_cons_zero, List.set_cons_succ])
    refine held_take (fun _ => trivial) (by kernel_rfl) (i := 3) (oi := _) (v := ?_) rfl (by kernel_rfl) (by kernel_rfl) (by kernel_rfl) (fun _ _ _ h => h) (by assumption) (Or.inl ⟨by kernel_rfl, ?_⟩) ?_
    rotate_left
    · intro wz hSw; (first | (go_simp; done) | (go_simp; with_reducible rfl))
    (try simp only [Act.put, List.getElem_toArray, List.getElem_cons_zero, List.getElem_cons_succ, List.setIfInBounds_toArray, List.set_cons_zero, List.set_cons_succ])
    refine held_done (by kernel_rfl) ?_ _
    refine NoPanic.normal ?_
    clear hHeld
    go_wp2_with fail
    rw [Exit.noGoto_ret]
    have hdf : (((W.setCell ⟨w.heap.size, 0, none⟩ (.int .i64 0)).setCell ⟨w.heap.size, 1, none⟩ (.int .u64 0)).drew).heap[D]? = some (.deferred (some [])) := (((KeepsOthers.setCell W ⟨w.heap.size, 0, none⟩ (.int .i64 0)).trans (KeepsOthers.setCell _ ⟨w.heap.size, 1, none⟩ (.int .u64 0))).same D _ hdef rfl)
    refine ⟨by simp, .inl ⟨_, _, rfl, run_takeDeferred hdf, ?_⟩⟩
    have hbl : Below w.heap.size w ((((W.setCell ⟨w.heap.size, 0, none⟩ (.int .i64 0)).setCell ⟨w.heap.size, 1, none⟩ (.int .u64 0)).drew).putObj D (.deferred none)) :=
      (Below.drew ((SMH.out.below.setCell (p := ⟨w.heap.size, 0, none⟩) (Nat.le_refl _) _).setCell (p := ⟨w.heap.size, 1, none⟩) (Nat.le_refl _) _)).trans (belowK_b (w := w) (Nat.le_refl _) _ D _ _ (by omega) hdf rfl rfl)
    have hrow : ((((W.setCell ⟨w.heap.size, 0, none⟩ (.int .i64 0)).setCell ⟨w.heap.size, 1, none⟩ (.int .u64 0)).drew).putObj D (.deferred none)).heap[w.heap.size]? = some (.cells #[.int .i64 0, .int .u64 0] 85 (0, 0)) := by
      rw [World.putObj_heap_other (by omega)]
      exact heap_setCell_same _ _ 1 _ _ _ (heap_setCell_same _ _ 0 _ _ _ HRR.out)
    refine ⟨.tuple #[.agg #[.int .i64 0, .int .u64 0], .int .i64 20], ?_, ?_⟩
    · have k0 := (cell_of_row _ _ 0 _ _ _ hrow)
      have k1 := (cell_of_row _ _ 1 _ _ _ hrow)
      generalize ((((W.setCell ⟨w.heap.size, 0, none⟩ (.int .i64 0)).setCell ⟨w.heap.size, 1, none⟩ (.int .u64 0)).drew).putObj D (.deferred none)) = Y at k0 k1 ⊢
      clear hrow hbl hdf hdef r0 r1 r2 r3 c0 c1 c2 f0 f1 f2
      have k0' : Y.cell? ⟨w.heap.size, 0, none⟩ = some (.int .i64 0) := k0
      have k1' : Y.cell? ⟨w.heap.size, 1, none⟩ = some (.int .u64 0) := k1
      clear k0 k1
      simp [results, Try.results65, go_sem, *]
    · exact ⟨0, 0, by rw [HSF.out]; rfl, by rw [HSF.out]; unfold smV At; simp, hbl⟩
end Go.Proofs.Ytgkglkoipocgaaa.Fx
