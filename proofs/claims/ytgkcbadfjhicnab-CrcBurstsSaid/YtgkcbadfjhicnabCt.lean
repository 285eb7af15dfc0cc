/- Both, walked. -/
import Derived.Test.YtgkcbadfjhicnabProg
import Derived.Test.YtgkcbadfjhicnabIt
import Derived.Test.YtgkcbadfjhicnabHd
import Derived.Test.YtgkcbadfjhicnabCb
import Derived.Shelf.Abstract
import Derived.Shelf.RegionOpen
import Derived.WalkKit
import Derived.OwnWalkIn
import Derived.TacticsInMore
import Derived.LoopNIn
import Derived.LoopIn
import Derived.Lib.Hide
import Derived.Outline
import Derived.WalkMore
import Derived.Deep.QuietTactic
import Derived.BigQuiet
import Derived.Deep.WholeRow
import Derived.Laws.ResultCell
set_option linter.unusedVariables false
set_option linter.unusedSimpArgs false
namespace Go.Proofs.Ytgkcbadfjhicnab.Fx
open Go Go.RowKit Go.Shelf
attribute [local go_sem] Oper.semAt_some
section laws
variable {F : Fence} {n : Nat} {P : Program} {ops : Array Oper} {rest : List Oper} {o : Oper} {a : Act} {w : World} {Q : Exit → Act → World → Prop}
theorem wpListIn_load_row (hF : ∀ f, F.fn f) (hgd : o.guard = none) (ty : TypeId) (x : Operand) (ho : o.op = .load ty x)
    (g : Nat) (hx : a.eval x = .pointer (some ⟨g, 0, none⟩)) (t : TypeId) (cs : Array Value) (fr : Nat × Nat) (d : TypeDesc) (hg : w.heap[g]? = some (.cells cs t fr))
    (hu : P.underlying ty = some d) (hd : (match d with | .struct _ | .array _ _ => true | _ => false) = true) (hi : (P.info? ty).map (·.size) = some cs.size)
    (h : wpListIn F n P ops Q rest (a.put o.dst (.agg cs)) w) : wpListIn F n P ops Q (o :: rest) a w := by
  refine wpListIn_plain hgd fun K hK => ?_
  unfold Oper.wpIn
  rw [Oper.semAt_plain F _ _ (by intro c e; rw [ho] at e; cases e)]
  unfold execOp
  simp only [ho, hx, Instr.loadAt, Instr.sureAddr, Sem.run_bind, Sem.run_pure, Result.andThen_ok, run_loadVar_row w g t ty cs fr d hg hu hd hi, Oper.uponIn]
  exact ⟨fun f _ => hF f, hK _ _ h⟩
theorem wpListIn_store_row (hF : ∀ f, F.fn f) (hgd : o.guard = none) (ty : TypeId) (x y : Operand) (ho : o.op = .store ty x y)
    (g : Nat) (t : TypeId) (c c' : Array Value) (hx : a.eval x = .pointer (some ⟨g, 0, none⟩)) (hy : a.eval y = .agg c') (hg : w.heap[g]? = some (.cells c t (0, 0)))
    (hi : (P.info? ty).map (·.size) = some c'.size) (hs : c.size = c'.size) (h1 : c'.all (·.oneCell') = true)
    (h : wpListIn F n P ops Q rest (a.put o.dst undef) (w.setRow g c')) : wpListIn F n P ops Q (o :: rest) a w := by
  refine wpListIn_plain hgd fun K hK => ?_
  unfold Oper.wpIn
  rw [Oper.semAt_plain F _ _ (by intro c e; rw [ho] at e; cases e)]
  unfold execOp
  simp only [ho, hx, hy, Instr.storeAt, Instr.sureAddr, Sem.run_bind, Sem.run_pure, Result.andThen_ok, run_storeVar_row w g t ty c c' hg hi hs h1, Oper.uponIn]
  exact ⟨fun f _ => hF f, hK _ _ h⟩
end laws
theorem wpList_store_new {P : Program} {ops : Array Oper} {rest : List Oper} {op : Oper} {a : Act} {w : World} {Q : Exit → Act → World → Prop} (hgd : op.guard = none) (ty : TypeId) (x y : Operand) (ho : op.op = .store ty x y)
    (g : Nat) (t : TypeId) (c c' : Array Value) (hx : a.eval x = .pointer (some ⟨g, 0, none⟩)) (hg : w.heap.size = g) (hy : a.eval y = .agg c')
    (hi : (P.info? ty).map (·.size) = some c'.size) (hs : c.size = c'.size) (h1 : c'.all (·.oneCell') = true)
    (h : wpList P ops Q rest (a.put op.dst undef) (w.alloc (.cells c' t))) : wpList P ops Q (op :: rest) a (w.alloc (.cells c t)) := by
  subst hg
  refine wpList_store_big hgd ty x y ho w.heap.size t c c' hx hy (heap_alloc_new _ _) hi hs h1 ?_
  rw [World.setRow_alloc_new]
  exact h
theorem setRow_get {w : World} {g : Nat} {c c' : Array Value} {t : TypeId} (hg : w.heap[g]? = some (.cells c t (0, 0))) : (w.setRow g c').heap[g]? = some (.cells c' t (0, 0)) := setRow_heap _ _ _ _ _ _ hg
theorem keepsO_row (w : World) (g : Nat) (c : Array Value) : KeepsOthers w (w.setRow g c) := by
  refine ⟨by simp, fun k o hk ho => ?_⟩
  by_cases e : k = g
  · subst e
    simp only [World.setRow, Array.getElem?_modify, if_pos, hk, Option.map_some]
    cases o <;> first | rfl | cases ho
  · rw [setRow_other w g k c e]; exact hk
/-- the boxes: the sum, what becomes of each bit, the count -/
structure BM (A B D s n x : Nat) (w W : World) : Prop where
  f : W.heap[A]? = some (.cells #[.int .u32 ((x : Nat) : Int)] 23 (0, 0))
  o : W.heap[B]? = some (.cells (bV s) 43 (0, 0))
  d : W.heap[D]? = some (.cells #[.int .u64 ((n : Nat) : Int)] 48 (0, 0))
  ab : A ≠ B
  ad : A ≠ D
  bd : B ≠ D
  lo : w.heap.size ≤ A ∧ w.heap.size ≤ B
  below : Below w.heap.size w W
theorem BM.kept {A B D s n x K : Nat} {w W X : World} (hB : w.heap.size ≤ K) (h : Kept K W X) (m : BM A B D s n x w W) : BM A B D s n x w X := ⟨h.cells m.f, h.cells m.o, h.cells m.d, m.ab, m.ad, m.bd, m.lo, h.below hB m.below⟩
theorem BM.next {A B D s n x : Nat} {w W X : World} (h : Below W.heap.size W X) (m : BM A B D s n x w W) : BM A B D s n x w X := ⟨keep_row h m.f, keep_row h m.o, keep_row h m.d, m.ab, m.ad, m.bd, m.lo, bnext m.below h⟩
theorem BM.reads {A B D s n x : Nat} {w W : World} (m : BM A B D s n x w W) : DigM n D W := by unfold DigM; rw [cell_of_row _ _ _ _ _ _ m.d]; rfl
theorem BM.facts {A B D s n x : Nat} {w W : World} (m : BM A B D s n x w W) : W.cell? ⟨A, 0, none⟩ = some (.int .u32 ((x : Nat) : Int)) ∧ W.frozen? ⟨A, 0, none⟩ = false :=
  ⟨by rw [cell_of_row _ _ _ _ _ _ m.f]; rfl, frozen_row m.f⟩
theorem BM.set {A B D s n x y : Nat} {w W : World} (m : BM A B D s n x w W) : BM A B D s n y w (W.setCell ⟨A, 0, none⟩ (.int .u32 ((y : Nat) : Int))) :=
  ⟨heap_setCell_same _ _ 0 _ _ _ m.f, by rw [heap_setCell_other _ _ _ _ (Ne.symm m.ab)]; exact m.o, by rw [heap_setCell_other _ _ _ _ (Ne.symm m.ad)]; exact m.d, m.ab, m.ad, m.bd, m.lo, m.below.setCell (p := ⟨A, 0, none⟩) m.lo.1 _⟩
theorem BM.put {A B D s s2 n x : Nat} {w W : World} (m : BM A B D s n x w W) : BM A B D s2 n x w (W.setRow B (bV s2)) :=
  ⟨by rw [setRow_other _ _ _ _ m.ab]; exact m.f, setRow_get m.o, by rw [setRow_other _ _ _ _ (Ne.symm m.bd)]; exact m.d, m.ab, m.ad, m.bd, m.lo, Below.row m.below m.lo.2 _⟩
def BI (A B D a n : Nat) (w : World) (j : Nat) (W : World) : Prop := BM A B D (8 * 2 ^ j) n (it (8 * (n % 2 ^ j)) a) w W
def BA (A B D a b n : Nat) (w : World) (j : Nat) (act : Act) : Prop :=
  act = { tmps := #[.int .u32 (a : Int), .int .u32 (b : Int), .int .i64 (n : Int), .pointer (some ⟨A, 0, none⟩), undef, undef, .int .u32 0, .pointer (some ⟨B, 0, none⟩), undef, .bool (decide (n / 2 ^ j % 2 = 1)), .int .i64 (n : Int), .bool false, .agg (bV 8), .int .i64 (n : Int), .int .u64 (n : Int),
    .func (.func 28) #[] #[.pointer (some ⟨D, 0, none⟩)], .int .i64 (j : Int), .bool (decide (n / 2 ^ j % 2 = 1)), undef, undef, undef, undef, undef, undef, undef, undef, undef], defers := [] }
set_option maxRecDepth 100000 in
set_option maxHeartbeats 2000000 in
theorem both_any (a b : Nat) (n : Int) (w : World) (ha : a < 4294967296) (hb : b < 4294967296) (hn : n ≤ 9223372036854775807) (hn0 : -9223372036854775808 ≤ n) :
    Calls Try.prog 12 #[.int .u32 (a : Int), .int .u32 (b : Int), .int .i64 n] w (RetU (if n < 0 then 0 else both a b n.toNat) w) := by
  by_cases h0 : n < 0
  · rw [if_pos h0]
    go_enter Try.func12, Try.ntmps12
    go_wp2_with fail
    go_ret
    exact ⟨rfl, by go_grown⟩
  · rw [if_neg h0]
    obtain ⟨N, rfl⟩ := Int.eq_ofNat_of_zero_le (show 0 ≤ n by omega)
    rw [Int.toNat_natCast]
    have HM : Hid (both a b N = it (8 * N) a ^^^ b) := Lib.hid rfl
    generalize both a b N = m at *
    refine (callsIn_wide (n := 5)).1 ?_
    refine callsIn_of_wp_marks Try.func12 rfl trivial ?_ rfl
    simp only [Try.ntmps12, List.size_toArray, List.length_cons, List.length_nil, Nat.reduceAdd, Nat.reduceSub, Array.replicate_succ, Array.replicate_zero, List.push_toArray, List.append_toArray, List.nil_append, List.cons_append]
    refine wpIn_wide.2 ?_
    go_wp2_with fail
    refine (over_any _).mono ?_
    rintro e w1 ⟨rfl, hb1⟩
    have HI8 : Hid ((Try.prog.info? 43).map (·.size) = some (bV 8).size) := Lib.hid (by rw [bV, aV_size]; exact size32)
    have HS8 : Hid ((#[.int .u32 0, .int .u32 0, .int .u32 0, .int .u32 0, .int .u32 0, .int .u32 0, .int .u32 0, .int .u32 0, .int .u32 0, .int .u32 0, .int .u32 0, .int .u32 0, .int .u32 0, .int .u32 0, .int .u32 0, .int .u32 0,
    .int .u32 0, .int .u32 0, .int .u32 0, .int .u32 0, .int .u32 0, .int .u32 0, .int .u32 0, .int .u32 0, .int .u32 0, .int .u32 0, .int .u32 0, .int .u32 0, .int .u32 0, .int .u32 0, .int .u32 0, .int .u32 0] : Array Value).size = (bV 8).size) := Lib.hid (by rw [bV, aV_size]; rfl)
    go_wp2_with (refine wpList_store_new rfl 43 (.tmp 7) (.tmp 12) rfl w1.heap.size _ _ (bV 8) rfl rfl rfl HI8.out HS8.out (aV_one _) ?_)
    clear HI8 HS8
    refine (digits_w _ _).mono ?_
    rintro e w' ⟨rfl, rfl⟩
    go_wp2_with fail
    have LB : BI w.heap.size w1.heap.size (w1.heap.size + 1) a N w 0 ((w1.alloc (.cells (bV 8) 43)).alloc (.cells #[.int .u64 (N : Int)] 48)) := by
      have h1 := hb1.size
      rw [World.size_alloc] at h1
      have hx := heap_alloc_new (w1.alloc (.cells (bV 8) 43)) (.cells #[.int .u64 (N : Int)] 48)
      rw [World.size_alloc] at hx
      refine ⟨?_, step_row (heap_alloc_new w1 _), hx, by omega, by omega, by omega, by omega, ?_⟩
      · rw [Nat.pow_zero, Nat.mod_one, Nat.mul_zero]
        exact step_row (step_row (keep_row hb1 (heap_alloc_new w _)))
      · have hb2 : Below w.heap.size w w1 := ((Below.refl _ w).alloc (Nat.le_refl _) (.cells #[.int .u32 (a : Int)] 23)).trans (hb1.mono (by rw [World.size_alloc]; omega))
        exact (hb2.alloc (by omega) _).alloc (by rw [World.size_alloc]; omega) _
    have hA1 : w.heap.size < w1.heap.size := by
      have h1 := hb1.size
      rw [World.size_alloc] at h1
      omega
    clear hb1
    have hS0 : ((w1.alloc (.cells (bV 8) 43)).alloc (.cells #[.int .u64 (N : Int)] 48)).heap.size = w1.heap.size + 2 := by simp
    generalize ((w1.alloc (.cells (bV 8) 43)).alloc (.cells #[.int .u64 (N : Int)] 48)) = W0 at LB hS0 ⊢
    refine wpIn_wide.1 (wpIn_range_num (F := Fence.wide) (n := 5) rfl (by omega) (gf := 28) (lb := #[.pointer (some ⟨w1.heap.size + 1, 0, none⟩)]) rfl trivial (enters_of Try.func28 (by kernel_rfl) rfl)
      (digits_hands N (w1.heap.size + 1) (by omega)) (fun _ => rfl) 0 (BI w.heap.size w1.heap.size (w1.heap.size + 1) a N w) (fun _ => False) (fun j a' W => BA w.heap.size w1.heap.size (w1.heap.size + 1) a b N w j a' ∧ BI w.heap.size w1.heap.size (w1.heap.size + 1) a N w j W)
      ?i1 ?i2 ?i3 ?i4 ?i5 LB ?assign ?body ?done ?stop)
    case i1 => rintro j W X h hk; exact BM.kept (by omega) hk h
    case i2 => rintro W X h; exact h.elim
    case i3 => rintro j a W X ⟨h0, h4⟩ hk; exact ⟨h0, BM.kept (by omega) hk h4⟩
    case i4 => rintro j W h4; exact BM.reads h4
    case i5 => rintro W h; exact h.elim
    case assign =>
      intro l j W C hk hI hC
      simp only [digElem]
      gi_wp2
      exact hC _ _ (KeepsFrom.refl _ _) ⟨rfl, hI⟩
    case body =>
      rintro l j a' W hk ⟨hact, om⟩
      unfold BA at hact
      subst hact
      unfold BI at om
      clear LB h0
      have HI : Hid ((Try.prog.info? 43).map (·.size) = some (bV (8 * 2 ^ j)).size) := Lib.hid (by rw [bV, aV_size]; exact size32)
      have HI2 : Hid ((Try.prog.info? 43).map (·.size) = some (bV (2 * (8 * 2 ^ j))).size) := Lib.hid (by rw [bV, aV_size]; exact size32)
      have HS2 : Hid ((bV (8 * 2 ^ j)).size = (bV (2 * (8 * 2 ^ j))).size) := Lib.hid (by rw [bV, bV, aV_size, aV_size])
      have hx : it (8 * (N % 2 ^ j)) a < 4294967296 := it_lt _ ha
      have HE2 : Hid (2 * (8 * 2 ^ j) = 8 * 2 ^ (j + 1)) := Lib.hid (by rw [Nat.pow_succ]; omega)
      by_cases hbit : N / 2 ^ j % 2 = 1
      · have HX : Hid (it (8 * 2 ^ j) (it (8 * (N % 2 ^ j)) a) = it (8 * (N % 2 ^ (j + 1))) a) := Lib.hid (by rw [← it_add, mod_bit_add, if_pos hbit, Nat.mul_add])
        rw [show decide (N / 2 ^ j % 2 = 1) = true from by simp [hbit]]
        obtain ⟨fc, ff⟩ := BM.facts om
        have HO := Lib.hid (BM.o om)
        have OM := Lib.hid om
        clear om hbit
        generalize it (8 * (N % 2 ^ j)) a = x at *
        generalize 8 * 2 ^ j = s at *
        gi_wp2_with (refine wpListIn_load_row (fun _ => trivial) rfl 43 (.tmp 7) rfl w1.heap.size rfl _ _ _ _ HO.out Try.underlying43 rfl HI.out ?_)
        refine ⟨trivial, CallsIn.inRound l (callsIn_wide.2 ((of_any s x W hx).mono ?_))⟩
        rintro e w2 ⟨rfl, hb2⟩
        dsimp only
        have om2 := BM.next hb2 OM.out
        obtain ⟨fc2, ff2⟩ := BM.facts om2
        have OM3 := Lib.hid (BM.set (y := it s x) om2)
        have HO3 : Hid ((w2.setCell ⟨w.heap.size, 0, none⟩ (.int .u32 ((it s x : Nat) : Int))).heap[w1.heap.size]? = some (.cells (bV s) 43 (0, 0))) := Lib.hid (BM.o OM3.out)
        clear om2
        gi_wp2_with (refine wpListIn_load_row (fun _ => trivial) rfl 43 (.tmp 7) rfl w1.heap.size rfl _ _ _ _ HO3.out Try.underlying43 rfl HI.out ?_)
        refine ⟨trivial, CallsIn.inRound l (callsIn_wide.2 ((twice_any s _).mono ?_))⟩
        rintro e w3 ⟨rfl, hb3⟩
        dsimp only
        have om3 := BM.next hb3 OM3.out
        have HO4 := Lib.hid (BM.o om3)
        have OM4 := Lib.hid (BM.put (s2 := 2 * s) om3)
        clear om3 OM3 HO3
        have HKF : Hid (KeepsFrom W0.heap.size W (w3.setRow w1.heap.size (bV (2 * s)))) := Lib.hid (((((keeps_below hb2).trans (KeepsOthers.setCell _ _ _)).trans (keeps_below hb3)).trans (keepsO_row _ _ _)).from _)
        clear hb2 hb3
        gi_wp2_with (refine wpListIn_store_row (fun _ => trivial) rfl 43 (.tmp 7) (.tmp 23) rfl w1.heap.size _ _ (bV (2 * s)) rfl rfl HO4.out HI2.out HS2.out (aV_one _) ?_)
        refine ⟨HKF.out, ?_⟩
        unfold BI
        rw [← HE2.out, ← HX.out]
        exact OM4.out
      · have HX : Hid (it (8 * (N % 2 ^ j)) a = it (8 * (N % 2 ^ (j + 1))) a) := Lib.hid (by rw [mod_bit_add, if_neg hbit, Nat.add_zero])
        rw [show decide (N / 2 ^ j % 2 = 1) = false from by simp [hbit]]
        have HO := Lib.hid (BM.o om)
        have OM := Lib.hid om
        clear om hbit
        generalize it (8 * (N % 2 ^ j)) a = x at *
        generalize 8 * 2 ^ j = s at *
        gi_wp2_with (refine wpListIn_load_row (fun _ => trivial) rfl 43 (.tmp 7) rfl w1.heap.size rfl _ _ _ _ HO.out Try.underlying43 rfl HI.out ?_)
        refine ⟨trivial, CallsIn.inRound l (callsIn_wide.2 ((twice_any s _).mono ?_))⟩
        rintro e w3 ⟨rfl, hb3⟩
        dsimp only
        have om3 := BM.next hb3 OM.out
        have HO4 := Lib.hid (BM.o om3)
        have OM4 := Lib.hid (BM.put (s2 := 2 * s) om3)
        clear om3 OM HO
        have HKF : Hid (KeepsFrom W0.heap.size W (w3.setRow w1.heap.size (bV (2 * s)))) := Lib.hid (((keeps_below hb3).trans (keepsO_row _ _ _)).from _)
        clear hb3
        gi_wp2_with (refine wpListIn_store_row (fun _ => trivial) rfl 43 (.tmp 7) (.tmp 23) rfl w1.heap.size _ _ (bV (2 * s)) rfl rfl HO4.out HI2.out HS2.out (aV_one _) ?_)
        refine ⟨HKF.out, ?_⟩
        unfold BI
        rw [← HE2.out, ← HX.out]
        exact OM4.out
    case done =>
      rintro D W hD om hdef
      have hfin : N % 2 ^ dgs N = N := Nat.mod_eq_of_lt (lt_dgs N)
      unfold BI at om
      rw [hfin] at om
      obtain ⟨fs, _⟩ := BM.facts om
      have hB := BM.below om
      have hx : it (8 * N) a < 4294967296 := it_lt _ ha
      clear om hfin LB
      generalize it (8 * N) a = x at *
      have hxor := u32_xor_nat x b hx hb
      go_wp2_with fail
      refine ⟨by simp, .inl ⟨_, _, rfl, run_takeDeferred hdef, ?_⟩⟩
      exact ⟨_, results_tmp rfl _ _ _, by rw [HM.out]; rfl, hB.trans (belowK_b (w := w) (Nat.le_refl _) _ D _ _ (by omega) hdef rfl rfl)⟩
    case stop =>
      rintro D W hD h hdef
      exact h.elim
end Go.Proofs.Ytgkcbadfjhicnab.Fx
