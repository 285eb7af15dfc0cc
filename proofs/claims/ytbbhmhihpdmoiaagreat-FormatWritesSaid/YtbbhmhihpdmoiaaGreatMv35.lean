import Derived.Laws.Rows
import Derived.Test.YtbbhmhihpdmoiaaGreatProg
import Derived.WalkKit
import Derived.Lib.Hide
import Derived.Outline
import Derived.Deep.LoopGhost
import Derived.Deep.QuietTactic
import Derived.BigQuiet
import Derived.Deep.WholeRow
import Derived.Laws.ResultCell
import Derived.Laws.Cover3
import Derived.Laws.OwnMore
import Derived.Shelf.Abstract
import Derived.Shelf.RegionOpen
import Derived.OwnWalkIn
import Derived.TacticsInMore
import Derived.Laws.StructEq
import Derived.Laws.BytesString
import Derived.Lib.SlBytesConst
import Derived.Laws.AppendOwnNone
import Derived.Laws.Concat
import Derived.Test.YtbbhmhihpdmoiaaGreatMv02
import Derived.Test.YtbbhmhihpdmoiaaGreatMv34
set_option linter.unusedVariables false
set_option linter.unusedSimpArgs false
namespace Go.Proofs.YtbbhmhihpdmoiaaGreat.Cx
open Go Go.RowKit
def encB (x : Nat) : Value := .int .u8 (x : Int)
def Own (W : World) (B : Nat) (v : Value) (l : List Nat) : Prop := W.ownsRow B 5 1 v l.length (l.map encB)
theorem Own.below {w W : World} {B : Nat} {v : Value} {l : List Nat} (h : Below w.heap.size w W) (s : Own w B v l) : Own W B v l := by
 obtain ⟨h1, h2⟩ := s
 refine ⟨h1, ?_⟩
 rcases h2 with h2 | ⟨g, cap, cur, e, hb, hg, h3⟩
 ·exact Or.inl h2
 ·exact Or.inr ⟨g, cap, cur, e, hb, keep_row h hg, h3⟩
theorem Own.mono {W : World} {B C : Nat} {v : Value} {l : List Nat} (hB : B ≤ C) (s : Own W C v l) : Own W B v l := by
 obtain ⟨h1, h2⟩ := s
 refine ⟨h1, ?_⟩
 rcases h2 with h2 | ⟨g, cap, cur, e, hb, h3⟩
 ·exact Or.inl h2
 ·exact Or.inr ⟨g, cap, cur, e, Nat.le_trans hB hb, h3⟩
theorem Own.open {W : World} {B : Nat} {v : Value} {l : List Nat} (s : Own W B v l) : ∃ o cap, v = .slice o l.length cap ∧ Bs W o l ∧ l.length ≤ cap ∧ cap ≤ 9223372036854775807 ∧ (o = none → cap = 0) ∧ (∀ a, o = some a → ∃ g, a = ⟨g, 0, none⟩ ∧ B ≤ g ∧ g < W.heap.size ∧ ∀ j, W.frozen? ⟨g, j, none⟩ = false) := by
 obtain ⟨h1, h2⟩ := s
 rcases h2 with ⟨rfl, h0⟩ | ⟨g, cap, cur, rfl, hb, hg, hc, hm, hs, ht⟩
 ·have : l = [] := List.length_eq_zero_iff.1 h0
  subst this
  exact ⟨none, 0, rfl, Bs.none, by simp, by omega, fun _ => rfl, fun a h => by cases h⟩
 ·refine ⟨some ⟨g, 0, none⟩, cap, rfl, fun j hj => ⟨g, 0, rfl, ?_⟩, hc, by unfold maxLen at hm; omega, (fun h => by cases h), fun a h => ⟨g, (Option.some.inj h).symm, hb, (Array.getElem?_eq_some_iff.1 hg).1, fun j => frozen_row hg⟩⟩
  rw [Nat.zero_add, cell_of_row _ _ _ _ _ _ hg]
  have h3 : (cur.toList.take (l.length * 1))[j]? = some (encB (l.getD j 0)) := by rw [ht]; simp [hj, List.getD]
  rw [List.getElem?_take, if_pos (by omega)] at h3
  simpa [encB] using h3
theorem news_of {W : World} {b off : Nat} {l : List Nat} (h : Bs W (some ⟨b, off, none⟩) l) : ∀ j u, (l.map encB)[j]? = some u → W.cell? ((⟨b, off, none⟩ : Addr).add j) = some u := by
 intro j u hu
 have hj : j < l.length := by
  have := (List.getElem?_eq_some_iff.1 hu).1
  simpa using this
 obtain ⟨b', off', e, hc⟩ := h j hj
 cases e
 rw [Addr.add_lit, hc, ← hu]
 simp [hj, encB, List.getD]
theorem news_one (l : List Nat) : ∀ u ∈ l.map encB, u.oneCell' = true := by
 intro u hu
 obtain ⟨x, _, rfl⟩ := List.mem_map.1 hu
 rfl
theorem info5 : (Tryz.prog.info? 5).map (fun i => (i.zero, i.size, i.bytes)) = some (some (.int .u8 0), 1, 1) := by kernel_rfl
theorem run_eql_nil (w : World) (t e : TypeId) (a : Option Addr) (l c : Nat) (h : Tryz.prog.underlying t = some (.slice e)) : (binOp .eql t (.slice a l c) (.slice none 0 0)).run Tryz.prog w = .ok (.bool a.isNone) w := by
 show ((do pure (.bool (← Op.equal t (.slice a l c) (.slice none 0 0)))) : Sem Value).run Tryz.prog w = _
 simp [run_equal_slice_nil w t e a l c h]
set_option maxHeartbeats 1600000 in
theorem clone_any (l : List Nat) (b off cap : Nat) (w : World) (hlen : l.length ≤ 140737488355328) (hb : Bs w (some ⟨b, off, none⟩) l) :
  Calls Tryz.prog 96 #[.slice (some ⟨b, off, none⟩) l.length cap] w fun e w' => (∃ v, e = .returned v ∧ Own w' w.heap.size v l) ∧ Below w.heap.size w w' := by
 obtain ⟨i0, hi, hz0, hz1, hz2⟩ := info_parts info5
 have hE : (w.alloc (.cells #[] 5)).ownsRow w.heap.size 5 1 (.slice (some ⟨w.heap.size, 0, none⟩) 0 0) 0 [] := World.ownsRow_lit w #[] 0 (Nat.le_refl _) (by unfold maxLen; omega) rfl
 have HN := Lib.hid (news_of (hb.below (W := w.alloc (.cells #[] 5)) (by go_grown)))
 have HBel : Hid (Below w.heap.size w (w.alloc (.cells #[] 5))) := Lib.hid (by go_grown)
 clear hb
 have hq := fun W => run_eql_nil W 31 5 (some ⟨b, off, none⟩) l.length cap Tryz.underlying31
 go_enter Tryz.func96, Tryz.ntmps96
 go_wp2_with (at_builtin; refine wpList_append_own _ rfl _ _ 31 rfl w.heap.size 5 i0 (.int .u8 0) 1 1 Tryz.underlying31 hi hz0 hz1 hz2 rfl (by decide) _ _ _ rfl hE ⟨b, off, none⟩ l.length cap (l.map encB) rfl (by simp) HN.out (news_one l) (by unfold maxLen; omega) (by omega) (by simp) ?_; intro v' w1 hown hgrow _)
 have HO : Hid (Own w1 w.heap.size v' l) := Lib.hid (by
  unfold Own
  rw [Nat.zero_add, List.nil_append] at hown
  exact hown)
 have HB : Hid (Below w.heap.size w w1) := Lib.hid (HBel.out.grown hgrow (by simp) (by intro k hk; cases hk; exact Nat.le_refl _))
 clear hown hgrow
 go_ret
 exact ⟨⟨v', rfl, HO.out⟩, HB.out⟩
def le4 (s : Nat) : List Nat := [s % 256, s / 256 % 256, s / 65536 % 256, s / 16777216 % 256]
theorem le4_by (s : Nat) : By (le4 s) := by
 intro c hc
 simp only [le4, List.mem_cons, List.not_mem_nil, or_false] at hc
 rcases hc with rfl | rfl | rfl | rfl <;> exact Nat.mod_lt _ (by omega)
def fil (s k : Nat) : List Nat := (List.range 4).map fun i => if i < k then (le4 s).getD i 0 else 0
theorem fil_len (s k : Nat) : (fil s k).length = 4 := by simp [fil]
theorem size4 : (Tryz.prog.info? 112).map (·.size) = some 4 := by kernel_rfl
theorem bR_one (l : List Nat) : (bR l).all (·.oneCell') = true := by
 simp only [bR, List.all_toArray, List.all_map, List.all_eq_true]
 intro i _
 rfl
theorem fil_put (s k : Nat) (hk : k < 4) : (bR (fil s k)).setIfInBounds k (.int .u8 (((le4 s).getD k 0 : Nat) : Int)) = bR (fil s (k + 1)) := by
 obtain rfl | rfl | rfl | rfl : k = 0 ∨ k = 1 ∨ k = 2 ∨ k = 3 := by omega
 all_goals rfl
structure FB (s r b k : Nat) (w W : World) : Prop where
 z : W.heap[r]? = some (.cells (bR (fil s 0)) 112 (0, 0))
 a : W.heap[b]? = some (.cells (bR (fil s k)) 112 (0, 0))
 ne : r ≠ b
 lo : w.heap.size ≤ r ∧ w.heap.size ≤ b
 below : Below w.heap.size w W
theorem FB.facts {s r b k : Nat} {w W : World} (h : FB s r b k w W) (hk : k < 4) : (∃ v, W.cell? ⟨b, k, none⟩ = some v) ∧ W.frozen? ⟨b, k, none⟩ = false :=
 ⟨⟨_, by rw [cell_of_row _ _ _ _ _ _ h.a, bR_get _ (by rw [fil_len]; exact hk)]⟩, frozen_row h.a⟩
theorem FB.set {s r b k : Nat} {w W : World} (h : FB s r b k w W) (hk : k < 4) : FB s r b (k + 1) w (W.setCell ⟨b, k, none⟩ (.int .u8 (((le4 s).getD k 0 : Nat) : Int))) := by
 refine ⟨?_, ?_, h.ne, h.lo, h.below.setCell (p := ⟨b, k, none⟩) h.lo.2 _⟩
 ·rw [heap_setCell_other _ _ _ _ h.ne]; exact h.z
 ·rw [heap_setCell_same _ _ _ _ _ _ h.a, fil_put _ _ hk]
set_option maxRecDepth 100000 in
set_option maxHeartbeats 2000000 in
theorem inbytes_any (s : Nat) (w : World) (hs : s < 4294967296) :
  Calls Tryz.prog 59 #[.int .u32 (s : Int)] w fun e w' => e = .returned (.agg (bR (le4 s))) ∧ Below w.heap.size w w' := by
 have S0 : FB s w.heap.size (w.heap.size + 1) 0 w ((w.alloc (.cells #[.int .u8 0, .int .u8 0, .int .u8 0, .int .u8 0] 112)).alloc (.cells #[.int .u8 0, .int .u8 0, .int .u8 0, .int .u8 0] 112)) := by
  refine ⟨step_row (heap_alloc_new w _), ?_, by omega, by omega, by go_grown⟩
  have := heap_alloc_new (w.alloc (.cells #[.int .u8 0, .int .u8 0, .int .u8 0, .int .u8 0] 112)) (.cells #[.int .u8 0, .int .u8 0, .int .u8 0, .int .u8 0] 112)
  rw [World.size_alloc] at this
  exact this
 have HS0 := Lib.hid S0
 clear S0
 go_enter Tryz.func59, Tryz.ntmps59
 go_wp2_with fail
 generalize ((w.alloc (.cells #[.int .u8 0, .int .u8 0, .int .u8 0, .int .u8 0] 112)).alloc (.cells #[.int .u8 0, .int .u8 0, .int .u8 0, .int .u8 0] 112)) = W0 at HS0 ⊢
 go_loopg [5] 4 (fun g s5 wx => ∃ k : Nat, g = 4 - k ∧ k ≤ 4 ∧ s5 = .int .i64 (k : Int) ∧ FB s w.heap.size (w.heap.size + 1) k w wx)
 case atStart => exact ⟨0, rfl, by omega, rfl, HS0.out⟩
 case round =>
  clear HS0
  obtain ⟨k, rfl, hk, rfl, pb⟩ := hrel
  obtain rfl | rfl | rfl | rfl | rfl : k = 0 ∨ k = 1 ∨ k = 2 ∨ k = 3 ∨ k = 4 := by omega
  ·obtain ⟨⟨v, fc⟩, ff⟩ := pb.facts (by omega)
   have ps := pb.set (by omega)
   rw [show (((le4 s).getD 0 0 : Nat) : Int) = (s : Int) % 256 by simp [le4]] at ps
   have PS := Lib.hid ps
   clear pb ps
   go_wp2_with fail
   go_roundg 3
   case measure => omega
   case rel => exact ⟨1, rfl, by omega, by go_num, PS.out⟩
  ·obtain ⟨⟨v, fc⟩, ff⟩ := pb.facts (by omega)
   have ps := pb.set (by omega)
   rw [show (((le4 s).getD 1 0 : Nat) : Int) = (s : Int) / 256 % 256 by simp [le4]] at ps
   have PS := Lib.hid ps
   clear pb ps
   go_wp2_with fail
   go_roundg 2
   case measure => omega
   case rel => exact ⟨2, rfl, by omega, by go_num, PS.out⟩
  ·obtain ⟨⟨v, fc⟩, ff⟩ := pb.facts (by omega)
   have ps := pb.set (by omega)
   rw [show (((le4 s).getD 2 0 : Nat) : Int) = (s : Int) / 65536 % 256 by simp [le4]] at ps
   have PS := Lib.hid ps
   clear pb ps
   go_wp2_with fail
   go_roundg 1
   case measure => omega
   case rel => exact ⟨3, rfl, by omega, by go_num, PS.out⟩
  ·obtain ⟨⟨v, fc⟩, ff⟩ := pb.facts (by omega)
   have ps := pb.set (by omega)
   rw [show (((le4 s).getD 3 0 : Nat) : Int) = (s : Int) / 16777216 by simp [le4]; omega] at ps
   have PS := Lib.hid ps
   clear pb ps
   go_wp2_with fail
   go_roundg 0
   case measure => omega
   case rel => exact ⟨4, rfl, by omega, by go_num, PS.out⟩
  ·have HZ := Lib.hid pb.z
   have HA : Hid (wr.heap[w.heap.size + 1]? = some (.cells (bR (le4 s)) 112 (0, 0))) := Lib.hid pb.a
   have HB := Lib.hid pb.below
   have HI : Hid ((Tryz.prog.info? 112).map (·.size) = some (bR (le4 s)).size) := Lib.hid (by rw [bR_size]; exact size4)
   have HS : Hid ((bR (fil s 0)).size = (bR (le4 s)).size) := Lib.hid (by rw [bR_size, bR_size]; rfl)
   clear pb
   go_wp2_with (first | (refine wpList_load_row rfl 112 (.tmp 3) rfl (w.heap.size + 1) rfl _ _ _ _ HA.out Tryz.underlying112 rfl HI.out ?_) | (refine wpList_store_big rfl 112 (.tmp 2) (.tmp 16) rfl (w.heap.size) _ _ (bR (le4 s)) rfl rfl HZ.out HI.out HS.out (bR_one _) ?_))
   refine bodyPost_ret (v := .agg (bR (le4 s))) (results_cell_row rfl _ _ (w.heap.size) _ _ _ _ rfl (setRow_heap _ _ _ _ _ _ HZ.out) Tryz.underlying112 rfl HI.out) rfl ?_
   exact ⟨rfl, Below.row HB.out (by omega) _⟩
end Go.Proofs.YtbbhmhihpdmoiaaGreat.Cx

set_option linter.unusedVariables false
set_option linter.unusedSimpArgs false
namespace Go.Proofs.YtbbhmhihpdmoiaaGreat.Cx
open Go.Proofs.YtbbhmhihpdmoiaaGreat.Fx (held_done held_region held_step held_take)
open Go Go.RowKit Go.Shelf
attribute [local go_sem] Oper.semAt_some
theorem wpIn_append_fits_any {F : Fence} {n : Nat} {P : Program} (w : World) {o : Oper} {a : Act} {K : Act → World → Prop} {Q : Exit → Act → World → Prop}
  (s x : Operand) (t : TypeId) (hop : o.op = Op.call { callee := Callee.builtin Builtin.append, args := #[s, x], argTypes := #[t, t] })
  (base : Nat) (e : TypeId) (i : TypeInfo) (size : Nat) (h1 : P.underlying t = some (.slice e)) (h2 : P.info? e = some i) (h4 : i.size = size)
  (g k cap : Nat) (xs : List Value) (hs : a.eval s = .slice (some ⟨g, 0, none⟩) k cap) (hown : w.ownsRow base e size (.slice (some ⟨g, 0, none⟩) k cap) k xs) (ao : Option Addr) (m c : Nat) (news : List Value) (hx : a.eval x = .slice ao m c) (hn : news.length = m * size)
  (hnone : ao = none → m = 0 ∧ c = 0) (hc : ∀ ad, ao = some ad → ∀ j u, news[j]? = some u → w.cell? (ad.add j) = some u) (h1c : ∀ u ∈ news, u.oneCell' = true) (b1 : k + m ≤ cap)
  (hK : ∀ w', w'.ownsRow base e size (.slice (some ⟨g, 0, none⟩) (k + m) cap) (k + m) (xs ++ news) → w.grownBy w' (some g) → K (a.put o.dst (.slice (some ⟨g, 0, none⟩) (k + m) cap)) w') :
  Oper.wpIn F n P o a w K Q := by
 unfold Oper.wpIn
 refine ⟨?_, ?_⟩
 ·simp [Oper.about, hop, resolve, Target.leads, Sem.run_pure]
 ·rw [Oper.semAt_plain F _ _ (by rw [hop]; intro c hc'; cases hc')]
  cases ao with
  | some ad =>
   obtain ⟨w', hrun, r1, r2⟩ := run_append_fits (P := P) w base t o.type e i size h1 h2 h4 g k cap xs hown ad m c news hn (hc ad rfl) h1c b1
   simp [execOp, hop, resolve, invoke, builtin, hs, hx, hrun, Result.andThen]
   exact hK w' r1 r2
  | none =>
   obtain ⟨rfl, rfl⟩ := hnone rfl
   have hnews : news = [] := List.eq_nil_of_length_eq_zero (by simpa using hn)
   subst hnews
   have hrun := run_append_owned_none (P := P) w base t o.type e i size h1 h2 _ k xs hown
   simp [execOp, hop, resolve, invoke, builtin, hs, hx, hrun, Result.andThen]
   have := hK w (by simpa using hown) (World.grownBy.refl _ _)
   have h9 : K (a.put o.dst (.slice (some ⟨g, 0, none⟩) k cap)) w := by simpa using this
   exact h9
theorem news_any {W : World} {o : Option Addr} {l : List Nat} (h : Bs W o l) : ∀ ad, o = some ad → ∀ j u, (l.map encB)[j]? = some u → W.cell? (ad.add j) = some u := by
 intro ad e j u hu
 have hj : j < l.length := by
  have := (List.getElem?_eq_some_iff.1 hu).1
  simpa using this
 obtain ⟨b, off, e2, hc⟩ := h j hj
 rw [e] at e2
 cases e2
 rw [Addr.add_lit, hc, ← hu]
 simp [hj, encB, List.getD]
set_option maxRecDepth 100000 in
set_option maxHeartbeats 2000000 in
theorem seal_any (l : List Nat) (o : Option Addr) (cap : Nat) (w : World) (hl : By l) (hlen : l.length ≤ 1000000) (hq : o = none → cap = 0) (hb : Bs w o l) :
  Calls Tryz.prog 27 #[.slice o l.length cap] w fun e w' => (∃ v, e = .returned v ∧ Own w' w.heap.size v (l ++ le4 (more 0 l))) ∧ Below w.heap.size w w' := by
 obtain ⟨i0, hi, hz0, hz1, hz2⟩ := info_parts info5
 have hs := more_lt hl (show 0 < 4294967296 by omega)
 have H0 := Lib.hid (fun W h => sum_any l o cap W hl (by omega) h)
 have H1 := Lib.hid (fun W => inbytes_any (more 0 l) W hs)
 have HBS := Lib.hid hb
 have HN0 : Hid (o = none → l.length = 0) := Lib.hid (fun h => by
  rcases Nat.eq_zero_or_pos l.length with h0 | h0
  ·exact h0
  ·obtain ⟨b, off, e, _⟩ := hb 0 h0
   rw [h] at e; cases e)
 have HLEN : Hid ((l ++ le4 (more 0 l)).length = l.length + 4) := Lib.hid (by simp [le4])
 have HI : Hid ((Tryz.prog.info? 112).map (·.size) = some (bR (le4 (more 0 l))).size) := Lib.hid (by rw [bR_size]; exact size4)
 have HS : Hid ((#[.int .u8 0, .int .u8 0, .int .u8 0, .int .u8 0] : Array Value).size = (bR (le4 (more 0 l))).size) := Lib.hid (by rw [bR_size]; rfl)
 clear hb hs hl
 generalize more 0 l = s at *
 go_enter Tryz.func27, Tryz.ntmps27
 go_wp2_with fail
 refine (H0.out _ HBS.out).mono ?_
 rintro e w' ⟨rfl, rfl⟩
 go_wp2_with fail
 refine (H1.out _).mono ?_
 rintro e w2 ⟨rfl, hb2⟩
 have HB2 := Lib.hid hb2
 have HS2 := hb2.size
 clear hb2
 go_wp2_with (first | (refine wpList_store_new rfl 112 (.tmp 3) (.tmp 7) rfl w2.heap.size _ _ (bR (le4 s)) rfl rfl rfl HI.out HS.out (bR_one _) ?_) | (refine wpList_make_own _ rfl _ _ 31 rfl w'.heap.size 5 i0 (.int .u8 0) 1 Tryz.underlying31 hi hz0 hz1 .i64 .i64 ((l.length : Int) + 4) (l.length + 4) rfl rfl (by omega) (by rw [hz2]; omega) (by unfold maxLen; omega) (by simp; omega) ?_; intro w3 hown hgrow))
 have HG3 : Hid (Below w'.heap.size w' w3) := Lib.hid ((HB2.out.alloc (by omega) _).grown hgrow (by simp; omega) (by intro k hk; cases hk))
 have HZ : Hid (w3.heap[w2.heap.size]? = some (.cells (bR (le4 s)) 112 (0, 0))) := Lib.hid (by rw [hgrow.block _ (by simp) (by simp)]; exact heap_alloc_new w2 _)
 have HS3 : Hid (w2.heap.size + 1 ≤ w3.heap.size) := Lib.hid (by have := hgrow.size; rw [World.size_alloc] at this; exact this)
 have HW3 : Hid (Bs w3 o l) := Lib.hid (HBS.out.below HG3.out)
 (try rw [World.size_alloc] at hown)
 have HO3 := Lib.hid hown
 clear hgrow hown
 go_wp2_with fail
 refine (wpIn_wide (n := 5)).1 (held_region (F := Fence.wide) (S := fun X => True) (by kernel_rfl) trivial (fun hHeld => ?_))
 refine held_take (fun _ => trivial) (by kernel_rfl) (i := 0) (oi := _) (v := ?_) rfl (by kernel_rfl) (by kernel_rfl) (by kernel_rfl) (fun _ _ _ h => h) (by assumption) (Or.inl ⟨by kernel_rfl, ?_⟩) ?_
 rotate_left
 ·intro wz hSw; (first | (go_simp; done) | (go_simp; with_reducible rfl))
 (try simp only [Act.put, List.getElem_toArray, List.getElem_cons_zero, List.getElem_cons_succ, List.setIfInBounds_toArray, List.set_cons_zero, List.set_cons_succ])
 refine held_take (fun _ => trivial) (by kernel_rfl) (i := 1) (oi := _) (v := ?_) rfl (by kernel_rfl) (by kernel_rfl) (by kernel_rfl) (fun _ _ _ h => h) (by assumption) (Or.inl ⟨by kernel_rfl, ?_⟩) ?_
 rotate_left
 ·intro wz hSw; (first | (go_simp; done) | (go_simp; with_reducible rfl))
 (try simp only [Act.put, List.getElem_toArray, List.getElem_cons_zero, List.getElem_cons_succ, List.setIfInBounds_toArray, List.set_cons_zero, List.set_cons_succ])
 refine held_take (fun _ => trivial) (by kernel_rfl) (i := 3) (oi := _) (v := ?_) rfl (by kernel_rfl) (by kernel_rfl) (by kernel_rfl) (fun _ _ _ h => h) (by assumption) (Or.inl ⟨by kernel_rfl, ?_⟩) ?_
 rotate_left
 ·intro wz hSw; (first | (go_simp; done) | (go_simp; with_reducible rfl))
 (try simp only [Act.put, List.getElem_toArray, List.getElem_cons_zero, List.getElem_cons_succ, List.setIfInBounds_toArray, List.set_cons_zero, List.set_cons_succ])
 refine held_step (fun _ => trivial) (i := 2) (o := _) (by kernel_rfl) rfl (fun K hK => ?_)
 rw [if_pos (by kernel_rfl)]
 refine wpIn_append_fits_any _ _ _ 31 rfl w'.heap.size 5 i0 1 Tryz.underlying31 hi hz1 (w2.heap.size + 1) 0 (l.length + 4) [] rfl HO3.out.drew o l.length cap (l.map encB) rfl (by simp) (fun h => ⟨HN0.out h, hq h⟩) (news_any (HW3.out.below (bdrew0 _ w3 1))) (news_one l) (by omega) ?_
 intro w4 hown4 hgrow4
 refine hK.out _ _ trivial (fun hHeld => ?_)
 clear hK K
 (try simp only [Act.put, List.getElem_toArray, List.getElem_cons_zero, List.getElem_cons_succ, List.setIfInBounds_toArray, List.set_cons_zero, List.set_cons_succ])
 rw [Nat.zero_add] at hown4
 simp only [Nat.zero_add, List.nil_append] at hown4 ⊢
 have HO4 := Lib.hid hown4
 have HZ4 : Hid (w4.heap[w2.heap.size]? = some (.cells (bR (le4 s)) 112 (0, 0))) := Lib.hid (by
  rw [hgrow4.block _ (by have := HS3.out; show _ < w3.heap.size; omega) (by simp)]; exact HZ.out)
 have HG4 : Hid (Below w'.heap.size w' w4) := Lib.hid ((bdrewN 1 HG3.out).grown hgrow4 (by have := HS3.out; show _ ≤ w3.heap.size; omega) (by intro k hk; cases hk; omega))
 clear hgrow4 hown4
 refine held_step (fun _ => trivial) (i := 4) (o := _) (by kernel_rfl) rfl (fun K hK => ?_)
 rw [if_pos (by kernel_rfl)]
 refine wpIn_append_fits_any _ _ _ 31 rfl w'.heap.size 5 i0 1 Tryz.underlying31 hi hz1 (w2.heap.size + 1) l.length (l.length + 4) _ rfl HO4.out (some ⟨w2.heap.size, 0, none⟩) 4 4 ((le4 s).map encB) rfl (by simp [le4]) (fun h => by cases h) (news_any (Bs.row HZ4.out)) (news_one _) (by omega) ?_
 intro w5 hown5 hgrow5
 refine hK.out _ _ trivial (fun hHeld => ?_)
 clear hK K
 (try simp only [Act.put, List.getElem_toArray, List.getElem_cons_zero, List.getElem_cons_succ, List.setIfInBounds_toArray, List.set_cons_zero, List.set_cons_succ])
 have HO5 : Hid (Own w5 w'.heap.size (.slice (some ⟨w2.heap.size + 1, 0, none⟩) (l.length + 4) (l.length + 4)) (l ++ le4 s)) := Lib.hid (by
  unfold Own
  rw [HLEN.out, List.map_append]
  exact hown5)
 have HG5 : Hid (Below w'.heap.size w' w5) := Lib.hid (HG4.out.grown hgrow5 (by have := HG4.out.size; omega) (by intro k hk; cases hk; omega))
 clear hgrow5 hown5
 refine held_take (fun _ => trivial) (by kernel_rfl) (i := 5) (oi := _) (v := ?_) rfl (by kernel_rfl) (by kernel_rfl) (by kernel_rfl) (fun _ _ _ h => h) (by assumption) (Or.inl ⟨by kernel_rfl, ?_⟩) ?_
 rotate_left
 ·intro wz hSw; (first | (go_simp; done) | (go_simp; with_reducible rfl))
 (try simp only [Act.put, List.getElem_toArray, List.getElem_cons_zero, List.getElem_cons_succ, List.setIfInBounds_toArray, List.set_cons_zero, List.set_cons_succ])
 refine held_done (by kernel_rfl) ?_ _
 clear hHeld
 go_wp2_with fail
 go_ret
 exact ⟨⟨_, rfl, HO5.out⟩, HG5.out⟩
end Go.Proofs.YtbbhmhihpdmoiaaGreat.Cx

set_option linter.unusedVariables false
set_option linter.unusedSimpArgs false
namespace Go.Proofs.YtbbhmhihpdmoiaaGreat.Cx
open Go.Proofs.YtbbhmhihpdmoiaaGreat.Fx (held_done held_region held_step held_take)
open Go Go.RowKit Go.Shelf
attribute [local go_sem] Oper.semAt_some
theorem all_range_nat : ∀ (xs ys : List Nat), xs.length = ys.length → ((List.range xs.length).all fun i => xs.getD i 0 == ys.getD i 0) = (xs == ys)
 | [], [], _ => rfl
 | x :: xs, y :: ys, h => by
  have ih := all_range_nat xs ys (by simpa using h)
  rw [List.length_cons, List.range_succ_eq_map, List.all_cons, List.all_map]
  simp only [List.getD_cons_zero, Function.comp_def, List.getD_cons_succ, ih]
  simp [List.cons_beq_cons]
 | [], _ :: _, h => by simp at h
 | _ :: _, [], h => by simp at h
def No (w : World) (e : Ending) (w' : World) : Prop := e = .returned (.tuple #[.slice none 0 0, .int .i64 40]) ∧ Below w.heap.size w w'
end Go.Proofs.YtbbhmhihpdmoiaaGreat.Cx

set_option linter.unusedVariables false
set_option linter.unusedSimpArgs false
namespace Go.Proofs.YtbbhmhihpdmoiaaGreat.Cx
open Go Go.RowKit
def bstr (l : List Nat) : ByteArray := ⟨(l.map UInt8.ofNat).toArray⟩
theorem push_all (l : List Nat) : ∀ (b : ByteArray), (l.map fun x : Nat => (x : Int)).foldl (fun r n => r.push (UInt8.ofNat n.toNat)) b = ⟨b.data ++ (l.map UInt8.ofNat).toArray⟩ := by
 induction l with
 | nil => intro b; simp
 | cons x l ih =>
  intro b
  simp only [List.map_cons, List.foldl_cons]
  rw [ih]
  simp [ByteArray.push]
theorem conv_bs {W : World} {o : Option Addr} {l : List Nat} {n : Nat} (cap : Nat) (hn : l.length = n) (h : Bs W o l) : (convert 31 9 (.slice o n cap)).run Tryz.prog W = .ok (.string (bstr l)) W := by
 subst hn
 rw [run_convert_bytes_string W _ _ _ _ _ _ Tryz.underlying31 Tryz.underlying5 Tryz.underlying9]
 cases o with
 | none =>
  have : l = [] := by
   cases l with
   | nil => rfl
   | cons x l => obtain ⟨_, _, e, _⟩ := h 0 (by simp); cases e
  subst this
  rfl
 | some a =>
  have hl := run_loadCells_list (P := Tryz.prog) (w := W) a (l.map encB) (news_any h a rfl)
  rw [List.length_map] at hl
  have hm : l.map encB = (l.map fun x : Nat => (x : Int)).map (Value.int .u8) := by simp [encB]
  rw [hm] at hl
  rw [run_bytesToString W _ _ _ _ hl, push_all]
  simp [bstr, ByteArray.empty, ByteArray.emptyWithCapacity]
  rfl
theorem bs_at {W : World} {b off : Nat} {l : List Nat} (h : Bs W (some ⟨b, off, none⟩) l) {j : Nat} (hj : j < l.length) : W.cell? ⟨b, off + j, none⟩ = some (.int .u8 ((l.getD j 0 : Nat) : Int)) := by
 obtain ⟨_, _, e, hc⟩ := h j hj
 cases e
 exact hc
theorem lit_row (w : World) (l : List Nat) (C : Array Value) (hC : C = bR l) (fr : Nat × Nat) : Bs (w.alloc (.cells C 5 fr)) (some ⟨w.heap.size, 0, none⟩) l := by
 subst hC
 exact Bs.row (heap_alloc_new w _)
end Go.Proofs.YtbbhmhihpdmoiaaGreat.Cx

set_option linter.unusedVariables false
set_option linter.unusedSimpArgs false
namespace Go.Proofs.YtbbhmhihpdmoiaaGreat.Cx
open Go.Proofs.YtbbhmhihpdmoiaaGreat.Fx (held_done held_region held_take)
open Go Go.RowKit Go.Shelf
attribute [local go_sem] Oper.semAt_some
theorem nil_of {W : World} {l : List Nat} (h : Bs W none l) : l = [] := by
 cases l with
 | nil => rfl
 | cons x l => obtain ⟨_, _, e, _⟩ := h 0 (by simp); cases e
set_option maxHeartbeats 1600000 in
theorem twin_any (l : List Nat) (o : Option Addr) (cap : Nat) (w : World) (hlen : l.length ≤ 1000000) (hq : o = none → cap = 0) (hb : Bs w o l) :
  Calls Tryz.prog 70 #[.slice o l.length cap] w fun e w' => (∃ v, e = .returned v ∧ Own w' w.heap.size v l) ∧ Below w.heap.size w w' := by
 obtain ⟨i0, hi, hz0, hz1, hz2⟩ := info_parts info5
 cases o with
 | none =>
  obtain rfl := nil_of hb
  obtain rfl := hq rfl
  go_enter Tryz.func70, Tryz.ntmps70
  go_wp2_with (at_builtin; refine wpList_append_own_none rfl _ _ 31 rfl w.heap.size 5 i0 1 Tryz.underlying31 hi (.slice none 0 0) 0 [] rfl (World.ownsRow_nil _ _ _ _) rfl ?_)
  go_ret
  exact ⟨⟨_, rfl, World.ownsRow_nil _ _ _ _⟩, Below.refl _ _⟩
 | some a =>
  have HN := Lib.hid (news_any hb a rfl)
  clear hb
  go_enter Tryz.func70, Tryz.ntmps70
  go_wp2_with (at_builtin; refine wpList_append_own _ rfl _ _ 31 rfl w.heap.size 5 i0 (.int .u8 0) 1 1 Tryz.underlying31 hi hz0 hz1 hz2 rfl (by decide) (.slice none 0 0) 0 [] rfl (World.ownsRow_nil _ _ _ _) a l.length cap (l.map encB) rfl (by simp) HN.out (news_one l) (by unfold maxLen; omega) (by omega) (by simp) ?_; intro v' w1 hown hgrow _)
  have HO : Hid (Own w1 w.heap.size v' l) := Lib.hid (by
   unfold Own
   rw [Nat.zero_add, List.nil_append] at hown
   exact hown)
  have HB : Hid (Below w.heap.size w w1) := Lib.hid ((Below.refl _ w).grown hgrow (Nat.le_refl _) (by intro k hk; cases hk))
  clear hown hgrow
  go_ret
  exact ⟨⟨v', rfl, HO.out⟩, HB.out⟩
theorem le4_row (s : Nat) (hs : s < 4294967296) : bR (le4 s) = #[.int .u8 ((s : Int) % 256), .int .u8 ((s : Int) / 256 % 256), .int .u8 ((s : Int) / 65536 % 256), .int .u8 ((s : Int) / 16777216)] := by
 have e : ((s / 16777216 % 256 : Nat) : Int) = (s : Int) / 16777216 := by omega
 simp only [bR, le4, List.map_cons, List.map_nil, e]
 simp
set_option maxRecDepth 100000 in
set_option maxHeartbeats 1600000 in
theorem rseal_any (l : List Nat) (o : Option Addr) (cap : Nat) (w : World) (hl : By l) (hlen : l.length ≤ 990000) (hq : o = none → cap = 0) (hb : Bs w o l) :
  Calls Tryz.prog 39 #[.slice o l.length cap] w fun e w' => (∃ v, e = .returned v ∧ Own w' w.heap.size v (l ++ le4 (more 0 l))) ∧ Below w.heap.size w w' := by
 obtain ⟨i0, hi, hz0, hz1, hz2⟩ := info_parts info5
 have hs := more_lt hl (show 0 < 4294967296 by omega)
 have hs1 : ((more 0 l : Nat) : Int) ≤ 4294967295 := by omega
 have H0 := Lib.hid (fun W h => rsum_any l o cap W hl (by omega) h)
 have H1 := Lib.hid (fun W h => twin_any l o cap W (by omega) hq h)
 have HBS := Lib.hid hb
 have HR := Lib.hid (le4_row (more 0 l) hs)
 have HL4 : Hid ((le4 (more 0 l)).length = 4) := Lib.hid rfl
 clear hb hl
 generalize more 0 l = s at *
 go_enter Tryz.func39, Tryz.ntmps39
 go_wp2_with fail
 refine (H0.out _ HBS.out).mono ?_
 rintro e w' ⟨rfl, rfl⟩
 go_wp2_with fail
 refine (H1.out _ HBS.out).mono ?_
 rintro e w2 ⟨⟨v, rfl, hown⟩, hb2⟩
 have HOW := Lib.hid hown
 have HB2 := Lib.hid hb2
 clear hown hb2
 go_wp2_with (at_builtin; refine wpList_append_own _ rfl _ _ 31 rfl w'.heap.size 5 i0 (.int .u8 0) 1 1 Tryz.underlying31 hi hz0 hz1 hz2 rfl (by decide) v l.length (l.map encB) rfl (HOW.out.alloc _) ⟨w2.heap.size, 0, none⟩ 4 4 ((le4 s).map encB) rfl (by simp [le4]) (news_of (Bs.row (by rw [HR.out]; exact heap_alloc_new w2 _))) (news_one _) (by unfold maxLen; omega) (by omega) (by have := HB2.out.size; simp; omega) ?_; intro v' w3 hown hgrow _)
 have HO : Hid (Own w3 w'.heap.size v' (l ++ le4 s)) := Lib.hid (by
  unfold Own
  rw [List.map_append, List.length_append, HL4.out]
  exact hown)
 have HB3 : Hid (Below w'.heap.size w' w3) := Lib.hid ((HB2.out.alloc (HB2.out.size) _).grown hgrow (by have := HB2.out.size; simp; omega) (fun k hk => (HOW.out.lt k hk).1))
 clear hown hgrow
 go_ret
 exact ⟨⟨v', rfl, HO.out⟩, HB3.out⟩
theorem le4_val {c0 c1 c2 c3 s : Nat} (h0 : c0 < 256) (h1 : c1 < 256) (h2 : c2 < 256) (h3 : c3 < 256) (hs : s < 4294967296) : (c0 + 256 * c1 + 65536 * c2 + 16777216 * c3 = s) ↔ [c0, c1, c2, c3] = le4 s := by
 simp only [le4, List.cons.injEq, and_true]
 omega
end Go.Proofs.YtbbhmhihpdmoiaaGreat.Cx

set_option linter.unusedVariables false
set_option linter.unusedSimpArgs false
namespace Go.Proofs.YtbbhmhihpdmoiaaGreat.Cx
open Go.Proofs.YtbbhmhihpdmoiaaGreat.Fx (held_done held_region held_step held_take)
open Go Go.RowKit Go.Shelf
attribute [local go_sem] Oper.semAt_some
theorem bstr_size (l : List Nat) : (bstr l).size = l.length := by
 show (l.map UInt8.ofNat).toArray.size = _
 simp
def opened (l : List Nat) : Option (List Nat) := if 4 ≤ l.length ∧ l.drop (l.length - 4) = le4 (more 0 (l.take (l.length - 4))) then some (l.take (l.length - 4)) else none
def erO (R : Option (List Nat)) : Int := if R.isSome then 0 else 40
def RetO (R : Option (List Nat)) (B : Nat) (e : Ending) (w' : World) : Prop := ∃ v, e = .returned (.tuple #[v, .int .i64 (erO R)]) ∧ Own w' B v (R.getD [])
theorem No.ret {w w' : World} {e : Ending} (h : No w e w') : RetO none w.heap.size e w' ∧ Below w.heap.size w w' := ⟨⟨_, h.1, World.ownsRow_nil _ _ _ _⟩, h.2⟩
theorem four_of {l : List Nat} {n : Nat} (h : l.length = n + 4) : l = l.take n ++ [l.getD n 0, l.getD (n + 1) 0, l.getD (n + 2) 0, l.getD (n + 3) 0] := by
 have e : l.drop n = [l.getD n 0, l.getD (n + 1) 0, l.getD (n + 2) 0, l.getD (n + 3) 0] := by
  apply List.ext_getElem?
  intro i
  rw [List.getElem?_drop]
  have g : ∀ j, j < l.length → l[j]? = some (l.getD j 0) := fun j hj => by simp [List.getD, hj]
  match i with
  | 0 => exact g _ (by omega)
  | 1 => exact g _ (by omega)
  | 2 => exact g _ (by omega)
  | 3 => exact g _ (by omega)
  | i + 4 =>
   rw [List.getElem?_eq_none (by omega)]
   rfl
 rw [← e, List.take_append_drop]
theorem opened_long {l t : List Nat} {c0 c1 c2 c3 : Nat} (h : l = t ++ [c0, c1, c2, c3]) : opened l = if ([c0, c1, c2, c3] == le4 (more 0 t)) = true then some t else none := by
 have hl : l.length = t.length + 4 := by rw [h]; simp
 have ht : l.take (l.length - 4) = t := by rw [hl, Nat.add_sub_cancel, h, List.take_left]
 have hd : l.drop (l.length - 4) = [c0, c1, c2, c3] := by rw [hl, Nat.add_sub_cancel, h, List.drop_left]
 unfold opened
 rw [ht, hd]
 by_cases hc : [c0, c1, c2, c3] = le4 (more 0 t)
 ·rw [if_pos ⟨by omega, hc⟩, if_pos (by rw [hc]; exact beq_self_eq_true _)]
 ·rw [if_neg (fun h => hc h.2), if_neg (fun h => hc (by simpa using h))]
theorem grown_trans {a b c : World} {r : Option Nat} (h1 : a.grownBy b r) (h2 : b.grownBy c r) : a.grownBy c r :=
 ⟨h2.os.trans h1.os, h2.tape.trans h1.tape, h2.output.trans h1.output, Nat.le_trans h1.size h2.size, fun k hk hr => (h2.block k (Nat.lt_of_lt_of_le hk h1.size) hr).trans (h1.block k hk hr)⟩
theorem bump {W : World} {B g cap k : Nat} {ls : List Nat} (h : Own W B (.slice (some ⟨g, 0, none⟩) ls.length cap) ls) (c : Nat) :
  Own (W.setCell ⟨g, k, none⟩ (.int .u8 (c : Int))) B (.slice (some ⟨g, 0, none⟩) ls.length cap) (ls.set k c) ∧ W.grownBy (W.setCell ⟨g, k, none⟩ (.int .u8 (c : Int))) (some g) := by
 obtain ⟨h1, h2⟩ := World.ownsRow.stored h k (.int .u8 (c : Int))
 refine ⟨?_, h2⟩
 unfold Own
 rw [List.length_set, List.map_set]
 exact h1
def Bump (W0 : World) (B N : Nat) (v : Value) (wx : World) : Prop := ∃ ls, ls.length = N ∧ By ls ∧ Own wx B v ls ∧ W0.grownBy wx v.ownBlock
theorem Bump.start {W0 : World} {B : Nat} {v : Value} {l : List Nat} (h : Own W0 B v l) (hl : By l) : Bump W0 B l.length v W0 := ⟨l, rfl, hl, h, World.grownBy.refl _ _⟩
theorem Bump.facts {W0 wx : World} {B N k cap : Nat} {o : Option Addr} (h : Bump W0 B N (.slice o N cap) wx) (hk : k < N) :
  ∃ g c, o = some ⟨g, 0, none⟩ ∧ c < 256 ∧ wx.cell? ⟨g, k, none⟩ = some (.int .u8 ((c : Nat) : Int)) ∧ wx.frozen? ⟨g, k, none⟩ = false ∧
   Bump W0 B N (.slice (some ⟨g, 0, none⟩) N cap) (wx.setCell ⟨g, k, none⟩ (.int .u8 (((c + 1) % 256 : Nat) : Int))) := by
 obtain ⟨ls, hN, hby, hown, hgr⟩ := h
 obtain ⟨o2, cap2, e, hbs, _, _, _, hfr⟩ := hown.open
 cases e
 obtain ⟨b, off, e, hc⟩ := hbs k (by omega)
 obtain ⟨g, e2, _, _, hf⟩ := hfr _ e
 cases e2
 subst e
 have hb := bump (k := k) hown ((ls.getD k 0 + 1) % 256)
 refine ⟨b, ls.getD k 0, rfl, hby.get k, by simpa using hc, hf k, ls.set k ((ls.getD k 0 + 1) % 256), by simp, ?_, hb.1, grown_trans hgr hb.2⟩
 intro c hc2
 rcases List.mem_or_eq_of_mem_set hc2 with h | rfl
 ·exact hby c h
 ·exact Nat.mod_lt _ (by omega)
end Go.Proofs.YtbbhmhihpdmoiaaGreat.Cx
