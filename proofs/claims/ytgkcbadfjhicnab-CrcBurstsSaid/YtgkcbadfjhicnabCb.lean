/- overByte and twice, walked. -/
import Derived.Test.YtgkcbadfjhicnabProg
import Derived.Test.YtgkcbadfjhicnabCo
import Derived.WalkKit
import Derived.Lib.Hide
import Derived.Outline
import Derived.Deep.LoopGhost
import Derived.Deep.QuietTactic
import Derived.BigQuiet
import Derived.Deep.WholeRow
import Derived.Laws.ResultCell
set_option linter.unusedVariables false
set_option linter.unusedSimpArgs false
namespace Go.Proofs.Ytgkcbadfjhicnab.Fx
open Go Go.RowKit
theorem wpList_store_big {P : Program} {ops : Array Oper} {rest : List Oper} {op : Oper} {a : Act} {w : World} {Q : Exit → Act → World → Prop} (hgd : op.guard = none) (ty : TypeId) (x y : Operand) (ho : op.op = .store ty x y)
    (g : Nat) (t : TypeId) (c c' : Array Value) (hx : a.eval x = .pointer (some ⟨g, 0, none⟩)) (hy : a.eval y = .agg c') (hg : w.heap[g]? = some (.cells c t (0, 0)))
    (hi : (P.info? ty).map (·.size) = some c'.size) (hs : c.size = c'.size) (h1 : c'.all (·.oneCell') = true)
    (h : wpList P ops Q rest (a.put op.dst undef) (w.setRow g c')) : wpList P ops Q (op :: rest) a w := by
  refine wpList_plain hgd fun K hK => ?_
  unfold Oper.wp execOp
  simp only [ho, hx, hy, Instr.storeAt, Instr.sureAddr, Sem.run_bind, Sem.run_pure, Result.andThen_ok, run_storeVar_row w g t ty c c' hg hi hs h1]
  exact hK _ _ h
theorem Below.row {B : Nat} {a w : World} (h : Below B a w) {g : Nat} (hg : B ≤ g) (c : Array Value) : Below B a (w.setRow g c) :=
  ⟨h.os, h.tape, h.output, by simpa using h.size, fun k hk => (setRow_other w g k c (by omega)).trans (h.block k hk)⟩
theorem size32 : (Try.prog.info? 43).map (·.size) = some 32 := by kernel_rfl
theorem aV_zero : aV (fun _ => 0) = #[.int .u32 0, .int .u32 0, .int .u32 0, .int .u32 0, .int .u32 0, .int .u32 0, .int .u32 0, .int .u32 0, .int .u32 0, .int .u32 0, .int .u32 0, .int .u32 0, .int .u32 0, .int .u32 0, .int .u32 0, .int .u32 0,
    .int .u32 0, .int .u32 0, .int .u32 0, .int .u32 0, .int .u32 0, .int .u32 0, .int .u32 0, .int .u32 0, .int .u32 0, .int .u32 0, .int .u32 0, .int .u32 0, .int .u32 0, .int .u32 0, .int .u32 0, .int .u32 0] := by kernel_rfl
/-- the first k of them -/
def pV (g : Nat → Nat) (k : Nat) : Array Value := aV fun i => if i < k then g i else 0
theorem pV_zero (g : Nat → Nat) : pV g 0 = aV (fun _ => 0) := aV_congr fun i _ => by simp
theorem pV_full (g : Nat → Nat) : pV g 32 = aV g := aV_congr fun i hi => by simp [hi]
theorem pV_put (g : Nat → Nat) (k : Nat) : (pV g k).setIfInBounds k (.int .u32 ((g k : Nat) : Int)) = pV g (k + 1) := by
  unfold pV
  rw [aV_set]
  refine aV_congr fun i _ => ?_
  by_cases h : i = k
  · subst h; simp
  · by_cases h2 : i < k
    · simp [h, h2, show i < k + 1 by omega]
    · simp [h, h2, show ¬ i < k + 1 by omega]
theorem pV_size (g : Nat → Nat) (k : Nat) : (pV g k).size = 32 := aV_size _
theorem pV_some (g : Nat → Nat) {k j : Nat} (h : j < 32) : ∃ v, (pV g k)[j]? = some v := ⟨_, aV_get _ h⟩
/-- block b holds the first k numbers; below it the zero result r -/
structure PB (g : Nat → Nat) (r b k : Nat) (w W : World) : Prop where
  z : W.heap[r]? = some (.cells (aV fun _ => 0) 43 (0, 0))
  a : W.heap[b]? = some (.cells (pV g k) 43 (0, 0))
  ne : r ≠ b
  lo : w.heap.size ≤ r ∧ w.heap.size ≤ b
  below : Below w.heap.size w W
theorem PB.facts {g : Nat → Nat} {r b k : Nat} {w W : World} (s : PB g r b k w W) (h : k < 32) : (∃ v, W.cell? ⟨b, k, none⟩ = some v) ∧ W.frozen? ⟨b, k, none⟩ = false := by
  obtain ⟨v, hv⟩ := pV_some g (k := k) h
  exact ⟨⟨v, by rw [cell_of_row _ _ _ _ _ _ s.a, hv]⟩, frozen_row s.a⟩
theorem PB.set {g : Nat → Nat} {r b k : Nat} {w W : World} (s : PB g r b k w W) : PB g r b (k + 1) w (W.setCell ⟨b, k, none⟩ (.int .u32 ((g k : Nat) : Int))) := by
  refine ⟨?_, ?_, s.ne, s.lo, s.below.setCell (p := ⟨b, k, none⟩) s.lo.2 _⟩
  · rw [heap_setCell_other _ _ _ _ s.ne]; exact s.z
  · rw [heap_setCell_same _ _ _ _ _ _ s.a, pV_put]
theorem PB.next {g : Nat → Nat} {r b k : Nat} {w W X : World} (s : PB g r b k w W) (h : Below W.heap.size W X) : PB g r b k w X :=
  ⟨keep_row h s.z, keep_row h s.a, s.ne, s.lo, bnext s.below h⟩
theorem shl_bit {k : Nat} (h : k < 32) : (2 : Int) ^ k % 4294967296 = ((2 ^ k : Nat) : Int) := by
  have h2 : 2 ^ k < 2 ^ 32 := Nat.pow_lt_pow_right (by omega) h
  have h3 : ((2 : Int) ^ k) = ((2 ^ k : Nat) : Int) := by simp
  rw [h3]
  generalize 2 ^ k = b at *
  omega
theorem index_at (f : Nat → Nat) (j : Nat) (h : j < 32) (w : World) : (Instr.index 43 (.agg (aV f)) (.int .i64 (j : Int))).run Try.prog w = .ok (.int .u32 ((f j : Nat) : Int)) w := by
  have hd : j = 0 ∨ j = 1 ∨ j = 2 ∨ j = 3 ∨ j = 4 ∨ j = 5 ∨ j = 6 ∨ j = 7 ∨ j = 8 ∨ j = 9 ∨ j = 10 ∨ j = 11 ∨ j = 12 ∨ j = 13 ∨ j = 14 ∨ j = 15 ∨ j = 16 ∨ j = 17 ∨ j = 18 ∨ j = 19 ∨ j = 20 ∨ j = 21 ∨ j = 22 ∨ j = 23 ∨ j = 24 ∨ j = 25 ∨ j = 26 ∨ j = 27 ∨ j = 28 ∨ j = 29 ∨ j = 30 ∨ j = 31 := by omega
  rcases hd with rfl | rfl | rfl | rfl | rfl | rfl | rfl | rfl | rfl | rfl | rfl | rfl | rfl | rfl | rfl | rfl | rfl | rfl | rfl | rfl | rfl | rfl | rfl | rfl | rfl | rfl | rfl | rfl | rfl | rfl | rfl | rfl <;> (show _ = _; kernel_rfl)
set_option maxRecDepth 100000 in
set_option maxHeartbeats 2000000 in
theorem over_any (w : World) :
    Calls Try.prog 22 #[] w fun e w' => e = .returned (.agg (bV 8)) ∧ Below w.heap.size w w' := by
  go_enter Try.func22, Try.ntmps22
  go_wp2_with fail
  rw [← aV_zero]
  have S0 : PB (fun i => it 8 (2 ^ i)) w.heap.size (w.heap.size + 1) 0 w ((w.alloc (.cells (aV fun _ => 0) 43)).alloc (.cells (aV fun _ => 0) 43)) := by
    refine ⟨step_row (heap_alloc_new w _), ?_, by omega, by omega, by go_grown⟩
    have := heap_alloc_new (w.alloc (.cells (aV fun _ => 0) 43)) (.cells (aV fun _ => 0) 43)
    rw [World.size_alloc] at this
    rw [pV_zero]; exact this
  generalize ((w.alloc (.cells (aV fun _ => 0) 43)).alloc (.cells (aV fun _ => 0) 43)) = W0 at S0 ⊢
  go_loopg [3] 32 (fun g s3 wx => ∃ k : Nat, g = 32 - k ∧ k ≤ 32 ∧ s3 = .int .i64 (k : Int) ∧ PB (fun i => it 8 (2 ^ i)) w.heap.size (w.heap.size + 1) k w wx)
  case atStart => exact ⟨0, rfl, by omega, rfl, S0⟩
  case round =>
    clear S0
    obtain ⟨k, rfl, hk, rfl, pb⟩ := hrel
    by_cases h8 : k < 32
    · have t1 : (k : Int) < 32 := by omega
      have t0 : (0 : Int) ≤ (k : Int) := by omega
      obtain ⟨⟨v, fc⟩, ff⟩ := pb.facts h8
      have hsl := shl_bit h8
      have hb : 2 ^ k < 4294967296 := by
        have : 2 ^ k < 2 ^ 32 := Nat.pow_lt_pow_right (by omega) h8
        simpa using this
      have PS := Lib.hid pb.set
      clear pb
      generalize 2 ^ k = b at *
      go_wp2_with fail
      refine (eight_any _ _ hb).mono ?_
      rintro e w' ⟨rfl, rfl⟩
      go_wp2_with fail
      go_roundg (32 - (k + 1))
      case measure => omega
      case rel => exact ⟨k + 1, rfl, by omega, by go_num, PS.out⟩
    · have t1 : ¬ (k : Int) < 32 := by omega
      obtain rfl : k = 32 := by omega
      have HZ := Lib.hid pb.z
      have HA : Hid (wr.heap[w.heap.size + 1]? = some (.cells (aV fun i => it 8 (2 ^ i)) 43 (0, 0))) := Lib.hid (by rw [← pV_full]; exact pb.a)
      have HB := Lib.hid pb.below
      have HI : Hid ((Try.prog.info? 43).map (·.size) = some (aV fun i => it 8 (2 ^ i)).size) := Lib.hid (by rw [aV_size]; exact size32)
      have HS : Hid ((aV fun _ => 0).size = (aV fun i => it 8 (2 ^ i)).size) := Lib.hid (by rw [aV_size, aV_size])
      clear pb
      go_wp2_with (first | (refine wpList_load_row rfl 43 (.tmp 1) rfl (w.heap.size + 1) rfl _ _ _ _ HA.out Try.underlying43 rfl HI.out ?_) | (refine wpList_store_big rfl 43 (.tmp 0) (.tmp 12) rfl (w.heap.size) _ _ (aV (fun i => it 8 (2 ^ i))) rfl rfl HZ.out HI.out HS.out (aV_one _) ?_))
      refine bodyPost_ret (v := .agg (bV 8)) (results_cell_row rfl _ _ (w.heap.size) _ _ _ _ rfl (setRow_heap _ _ _ _ _ _ HZ.out) Try.underlying43 rfl HI.out) rfl ?_
      exact ⟨rfl, Below.row HB.out (by omega) _⟩
set_option maxRecDepth 100000 in
set_option maxHeartbeats 2000000 in
theorem twice_any (s : Nat) (w : World) :
    Calls Try.prog 25 #[.agg (bV s)] w fun e w' => e = .returned (.agg (bV (2 * s))) ∧ Below w.heap.size w w' := by
  have HIB : Hid ((Try.prog.info? 43).map (·.size) = some (bV s).size) := Lib.hid (by rw [bV, aV_size]; exact size32)
  have HBX : Hid ((((w.alloc (.cells (bV s) 43)).alloc (.cells (aV fun _ => 0) 43)).alloc (.cells (aV fun _ => 0) 43)).heap[w.heap.size]? = some (.cells (bV s) 43 (0, 0))) := Lib.hid (block3s w _ _ _).1
  have S0 : PB (fun i => it (2 * s) (2 ^ i)) (w.heap.size + 1) (w.heap.size + 1 + 1) 0 w (((w.alloc (.cells (bV s) 43)).alloc (.cells (aV fun _ => 0) 43)).alloc (.cells (aV fun _ => 0) 43)) := by
    refine ⟨(block3s w _ _ _).2.1, ?_, by omega, by omega, by go_grown⟩
    rw [pV_zero]; exact (block3s w _ _ _).2.2
  rw [aV_zero] at S0 HBX
  have HS0 := Lib.hid S0
  clear S0
  go_enter Try.func25, Try.ntmps25
  go_wp2_with (refine wpList_load_row rfl 43 (.tmp 1) rfl (w.heap.size) rfl _ _ _ _ HBX.out Try.underlying43 rfl HIB.out ?_)
  obtain ⟨W0, hW0⟩ : ∃ W0, (((w.alloc (.cells (bV s) 43)).alloc (.cells (aV fun _ => 0) 43)).alloc (.cells (aV fun _ => 0) 43)) = W0 := ⟨_, rfl⟩
  rw [aV_zero] at hW0
  rw [hW0] at HBX HS0 ⊢
  clear hW0
  go_loopg [7] 32 (fun g s7 wx => ∃ k : Nat, g = 32 - k ∧ k ≤ 32 ∧ s7 = .int .i64 (k : Int) ∧ PB (fun i => it (2 * s) (2 ^ i)) (w.heap.size + 1) (w.heap.size + 1 + 1) k w wx ∧ wx.heap[w.heap.size]? = some (.cells (bV s) 43 (0, 0)))
  case atStart => exact ⟨0, rfl, by omega, rfl, HS0.out, HBX.out⟩
  case round =>
    clear HS0 HBX
    obtain ⟨k, rfl, hk, rfl, pb, hbx⟩ := hrel
    by_cases h8 : k < 32
    · have t1 : (k : Int) < 32 := by omega
      have t0 : (0 : Int) ≤ (k : Int) := by omega
      have hix : ∀ W, (Instr.index 43 (.agg (bV s)) (.int .i64 (k : Int))).run Try.prog W = .ok (.int .u32 ((it s (2 ^ k) : Nat) : Int)) W := fun W => index_at _ k h8 W
      have hb : it s (2 ^ k) < 4294967296 := it_lt s (by
        have : 2 ^ k < 2 ^ 32 := Nat.pow_lt_pow_right (by omega) h8
        simpa using this)
      have HT : Hid (it s (it s (2 ^ k)) = (fun i => it (2 * s) (2 ^ i)) k) := Lib.hid (by rw [← it_add, show s + s = 2 * s by omega])
      have HP := Lib.hid pb
      have HX := Lib.hid hbx
      clear pb hbx
      generalize it s (2 ^ k) = b at *
      go_wp2_with (first | rw [hix] | (refine wpList_load_row rfl 43 (.tmp 1) rfl (w.heap.size) rfl _ _ _ _ HX.out Try.underlying43 rfl HIB.out ?_))
      refine (of_any s b _ hb).mono ?_
      rintro e w' ⟨rfl, hbel⟩
      have pb := HP.out.next hbel
      have hbx := keep_row hbel HX.out
      obtain ⟨⟨v, fc⟩, ff⟩ := pb.facts h8
      have ps := pb.set
      rw [← HT.out] at ps
      have PS := Lib.hid ps
      have HX2 : Hid ((w'.setCell ⟨w.heap.size + 1 + 1, k, none⟩ (.int .u32 ((it s b : Nat) : Int))).heap[w.heap.size]? = some (.cells (bV s) 43 (0, 0))) := Lib.hid (by
        rw [heap_setCell_other _ _ _ _ (by show w.heap.size ≠ w.heap.size + 1 + 1; omega)]; exact hbx)
      clear pb ps hbx HX HP
      go_wp2_with fail
      go_roundg (32 - (k + 1))
      case measure => omega
      case rel => exact ⟨k + 1, rfl, by omega, by go_num, PS.out, HX2.out⟩
    · have t1 : ¬ (k : Int) < 32 := by omega
      obtain rfl : k = 32 := by omega
      have HZ := Lib.hid pb.z
      have HA : Hid (wr.heap[w.heap.size + 1 + 1]? = some (.cells (aV fun i => it (2 * s) (2 ^ i)) 43 (0, 0))) := Lib.hid (by rw [← pV_full]; exact pb.a)
      have HB := Lib.hid pb.below
      have HI : Hid ((Try.prog.info? 43).map (·.size) = some (aV fun i => it (2 * s) (2 ^ i)).size) := Lib.hid (by rw [aV_size]; exact size32)
      have HS : Hid ((aV fun _ => 0).size = (aV fun i => it (2 * s) (2 ^ i)).size) := Lib.hid (by rw [aV_size, aV_size])
      clear pb hbx
      go_wp2_with (first | (refine wpList_load_row rfl 43 (.tmp 3) rfl (w.heap.size + 1 + 1) rfl _ _ _ _ HA.out Try.underlying43 rfl HI.out ?_) | (refine wpList_store_big rfl 43 (.tmp 2) (.tmp 17) rfl (w.heap.size + 1) _ _ (aV (fun i => it (2 * s) (2 ^ i))) rfl rfl HZ.out HI.out HS.out (aV_one _) ?_))
      refine bodyPost_ret (v := .agg (bV (2 * s))) (results_cell_row rfl _ _ (w.heap.size + 1) _ _ _ _ rfl (setRow_heap _ _ _ _ _ _ HZ.out) Try.underlying43 rfl HI.out) rfl ?_
      exact ⟨rfl, Below.row HB.out (by omega) _⟩
end Go.Proofs.Ytgkcbadfjhicnab.Fx
