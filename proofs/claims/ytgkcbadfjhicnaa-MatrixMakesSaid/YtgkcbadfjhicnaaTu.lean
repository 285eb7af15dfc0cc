/- matrix.Turn, walked. -/
import Derived.Test.YtgkcbadfjhicnaaProg
import Derived.Test.YtgkcbadfjhicnaaMk
import Derived.Laws.BitsAllLaws
set_option linter.unusedVariables false
set_option linter.unusedSimpArgs false
namespace Go.Proofs.Ytgkcbadfjhicnaa.Fx
open Go Go.RowKit Go.Shelf Wm
theorem and3 (q : Int) : bits .and .i64 q 3 = q % 4 := by
  unfold bits
  show IntKind.i64.wrap (((BitVec.ofInt 64 q &&& BitVec.ofInt 64 3).toNat : Nat) : Int) = q % 4
  rw [BitVec.toNat_and, BitVec.toNat_ofInt, BitVec.toNat_ofInt, show ((3 : Int) % ((2 ^ 64 : Nat) : Int)).toNat = 2 ^ 2 - 1 from by decide, Nat.and_two_pow_sub_one_eq_mod, IntKind.wrap_i64]
  omega
/-- the corner's numbers -/
def cosL (r : Nat) : Int := [65536, 0, -65536, 0].getD r 0
def sinL (r : Nat) : Int := [0, 65536, 0, -65536].getD r 0
/-- a turn's matrix -/
def trnL (n l : Nat) (c s : Int) : List Int := (((idl.set (n * 4 + n) c).set (n * 4 + l) (-s)).set (l * 4 + n) s).set (l * 4 + l) c
def trn (axis r : Nat) : List Int := trnL ((axis + 1) % 3) ((axis + 2) % 3) (cosL r) (sinL r)
theorem trnL_len (n l : Nat) (c s : Int) : (trnL n l c s).length = 16 := by simp [trnL, idl, scl]
theorem trn_len (a r : Nat) : (trn a r).length = 16 := trnL_len _ _ _ _
theorem turn_no (a q : Int) (w : World) (h : a < 0 ∨ 3 ≤ a) : Calls Try.prog 42 #[.int .i64 a, .int .i64 q] w fun e w' => e = .returned (.tuple #[.agg (mC zero16), .int .i64 2]) ∧ Below w.heap.size w w' := by
  rcases h with h | h
  · go_enter Try.func42, Try.ntmps42
    go_wp2_with (refine wpList_store_big rfl 64 (.tmp 4) (.tmp 18) rfl w.heap.size _ _ (mC zero16) rfl rfl (heap_alloc_new _ _) size16 rfl (mC_one _) ?_)
    refine bodyPost_ret (results_row2 rfl _ _ w.heap.size _ (mC zero16) _ _ (.int .i64 2) rfl rfl (setRow_heap _ _ _ _ _ _ (heap_alloc_new _ _)) Try.underlying64 rfl size16) rfl ?_
    exact ⟨rfl, Below.row ((Below.refl _ w).alloc (Nat.le_refl _) _) (Nat.le_refl _) _⟩
  · have h' : ¬ a < 0 := by omega
    go_enter Try.func42, Try.ntmps42
    go_wp2_with (refine wpList_store_big rfl 64 (.tmp 4) (.tmp 18) rfl w.heap.size _ _ (mC zero16) rfl rfl (heap_alloc_new _ _) size16 rfl (mC_one _) ?_)
    refine bodyPost_ret (results_row2 rfl _ _ w.heap.size _ (mC zero16) _ _ (.int .i64 2) rfl rfl (setRow_heap _ _ _ _ _ _ (heap_alloc_new _ _)) Try.underlying64 rfl size16) rfl ?_
    exact ⟨rfl, Below.row ((Below.refl _ w).alloc (Nat.le_refl _) _) (Nat.le_refl _) _⟩
theorem arr_cell (r : Nat) (h : r < 4) (b : Nat) (x0 x1 x2 x3 : Int) (t : TypeId) (w : World) (hb : w.heap[b]? = some (.cells #[.int .i64 x0, .int .i64 x1, .int .i64 x2, .int .i64 x3] t (0, 0))) : w.cell? ⟨b, r, none⟩ = some (.int .i64 ([x0, x1, x2, x3].getD r 0)) := by
  rw [cell_of_row _ _ _ _ _ _ hb]
  have hd : r = 0 ∨ r = 1 ∨ r = 2 ∨ r = 3 := by omega
  rcases hd with rfl | rfl | rfl | rfl <;> rfl
set_option maxRecDepth 100000 in
set_option maxHeartbeats 4000000 in
theorem turn_ax0 (q : Int) (r : Nat) (hr : r < 4) (hq : q % 4 = (r : Int)) (w : World) : Calls Try.prog 42 #[.int .i64 0, .int .i64 q] w fun e w' => e = .returned (.tuple #[.agg (mC (trnL 1 2 (cosL r) (sinL r))), .int .i64 0]) ∧ Below w.heap.size w w' := by
  have HB : Hid (bits .and .i64 q 3 = (r : Int)) := Lib.hid ((and3 q).trans hq)
  clear hq
  have hc : cosL r = [65536, 0, -65536, 0].getD r 0 := rfl
  have hs : sinL r = [0, 65536, 0, -65536].getD r 0 := rfl
  have cb : -65536 ≤ sinL r ∧ sinL r ≤ 65536 := by
    have hd : r = 0 ∨ r = 1 ∨ r = 2 ∨ r = 3 := by omega
    rcases hd with rfl | rfl | rfl | rfl <;> decide
  obtain ⟨sb0, sb1⟩ := cb
  generalize cosL r = c at hc ⊢
  generalize sinL r = s at hs sb0 sb1 ⊢
  have HCC := Lib.hid hc
  have HSS := Lib.hid hs
  clear hc hs
  go_enter Try.func42, Try.ntmps42
  go_wp2_with fail
  rw [HB.out]
  refine (identity_any _).mono ?_
  rintro e w1 ⟨rfl, hb⟩
  have h3 := block3s w (.cells #[.int .i64 0, .int .i64 0, .int .i64 0, .int .i64 0, .int .i64 0, .int .i64 0, .int .i64 0, .int .i64 0, .int .i64 0, .int .i64 0, .int .i64 0, .int .i64 0, .int .i64 0, .int .i64 0, .int .i64 0, .int .i64 0] 64) (.cells #[.int .i64 65536, .int .i64 0, .int .i64 (-65536), .int .i64 0] 61) (.cells #[.int .i64 0, .int .i64 65536, .int .i64 0, .int .i64 (-65536)] 61)
  have q0 := keep_row hb h3.1
  have q1 := keep_row hb h3.2.1
  have q2 := keep_row hb h3.2.2
  have hsz := hb.size
  simp only [World.size_alloc] at hsz
  have hB1 : Below w.heap.size w w1 := (by go_grown : Below w.heap.size w _).trans (hb.mono (by simp; omega))
  clear h3 hb
  have a1 := arr_cell r hr (w.heap.size + 1) _ _ _ _ _ w1 q1
  have a2 := arr_cell r hr (w.heap.size + 1 + 1) _ _ _ _ _ w1 q2
  rw [← HCC.out] at a1
  rw [← HSS.out] at a2
  clear q1 q2
  have R2 := Lib.hid (show (w1.alloc (.cells #[.int .i64 0, .int .i64 0, .int .i64 0, .int .i64 0, .int .i64 0, .int .i64 0, .int .i64 0, .int .i64 0, .int .i64 0, .int .i64 0, .int .i64 0, .int .i64 0, .int .i64 0, .int .i64 0, .int .i64 0, .int .i64 0] 64)).heap[w1.heap.size]? = some (.cells #[.int .i64 0, .int .i64 0, .int .i64 0, .int .i64 0, .int .i64 0, .int .i64 0, .int .i64 0, .int .i64 0, .int .i64 0, .int .i64 0, .int .i64 0, .int .i64 0, .int .i64 0, .int .i64 0, .int .i64 0, .int .i64 0] 64 (0, 0)) from heap_alloc_new _ _)
  have a1' : Hid (((w1.alloc (.cells #[.int .i64 0, .int .i64 0, .int .i64 0, .int .i64 0, .int .i64 0, .int .i64 0, .int .i64 0, .int .i64 0, .int .i64 0, .int .i64 0, .int .i64 0, .int .i64 0, .int .i64 0, .int .i64 0, .int .i64 0, .int .i64 0] 64)).setRow w1.heap.size (mC idl)).cell? ⟨w.heap.size + 1, r, none⟩ = some (.int .i64 c)) := Lib.hid (by simp only [World.cell?]; rw [setRow_other _ _ _ _ (by show w.heap.size + 1 ≠ w1.heap.size; omega)]; exact cell_alloc (o := (.cells #[.int .i64 0, .int .i64 0, .int .i64 0, .int .i64 0, .int .i64 0, .int .i64 0, .int .i64 0, .int .i64 0, .int .i64 0, .int .i64 0, .int .i64 0, .int .i64 0, .int .i64 0, .int .i64 0, .int .i64 0, .int .i64 0] 64)) a1)
  have a2' : Hid (((w1.alloc (.cells #[.int .i64 0, .int .i64 0, .int .i64 0, .int .i64 0, .int .i64 0, .int .i64 0, .int .i64 0, .int .i64 0, .int .i64 0, .int .i64 0, .int .i64 0, .int .i64 0, .int .i64 0, .int .i64 0, .int .i64 0, .int .i64 0] 64)).setRow w1.heap.size (mC idl)).cell? ⟨w.heap.size + 1 + 1, r, none⟩ = some (.int .i64 s)) := Lib.hid (by simp only [World.cell?]; rw [setRow_other _ _ _ _ (by show w.heap.size + 1 + 1 ≠ w1.heap.size; omega)]; exact cell_alloc (o := (.cells #[.int .i64 0, .int .i64 0, .int .i64 0, .int .i64 0, .int .i64 0, .int .i64 0, .int .i64 0, .int .i64 0, .int .i64 0, .int .i64 0, .int .i64 0, .int .i64 0, .int .i64 0, .int .i64 0, .int .i64 0, .int .i64 0] 64)) a2)
  have hB2 : Hid (Below w.heap.size w ((w1.alloc (.cells #[.int .i64 0, .int .i64 0, .int .i64 0, .int .i64 0, .int .i64 0, .int .i64 0, .int .i64 0, .int .i64 0, .int .i64 0, .int .i64 0, .int .i64 0, .int .i64 0, .int .i64 0, .int .i64 0, .int .i64 0, .int .i64 0] 64)).setRow w1.heap.size (mC idl))) := Lib.hid (Below.row (hB1.alloc hB1.size _) hB1.size _)
  have R3 : Hid (MatAt w.heap.size zero16 ((w1.alloc (.cells #[.int .i64 0, .int .i64 0, .int .i64 0, .int .i64 0, .int .i64 0, .int .i64 0, .int .i64 0, .int .i64 0, .int .i64 0, .int .i64 0, .int .i64 0, .int .i64 0, .int .i64 0, .int .i64 0, .int .i64 0, .int .i64 0] 64)).setRow w1.heap.size (mC idl))) := Lib.hid (by unfold MatAt; rw [setRow_other _ _ _ _ (by omega)]; exact step_row q0)
  have R4 : Hid (MatAt w1.heap.size idl ((w1.alloc (.cells #[.int .i64 0, .int .i64 0, .int .i64 0, .int .i64 0, .int .i64 0, .int .i64 0, .int .i64 0, .int .i64 0, .int .i64 0, .int .i64 0, .int .i64 0, .int .i64 0, .int .i64 0, .int .i64 0, .int .i64 0, .int .i64 0] 64)).setRow w1.heap.size (mC idl))) := Lib.hid (setRow_heap _ _ _ _ _ _ R2.out)
  clear a1 a2 q0
  have r0 : (0 : Int) ≤ (r : Int) := by omega
  have r1 : (r : Int) < 4 := by omega
  have tok : True := trivial
  go_wp2_with (have _t := tok; refine wpList_store_big rfl 64 (.tmp 11) (.tmp 29) rfl w1.heap.size _ _ (mC idl) rfl rfl R2.out size16 rfl (mC_one _) ?_; clear tok; generalize World.setRow _ _ _ = V at hB2 R3 R4 a1' a2' ⊢)
  have k0 : V.cell? ⟨w1.heap.size, 5, none⟩ = some (.int .i64 (idl.getD 5 0)) := R4.out.cell (by decide)
  have k1 : V.cell? ⟨w1.heap.size, 6, none⟩ = some (.int .i64 (idl.getD 6 0)) := R4.out.cell (by decide)
  have k2 : V.cell? ⟨w1.heap.size, 9, none⟩ = some (.int .i64 (idl.getD 9 0)) := R4.out.cell (by decide)
  have k3 : V.cell? ⟨w1.heap.size, 10, none⟩ = some (.int .i64 (idl.getD 10 0)) := R4.out.cell (by decide)
  have f0 : V.frozen? ⟨w1.heap.size, 5, none⟩ = false := frozen_row R4.out
  have f1 : V.frozen? ⟨w1.heap.size, 6, none⟩ = false := frozen_row R4.out
  have f2 : V.frozen? ⟨w1.heap.size, 9, none⟩ = false := frozen_row R4.out
  have f3 : V.frozen? ⟨w1.heap.size, 10, none⟩ = false := frozen_row R4.out
  refine (wpIn_wide (n := 5)).1 (held_region (F := Fence.wide) (S := (fun X => X.cell? ⟨w.heap.size + 1, r, none⟩ = some (.int .i64 c) ∧ X.cell? ⟨w.heap.size + 1 + 1, r, none⟩ = some (.int .i64 s))) (by kernel_rfl) ⟨a1'.out, a2'.out⟩ (fun hHeld => ?_))
  refine held_take (fun _ => trivial) (by kernel_rfl) (i := 0) (oi := _) (v := ?_) rfl (by kernel_rfl) (by kernel_rfl) (by kernel_rfl) (fun _ _ _ h => h) (by assumption) (Or.inl ⟨by kernel_rfl, ?_⟩) ?_
  rotate_left
  · intro wz hSw; obtain ⟨h1, h2⟩ := hSw; (first | (go_simp; done) | (go_simp; with_reducible rfl))
  (try simp only [Act.put, List.getElem_toArray, List.getElem_cons_zero, List.getElem_cons_succ, List.setIfInBounds_toArray, List.set_cons_zero, List.set_cons_succ])
  refine held_take (fun _ => trivial) (by kernel_rfl) (i := 1) (oi := _) (v := ?_) rfl (by kernel_rfl) (by kernel_rfl) (by kernel_rfl) (fun _ _ _ h => h) (by assumption) (Or.inl ⟨by kernel_rfl, ?_⟩) ?_
  rotate_left
  · intro wz hSw; obtain ⟨h1, h2⟩ := hSw; (first | (go_simp; done) | (go_simp; with_reducible rfl))
  (try simp only [Act.put, List.getElem_toArray, List.getElem_cons_zero, List.getElem_cons_succ, List.setIfInBounds_toArray, List.set_cons_zero, List.set_cons_succ])
  refine held_take (fun _ => trivial) (by kernel_rfl) (i := 2) (oi := _) (v := ?_) rfl (by kernel_rfl) (by kernel_rfl) (by kernel_rfl) (fun _ _ _ h => h) (by assumption) (Or.inl ⟨by kernel_rfl, ?_⟩) ?_
  rotate_left
  · intro wz hSw; obtain ⟨h1, h2⟩ := hSw; (first | (go_simp; done) | (go_simp; with_reducible rfl))
  (try simp only [Act.put, List.getElem_toArray, List.getElem_cons_zero, List.getElem_cons_succ, List.setIfInBounds_toArray, List.set_cons_zero, List.set_cons_succ])
  refine held_take (fun _ => trivial) (by kernel_rfl) (i := 3) (oi := _) (v := ?_) rfl (by kernel_rfl) (by kernel_rfl) (by kernel_rfl) (fun _ _ _ h => h) (by assumption) (Or.inl ⟨by kernel_rfl, ?_⟩) ?_
  rotate_left
  · intro wz hSw; obtain ⟨h1, h2⟩ := hSw; (first | (go_simp; done) | (go_simp; with_reducible rfl))
  (try simp only [Act.put, List.getElem_toArray, List.getElem_cons_zero, List.getElem_cons_succ, List.setIfInBounds_toArray, List.set_cons_zero, List.set_cons_succ])
  refine held_take (fun _ => trivial) (by kernel_rfl) (i := 4) (oi := _) (v := ?_) rfl (by kernel_rfl) (by kernel_rfl) (by kernel_rfl) (fun _ _ _ h => h) (by assumption) (Or.inl ⟨by kernel_rfl, ?_⟩) ?_
  rotate_left
  · intro wz hSw; obtain ⟨h1, h2⟩ := hSw; (first | (go_simp; done) | (go_simp; with_reducible rfl))
  (try simp only [Act.put, List.getElem_toArray, List.getElem_cons_zero, List.getElem_cons_succ, List.setIfInBounds_toArray, List.set_cons_zero, List.set_cons_succ])
  refine held_take (fun _ => trivial) (by kernel_rfl) (i := 5) (oi := _) (v := ?_) rfl (by kernel_rfl) (by kernel_rfl) (by kernel_rfl) (fun _ _ _ h => h) (by assumption) (Or.inl ⟨by kernel_rfl, ?_⟩) ?_
  rotate_left
  · intro wz hSw; obtain ⟨h1, h2⟩ := hSw; (first | (go_simp; done) | (go_simp; with_reducible rfl))
  (try simp only [Act.put, List.getElem_toArray, List.getElem_cons_zero, List.getElem_cons_succ, List.setIfInBounds_toArray, List.set_cons_zero, List.set_cons_succ])
  refine held_take (fun _ => trivial) (by kernel_rfl) (i := 6) (oi := _) (v := ?_) rfl (by kernel_rfl) (by kernel_rfl) (by kernel_rfl) (fun _ _ _ h => h) (by assumption) (Or.inl ⟨by kernel_rfl, ?_⟩) ?_
  rotate_left
  · intro wz hSw; obtain ⟨h1, h2⟩ := hSw; (first | (go_simp; done) | (go_simp; with_reducible rfl))
  (try simp only [Act.put, List.getElem_toArray, List.getElem_cons_zero, List.getElem_cons_succ, List.setIfInBounds_toArray, List.set_cons_zero, List.set_cons_succ])
  refine held_take (fun _ => trivial) (by kernel_rfl) (i := 7) (oi := _) (v := ?_) rfl (by kernel_rfl) (by kernel_rfl) (by kernel_rfl) (fun _ _ _ h => h) (by assumption) (Or.inl ⟨by kernel_rfl, ?_⟩) ?_
  rotate_left
  · intro wz hSw; obtain ⟨h1, h2⟩ := hSw; (first | (go_simp; done) | (go_simp; with_reducible rfl))
  (try simp only [Act.put, List.getElem_toArray, List.getElem_cons_zero, List.getElem_cons_succ, List.setIfInBounds_toArray, List.set_cons_zero, List.set_cons_succ])
  refine held_take (fun _ => trivial) (by kernel_rfl) (i := 8) (oi := _) (v := ?_) rfl (by kernel_rfl) (by kernel_rfl) (by kernel_rfl) (fun _ _ _ h => h) (by assumption) (Or.inl ⟨by kernel_rfl, ?_⟩) ?_
  rotate_left
  · intro wz hSw; obtain ⟨h1, h2⟩ := hSw; (first | (go_simp; done) | (go_simp; with_reducible rfl))
  (try simp only [Act.put, List.getElem_toArray, List.getElem_cons_zero, List.getElem_cons_succ, List.setIfInBounds_toArray, List.set_cons_zero, List.set_cons_succ])
  refine held_take (fun _ => trivial) (by kernel_rfl) (i := 9) (oi := _) (v := ?_) rfl (by kernel_rfl) (by kernel_rfl) (by kernel_rfl) (fun _ _ _ h => h) (by assumption) (Or.inl ⟨by kernel_rfl, ?_⟩) ?_
  rotate_left
  · intro wz hSw; obtain ⟨h1, h2⟩ := hSw; (first | (go_simp; done) | (go_simp; with_reducible rfl))
  (try simp only [Act.put, List.getElem_toArray, List.getElem_cons_zero, List.getElem_cons_succ, List.setIfInBounds_toArray, List.set_cons_zero, List.set_cons_succ])
  refine held_take (fun _ => trivial) (by kernel_rfl) (i := 10) (oi := _) (v := ?_) rfl (by kernel_rfl) (by kernel_rfl) (by kernel_rfl) (fun _ _ _ h => h) (by assumption) (Or.inl ⟨by kernel_rfl, ?_⟩) ?_
  rotate_left
  · intro wz hSw; obtain ⟨h1, h2⟩ := hSw; (first | (go_simp; done) | (go_simp; with_reducible rfl))
  (try simp only [Act.put, List.getElem_toArray, List.getElem_cons_zero, List.getElem_cons_succ, List.setIfInBounds_toArray, List.set_cons_zero, List.set_cons_succ])
  refine held_take (fun _ => trivial) (by kernel_rfl) (i := 11) (oi := _) (v := ?_) rfl (by kernel_rfl) (by kernel_rfl) (by kernel_rfl) (fun _ _ _ h => h) (by assumption) (Or.inl ⟨by kernel_rfl, ?_⟩) ?_
  rotate_left
  · intro wz hSw; obtain ⟨h1, h2⟩ := hSw; (first | (go_simp; done) | (go_simp; with_reducible rfl))
  (try simp only [Act.put, List.getElem_toArray, List.getElem_cons_zero, List.getElem_cons_succ, List.setIfInBounds_toArray, List.set_cons_zero, List.set_cons_succ])
  refine held_take (fun _ => trivial) (by kernel_rfl) (i := 12) (oi := _) (v := ?_) rfl (by kernel_rfl) (by kernel_rfl) (by kernel_rfl) (fun _ _ _ h => h) (by assumption) (Or.inl ⟨by kernel_rfl, ?_⟩) ?_
  rotate_left
  · intro wz hSw; obtain ⟨h1, h2⟩ := hSw; (first | (go_simp; done) | (go_simp; with_reducible rfl))
  (try simp only [Act.put, List.getElem_toArray, List.getElem_cons_zero, List.getElem_cons_succ, List.setIfInBounds_toArray, List.set_cons_zero, List.set_cons_succ])
  refine held_take (fun _ => trivial) (by kernel_rfl) (i := 14) (oi := _) (v := ?_) rfl (by kernel_rfl) (by kernel_rfl) (by kernel_rfl) (fun _ _ _ h => h) (by assumption) (Or.inl ⟨by kernel_rfl, ?_⟩) ?_
  rotate_left
  · intro wz hSw; obtain ⟨h1, h2⟩ := hSw; (first | (go_simp; done) | (go_simp; with_reducible rfl))
  (try simp only [Act.put, List.getElem_toArray, List.getElem_cons_zero, List.getElem_cons_succ, List.setIfInBounds_toArray, List.set_cons_zero, List.set_cons_succ])
  refine held_step (fun _ => trivial) (i := 13) (o := _) (by kernel_rfl) rfl (fun K hK => ?_)
  go_simp
  refine hK.out _ _ ⟨(World.cell?_setCell_far _ _ _ _ (by show w1.heap.size ≠ w.heap.size + 1; omega)).trans hHeld.1, (World.cell?_setCell_far _ _ _ _ (by show w1.heap.size ≠ w.heap.size + 1 + 1; omega)).trans hHeld.2⟩ (fun hHeld => ?_)
  clear hK K
  (try simp only [Act.put, List.getElem_toArray, List.getElem_cons_zero, List.getElem_cons_succ, List.setIfInBounds_toArray, List.set_cons_zero, List.set_cons_succ])
  refine held_take (fun _ => trivial) (by kernel_rfl) (i := 15) (oi := _) (v := ?_) rfl (by kernel_rfl) (by kernel_rfl) (by kernel_rfl) (fun _ _ _ h => h) (by assumption) (Or.inl ⟨by kernel_rfl, ?_⟩) ?_
  rotate_left
  · intro wz hSw; obtain ⟨h1, h2⟩ := hSw; (first | (go_simp; done) | (go_simp; with_reducible rfl))
  (try simp only [Act.put, List.getElem_toArray, List.getElem_cons_zero, List.getElem_cons_succ, List.setIfInBounds_toArray, List.set_cons_zero, List.set_cons_succ])
  refine held_step (fun _ => trivial) (i := 16) (o := _) (by kernel_rfl) rfl (fun K hK => ?_)
  go_simp
  refine hK.out _ _ ⟨(World.cell?_setCell_far _ _ _ _ (by show w1.heap.size ≠ w.heap.size + 1; omega)).trans hHeld.1, (World.cell?_setCell_far _ _ _ _ (by show w1.heap.size ≠ w.heap.size + 1 + 1; omega)).trans hHeld.2⟩ (fun hHeld => ?_)
  clear hK K
  (try simp only [Act.put, List.getElem_toArray, List.getElem_cons_zero, List.getElem_cons_succ, List.setIfInBounds_toArray, List.set_cons_zero, List.set_cons_succ])
  refine held_done (by kernel_rfl) ?_ _
  go_wp2
  refine (wpIn_wide (n := 5)).1 (held_region (F := Fence.wide) (S := (fun X => X.cell? ⟨w.heap.size + 1, r, none⟩ = some (.int .i64 c) ∧ X.cell? ⟨w.heap.size + 1 + 1, r, none⟩ = some (.int .i64 s))) (by kernel_rfl) ⟨hHeld.1, hHeld.2⟩ (fun hHeld => ?_))
  refine held_take (fun _ => trivial) (by kernel_rfl) (i := 0) (oi := _) (v := ?_) rfl (by kernel_rfl) (by kernel_rfl) (by kernel_rfl) (fun _ _ _ h => h) (by assumption) (Or.inl ⟨by kernel_rfl, ?_⟩) ?_
  rotate_left
  · intro wz hSw; obtain ⟨h1, h2⟩ := hSw; (first | (go_simp; done) | (go_simp; with_reducible rfl))
  (try simp only [Act.put, List.getElem_toArray, List.getElem_cons_zero, List.getElem_cons_succ, List.setIfInBounds_toArray, List.set_cons_zero, List.set_cons_succ])
  refine held_take (fun _ => trivial) (by kernel_rfl) (i := 1) (oi := _) (v := ?_) rfl (by kernel_rfl) (by kernel_rfl) (by kernel_rfl) (fun _ _ _ h => h) (by assumption) (Or.inl ⟨by kernel_rfl, ?_⟩) ?_
  rotate_left
  · intro wz hSw; obtain ⟨h1, h2⟩ := hSw; (first | (go_simp; done) | (go_simp; with_reducible rfl))
  (try simp only [Act.put, List.getElem_toArray, List.getElem_cons_zero, List.getElem_cons_succ, List.setIfInBounds_toArray, List.set_cons_zero, List.set_cons_succ])
  refine held_take (fun _ => trivial) (by kernel_rfl) (i := 2) (oi := _) (v := ?_) rfl (by kernel_rfl) (by kernel_rfl) (by kernel_rfl) (fun _ _ _ h => h) (by assumption) (Or.inl ⟨by kernel_rfl, ?_⟩) ?_
  rotate_left
  · intro wz hSw; obtain ⟨h1, h2⟩ := hSw; (first | (go_simp; done) | (go_simp; with_reducible rfl))
  (try simp only [Act.put, List.getElem_toArray, List.getElem_cons_zero, List.getElem_cons_succ, List.setIfInBounds_toArray, List.set_cons_zero, List.set_cons_succ])
  refine held_take (fun _ => trivial) (by kernel_rfl) (i := 3) (oi := _) (v := ?_) rfl (by kernel_rfl) (by kernel_rfl) (by kernel_rfl) (fun _ _ _ h => h) (by assumption) (Or.inl ⟨by kernel_rfl, ?_⟩) ?_
  rotate_left
  · intro wz hSw; obtain ⟨h1, h2⟩ := hSw; (first | (go_simp; done) | (go_simp; with_reducible rfl))
  (try simp only [Act.put, List.getElem_toArray, List.getElem_cons_zero, List.getElem_cons_succ, List.setIfInBounds_toArray, List.set_cons_zero, List.set_cons_succ])
  refine held_take (fun _ => trivial) (by kernel_rfl) (i := 4) (oi := _) (v := ?_) rfl (by kernel_rfl) (by kernel_rfl) (by kernel_rfl) (fun _ _ _ h => h) (by assumption) (Or.inl ⟨by kernel_rfl, ?_⟩) ?_
  rotate_left
  · intro wz hSw; obtain ⟨h1, h2⟩ := hSw; (first | (go_simp; done) | (go_simp; with_reducible rfl))
  (try simp only [Act.put, List.getElem_toArray, List.getElem_cons_zero, List.getElem_cons_succ, List.setIfInBounds_toArray, List.set_cons_zero, List.set_cons_succ])
  refine held_take (fun _ => trivial) (by kernel_rfl) (i := 5) (oi := _) (v := ?_) rfl (by kernel_rfl) (by kernel_rfl) (by kernel_rfl) (fun _ _ _ h => h) (by assumption) (Or.inl ⟨by kernel_rfl, ?_⟩) ?_
  rotate_left
  · intro wz hSw; obtain ⟨h1, h2⟩ := hSw; (first | (go_simp; done) | (go_simp; with_reducible rfl))
  (try simp only [Act.put, List.getElem_toArray, List.getElem_cons_zero, List.getElem_cons_succ, List.setIfInBounds_toArray, List.set_cons_zero, List.set_cons_succ])
  refine held_take (fun _ => trivial) (by kernel_rfl) (i := 6) (oi := _) (v := ?_) rfl (by kernel_rfl) (by kernel_rfl) (by kernel_rfl) (fun _ _ _ h => h) (by assumption) (Or.inl ⟨by kernel_rfl, ?_⟩) ?_
  rotate_left
  · intro wz hSw; obtain ⟨h1, h2⟩ := hSw; (first | (go_simp; done) | (go_simp; with_reducible rfl))
  (try simp only [Act.put, List.getElem_toArray, List.getElem_cons_zero, List.getElem_cons_succ, List.setIfInBounds_toArray, List.set_cons_zero, List.set_cons_succ])
  refine held_take (fun _ => trivial) (by kernel_rfl) (i := 7) (oi := _) (v := ?_) rfl (by kernel_rfl) (by kernel_rfl) (by kernel_rfl) (fun _ _ _ h => h) (by assumption) (Or.inl ⟨by kernel_rfl, ?_⟩) ?_
  rotate_left
  · intro wz hSw; obtain ⟨h1, h2⟩ := hSw; (first | (go_simp; done) | (go_simp; with_reducible rfl))
  (try simp only [Act.put, List.getElem_toArray, List.getElem_cons_zero, List.getElem_cons_succ, List.setIfInBounds_toArray, List.set_cons_zero, List.set_cons_succ])
  refine held_take (fun _ => trivial) (by kernel_rfl) (i := 8) (oi := _) (v := ?_) rfl (by kernel_rfl) (by kernel_rfl) (by kernel_rfl) (fun _ _ _ h => h) (by assumption) (Or.inl ⟨by kernel_rfl, ?_⟩) ?_
  rotate_left
  · intro wz hSw; obtain ⟨h1, h2⟩ := hSw; (first | (go_simp; done) | (go_simp; with_reducible rfl))
  (try simp only [Act.put, List.getElem_toArray, List.getElem_cons_zero, List.getElem_cons_succ, List.setIfInBounds_toArray, List.set_cons_zero, List.set_cons_succ])
  refine held_take (fun _ => trivial) (by kernel_rfl) (i := 9) (oi := _) (v := ?_) rfl (by kernel_rfl) (by kernel_rfl) (by kernel_rfl) (fun _ _ _ h => h) (by assumption) (Or.inl ⟨by kernel_rfl, ?_⟩) ?_
  rotate_left
  · intro wz hSw; obtain ⟨h1, h2⟩ := hSw; (first | (go_simp; done) | (go_simp; with_reducible rfl))
  (try simp only [Act.put, List.getElem_toArray, List.getElem_cons_zero, List.getElem_cons_succ, List.setIfInBounds_toArray, List.set_cons_zero, List.set_cons_succ])
  refine held_take (fun _ => trivial) (by kernel_rfl) (i := 10) (oi := _) (v := ?_) rfl (by kernel_rfl) (by kernel_rfl) (by kernel_rfl) (fun _ _ _ h => h) (by assumption) (Or.inl ⟨by kernel_rfl, ?_⟩) ?_
  rotate_left
  · intro wz hSw; obtain ⟨h1, h2⟩ := hSw; (first | (go_simp; done) | (go_simp; with_reducible rfl))
  (try simp only [Act.put, List.getElem_toArray, List.getElem_cons_zero, List.getElem_cons_succ, List.setIfInBounds_toArray, List.set_cons_zero, List.set_cons_succ])
  refine held_take (fun _ => trivial) (by kernel_rfl) (i := 11) (oi := _) (v := ?_) rfl (by kernel_rfl) (by kernel_rfl) (by kernel_rfl) (fun _ _ _ h => h) (by assumption) (Or.inl ⟨by kernel_rfl, ?_⟩) ?_
  rotate_left
  · intro wz hSw; obtain ⟨h1, h2⟩ := hSw; (first | (go_simp; done) | (go_simp; with_reducible rfl))
  (try simp only [Act.put, List.getElem_toArray, List.getElem_cons_zero, List.getElem_cons_succ, List.setIfInBounds_toArray, List.set_cons_zero, List.set_cons_succ])
  refine held_take (fun _ => trivial) (by kernel_rfl) (i := 13) (oi := _) (v := ?_) rfl (by kernel_rfl) (by kernel_rfl) (by kernel_rfl) (fun _ _ _ h => h) (by assumption) (Or.inl ⟨by kernel_rfl, ?_⟩) ?_
  rotate_left
  · intro wz hSw; obtain ⟨h1, h2⟩ := hSw; (first | (go_simp; done) | (go_simp; with_reducible rfl))
  (try simp only [Act.put, List.getElem_toArray, List.getElem_cons_zero, List.getElem_cons_succ, List.setIfInBounds_toArray, List.set_cons_zero, List.set_cons_succ])
  refine held_step (fun _ => trivial) (i := 12) (o := _) (by kernel_rfl) rfl (fun K hK => ?_)
  go_simp
  refine hK.out _ _ ⟨(World.cell?_setCell_far _ _ _ _ (by show w1.heap.size ≠ w.heap.size + 1; omega)).trans hHeld.1, (World.cell?_setCell_far _ _ _ _ (by show w1.heap.size ≠ w.heap.size + 1 + 1; omega)).trans hHeld.2⟩ (fun hHeld => ?_)
  clear hK K
  (try simp only [Act.put, List.getElem_toArray, List.getElem_cons_zero, List.getElem_cons_succ, List.setIfInBounds_toArray, List.set_cons_zero, List.set_cons_succ])
  refine held_take (fun _ => trivial) (by kernel_rfl) (i := 14) (oi := _) (v := ?_) rfl (by kernel_rfl) (by kernel_rfl) (by kernel_rfl) (fun _ _ _ h => h) (by assumption) (Or.inl ⟨by kernel_rfl, ?_⟩) ?_
  rotate_left
  · intro wz hSw; obtain ⟨h1, h2⟩ := hSw; (first | (go_simp; done) | (go_simp; with_reducible rfl))
  (try simp only [Act.put, List.getElem_toArray, List.getElem_cons_zero, List.getElem_cons_succ, List.setIfInBounds_toArray, List.set_cons_zero, List.set_cons_succ])
  refine held_step (fun _ => trivial) (i := 15) (o := _) (by kernel_rfl) rfl (fun K hK => ?_)
  go_simp
  refine hK.out _ _ ⟨(World.cell?_setCell_far _ _ _ _ (by show w1.heap.size ≠ w.heap.size + 1; omega)).trans hHeld.1, (World.cell?_setCell_far _ _ _ _ (by show w1.heap.size ≠ w.heap.size + 1 + 1; omega)).trans hHeld.2⟩ (fun hHeld => ?_)
  clear hK K
  (try simp only [Act.put, List.getElem_toArray, List.getElem_cons_zero, List.getElem_cons_succ, List.setIfInBounds_toArray, List.set_cons_zero, List.set_cons_succ])
  refine held_done (by kernel_rfl) ?_ _
  have hneg : IntKind.i64.wrap (-s) = -s := by rw [IntKind.wrap_i64]; omega
  have m4 : MatAt w1.heap.size (trnL 1 2 c s) ((((V.setCell ⟨w1.heap.size, 5, none⟩ (.int .i64 c)).setCell ⟨w1.heap.size, 6, none⟩ (.int .i64 (IntKind.i64.wrap (-s)))).setCell ⟨w1.heap.size, 9, none⟩ (.int .i64 s)).setCell ⟨w1.heap.size, 10, none⟩ (.int .i64 c)).drew.drew := by
    have := (((R4.out.set (j := 5) c).set (j := 6) (IntKind.i64.wrap (-s))).set (j := 9) s).set (j := 10) c
    rw [hneg] at this ⊢
    exact this
  have m3 : MatAt w.heap.size zero16 ((((V.setCell ⟨w1.heap.size, 5, none⟩ (.int .i64 c)).setCell ⟨w1.heap.size, 6, none⟩ (.int .i64 (IntKind.i64.wrap (-s)))).setCell ⟨w1.heap.size, 9, none⟩ (.int .i64 s)).setCell ⟨w1.heap.size, 10, none⟩ (.int .i64 c)).drew.drew := (((R3.out.other _ (by omega)).other _ (by omega)).other _ (by omega)).other _ (by omega)
  have hB4 : Below w.heap.size w ((((V.setCell ⟨w1.heap.size, 5, none⟩ (.int .i64 c)).setCell ⟨w1.heap.size, 6, none⟩ (.int .i64 (IntKind.i64.wrap (-s)))).setCell ⟨w1.heap.size, 9, none⟩ (.int .i64 s)).setCell ⟨w1.heap.size, 10, none⟩ (.int .i64 c)).drew.drew := Below.drew (Below.drew ((((hB2.out.setCell (p := ⟨w1.heap.size, 5, none⟩) (by show _ ≤ w1.heap.size; omega) _).setCell (p := ⟨w1.heap.size, 6, none⟩) (by show _ ≤ w1.heap.size; omega) _).setCell (p := ⟨w1.heap.size, 9, none⟩) (by show _ ≤ w1.heap.size; omega) _).setCell (p := ⟨w1.heap.size, 10, none⟩) (by show _ ≤ w1.heap.size; omega) _))
  clear hHeld hneg
  generalize ((((V.setCell ⟨w1.heap.size, 5, none⟩ (.int .i64 c)).setCell ⟨w1.heap.size, 6, none⟩ (.int .i64 (IntKind.i64.wrap (-s)))).setCell ⟨w1.heap.size, 9, none⟩ (.int .i64 s)).setCell ⟨w1.heap.size, 10, none⟩ (.int .i64 c)).drew.drew = X at m4 m3 hB4 ⊢
  have M4 := Lib.hid m4
  have M3 := Lib.hid m3
  have HB4 := Lib.hid hB4
  have itn : Hid ((Try.prog.info? 64).map (·.size) = some (mC (trnL 1 2 c s)).size) := Lib.hid (by rw [size16, mC_size, trnL_len])
  have itz : Hid ((mC zero16).size = (mC (trnL 1 2 c s)).size) := Lib.hid (by rw [mC_size, mC_size, trnL_len]; rfl)
  clear m4 m3 hB4 k0 k1 k2 k3 f0 f1 f2 f3
  go_wp2_with (first | (refine wpList_load_row rfl 64 (.tmp 11) rfl w1.heap.size rfl _ _ _ _ M4.out Try.underlying64 rfl itn.out ?_) | (refine wpList_store_big rfl 64 (.tmp 4) (.tmp 59) rfl w.heap.size _ _ (mC (trnL 1 2 c s)) rfl rfl M3.out itn.out itz.out (mC_one _) ?_))
  refine bodyPost_ret (results_row2 rfl _ _ w.heap.size _ (mC (trnL 1 2 c s)) _ _ (.int .i64 0) rfl rfl (setRow_heap _ _ _ _ _ _ M3.out) Try.underlying64 rfl itn.out) rfl ?_
  exact ⟨rfl, Below.row HB4.out (Nat.le_refl _) _⟩
set_option maxRecDepth 100000 in
set_option maxHeartbeats 4000000 in
theorem turn_ax1 (q : Int) (r : Nat) (hr : r < 4) (hq : q % 4 = (r : Int)) (w : World) : Calls Try.prog 42 #[.int .i64 1, .int .i64 q] w fun e w' => e = .returned (.tuple #[.agg (mC (trnL 2 0 (cosL r) (sinL r))), .int .i64 0]) ∧ Below w.heap.size w w' := by
  have HB : Hid (bits .and .i64 q 3 = (r : Int)) := Lib.hid ((and3 q).trans hq)
  clear hq
  have hc : cosL r = [65536, 0, -65536, 0].getD r 0 := rfl
  have hs : sinL r = [0, 65536, 0, -65536].getD r 0 := rfl
  have cb : -65536 ≤ sinL r ∧ sinL r ≤ 65536 := by
    have hd : r = 0 ∨ r = 1 ∨ r = 2 ∨ r = 3 := by omega
    rcases hd with rfl | rfl | rfl | rfl <;> decide
  obtain ⟨sb0, sb1⟩ := cb
  generalize cosL r = c at hc ⊢
  generalize sinL r = s at hs sb0 sb1 ⊢
  have HCC := Lib.hid hc
  have HSS := Lib.hid hs
  clear hc hs
  go_enter Try.func42, Try.ntmps42
  go_wp2_with fail
  rw [HB.out]
  refine (identity_any _).mono ?_
  rintro e w1 ⟨rfl, hb⟩
  have h3 := block3s w (.cells #[.int .i64 0, .int .i64 0, .int .i64 0, .int .i64 0, .int .i64 0, .int .i64 0, .int .i64 0, .int .i64 0, .int .i64 0, .int .i64 0, .int .i64 0, .int .i64 0, .int .i64 0, .int .i64 0, .int .i64 0, .int .i64 0] 64) (.cells #[.int .i64 65536, .int .i64 0, .int .i64 (-65536), .int .i64 0] 61) (.cells #[.int .i64 0, .int .i64 65536, .int .i64 0, .int .i64 (-65536)] 61)
  have q0 := keep_row hb h3.1
  have q1 := keep_row hb h3.2.1
  have q2 := keep_row hb h3.2.2
  have hsz := hb.size
  simp only [World.size_alloc] at hsz
  have hB1 : Below w.heap.size w w1 := (by go_grown : Below w.heap.size w _).trans (hb.mono (by simp; omega))
  clear h3 hb
  have a1 := arr_cell r hr (w.heap.size + 1) _ _ _ _ _ w1 q1
  have a2 := arr_cell r hr (w.heap.size + 1 + 1) _ _ _ _ _ w1 q2
  rw [← HCC.out] at a1
  rw [← HSS.out] at a2
  clear q1 q2
  have R2 := Lib.hid (show (w1.alloc (.cells #[.int .i64 0, .int .i64 0, .int .i64 0, .int .i64 0, .int .i64 0, .int .i64 0, .int .i64 0, .int .i64 0, .int .i64 0, .int .i64 0, .int .i64 0, .int .i64 0, .int .i64 0, .int .i64 0, .int .i64 0, .int .i64 0] 64)).heap[w1.heap.size]? = some (.cells #[.int .i64 0, .int .i64 0, .int .i64 0, .int .i64 0, .int .i64 0, .int .i64 0, .int .i64 0, .int .i64 0, .int .i64 0, .int .i64 0, .int .i64 0, .int .i64 0, .int .i64 0, .int .i64 0, .int .i64 0, .int .i64 0] 64 (0, 0)) from heap_alloc_new _ _)
  have a1' : Hid (((w1.alloc (.cells #[.int .i64 0, .int .i64 0, .int .i64 0, .int .i64 0, .int .i64 0, .int .i64 0, .int .i64 0, .int .i64 0, .int .i64 0, .int .i64 0, .int .i64 0, .int .i64 0, .int .i64 0, .int .i64 0, .int .i64 0, .int .i64 0] 64)).setRow w1.heap.size (mC idl)).cell? ⟨w.heap.size + 1, r, none⟩ = some (.int .i64 c)) := Lib.hid (by simp only [World.cell?]; rw [setRow_other _ _ _ _ (by show w.heap.size + 1 ≠ w1.heap.size; omega)]; exact cell_alloc (o := (.cells #[.int .i64 0, .int .i64 0, .int .i64 0, .int .i64 0, .int .i64 0, .int .i64 0, .int .i64 0, .int .i64 0, .int .i64 0, .int .i64 0, .int .i64 0, .int .i64 0, .int .i64 0, .int .i64 0, .int .i64 0, .int .i64 0] 64)) a1)
  have a2' : Hid (((w1.alloc (.cells #[.int .i64 0, .int .i64 0, .int .i64 0, .int .i64 0, .int .i64 0, .int .i64 0, .int .i64 0, .int .i64 0, .int .i64 0, .int .i64 0, .int .i64 0, .int .i64 0, .int .i64 0, .int .i64 0, .int .i64 0, .int .i64 0] 64)).setRow w1.heap.size (mC idl)).cell? ⟨w.heap.size + 1 + 1, r, none⟩ = some (.int .i64 s)) := Lib.hid (by simp only [World.cell?]; rw [setRow_other _ _ _ _ (by show w.heap.size + 1 + 1 ≠ w1.heap.size; omega)]; exact cell_alloc (o := (.cells #[.int .i64 0, .int .i64 0, .int .i64 0, .int .i64 0, .int .i64 0, .int .i64 0, .int .i64 0, .int .i64 0, .int .i64 0, .int .i64 0, .int .i64 0, .int .i64 0, .int .i64 0, .int .i64 0, .int .i64 0, .int .i64 0] 64)) a2)
  have hB2 : Hid (Below w.heap.size w ((w1.alloc (.cells #[.int .i64 0, .int .i64 0, .int .i64 0, .int .i64 0, .int .i64 0, .int .i64 0, .int .i64 0, .int .i64 0, .int .i64 0, .int .i64 0, .int .i64 0, .int .i64 0, .int .i64 0, .int .i64 0, .int .i64 0, .int .i64 0] 64)).setRow w1.heap.size (mC idl))) := Lib.hid (Below.row (hB1.alloc hB1.size _) hB1.size _)
  have R3 : Hid (MatAt w.heap.size zero16 ((w1.alloc (.cells #[.int .i64 0, .int .i64 0, .int .i64 0, .int .i64 0, .int .i64 0, .int .i64 0, .int .i64 0, .int .i64 0, .int .i64 0, .int .i64 0, .int .i64 0, .int .i64 0, .int .i64 0, .int .i64 0, .int .i64 0, .int .i64 0] 64)).setRow w1.heap.size (mC idl))) := Lib.hid (by unfold MatAt; rw [setRow_other _ _ _ _ (by omega)]; exact step_row q0)
  have R4 : Hid (MatAt w1.heap.size idl ((w1.alloc (.cells #[.int .i64 0, .int .i64 0, .int .i64 0, .int .i64 0, .int .i64 0, .int .i64 0, .int .i64 0, .int .i64 0, .int .i64 0, .int .i64 0, .int .i64 0, .int .i64 0, .int .i64 0, .int .i64 0, .int .i64 0, .int .i64 0] 64)).setRow w1.heap.size (mC idl))) := Lib.hid (setRow_heap _ _ _ _ _ _ R2.out)
  clear a1 a2 q0
  have r0 : (0 : Int) ≤ (r : Int) := by omega
  have r1 : (r : Int) < 4 := by omega
  have tok : True := trivial
  go_wp2_with (have _t := tok; refine wpList_store_big rfl 64 (.tmp 11) (.tmp 29) rfl w1.heap.size _ _ (mC idl) rfl rfl R2.out size16 rfl (mC_one _) ?_; clear tok; generalize World.setRow _ _ _ = V at hB2 R3 R4 a1' a2' ⊢)
  have k0 : V.cell? ⟨w1.heap.size, 10, none⟩ = some (.int .i64 (idl.getD 10 0)) := R4.out.cell (by decide)
  have k1 : V.cell? ⟨w1.heap.size, 8, none⟩ = some (.int .i64 (idl.getD 8 0)) := R4.out.cell (by decide)
  have k2 : V.cell? ⟨w1.heap.size, 2, none⟩ = some (.int .i64 (idl.getD 2 0)) := R4.out.cell (by decide)
  have k3 : V.cell? ⟨w1.heap.size, 0, none⟩ = some (.int .i64 (idl.getD 0 0)) := R4.out.cell (by decide)
  have f0 : V.frozen? ⟨w1.heap.size, 10, none⟩ = false := frozen_row R4.out
  have f1 : V.frozen? ⟨w1.heap.size, 8, none⟩ = false := frozen_row R4.out
  have f2 : V.frozen? ⟨w1.heap.size, 2, none⟩ = false := frozen_row R4.out
  have f3 : V.frozen? ⟨w1.heap.size, 0, none⟩ = false := frozen_row R4.out
  refine (wpIn_wide (n := 5)).1 (held_region (F := Fence.wide) (S := (fun X => X.cell? ⟨w.heap.size + 1, r, none⟩ = some (.int .i64 c) ∧ X.cell? ⟨w.heap.size + 1 + 1, r, none⟩ = some (.int .i64 s))) (by kernel_rfl) ⟨a1'.out, a2'.out⟩ (fun hHeld => ?_))
  refine held_take (fun _ => trivial) (by kernel_rfl) (i := 0) (oi := _) (v := ?_) rfl (by kernel_rfl) (by kernel_rfl) (by kernel_rfl) (fun _ _ _ h => h) (by assumption) (Or.inl ⟨by kernel_rfl, ?_⟩) ?_
  rotate_left
  · intro wz hSw; obtain ⟨h1, h2⟩ := hSw; (first | (go_simp; done) | (go_simp; with_reducible rfl))
  (try simp only [Act.put, List.getElem_toArray, List.getElem_cons_zero, List.getElem_cons_succ, List.setIfInBounds_toArray, List.set_cons_zero, List.set_cons_succ])
  refine held_take (fun _ => trivial) (by kernel_rfl) (i := 1) (oi := _) (v := ?_) rfl (by kernel_rfl) (by kernel_rfl) (by kernel_rfl) (fun _ _ _ h => h) (by assumption) (Or.inl ⟨by kernel_rfl, ?_⟩) ?_
  rotate_left
  · intro wz hSw; obtain ⟨h1, h2⟩ := hSw; (first | (go_simp; done) | (go_simp; with_reducible rfl))
  (try simp only [Act.put, List.getElem_toArray, List.getElem_cons_zero, List.getElem_cons_succ, List.setIfInBounds_toArray, List.set_cons_zero, List.set_cons_succ])
  refine held_take (fun _ => trivial) (by kernel_rfl) (i := 2) (oi := _) (v := ?_) rfl (by kernel_rfl) (by kernel_rfl) (by kernel_rfl) (fun _ _ _ h => h) (by assumption) (Or.inl ⟨by kernel_rfl, ?_⟩) ?_
  rotate_left
  · intro wz hSw; obtain ⟨h1, h2⟩ := hSw; (first | (go_simp; done) | (go_simp; with_reducible rfl))
  (try simp only [Act.put, List.getElem_toArray, List.getElem_cons_zero, List.getElem_cons_succ, List.setIfInBounds_toArray, List.set_cons_zero, List.set_cons_succ])
  refine held_take (fun _ => trivial) (by kernel_rfl) (i := 3) (oi := _) (v := ?_) rfl (by kernel_rfl) (by kernel_rfl) (by kernel_rfl) (fun _ _ _ h => h) (by assumption) (Or.inl ⟨by kernel_rfl, ?_⟩) ?_
  rotate_left
  · intro wz hSw; obtain ⟨h1, h2⟩ := hSw; (first | (go_simp; done) | (go_simp; with_reducible rfl))
  (try simp only [Act.put, List.getElem_toArray, List.getElem_cons_zero, List.getElem_cons_succ, List.setIfInBounds_toArray, List.set_cons_zero, List.set_cons_succ])
  refine held_take (fun _ => trivial) (by kernel_rfl) (i := 4) (oi := _) (v := ?_) rfl (by kernel_rfl) (by kernel_rfl) (by kernel_rfl) (fun _ _ _ h => h) (by assumption) (Or.inl ⟨by kernel_rfl, ?_⟩) ?_
  rotate_left
  · intro wz hSw; obtain ⟨h1, h2⟩ := hSw; (first | (go_simp; done) | (go_simp; with_reducible rfl))
  (try simp only [Act.put, List.getElem_toArray, List.getElem_cons_zero, List.getElem_cons_succ, List.setIfInBounds_toArray, List.set_cons_zero, List.set_cons_succ])
  refine held_take (fun _ => trivial) (by kernel_rfl) (i := 5) (oi := _) (v := ?_) rfl (by kernel_rfl) (by kernel_rfl) (by kernel_rfl) (fun _ _ _ h => h) (by assumption) (Or.inl ⟨by kernel_rfl, ?_⟩) ?_
  rotate_left
  · intro wz hSw; obtain ⟨h1, h2⟩ := hSw; (first | (go_simp; done) | (go_simp; with_reducible rfl))
  (try simp only [Act.put, List.getElem_toArray, List.getElem_cons_zero, List.getElem_cons_succ, List.setIfInBounds_toArray, List.set_cons_zero, List.set_cons_succ])
  refine held_take (fun _ => trivial) (by kernel_rfl) (i := 6) (oi := _) (v := ?_) rfl (by kernel_rfl) (by kernel_rfl) (by kernel_rfl) (fun _ _ _ h => h) (by assumption) (Or.inl ⟨by kernel_rfl, ?_⟩) ?_
  rotate_left
  · intro wz hSw; obtain ⟨h1, h2⟩ := hSw; (first | (go_simp; done) | (go_simp; with_reducible rfl))
  (try simp only [Act.put, List.getElem_toArray, List.getElem_cons_zero, List.getElem_cons_succ, List.setIfInBounds_toArray, List.set_cons_zero, List.set_cons_succ])
  refine held_take (fun _ => trivial) (by kernel_rfl) (i := 7) (oi := _) (v := ?_) rfl (by kernel_rfl) (by kernel_rfl) (by kernel_rfl) (fun _ _ _ h => h) (by assumption) (Or.inl ⟨by kernel_rfl, ?_⟩) ?_
  rotate_left
  · intro wz hSw; obtain ⟨h1, h2⟩ := hSw; (first | (go_simp; done) | (go_simp; with_reducible rfl))
  (try simp only [Act.put, List.getElem_toArray, List.getElem_cons_zero, List.getElem_cons_succ, List.setIfInBounds_toArray, List.set_cons_zero, List.set_cons_succ])
  refine held_take (fun _ => trivial) (by kernel_rfl) (i := 8) (oi := _) (v := ?_) rfl (by kernel_rfl) (by kernel_rfl) (by kernel_rfl) (fun _ _ _ h => h) (by assumption) (Or.inl ⟨by kernel_rfl, ?_⟩) ?_
  rotate_left
  · intro wz hSw; obtain ⟨h1, h2⟩ := hSw; (first | (go_simp; done) | (go_simp; with_reducible rfl))
  (try simp only [Act.put, List.getElem_toArray, List.getElem_cons_zero, List.getElem_cons_succ, List.setIfInBounds_toArray, List.set_cons_zero, List.set_cons_succ])
  refine held_take (fun _ => trivial) (by kernel_rfl) (i := 9) (oi := _) (v := ?_) rfl (by kernel_rfl) (by kernel_rfl) (by kernel_rfl) (fun _ _ _ h => h) (by assumption) (Or.inl ⟨by kernel_rfl, ?_⟩) ?_
  rotate_left
  · intro wz hSw; obtain ⟨h1, h2⟩ := hSw; (first | (go_simp; done) | (go_simp; with_reducible rfl))
  (try simp only [Act.put, List.getElem_toArray, List.getElem_cons_zero, List.getElem_cons_succ, List.setIfInBounds_toArray, List.set_cons_zero, List.set_cons_succ])
  refine held_take (fun _ => trivial) (by kernel_rfl) (i := 10) (oi := _) (v := ?_) rfl (by kernel_rfl) (by kernel_rfl) (by kernel_rfl) (fun _ _ _ h => h) (by assumption) (Or.inl ⟨by kernel_rfl, ?_⟩) ?_
  rotate_left
  · intro wz hSw; obtain ⟨h1, h2⟩ := hSw; (first | (go_simp; done) | (go_simp; with_reducible rfl))
  (try simp only [Act.put, List.getElem_toArray, List.getElem_cons_zero, List.getElem_cons_succ, List.setIfInBounds_toArray, List.set_cons_zero, List.set_cons_succ])
  refine held_take (fun _ => trivial) (by kernel_rfl) (i := 11) (oi := _) (v := ?_) rfl (by kernel_rfl) (by kernel_rfl) (by kernel_rfl) (fun _ _ _ h => h) (by assumption) (Or.inl ⟨by kernel_rfl, ?_⟩) ?_
  rotate_left
  · intro wz hSw; obtain ⟨h1, h2⟩ := hSw; (first | (go_simp; done) | (go_simp; with_reducible rfl))
  (try simp only [Act.put, List.getElem_toArray, List.getElem_cons_zero, List.getElem_cons_succ, List.setIfInBounds_toArray, List.set_cons_zero, List.set_cons_succ])
  refine held_take (fun _ => trivial) (by kernel_rfl) (i := 12) (oi := _) (v := ?_) rfl (by kernel_rfl) (by kernel_rfl) (by kernel_rfl) (fun _ _ _ h => h) (by assumption) (Or.inl ⟨by kernel_rfl, ?_⟩) ?_
  rotate_left
  · intro wz hSw; obtain ⟨h1, h2⟩ := hSw; (first | (go_simp; done) | (go_simp; with_reducible rfl))
  (try simp only [Act.put, List.getElem_toArray, List.getElem_cons_zero, List.getElem_cons_succ, List.setIfInBounds_toArray, List.set_cons_zero, List.set_cons_succ])
  refine held_take (fun _ => trivial) (by kernel_rfl) (i := 14) (oi := _) (v := ?_) rfl (by kernel_rfl) (by kernel_rfl) (by kernel_rfl) (fun _ _ _ h => h) (by assumption) (Or.inl ⟨by kernel_rfl, ?_⟩) ?_
  rotate_left
  · intro wz hSw; obtain ⟨h1, h2⟩ := hSw; (first | (go_simp; done) | (go_simp; with_reducible rfl))
  (try simp only [Act.put, List.getElem_toArray, List.getElem_cons_zero, List.getElem_cons_succ, List.setIfInBounds_toArray, List.set_cons_zero, List.set_cons_succ])
  refine held_step (fun _ => trivial) (i := 13) (o := _) (by kernel_rfl) rfl (fun K hK => ?_)
  go_simp
  refine hK.out _ _ ⟨(World.cell?_setCell_far _ _ _ _ (by show w1.heap.size ≠ w.heap.size + 1; omega)).trans hHeld.1, (World.cell?_setCell_far _ _ _ _ (by show w1.heap.size ≠ w.heap.size + 1 + 1; omega)).trans hHeld.2⟩ (fun hHeld => ?_)
  clear hK K
  (try simp only [Act.put, List.getElem_toArray, List.getElem_cons_zero, List.getElem_cons_succ, List.setIfInBounds_toArray, List.set_cons_zero, List.set_cons_succ])
  refine held_take (fun _ => trivial) (by kernel_rfl) (i := 15) (oi := _) (v := ?_) rfl (by kernel_rfl) (by kernel_rfl) (by kernel_rfl) (fun _ _ _ h => h) (by assumption) (Or.inl ⟨by kernel_rfl, ?_⟩) ?_
  rotate_left
  · intro wz hSw; obtain ⟨h1, h2⟩ := hSw; (first | (go_simp; done) | (go_simp; with_reducible rfl))
  (try simp only [Act.put, List.getElem_toArray, List.getElem_cons_zero, List.getElem_cons_succ, List.setIfInBounds_toArray, List.set_cons_zero, List.set_cons_succ])
  refine held_step (fun _ => trivial) (i := 16) (o := _) (by kernel_rfl) rfl (fun K hK => ?_)
  go_simp
  refine hK.out _ _ ⟨(World.cell?_setCell_far _ _ _ _ (by show w1.heap.size ≠ w.heap.size + 1; omega)).trans hHeld.1, (World.cell?_setCell_far _ _ _ _ (by show w1.heap.size ≠ w.heap.size + 1 + 1; omega)).trans hHeld.2⟩ (fun hHeld => ?_)
  clear hK K
  (try simp only [Act.put, List.getElem_toArray, List.getElem_cons_zero, List.getElem_cons_succ, List.setIfInBounds_toArray, List.set_cons_zero, List.set_cons_succ])
  refine held_done (by kernel_rfl) ?_ _
  go_wp2
  refine (wpIn_wide (n := 5)).1 (held_region (F := Fence.wide) (S := (fun X => X.cell? ⟨w.heap.size + 1, r, none⟩ = some (.int .i64 c) ∧ X.cell? ⟨w.heap.size + 1 + 1, r, none⟩ = some (.int .i64 s))) (by kernel_rfl) ⟨hHeld.1, hHeld.2⟩ (fun hHeld => ?_))
  refine held_take (fun _ => trivial) (by kernel_rfl) (i := 0) (oi := _) (v := ?_) rfl (by kernel_rfl) (by kernel_rfl) (by kernel_rfl) (fun _ _ _ h => h) (by assumption) (Or.inl ⟨by kernel_rfl, ?_⟩) ?_
  rotate_left
  · intro wz hSw; obtain ⟨h1, h2⟩ := hSw; (first | (go_simp; done) | (go_simp; with_reducible rfl))
  (try simp only [Act.put, List.getElem_toArray, List.getElem_cons_zero, List.getElem_cons_succ, List.setIfInBounds_toArray, List.set_cons_zero, List.set_cons_succ])
  refine held_take (fun _ => trivial) (by kernel_rfl) (i := 1) (oi := _) (v := ?_) rfl (by kernel_rfl) (by kernel_rfl) (by kernel_rfl) (fun _ _ _ h => h) (by assumption) (Or.inl ⟨by kernel_rfl, ?_⟩) ?_
  rotate_left
  · intro wz hSw; obtain ⟨h1, h2⟩ := hSw; (first | (go_simp; done) | (go_simp; with_reducible rfl))
  (try simp only [Act.put, List.getElem_toArray, List.getElem_cons_zero, List.getElem_cons_succ, List.setIfInBounds_toArray, List.set_cons_zero, List.set_cons_succ])
  refine held_take (fun _ => trivial) (by kernel_rfl) (i := 2) (oi := _) (v := ?_) rfl (by kernel_rfl) (by kernel_rfl) (by kernel_rfl) (fun _ _ _ h => h) (by assumption) (Or.inl ⟨by kernel_rfl, ?_⟩) ?_
  rotate_left
  · intro wz hSw; obtain ⟨h1, h2⟩ := hSw; (first | (go_simp; done) | (go_simp; with_reducible rfl))
  (try simp only [Act.put, List.getElem_toArray, List.getElem_cons_zero, List.getElem_cons_succ, List.setIfInBounds_toArray, List.set_cons_zero, List.set_cons_succ])
  refine held_take (fun _ => trivial) (by kernel_rfl) (i := 3) (oi := _) (v := ?_) rfl (by kernel_rfl) (by kernel_rfl) (by kernel_rfl) (fun _ _ _ h => h) (by assumption) (Or.inl ⟨by kernel_rfl, ?_⟩) ?_
  rotate_left
  · intro wz hSw; obtain ⟨h1, h2⟩ := hSw; (first | (go_simp; done) | (go_simp; with_reducible rfl))
  (try simp only [Act.put, List.getElem_toArray, List.getElem_cons_zero, List.getElem_cons_succ, List.setIfInBounds_toArray, List.set_cons_zero, List.set_cons_succ])
  refine held_take (fun _ => trivial) (by kernel_rfl) (i := 4) (oi := _) (v := ?_) rfl (by kernel_rfl) (by kernel_rfl) (by kernel_rfl) (fun _ _ _ h => h) (by assumption) (Or.inl ⟨by kernel_rfl, ?_⟩) ?_
  rotate_left
  · intro wz hSw; obtain ⟨h1, h2⟩ := hSw; (first | (go_simp; done) | (go_simp; with_reducible rfl))
  (try simp only [Act.put, List.getElem_toArray, List.getElem_cons_zero, List.getElem_cons_succ, List.setIfInBounds_toArray, List.set_cons_zero, List.set_cons_succ])
  refine held_take (fun _ => trivial) (by kernel_rfl) (i := 5) (oi := _) (v := ?_) rfl (by kernel_rfl) (by kernel_rfl) (by kernel_rfl) (fun _ _ _ h => h) (by assumption) (Or.inl ⟨by kernel_rfl, ?_⟩) ?_
  rotate_left
  · intro wz hSw; obtain ⟨h1, h2⟩ := hSw; (first | (go_simp; done) | (go_simp; with_reducible rfl))
  (try simp only [Act.put, List.getElem_toArray, List.getElem_cons_zero, List.getElem_cons_succ, List.setIfInBounds_toArray, List.set_cons_zero, List.set_cons_succ])
  refine held_take (fun _ => trivial) (by kernel_rfl) (i := 6) (oi := _) (v := ?_) rfl (by kernel_rfl) (by kernel_rfl) (by kernel_rfl) (fun _ _ _ h => h) (by assumption) (Or.inl ⟨by kernel_rfl, ?_⟩) ?_
  rotate_left
  · intro wz hSw; obtain ⟨h1, h2⟩ := hSw; (first | (go_simp; done) | (go_simp; with_reducible rfl))
  (try simp only [Act.put, List.getElem_toArray, List.getElem_cons_zero, List.getElem_cons_succ, List.setIfInBounds_toArray, List.set_cons_zero, List.set_cons_succ])
  refine held_take (fun _ => trivial) (by kernel_rfl) (i := 7) (oi := _) (v := ?_) rfl (by kernel_rfl) (by kernel_rfl) (by kernel_rfl) (fun _ _ _ h => h) (by assumption) (Or.inl ⟨by kernel_rfl, ?_⟩) ?_
  rotate_left
  · intro wz hSw; obtain ⟨h1, h2⟩ := hSw; (first | (go_simp; done) | (go_simp; with_reducible rfl))
  (try simp only [Act.put, List.getElem_toArray, List.getElem_cons_zero, List.getElem_cons_succ, List.setIfInBounds_toArray, List.set_cons_zero, List.set_cons_succ])
  refine held_take (fun _ => trivial) (by kernel_rfl) (i := 8) (oi := _) (v := ?_) rfl (by kernel_rfl) (by kernel_rfl) (by kernel_rfl) (fun _ _ _ h => h) (by assumption) (Or.inl ⟨by kernel_rfl, ?_⟩) ?_
  rotate_left
  · intro wz hSw; obtain ⟨h1, h2⟩ := hSw; (first | (go_simp; done) | (go_simp; with_reducible rfl))
  (try simp only [Act.put, List.getElem_toArray, List.getElem_cons_zero, List.getElem_cons_succ, List.setIfInBounds_toArray, List.set_cons_zero, List.set_cons_succ])
  refine held_take (fun _ => trivial) (by kernel_rfl) (i := 9) (oi := _) (v := ?_) rfl (by kernel_rfl) (by kernel_rfl) (by kernel_rfl) (fun _ _ _ h => h) (by assumption) (Or.inl ⟨by kernel_rfl, ?_⟩) ?_
  rotate_left
  · intro wz hSw; obtain ⟨h1, h2⟩ := hSw; (first | (go_simp; done) | (go_simp; with_reducible rfl))
  (try simp only [Act.put, List.getElem_toArray, List.getElem_cons_zero, List.getElem_cons_succ, List.setIfInBounds_toArray, List.set_cons_zero, List.set_cons_succ])
  refine held_take (fun _ => trivial) (by kernel_rfl) (i := 10) (oi := _) (v := ?_) rfl (by kernel_rfl) (by kernel_rfl) (by kernel_rfl) (fun _ _ _ h => h) (by assumption) (Or.inl ⟨by kernel_rfl, ?_⟩) ?_
  rotate_left
  · intro wz hSw; obtain ⟨h1, h2⟩ := hSw; (first | (go_simp; done) | (go_simp; with_reducible rfl))
  (try simp only [Act.put, List.getElem_toArray, List.getElem_cons_zero, List.getElem_cons_succ, List.setIfInBounds_toArray, List.set_cons_zero, List.set_cons_succ])
  refine held_take (fun _ => trivial) (by kernel_rfl) (i := 11) (oi := _) (v := ?_) rfl (by kernel_rfl) (by kernel_rfl) (by kernel_rfl) (fun _ _ _ h => h) (by assumption) (Or.inl ⟨by kernel_rfl, ?_⟩) ?_
  rotate_left
  · intro wz hSw; obtain ⟨h1, h2⟩ := hSw; (first | (go_simp; done) | (go_simp; with_reducible rfl))
  (try simp only [Act.put, List.getElem_toArray, List.getElem_cons_zero, List.getElem_cons_succ, List.setIfInBounds_toArray, List.set_cons_zero, List.set_cons_succ])
  refine held_take (fun _ => trivial) (by kernel_rfl) (i := 13) (oi := _) (v := ?_) rfl (by kernel_rfl) (by kernel_rfl) (by kernel_rfl) (fun _ _ _ h => h) (by assumption) (Or.inl ⟨by kernel_rfl, ?_⟩) ?_
  rotate_left
  · intro wz hSw; obtain ⟨h1, h2⟩ := hSw; (first | (go_simp; done) | (go_simp; with_reducible rfl))
  (try simp only [Act.put, List.getElem_toArray, List.getElem_cons_zero, List.getElem_cons_succ, List.setIfInBounds_toArray, List.set_cons_zero, List.set_cons_succ])
  refine held_step (fun _ => trivial) (i := 12) (o := _) (by kernel_rfl) rfl (fun K hK => ?_)
  go_simp
  refine hK.out _ _ ⟨(World.cell?_setCell_far _ _ _ _ (by show w1.heap.size ≠ w.heap.size + 1; omega)).trans hHeld.1, (World.cell?_setCell_far _ _ _ _ (by show w1.heap.size ≠ w.heap.size + 1 + 1; omega)).trans hHeld.2⟩ (fun hHeld => ?_)
  clear hK K
  (try simp only [Act.put, List.getElem_toArray, List.getElem_cons_zero, List.getElem_cons_succ, List.setIfInBounds_toArray, List.set_cons_zero, List.set_cons_succ])
  refine held_take (fun _ => trivial) (by kernel_rfl) (i := 14) (oi := _) (v := ?_) rfl (by kernel_rfl) (by kernel_rfl) (by kernel_rfl) (fun _ _ _ h => h) (by assumption) (Or.inl ⟨by kernel_rfl, ?_⟩) ?_
  rotate_left
  · intro wz hSw; obtain ⟨h1, h2⟩ := hSw; (first | (go_simp; done) | (go_simp; with_reducible rfl))
  (try simp only [Act.put, List.getElem_toArray, List.getElem_cons_zero, List.getElem_cons_succ, List.setIfInBounds_toArray, List.set_cons_zero, List.set_cons_succ])
  refine held_step (fun _ => trivial) (i := 15) (o := _) (by kernel_rfl) rfl (fun K hK => ?_)
  go_simp
  refine hK.out _ _ ⟨(World.cell?_setCell_far _ _ _ _ (by show w1.heap.size ≠ w.heap.size + 1; omega)).trans hHeld.1, (World.cell?_setCell_far _ _ _ _ (by show w1.heap.size ≠ w.heap.size + 1 + 1; omega)).trans hHeld.2⟩ (fun hHeld => ?_)
  clear hK K
  (try simp only [Act.put, List.getElem_toArray, List.getElem_cons_zero, List.getElem_cons_succ, List.setIfInBounds_toArray, List.set_cons_zero, List.set_cons_succ])
  refine held_done (by kernel_rfl) ?_ _
  have hneg : IntKind.i64.wrap (-s) = -s := by rw [IntKind.wrap_i64]; omega
  have m4 : MatAt w1.heap.size (trnL 2 0 c s) ((((V.setCell ⟨w1.heap.size, 10, none⟩ (.int .i64 c)).setCell ⟨w1.heap.size, 8, none⟩ (.int .i64 (IntKind.i64.wrap (-s)))).setCell ⟨w1.heap.size, 2, none⟩ (.int .i64 s)).setCell ⟨w1.heap.size, 0, none⟩ (.int .i64 c)).drew.drew := by
    have := (((R4.out.set (j := 10) c).set (j := 8) (IntKind.i64.wrap (-s))).set (j := 2) s).set (j := 0) c
    rw [hneg] at this ⊢
    exact this
  have m3 : MatAt w.heap.size zero16 ((((V.setCell ⟨w1.heap.size, 10, none⟩ (.int .i64 c)).setCell ⟨w1.heap.size, 8, none⟩ (.int .i64 (IntKind.i64.wrap (-s)))).setCell ⟨w1.heap.size, 2, none⟩ (.int .i64 s)).setCell ⟨w1.heap.size, 0, none⟩ (.int .i64 c)).drew.drew := (((R3.out.other _ (by omega)).other _ (by omega)).other _ (by omega)).other _ (by omega)
  have hB4 : Below w.heap.size w ((((V.setCell ⟨w1.heap.size, 10, none⟩ (.int .i64 c)).setCell ⟨w1.heap.size, 8, none⟩ (.int .i64 (IntKind.i64.wrap (-s)))).setCell ⟨w1.heap.size, 2, none⟩ (.int .i64 s)).setCell ⟨w1.heap.size, 0, none⟩ (.int .i64 c)).drew.drew := Below.drew (Below.drew ((((hB2.out.setCell (p := ⟨w1.heap.size, 10, none⟩) (by show _ ≤ w1.heap.size; omega) _).setCell (p := ⟨w1.heap.size, 8, none⟩) (by show _ ≤ w1.heap.size; omega) _).setCell (p := ⟨w1.heap.size, 2, none⟩) (by show _ ≤ w1.heap.size; omega) _).setCell (p := ⟨w1.heap.size, 0, none⟩) (by show _ ≤ w1.heap.size; omega) _))
  clear hHeld hneg
  generalize ((((V.setCell ⟨w1.heap.size, 10, none⟩ (.int .i64 c)).setCell ⟨w1.heap.size, 8, none⟩ (.int .i64 (IntKind.i64.wrap (-s)))).setCell ⟨w1.heap.size, 2, none⟩ (.int .i64 s)).setCell ⟨w1.heap.size, 0, none⟩ (.int .i64 c)).drew.drew = X at m4 m3 hB4 ⊢
  have M4 := Lib.hid m4
  have M3 := Lib.hid m3
  have HB4 := Lib.hid hB4
  have itn : Hid ((Try.prog.info? 64).map (·.size) = some (mC (trnL 2 0 c s)).size) := Lib.hid (by rw [size16, mC_size, trnL_len])
  have itz : Hid ((mC zero16).size = (mC (trnL 2 0 c s)).size) := Lib.hid (by rw [mC_size, mC_size, trnL_len]; rfl)
  clear m4 m3 hB4 k0 k1 k2 k3 f0 f1 f2 f3
  go_wp2_with (first | (refine wpList_load_row rfl 64 (.tmp 11) rfl w1.heap.size rfl _ _ _ _ M4.out Try.underlying64 rfl itn.out ?_) | (refine wpList_store_big rfl 64 (.tmp 4) (.tmp 59) rfl w.heap.size _ _ (mC (trnL 2 0 c s)) rfl rfl M3.out itn.out itz.out (mC_one _) ?_))
  refine bodyPost_ret (results_row2 rfl _ _ w.heap.size _ (mC (trnL 2 0 c s)) _ _ (.int .i64 0) rfl rfl (setRow_heap _ _ _ _ _ _ M3.out) Try.underlying64 rfl itn.out) rfl ?_
  exact ⟨rfl, Below.row HB4.out (Nat.le_refl _) _⟩
set_option maxRecDepth 100000 in
set_option maxHeartbeats 4000000 in
theorem turn_ax2 (q : Int) (r : Nat) (hr : r < 4) (hq : q % 4 = (r : Int)) (w : World) : Calls Try.prog 42 #[.int .i64 2, .int .i64 q] w fun e w' => e = .returned (.tuple #[.agg (mC (trnL 0 1 (cosL r) (sinL r))), .int .i64 0]) ∧ Below w.heap.size w w' := by
  have HB : Hid (bits .and .i64 q 3 = (r : Int)) := Lib.hid ((and3 q).trans hq)
  clear hq
  have hc : cosL r = [65536, 0, -65536, 0].getD r 0 := rfl
  have hs : sinL r = [0, 65536, 0, -65536].getD r 0 := rfl
  have cb : -65536 ≤ sinL r ∧ sinL r ≤ 65536 := by
    have hd : r = 0 ∨ r = 1 ∨ r = 2 ∨ r = 3 := by omega
    rcases hd with rfl | rfl | rfl | rfl <;> decide
  obtain ⟨sb0, sb1⟩ := cb
  generalize cosL r = c at hc ⊢
  generalize sinL r = s at hs sb0 sb1 ⊢
  have HCC := Lib.hid hc
  have HSS := Lib.hid hs
  clear hc hs
  go_enter Try.func42, Try.ntmps42
  go_wp2_with fail
  rw [HB.out]
  refine (identity_any _).mono ?_
  rintro e w1 ⟨rfl, hb⟩
  have h3 := block3s w (.cells #[.int .i64 0, .int .i64 0, .int .i64 0, .int .i64 0, .int .i64 0, .int .i64 0, .int .i64 0, .int .i64 0, .int .i64 0, .int .i64 0, .int .i64 0, .int .i64 0, .int .i64 0, .int .i64 0, .int .i64 0, .int .i64 0] 64) (.cells #[.int .i64 65536, .int .i64 0, .int .i64 (-65536), .int .i64 0] 61) (.cells #[.int .i64 0, .int .i64 65536, .int .i64 0, .int .i64 (-65536)] 61)
  have q0 := keep_row hb h3.1
  have q1 := keep_row hb h3.2.1
  have q2 := keep_row hb h3.2.2
  have hsz := hb.size
  simp only [World.size_alloc] at hsz
  have hB1 : Below w.heap.size w w1 := (by go_grown : Below w.heap.size w _).trans (hb.mono (by simp; omega))
  clear h3 hb
  have a1 := arr_cell r hr (w.heap.size + 1) _ _ _ _ _ w1 q1
  have a2 := arr_cell r hr (w.heap.size + 1 + 1) _ _ _ _ _ w1 q2
  rw [← HCC.out] at a1
  rw [← HSS.out] at a2
  clear q1 q2
  have R2 := Lib.hid (show (w1.alloc (.cells #[.int .i64 0, .int .i64 0, .int .i64 0, .int .i64 0, .int .i64 0, .int .i64 0, .int .i64 0, .int .i64 0, .int .i64 0, .int .i64 0, .int .i64 0, .int .i64 0, .int .i64 0, .int .i64 0, .int .i64 0, .int .i64 0] 64)).heap[w1.heap.size]? = some (.cells #[.int .i64 0, .int .i64 0, .int .i64 0, .int .i64 0, .int .i64 0, .int .i64 0, .int .i64 0, .int .i64 0, .int .i64 0, .int .i64 0, .int .i64 0, .int .i64 0, .int .i64 0, .int .i64 0, .int .i64 0, .int .i64 0] 64 (0, 0)) from heap_alloc_new _ _)
  have a1' : Hid (((w1.alloc (.cells #[.int .i64 0, .int .i64 0, .int .i64 0, .int .i64 0, .int .i64 0, .int .i64 0, .int .i64 0, .int .i64 0, .int .i64 0, .int .i64 0, .int .i64 0, .int .i64 0, .int .i64 0, .int .i64 0, .int .i64 0, .int .i64 0] 64)).setRow w1.heap.size (mC idl)).cell? ⟨w.heap.size + 1, r, none⟩ = some (.int .i64 c)) := Lib.hid (by simp only [World.cell?]; rw [setRow_other _ _ _ _ (by show w.heap.size + 1 ≠ w1.heap.size; omega)]; exact cell_alloc (o := (.cells #[.int .i64 0, .int .i64 0, .int .i64 0, .int .i64 0, .int .i64 0, .int .i64 0, .int .i64 0, .int .i64 0, .int .i64 0, .int .i64 0, .int .i64 0, .int .i64 0, .int .i64 0, .int .i64 0, .int .i64 0, .int .i64 0] 64)) a1)
  have a2' : Hid (((w1.alloc (.cells #[.int .i64 0, .int .i64 0, .int .i64 0, .int .i64 0, .int .i64 0, .int .i64 0, .int .i64 0, .int .i64 0, .int .i64 0, .int .i64 0, .int .i64 0, .int .i64 0, .int .i64 0, .int .i64 0, .int .i64 0, .int .i64 0] 64)).setRow w1.heap.size (mC idl)).cell? ⟨w.heap.size + 1 + 1, r, none⟩ = some (.int .i64 s)) := Lib.hid (by simp only [World.cell?]; rw [setRow_other _ _ _ _ (by show w.heap.size + 1 + 1 ≠ w1.heap.size; omega)]; exact cell_alloc (o := (.cells #[.int .i64 0, .int .i64 0, .int .i64 0, .int .i64 0, .int .i64 0, .int .i64 0, .int .i64 0, .int .i64 0, .int .i64 0, .int .i64 0, .int .i64 0, .int .i64 0, .int .i64 0, .int .i64 0, .int .i64 0, .int .i64 0] 64)) a2)
  have hB2 : Hid (Below w.heap.size w ((w1.alloc (.cells #[.int .i64 0, .int .i64 0, .int .i64 0, .int .i64 0, .int .i64 0, .int .i64 0, .int .i64 0, .int .i64 0, .int .i64 0, .int .i64 0, .int .i64 0, .int .i64 0, .int .i64 0, .int .i64 0, .int .i64 0, .int .i64 0] 64)).setRow w1.heap.size (mC idl))) := Lib.hid (Below.row (hB1.alloc hB1.size _) hB1.size _)
  have R3 : Hid (MatAt w.heap.size zero16 ((w1.alloc (.cells #[.int .i64 0, .int .i64 0, .int .i64 0, .int .i64 0, .int .i64 0, .int .i64 0, .int .i64 0, .int .i64 0, .int .i64 0, .int .i64 0, .int .i64 0, .int .i64 0, .int .i64 0, .int .i64 0, .int .i64 0, .int .i64 0] 64)).setRow w1.heap.size (mC idl))) := Lib.hid (by unfold MatAt; rw [setRow_other _ _ _ _ (by omega)]; exact step_row q0)
  have R4 : Hid (MatAt w1.heap.size idl ((w1.alloc (.cells #[.int .i64 0, .int .i64 0, .int .i64 0, .int .i64 0, .int .i64 0, .int .i64 0, .int .i64 0, .int .i64 0, .int .i64 0, .int .i64 0, .int .i64 0, .int .i64 0, .int .i64 0, .int .i64 0, .int .i64 0, .int .i64 0] 64)).setRow w1.heap.size (mC idl))) := Lib.hid (setRow_heap _ _ _ _ _ _ R2.out)
  clear a1 a2 q0
  have r0 : (0 : Int) ≤ (r : Int) := by omega
  have r1 : (r : Int) < 4 := by omega
  have tok : True := trivial
  go_wp2_with (have _t := tok; refine wpList_store_big rfl 64 (.tmp 11) (.tmp 29) rfl w1.heap.size _ _ (mC idl) rfl rfl R2.out size16 rfl (mC_one _) ?_; clear tok; generalize World.setRow _ _ _ = V at hB2 R3 R4 a1' a2' ⊢)
  have k0 : V.cell? ⟨w1.heap.size, 0, none⟩ = some (.int .i64 (idl.getD 0 0)) := R4.out.cell (by decide)
  have k1 : V.cell? ⟨w1.heap.size, 1, none⟩ = some (.int .i64 (idl.getD 1 0)) := R4.out.cell (by decide)
  have k2 : V.cell? ⟨w1.heap.size, 4, none⟩ = some (.int .i64 (idl.getD 4 0)) := R4.out.cell (by decide)
  have k3 : V.cell? ⟨w1.heap.size, 5, none⟩ = some (.int .i64 (idl.getD 5 0)) := R4.out.cell (by decide)
  have f0 : V.frozen? ⟨w1.heap.size, 0, none⟩ = false := frozen_row R4.out
  have f1 : V.frozen? ⟨w1.heap.size, 1, none⟩ = false := frozen_row R4.out
  have f2 : V.frozen? ⟨w1.heap.size, 4, none⟩ = false := frozen_row R4.out
  have f3 : V.frozen? ⟨w1.heap.size, 5, none⟩ = false := frozen_row R4.out
  refine (wpIn_wide (n := 5)).1 (held_region (F := Fence.wide) (S := (fun X => X.cell? ⟨w.heap.size + 1, r, none⟩ = some (.int .i64 c) ∧ X.cell? ⟨w.heap.size + 1 + 1, r, none⟩ = some (.int .i64 s))) (by kernel_rfl) ⟨a1'.out, a2'.out⟩ (fun hHeld => ?_))
  refine held_take (fun _ => trivial) (by kernel_rfl) (i := 0) (oi := _) (v := ?_) rfl (by kernel_rfl) (by kernel_rfl) (by kernel_rfl) (fun _ _ _ h => h) (by assumption) (Or.inl ⟨by kernel_rfl, ?_⟩) ?_
  rotate_left
  · intro wz hSw; obtain ⟨h1, h2⟩ := hSw; (first | (go_simp; done) | (go_simp; with_reducible rfl))
  (try simp only [Act.put, List.getElem_toArray, List.getElem_cons_zero, List.getElem_cons_succ, List.setIfInBounds_toArray, List.set_cons_zero, List.set_cons_succ])
  refine held_take (fun _ => trivial) (by kernel_rfl) (i := 1) (oi := _) (v := ?_) rfl (by kernel_rfl) (by kernel_rfl) (by kernel_rfl) (fun _ _ _ h => h) (by assumption) (Or.inl ⟨by kernel_rfl, ?_⟩) ?_
  rotate_left
  · intro wz hSw; obtain ⟨h1, h2⟩ := hSw; (first | (go_simp; done) | (go_simp; with_reducible rfl))
  (try simp only [Act.put, List.getElem_toArray, List.getElem_cons_zero, List.getElem_cons_succ, List.setIfInBounds_toArray, List.set_cons_zero, List.set_cons_succ])
  refine held_take (fun _ => trivial) (by kernel_rfl) (i := 2) (oi := _) (v := ?_) rfl (by kernel_rfl) (by kernel_rfl) (by kernel_rfl) (fun _ _ _ h => h) (by assumption) (Or.inl ⟨by kernel_rfl, ?_⟩) ?_
  rotate_left
  · intro wz hSw; obtain ⟨h1, h2⟩ := hSw; (first | (go_simp; done) | (go_simp; with_reducible rfl))
  (try simp only [Act.put, List.getElem_toArray, List.getElem_cons_zero, List.getElem_cons_succ, List.setIfInBounds_toArray, List.set_cons_zero, List.set_cons_succ])
  refine held_take (fun _ => trivial) (by kernel_rfl) (i := 3) (oi := _) (v := ?_) rfl (by kernel_rfl) (by kernel_rfl) (by kernel_rfl) (fun _ _ _ h => h) (by assumption) (Or.inl ⟨by kernel_rfl, ?_⟩) ?_
  rotate_left
  · intro wz hSw; obtain ⟨h1, h2⟩ := hSw; (first | (go_simp; done) | (go_simp; with_reducible rfl))
  (try simp only [Act.put, List.getElem_toArray, List.getElem_cons_zero, List.getElem_cons_succ, List.setIfInBounds_toArray, List.set_cons_zero, List.set_cons_succ])
  refine held_take (fun _ => trivial) (by kernel_rfl) (i := 4) (oi := _) (v := ?_) rfl (by kernel_rfl) (by kernel_rfl) (by kernel_rfl) (fun _ _ _ h => h) (by assumption) (Or.inl ⟨by kernel_rfl, ?_⟩) ?_
  rotate_left
  · intro wz hSw; obtain ⟨h1, h2⟩ := hSw; (first | (go_simp; done) | (go_simp; with_reducible rfl))
  (try simp only [Act.put, List.getElem_toArray, List.getElem_cons_zero, List.getElem_cons_succ, List.setIfInBounds_toArray, List.set_cons_zero, List.set_cons_succ])
  refine held_take (fun _ => trivial) (by kernel_rfl) (i := 5) (oi := _) (v := ?_) rfl (by kernel_rfl) (by kernel_rfl) (by kernel_rfl) (fun _ _ _ h => h) (by assumption) (Or.inl ⟨by kernel_rfl, ?_⟩) ?_
  rotate_left
  · intro wz hSw; obtain ⟨h1, h2⟩ := hSw; (first | (go_simp; done) | (go_simp; with_reducible rfl))
  (try simp only [Act.put, List.getElem_toArray, List.getElem_cons_zero, List.getElem_cons_succ, List.setIfInBounds_toArray, List.set_cons_zero, List.set_cons_succ])
  refine held_take (fun _ => trivial) (by kernel_rfl) (i := 6) (oi := _) (v := ?_) rfl (by kernel_rfl) (by kernel_rfl) (by kernel_rfl) (fun _ _ _ h => h) (by assumption) (Or.inl ⟨by kernel_rfl, ?_⟩) ?_
  rotate_left
  · intro wz hSw; obtain ⟨h1, h2⟩ := hSw; (first | (go_simp; done) | (go_simp; with_reducible rfl))
  (try simp only [Act.put, List.getElem_toArray, List.getElem_cons_zero, List.getElem_cons_succ, List.setIfInBounds_toArray, List.set_cons_zero, List.set_cons_succ])
  refine held_take (fun _ => trivial) (by kernel_rfl) (i := 7) (oi := _) (v := ?_) rfl (by kernel_rfl) (by kernel_rfl) (by kernel_rfl) (fun _ _ _ h => h) (by assumption) (Or.inl ⟨by kernel_rfl, ?_⟩) ?_
  rotate_left
  · intro wz hSw; obtain ⟨h1, h2⟩ := hSw; (first | (go_simp; done) | (go_simp; with_reducible rfl))
  (try simp only [Act.put, List.getElem_toArray, List.getElem_cons_zero, List.getElem_cons_succ, List.setIfInBounds_toArray, List.set_cons_zero, List.set_cons_succ])
  refine held_take (fun _ => trivial) (by kernel_rfl) (i := 8) (oi := _) (v := ?_) rfl (by kernel_rfl) (by kernel_rfl) (by kernel_rfl) (fun _ _ _ h => h) (by assumption) (Or.inl ⟨by kernel_rfl, ?_⟩) ?_
  rotate_left
  · intro wz hSw; obtain ⟨h1, h2⟩ := hSw; (first | (go_simp; done) | (go_simp; with_reducible rfl))
  (try simp only [Act.put, List.getElem_toArray, List.getElem_cons_zero, List.getElem_cons_succ, List.setIfInBounds_toArray, List.set_cons_zero, List.set_cons_succ])
  refine held_take (fun _ => trivial) (by kernel_rfl) (i := 9) (oi := _) (v := ?_) rfl (by kernel_rfl) (by kernel_rfl) (by kernel_rfl) (fun _ _ _ h => h) (by assumption) (Or.inl ⟨by kernel_rfl, ?_⟩) ?_
  rotate_left
  · intro wz hSw; obtain ⟨h1, h2⟩ := hSw; (first | (go_simp; done) | (go_simp; with_reducible rfl))
  (try simp only [Act.put, List.getElem_toArray, List.getElem_cons_zero, List.getElem_cons_succ, List.setIfInBounds_toArray, List.set_cons_zero, List.set_cons_succ])
  refine held_take (fun _ => trivial) (by kernel_rfl) (i := 10) (oi := _) (v := ?_) rfl (by kernel_rfl) (by kernel_rfl) (by kernel_rfl) (fun _ _ _ h => h) (by assumption) (Or.inl ⟨by kernel_rfl, ?_⟩) ?_
  rotate_left
  · intro wz hSw; obtain ⟨h1, h2⟩ := hSw; (first | (go_simp; done) | (go_simp; with_reducible rfl))
  (try simp only [Act.put, List.getElem_toArray, List.getElem_cons_zero, List.getElem_cons_succ, List.setIfInBounds_toArray, List.set_cons_zero, List.set_cons_succ])
  refine held_take (fun _ => trivial) (by kernel_rfl) (i := 11) (oi := _) (v := ?_) rfl (by kernel_rfl) (by kernel_rfl) (by kernel_rfl) (fun _ _ _ h => h) (by assumption) (Or.inl ⟨by kernel_rfl, ?_⟩) ?_
  rotate_left
  · intro wz hSw; obtain ⟨h1, h2⟩ := hSw; (first | (go_simp; done) | (go_simp; with_reducible rfl))
  (try simp only [Act.put, List.getElem_toArray, List.getElem_cons_zero, List.getElem_cons_succ, List.setIfInBounds_toArray, List.set_cons_zero, List.set_cons_succ])
  refine held_take (fun _ => trivial) (by kernel_rfl) (i := 12) (oi := _) (v := ?_) rfl (by kernel_rfl) (by kernel_rfl) (by kernel_rfl) (fun _ _ _ h => h) (by assumption) (Or.inl ⟨by kernel_rfl, ?_⟩) ?_
  rotate_left
  · intro wz hSw; obtain ⟨h1, h2⟩ := hSw; (first | (go_simp; done) | (go_simp; with_reducible rfl))
  (try simp only [Act.put, List.getElem_toArray, List.getElem_cons_zero, List.getElem_cons_succ, List.setIfInBounds_toArray, List.set_cons_zero, List.set_cons_succ])
  refine held_take (fun _ => trivial) (by kernel_rfl) (i := 14) (oi := _) (v := ?_) rfl (by kernel_rfl) (by kernel_rfl) (by kernel_rfl) (fun _ _ _ h => h) (by assumption) (Or.inl ⟨by kernel_rfl, ?_⟩) ?_
  rotate_left
  · intro wz hSw; obtain ⟨h1, h2⟩ := hSw; (first | (go_simp; done) | (go_simp; with_reducible rfl))
  (try simp only [Act.put, List.getElem_toArray, List.getElem_cons_zero, List.getElem_cons_succ, List.setIfInBounds_toArray, List.set_cons_zero, List.set_cons_succ])
  refine held_step (fun _ => trivial) (i := 13) (o := _) (by kernel_rfl) rfl (fun K hK => ?_)
  go_simp
  refine hK.out _ _ ⟨(World.cell?_setCell_far _ _ _ _ (by show w1.heap.size ≠ w.heap.size + 1; omega)).trans hHeld.1, (World.cell?_setCell_far _ _ _ _ (by show w1.heap.size ≠ w.heap.size + 1 + 1; omega)).trans hHeld.2⟩ (fun hHeld => ?_)
  clear hK K
  (try simp only [Act.put, List.getElem_toArray, List.getElem_cons_zero, List.getElem_cons_succ, List.setIfInBounds_toArray, List.set_cons_zero, List.set_cons_succ])
  refine held_take (fun _ => trivial) (by kernel_rfl) (i := 15) (oi := _) (v := ?_) rfl (by kernel_rfl) (by kernel_rfl) (by kernel_rfl) (fun _ _ _ h => h) (by assumption) (Or.inl ⟨by kernel_rfl, ?_⟩) ?_
  rotate_left
  · intro wz hSw; obtain ⟨h1, h2⟩ := hSw; (first | (go_simp; done) | (go_simp; with_reducible rfl))
  (try simp only [Act.put, List.getElem_toArray, List.getElem_cons_zero, List.getElem_cons_succ, List.setIfInBounds_toArray, List.set_cons_zero, List.set_cons_succ])
  refine held_step (fun _ => trivial) (i := 16) (o := _) (by kernel_rfl) rfl (fun K hK => ?_)
  go_simp
  refine hK.out _ _ ⟨(World.cell?_setCell_far _ _ _ _ (by show w1.heap.size ≠ w.heap.size + 1; omega)).trans hHeld.1, (World.cell?_setCell_far _ _ _ _ (by show w1.heap.size ≠ w.heap.size + 1 + 1; omega)).trans hHeld.2⟩ (fun hHeld => ?_)
  clear hK K
  (try simp only [Act.put, List.getElem_toArray, List.getElem_cons_zero, List.getElem_cons_succ, List.setIfInBounds_toArray, List.set_cons_zero, List.set_cons_succ])
  refine held_done (by kernel_rfl) ?_ _
  go_wp2
  refine (wpIn_wide (n := 5)).1 (held_region (F := Fence.wide) (S := (fun X => X.cell? ⟨w.heap.size + 1, r, none⟩ = some (.int .i64 c) ∧ X.cell? ⟨w.heap.size + 1 + 1, r, none⟩ = some (.int .i64 s))) (by kernel_rfl) ⟨hHeld.1, hHeld.2⟩ (fun hHeld => ?_))
  refine held_take (fun _ => trivial) (by kernel_rfl) (i := 0) (oi := _) (v := ?_) rfl (by kernel_rfl) (by kernel_rfl) (by kernel_rfl) (fun _ _ _ h => h) (by assumption) (Or.inl ⟨by kernel_rfl, ?_⟩) ?_
  rotate_left
  · intro wz hSw; obtain ⟨h1, h2⟩ := hSw; (first | (go_simp; done) | (go_simp; with_reducible rfl))
  (try simp only [Act.put, List.getElem_toArray, List.getElem_cons_zero, List.getElem_cons_succ, List.setIfInBounds_toArray, List.set_cons_zero, List.set_cons_succ])
  refine held_take (fun _ => trivial) (by kernel_rfl) (i := 1) (oi := _) (v := ?_) rfl (by kernel_rfl) (by kernel_rfl) (by kernel_rfl) (fun _ _ _ h => h) (by assumption) (Or.inl ⟨by kernel_rfl, ?_⟩) ?_
  rotate_left
  · intro wz hSw; obtain ⟨h1, h2⟩ := hSw; (first | (go_simp; done) | (go_simp; with_reducible rfl))
  (try simp only [Act.put, List.getElem_toArray, List.getElem_cons_zero, List.getElem_cons_succ, List.setIfInBounds_toArray, List.set_cons_zero, List.set_cons_succ])
  refine held_take (fun _ => trivial) (by kernel_rfl) (i := 2) (oi := _) (v := ?_) rfl (by kernel_rfl) (by kernel_rfl) (by kernel_rfl) (fun _ _ _ h => h) (by assumption) (Or.inl ⟨by kernel_rfl, ?_⟩) ?_
  rotate_left
  · intro wz hSw; obtain ⟨h1, h2⟩ := hSw; (first | (go_simp; done) | (go_simp; with_reducible rfl))
  (try simp only [Act.put, List.getElem_toArray, List.getElem_cons_zero, List.getElem_cons_succ, List.setIfInBounds_toArray, List.set_cons_zero, List.set_cons_succ])
  refine held_take (fun _ => trivial) (by kernel_rfl) (i := 3) (oi := _) (v := ?_) rfl (by kernel_rfl) (by kernel_rfl) (by kernel_rfl) (fun _ _ _ h => h) (by assumption) (Or.inl ⟨by kernel_rfl, ?_⟩) ?_
  rotate_left
  · intro wz hSw; obtain ⟨h1, h2⟩ := hSw; (first | (go_simp; done) | (go_simp; with_reducible rfl))
  (try simp only [Act.put, List.getElem_toArray, List.getElem_cons_zero, List.getElem_cons_succ, List.setIfInBounds_toArray, List.set_cons_zero, List.set_cons_succ])
  refine held_take (fun _ => trivial) (by kernel_rfl) (i := 4) (oi := _) (v := ?_) rfl (by kernel_rfl) (by kernel_rfl) (by kernel_rfl) (fun _ _ _ h => h) (by assumption) (Or.inl ⟨by kernel_rfl, ?_⟩) ?_
  rotate_left
  · intro wz hSw; obtain ⟨h1, h2⟩ := hSw; (first | (go_simp; done) | (go_simp; with_reducible rfl))
  (try simp only [Act.put, List.getElem_toArray, List.getElem_cons_zero, List.getElem_cons_succ, List.setIfInBounds_toArray, List.set_cons_zero, List.set_cons_succ])
  refine held_take (fun _ => trivial) (by kernel_rfl) (i := 5) (oi := _) (v := ?_) rfl (by kernel_rfl) (by kernel_rfl) (by kernel_rfl) (fun _ _ _ h => h) (by assumption) (Or.inl ⟨by kernel_rfl, ?_⟩) ?_
  rotate_left
  · intro wz hSw; obtain ⟨h1, h2⟩ := hSw; (first | (go_simp; done) | (go_simp; with_reducible rfl))
  (try simp only [Act.put, List.getElem_toArray, List.getElem_cons_zero, List.getElem_cons_succ, List.setIfInBounds_toArray, List.set_cons_zero, List.set_cons_succ])
  refine held_take (fun _ => trivial) (by kernel_rfl) (i := 6) (oi := _) (v := ?_) rfl (by kernel_rfl) (by kernel_rfl) (by kernel_rfl) (fun _ _ _ h => h) (by assumption) (Or.inl ⟨by kernel_rfl, ?_⟩) ?_
  rotate_left
  · intro wz hSw; obtain ⟨h1, h2⟩ := hSw; (first | (go_simp; done) | (go_simp; with_reducible rfl))
  (try simp only [Act.put, List.getElem_toArray, List.getElem_cons_zero, List.getElem_cons_succ, List.setIfInBounds_toArray, List.set_cons_zero, List.set_cons_succ])
  refine held_take (fun _ => trivial) (by kernel_rfl) (i := 7) (oi := _) (v := ?_) rfl (by kernel_rfl) (by kernel_rfl) (by kernel_rfl) (fun _ _ _ h => h) (by assumption) (Or.inl ⟨by kernel_rfl, ?_⟩) ?_
  rotate_left
  · intro wz hSw; obtain ⟨h1, h2⟩ := hSw; (first | (go_simp; done) | (go_simp; with_reducible rfl))
  (try simp only [Act.put, List.getElem_toArray, List.getElem_cons_zero, List.getElem_cons_succ, List.setIfInBounds_toArray, List.set_cons_zero, List.set_cons_succ])
  refine held_take (fun _ => trivial) (by kernel_rfl) (i := 8) (oi := _) (v := ?_) rfl (by kernel_rfl) (by kernel_rfl) (by kernel_rfl) (fun _ _ _ h => h) (by assumption) (Or.inl ⟨by kernel_rfl, ?_⟩) ?_
  rotate_left
  · intro wz hSw; obtain ⟨h1, h2⟩ := hSw; (first | (go_simp; done) | (go_simp; with_reducible rfl))
  (try simp only [Act.put, List.getElem_toArray, List.getElem_cons_zero, List.getElem_cons_succ, List.setIfInBounds_toArray, List.set_cons_zero, List.set_cons_succ])
  refine held_take (fun _ => trivial) (by kernel_rfl) (i := 9) (oi := _) (v := ?_) rfl (by kernel_rfl) (by kernel_rfl) (by kernel_rfl) (fun _ _ _ h => h) (by assumption) (Or.inl ⟨by kernel_rfl, ?_⟩) ?_
  rotate_left
  · intro wz hSw; obtain ⟨h1, h2⟩ := hSw; (first | (go_simp; done) | (go_simp; with_reducible rfl))
  (try simp only [Act.put, List.getElem_toArray, List.getElem_cons_zero, List.getElem_cons_succ, List.setIfInBounds_toArray, List.set_cons_zero, List.set_cons_succ])
  refine held_take (fun _ => trivial) (by kernel_rfl) (i := 10) (oi := _) (v := ?_) rfl (by kernel_rfl) (by kernel_rfl) (by kernel_rfl) (fun _ _ _ h => h) (by assumption) (Or.inl ⟨by kernel_rfl, ?_⟩) ?_
  rotate_left
  · intro wz hSw; obtain ⟨h1, h2⟩ := hSw; (first | (go_simp; done) | (go_simp; with_reducible rfl))
  (try simp only [Act.put, List.getElem_toArray, List.getElem_cons_zero, List.getElem_cons_succ, List.setIfInBounds_toArray, List.set_cons_zero, List.set_cons_succ])
  refine held_take (fun _ => trivial) (by kernel_rfl) (i := 11) (oi := _) (v := ?_) rfl (by kernel_rfl) (by kernel_rfl) (by kernel_rfl) (fun _ _ _ h => h) (by assumption) (Or.inl ⟨by kernel_rfl, ?_⟩) ?_
  rotate_left
  · intro wz hSw; obtain ⟨h1, h2⟩ := hSw; (first | (go_simp; done) | (go_simp; with_reducible rfl))
  (try simp only [Act.put, List.getElem_toArray, List.getElem_cons_zero, List.getElem_cons_succ, List.setIfInBounds_toArray, List.set_cons_zero, List.set_cons_succ])
  refine held_take (fun _ => trivial) (by kernel_rfl) (i := 13) (oi := _) (v := ?_) rfl (by kernel_rfl) (by kernel_rfl) (by kernel_rfl) (fun _ _ _ h => h) (by assumption) (Or.inl ⟨by kernel_rfl, ?_⟩) ?_
  rotate_left
  · intro wz hSw; obtain ⟨h1, h2⟩ := hSw; (first | (go_simp; done) | (go_simp; with_reducible rfl))
  (try simp only [Act.put, List.getElem_toArray, List.getElem_cons_zero, List.getElem_cons_succ, List.setIfInBounds_toArray, List.set_cons_zero, List.set_cons_succ])
  refine held_step (fun _ => trivial) (i := 12) (o := _) (by kernel_rfl) rfl (fun K hK => ?_)
  go_simp
  refine hK.out _ _ ⟨(World.cell?_setCell_far _ _ _ _ (by show w1.heap.size ≠ w.heap.size + 1; omega)).trans hHeld.1, (World.cell?_setCell_far _ _ _ _ (by show w1.heap.size ≠ w.heap.size + 1 + 1; omega)).trans hHeld.2⟩ (fun hHeld => ?_)
  clear hK K
  (try simp only [Act.put, List.getElem_toArray, List.getElem_cons_zero, List.getElem_cons_succ, List.setIfInBounds_toArray, List.set_cons_zero, List.set_cons_succ])
  refine held_take (fun _ => trivial) (by kernel_rfl) (i := 14) (oi := _) (v := ?_) rfl (by kernel_rfl) (by kernel_rfl) (by kernel_rfl) (fun _ _ _ h => h) (by assumption) (Or.inl ⟨by kernel_rfl, ?_⟩) ?_
  rotate_left
  · intro wz hSw; obtain ⟨h1, h2⟩ := hSw; (first | (go_simp; done) | (go_simp; with_reducible rfl))
  (try simp only [Act.put, List.getElem_toArray, List.getElem_cons_zero, List.getElem_cons_succ, List.setIfInBounds_toArray, List.set_cons_zero, List.set_cons_succ])
  refine held_step (fun _ => trivial) (i := 15) (o := _) (by kernel_rfl) rfl (fun K hK => ?_)
  go_simp
  refine hK.out _ _ ⟨(World.cell?_setCell_far _ _ _ _ (by show w1.heap.size ≠ w.heap.size + 1; omega)).trans hHeld.1, (World.cell?_setCell_far _ _ _ _ (by show w1.heap.size ≠ w.heap.size + 1 + 1; omega)).trans hHeld.2⟩ (fun hHeld => ?_)
  clear hK K
  (try simp only [Act.put, List.getElem_toArray, List.getElem_cons_zero, List.getElem_cons_succ, List.setIfInBounds_toArray, List.set_cons_zero, List.set_cons_succ])
  refine held_done (by kernel_rfl) ?_ _
  have hneg : IntKind.i64.wrap (-s) = -s := by rw [IntKind.wrap_i64]; omega
  have m4 : MatAt w1.heap.size (trnL 0 1 c s) ((((V.setCell ⟨w1.heap.size, 0, none⟩ (.int .i64 c)).setCell ⟨w1.heap.size, 1, none⟩ (.int .i64 (IntKind.i64.wrap (-s)))).setCell ⟨w1.heap.size, 4, none⟩ (.int .i64 s)).setCell ⟨w1.heap.size, 5, none⟩ (.int .i64 c)).drew.drew := by
    have := (((R4.out.set (j := 0) c).set (j := 1) (IntKind.i64.wrap (-s))).set (j := 4) s).set (j := 5) c
    rw [hneg] at this ⊢
    exact this
  have m3 : MatAt w.heap.size zero16 ((((V.setCell ⟨w1.heap.size, 0, none⟩ (.int .i64 c)).setCell ⟨w1.heap.size, 1, none⟩ (.int .i64 (IntKind.i64.wrap (-s)))).setCell ⟨w1.heap.size, 4, none⟩ (.int .i64 s)).setCell ⟨w1.heap.size, 5, none⟩ (.int .i64 c)).drew.drew := (((R3.out.other _ (by omega)).other _ (by omega)).other _ (by omega)).other _ (by omega)
  have hB4 : Below w.heap.size w ((((V.setCell ⟨w1.heap.size, 0, none⟩ (.int .i64 c)).setCell ⟨w1.heap.size, 1, none⟩ (.int .i64 (IntKind.i64.wrap (-s)))).setCell ⟨w1.heap.size, 4, none⟩ (.int .i64 s)).setCell ⟨w1.heap.size, 5, none⟩ (.int .i64 c)).drew.drew := Below.drew (Below.drew ((((hB2.out.setCell (p := ⟨w1.heap.size, 0, none⟩) (by show _ ≤ w1.heap.size; omega) _).setCell (p := ⟨w1.heap.size, 1, none⟩) (by show _ ≤ w1.heap.size; omega) _).setCell (p := ⟨w1.heap.size, 4, none⟩) (by show _ ≤ w1.heap.size; omega) _).setCell (p := ⟨w1.heap.size, 5, none⟩) (by show _ ≤ w1.heap.size; omega) _))
  clear hHeld hneg
  generalize ((((V.setCell ⟨w1.heap.size, 0, none⟩ (.int .i64 c)).setCell ⟨w1.heap.size, 1, none⟩ (.int .i64 (IntKind.i64.wrap (-s)))).setCell ⟨w1.heap.size, 4, none⟩ (.int .i64 s)).setCell ⟨w1.heap.size, 5, none⟩ (.int .i64 c)).drew.drew = X at m4 m3 hB4 ⊢
  have M4 := Lib.hid m4
  have M3 := Lib.hid m3
  have HB4 := Lib.hid hB4
  have itn : Hid ((Try.prog.info? 64).map (·.size) = some (mC (trnL 0 1 c s)).size) := Lib.hid (by rw [size16, mC_size, trnL_len])
  have itz : Hid ((mC zero16).size = (mC (trnL 0 1 c s)).size) := Lib.hid (by rw [mC_size, mC_size, trnL_len]; rfl)
  clear m4 m3 hB4 k0 k1 k2 k3 f0 f1 f2 f3
  go_wp2_with (first | (refine wpList_load_row rfl 64 (.tmp 11) rfl w1.heap.size rfl _ _ _ _ M4.out Try.underlying64 rfl itn.out ?_) | (refine wpList_store_big rfl 64 (.tmp 4) (.tmp 59) rfl w.heap.size _ _ (mC (trnL 0 1 c s)) rfl rfl M3.out itn.out itz.out (mC_one _) ?_))
  refine bodyPost_ret (results_row2 rfl _ _ w.heap.size _ (mC (trnL 0 1 c s)) _ _ (.int .i64 0) rfl rfl (setRow_heap _ _ _ _ _ _ M3.out) Try.underlying64 rfl itn.out) rfl ?_
  exact ⟨rfl, Below.row HB4.out (Nat.le_refl _) _⟩
theorem turn_any (a : Nat) (q : Int) (r : Nat) (ha : a < 3) (hr : r < 4) (hq : q % 4 = (r : Int)) (w : World) : Calls Try.prog 42 #[.int .i64 (a : Int), .int .i64 q] w fun e w' => e = .returned (.tuple #[.agg (mC (trn a r)), .int .i64 0]) ∧ Below w.heap.size w w' := by
  have hd : a = 0 ∨ a = 1 ∨ a = 2 := by omega
  rcases hd with rfl | rfl | rfl
  · exact turn_ax0 q r hr hq w
  · exact turn_ax1 q r hr hq w
  · exact turn_ax2 q r hr hq w
end Go.Proofs.Ytgkcbadfjhicnaa.Fx
