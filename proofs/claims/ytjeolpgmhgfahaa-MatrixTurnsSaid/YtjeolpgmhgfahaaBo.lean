/- MatrixBounds, walked. -/
import Derived.Test.YtjeolpgmhgfahaaProg
import Derived.Test.YtjeolpgmhgfahaaNa
set_option linter.unusedVariables false
set_option linter.unusedSimpArgs false
namespace Go.Proofs.Ytjeolpgmhgfahaa.Fx
open Go Go.RowKit Go.Shelf Wm
theorem abs_any (x : Int) (w : World) (h0 : -9223372036854775808 < x) (h1 : x ≤ 9223372036854775807) : Calls Try.prog 49 #[.int .i64 x] w fun e w' => e = .returned (.int .i64 (x.natAbs : Int)) ∧ w = w' := by
  by_cases h : x < 0
  · go_enter Try.func49, Try.ntmps49
    go_wp2
    go_ret
    exact ⟨ret_int (by omega), rfl⟩
  · go_enter Try.func49, Try.ntmps49
    go_wp2
    go_ret
    exact ⟨ret_int (by omega), rfl⟩
def VecL (b : Nat) (l : List Int) (W : World) : Prop := W.heap[b]? = some (.cells (mC l) 62 (0, 0))
theorem VecL.cell {b j : Nat} {m : List Int} {W : World} (h : VecL b m W) (hj : j < m.length) : W.cell? ⟨b, j, none⟩ = some (.int .i64 (m.getD j 0)) := by rw [cell_of_row _ _ _ _ _ _ h, mC_at _ _ hj]
theorem VecL.set {b j : Nat} {m : List Int} {W : World} (h : VecL b m W) (x : Int) : VecL b (m.set j x) (W.setCell ⟨b, j, none⟩ (.int .i64 x)) := by
  unfold VecL
  rw [heap_setCell_same _ _ _ _ _ _ h, mC_put]
theorem VecL.other {b c j : Nat} {m : List Int} {W : World} (h : VecL b m W) (v : Value) (hn : b ≠ c) : VecL b m (W.setCell ⟨c, j, none⟩ v) := by
  unfold VecL
  rw [heap_setCell_other _ _ _ _ hn]
  exact h
theorem VecL.below {b : Nat} {m : List Int} {w W : World} (hb : Below w.heap.size w W) (h : VecL b m w) : VecL b m W := keep_row hb h
theorem tmod_le (x k : Int) (hk : 0 < k) : -(k - 1) ≤ x.tmod k ∧ x.tmod k ≤ k - 1 := by
  have h1 := Int.natAbs_tmod x k
  have h2 : x.natAbs % k.natAbs < k.natAbs := Nat.mod_lt _ (by omega)
  omega
def BM (k : Nat) (m : List Int) : Prop := m.length = 16 ∧ ∀ p, p < k → -67108864 ≤ m.getD p 0 ∧ m.getD p 0 ≤ 67108864
def BV (k : Nat) (v : List Int) : Prop := v.length = 4 ∧ ∀ p, p < k → -1073741824 ≤ v.getD p 0 ∧ v.getD p 0 ≤ 1073741824
theorem getD_set_i (l : List Int) (k p : Nat) (x : Int) (hk : k < l.length) : (l.set k x).getD p 0 = if k = p then x else l.getD p 0 := by
  simp only [List.getD_eq_getElem?_getD, List.getElem?_set]
  split
  · subst_vars
    simp [hk]
  · rfl
theorem BM.next {k : Nat} {m : List Int} {x : Int} (h : BM k m) (hk : k < 16) (hx : -67108864 ≤ x ∧ x ≤ 67108864) : BM (k + 1) (m.set k x) := by
  refine ⟨by rw [List.length_set]; exact h.1, fun p hp => ?_⟩
  rw [getD_set_i _ _ _ _ (by rw [h.1]; exact hk)]
  split
  · exact hx
  · exact h.2 p (by omega)
theorem BV.next {k : Nat} {m : List Int} {x : Int} (h : BV k m) (hk : k < 4) (hx : -1073741824 ≤ x ∧ x ≤ 1073741824) : BV (k + 1) (m.set k x) := by
  refine ⟨by rw [List.length_set]; exact h.1, fun p hp => ?_⟩
  rw [getD_set_i _ _ _ _ (by rw [h.1]; exact hk)]
  split
  · exact hx
  · exact h.2 p (by omega)
theorem prod_le2 {a b : Int} (a0 : -67108864 ≤ a ∧ a ≤ 67108864) (b0 : -1073741824 ≤ b ∧ b ≤ 1073741824) : -72057594037927936 ≤ a * b ∧ a * b ≤ 72057594037927936 := by
  have h : a.natAbs * b.natAbs ≤ 67108864 * 1073741824 := Nat.mul_le_mul (by omega) (by omega)
  have e := Int.natAbs_mul a b
  omega
theorem pq_le {m v : List Int} (hm : BM 16 m) (hv : BV 4 v) (r : Nat) (hr : r < 4) : -4398046511105 ≤ pq (rowOf m r) v ∧ pq (rowOf m r) v ≤ 4398046511104 := by
  have h0 := prod_le2 (hm.2 (r * 4) (by omega)) (hv.2 0 (by omega))
  have h1 := prod_le2 (hm.2 (r * 4 + 1) (by omega)) (hv.2 1 (by omega))
  have h2 := prod_le2 (hm.2 (r * 4 + 2) (by omega)) (hv.2 2 (by omega))
  have h3 := prod_le2 (hm.2 (r * 4 + 3) (by omega)) (hv.2 3 (by omega))
  have e : dot (rowOf m r) v = m.getD (r * 4) 0 * v.getD 0 0 + m.getD (r * 4 + 1) 0 * v.getD 1 0 + m.getD (r * 4 + 2) 0 * v.getD 2 0 + m.getD (r * 4 + 3) 0 * v.getD 3 0 := rfl
  unfold pq
  rw [e]
  omega
theorem ap_small {m v : List Int} (hm : BM 16 m) (hv : BV 4 v) : apO m v = some (apRows m v) := by
  unfold apO
  rw [if_pos]
  refine ⟨wB_iff.2 fun j hj => ?_, wB_iff.2 fun j hj => ?_, wB_iff.2 fun j hj => ?_⟩
  · have := hm.2 j hj; omega
  · have := hv.2 j hj; omega
  · have hd : j = 0 ∨ j = 1 ∨ j = 2 ∨ j = 3 := by omega
    rcases hd with rfl | rfl | rfl | rfl
    · have := pq_le hm hv 0 (by omega)
      show (0 : Int) ≤ _ ∧ -4611686018427387904 ≤ pq (rowOf m 0) v ∧ pq (rowOf m 0) v ≤ 4611686018427387904
      omega
    · have := pq_le hm hv 1 (by omega)
      show (0 : Int) ≤ _ ∧ -4611686018427387904 ≤ pq (rowOf m 1) v ∧ pq (rowOf m 1) v ≤ 4611686018427387904
      omega
    · have := pq_le hm hv 2 (by omega)
      show (0 : Int) ≤ _ ∧ -4611686018427387904 ≤ pq (rowOf m 2) v ∧ pq (rowOf m 2) v ≤ 4611686018427387904
      omega
    · have := pq_le hm hv 3 (by omega)
      show (0 : Int) ≤ _ ∧ -4611686018427387904 ≤ pq (rowOf m 3) v ∧ pq (rowOf m 3) v ≤ 4611686018427387904
      omega
theorem ap_num {m v : List Int} (hm : BM 16 m) (hv : BV 4 v) (r : Nat) (hr : r < 4) : ((apRows m v).getD r 0).natAbs < 8796093022208 := by
  have h := pq_le hm hv r hr
  have hd : r = 0 ∨ r = 1 ∨ r = 2 ∨ r = 3 := by omega
  have e : (apRows m v).getD r 0 = pq (rowOf m r) v := by rcases hd with rfl | rfl | rfl | rfl <;> rfl
  rw [e]
  omega
/-- between two numbers -/
structure OI (k j : Nat) (w : World) (m v : List Int) (W : World) : Prop where
  hm : BM k m
  hv : BV j v
  am : MatAt w.heap.size m W
  av : VecL (w.heap.size + 1) v W
  below : Below w.heap.size w W
def ORel (w : World) (g : Nat) (s : Value) (W : World) : Prop := ∃ r m v, g = 4 - r ∧ s = .int .i64 (r : Int) ∧ r ≤ 4 ∧ OI (r * 4) r w m v W
def IRel (r : Nat) (w : World) (g : Nat) (s : Value) (W : World) : Prop := ∃ c m v, g = 4 - c ∧ s = .int .i64 (c : Int) ∧ c ≤ 4 ∧ OI (r * 4 + c) (r + 1) w m v W
set_option maxRecDepth 100000 in
set_option maxHeartbeats 4000000 in
theorem walk_matrixBounds (m v : List Int) (w : World) (hm : m.length = 16) (hv : v.length = 4) (wm : ∀ j, -9223372036854775808 ≤ m.getD j 0 ∧ m.getD j 0 ≤ 9223372036854775807) (wv : ∀ j, -9223372036854775808 ≤ v.getD j 0 ∧ v.getD j 0 ≤ 9223372036854775807) :
    Calls Try.prog 11 #[.agg (mC m), .agg (mC v)] w fun e w' => e = .returned (.bool true) ∧ Below w.heap.size w w' := by
  have BM0 : Hid (BM 0 m) := Lib.hid ⟨hm, fun p hp => absurd hp (by omega)⟩
  have BV0 : Hid (BV 0 v) := Lib.hid ⟨hv, fun p hp => absurd hp (by omega)⟩
  clear hm hv wm wv
  go_enter Try.func11, Try.ntmps11
  go_wp2_with fail
  refine (alive_ok _).mono ?_
  rintro e w1 ⟨rfl, hb⟩
  have OI0 : OI 0 0 w m v w1 := by
    refine ⟨BM0.out, BV0.out, keep_row hb (step_row (heap_alloc_new _ _)), keep_row hb ?_, (by go_grown : Below w.heap.size w _).trans (hb.mono (by simp; omega))⟩
    have := heap_alloc_new (w.alloc (.cells (mC m) 64)) (.cells (mC v) 62)
    rw [World.size_alloc] at this
    exact this
  clear hb BM0 BV0
  have HOI := Lib.hid OI0
  clear OI0
  go_wp2_with fail
  go_loopg [6] 4 (ORel w)
  case atStart => exact ⟨0, m, v, rfl, rfl, by omega, HOI.out⟩
  case round =>
    clear HOI
    obtain ⟨r, m, v, rfl, rfl, hr4, I⟩ := hrel
    by_cases hr : r < 4
    · have cv := I.av.cell (j := r) (by rw [I.hv.1]; exact hr)
      have fv := frozen_row (j := r) I.av
      have r0 : (0 : Int) ≤ (r : Int) := by omega
      have r1 : (r : Int) < 4 := by omega
      have II := Lib.hid I
      clear I
      obtain ⟨x, hx⟩ : ∃ x, v.getD r 0 = x := ⟨_, rfl⟩
      rw [hx] at cv
      clear hx
      have I1 : OI (r * 4 + 0) (r + 1) w m (v.set r (x.tmod 1073741825)) (wr.setCell ⟨w.heap.size + 1, r, none⟩ (.int .i64 (x.tmod 1073741825))) := by
        have I := II.out
        have hxx := tmod_le x 1073741825 (by omega)
        exact ⟨I.hm, I.hv.next hr (by omega), I.am.other _ (by omega), I.av.set _, I.below.setCell (p := ⟨w.heap.size + 1, r, none⟩) (by show _ ≤ w.heap.size + 1; omega) _⟩
      have HI1 := Lib.hid I1
      clear I1
      go_wp2_with fail
      go_loopg [7] 4 (IRel r w)
      case atStart => exact ⟨0, _, _, rfl, rfl, by omega, HI1.out⟩
      case round =>
        clear HI1 II cv fv
        obtain ⟨c, m, v, rfl, rfl, hc4, I⟩ := hrel
        by_cases hc : c < 4
        · have cm := I.am.cell (j := r * 4 + c) (by rw [I.hm.1]; omega)
          have fm := frozen_row (j := r * 4 + c) I.am
          have c0 : (0 : Int) ≤ (c : Int) := by omega
          have c1 : (c : Int) < 4 := by omega
          obtain ⟨x, hx⟩ : ∃ x, m.getD (r * 4 + c) 0 = x := ⟨_, rfl⟩
          rw [hx] at cm
          clear hx
          have II := Lib.hid I
          clear I
          go_wp2_with fail
          refine (wpIn_wide (n := 5)).1 (held_region (F := Fence.wide) (S := fun _ => True) (by kernel_rfl) trivial (fun hHeld => ?_))
          refine held_take (fun _ => trivial) (by kernel_rfl) (i := 0) (oi := _) (v := ?_) rfl (by kernel_rfl) (by kernel_rfl) (by kernel_rfl) (fun _ _ _ h => h) (by assumption) (Or.inl ⟨by kernel_rfl, ?_⟩) ?_
          rotate_left
          · intro wz hSw; (first | (go_simp; done) | (go_simp; with_reducible rfl))
          (try simp only [Act.put, List.getElem_toArray, List.getElem_cons_zero, List.getElem_cons_succ, List.setIfInBounds_toArray, List.set_cons_zero, List.set_cons_succ])
          refine held_take (fun _ => trivial) (by kernel_rfl) (i := 1) (oi := _) (v := ?_) rfl (by kernel_rfl) (by kernel_rfl) (by kernel_rfl) (fun _ _ _ h => h) (by assumption) (Or.inl ⟨by kernel_rfl, ?_⟩) ?_
          rotate_left
          · intro wz hSw; (first | (go_simp; done) | (go_simp; with_reducible rfl))
          (try simp only [Act.put, List.getElem_toArray, List.getElem_cons_zero, List.getElem_cons_succ, List.setIfInBounds_toArray, List.set_cons_zero, List.set_cons_succ])
          refine held_take (fun _ => trivial) (by kernel_rfl) (i := 2) (oi := _) (v := ?_) rfl (by kernel_rfl) (by kernel_rfl) (by kernel_rfl) (fun _ _ _ h => h) (by assumption) (Or.inl ⟨by kernel_rfl, ?_⟩) ?_
          rotate_left
          · intro wz hSw; (first | (go_simp; done) | (go_simp; with_reducible rfl))
          (try simp only [Act.put, List.getElem_toArray, List.getElem_cons_zero, List.getElem_cons_succ, List.setIfInBounds_toArray, List.set_cons_zero, List.set_cons_succ])
          refine held_take (fun _ => trivial) (by kernel_rfl) (i := 3) (oi := _) (v := ?_) rfl (by kernel_rfl) (by kernel_rfl) (by kernel_rfl) (fun _ _ _ h => h) (by assumption) (Or.inl ⟨by kernel_rfl, ?_⟩) ?_
          rotate_left
          · intro wz hSw; (first | (go_simp; done) | (go_simp; with_reducible rfl))
          (try simp only [Act.put, List.getElem_toArray, List.getElem_cons_zero, List.getElem_cons_succ, List.setIfInBounds_toArray, List.set_cons_zero, List.set_cons_succ])
          refine held_take (fun _ => trivial) (by kernel_rfl) (i := 4) (oi := _) (v := ?_) rfl (by kernel_rfl) (by kernel_rfl) (by kernel_rfl) (fun _ _ _ h => h) (by assumption) (Or.inl ⟨by kernel_rfl, ?_⟩) ?_
          rotate_left
          · intro wz hSw; (first | (go_simp; done) | (go_simp; with_reducible rfl))
          (try simp only [Act.put, List.getElem_toArray, List.getElem_cons_zero, List.getElem_cons_succ, List.setIfInBounds_toArray, List.set_cons_zero, List.set_cons_succ])
          refine held_take (fun _ => trivial) (by kernel_rfl) (i := 5) (oi := _) (v := ?_) rfl (by kernel_rfl) (by kernel_rfl) (by kernel_rfl) (fun _ _ _ h => h) (by assumption) (Or.inl ⟨by kernel_rfl, ?_⟩) ?_
          rotate_left
          · intro wz hSw; (first | (go_simp; done) | (go_simp; with_reducible rfl))
          (try simp only [Act.put, List.getElem_toArray, List.getElem_cons_zero, List.getElem_cons_succ, List.setIfInBounds_toArray, List.set_cons_zero, List.set_cons_succ])
          refine held_take (fun _ => trivial) (by kernel_rfl) (i := 8) (oi := _) (v := ?_) rfl (by kernel_rfl) (by kernel_rfl) (by kernel_rfl) (fun _ _ _ h => h) (by assumption) (Or.inl ⟨by kernel_rfl, ?_⟩) ?_
          rotate_left
          · intro wz hSw; (first | (go_simp; done) | (go_simp; with_reducible rfl))
          (try simp only [Act.put, List.getElem_toArray, List.getElem_cons_zero, List.getElem_cons_succ, List.setIfInBounds_toArray, List.set_cons_zero, List.set_cons_succ])
          refine held_step (fun _ => trivial) (i := 6) (o := _) (by kernel_rfl) rfl (fun K hK => ?_)
          go_simp
          refine hK.out _ _ trivial (fun hHeld => ?_)
          clear hK K
          (try simp only [Act.put, List.getElem_toArray, List.getElem_cons_zero, List.getElem_cons_succ, List.setIfInBounds_toArray, List.set_cons_zero, List.set_cons_succ])
          refine held_take (fun _ => trivial) (by kernel_rfl) (i := 7) (oi := _) (v := ?_) rfl (by kernel_rfl) (by kernel_rfl) (by kernel_rfl) (fun _ _ _ h => h) (by assumption) (Or.inl ⟨by kernel_rfl, ?_⟩) ?_
          rotate_left
          · intro wz hSw; (first | (go_simp; done) | (go_simp; with_reducible rfl))
          (try simp only [Act.put, List.getElem_toArray, List.getElem_cons_zero, List.getElem_cons_succ, List.setIfInBounds_toArray, List.set_cons_zero, List.set_cons_succ])
          refine held_take (fun _ => trivial) (by kernel_rfl) (i := 9) (oi := _) (v := ?_) rfl (by kernel_rfl) (by kernel_rfl) (by kernel_rfl) (fun _ _ _ h => h) (by assumption) (Or.inl ⟨by kernel_rfl, ?_⟩) ?_
          rotate_left
          · intro wz hSw; (first | (go_simp; done) | (go_simp; with_reducible rfl))
          (try simp only [Act.put, List.getElem_toArray, List.getElem_cons_zero, List.getElem_cons_succ, List.setIfInBounds_toArray, List.set_cons_zero, List.set_cons_succ])
          refine held_step (fun _ => trivial) (i := 10) (o := _) (by kernel_rfl) rfl (fun K hK => ?_)
          go_simp
          refine hK.out _ _ trivial (fun hHeld => ?_)
          clear hK K
          (try simp only [Act.put, List.getElem_toArray, List.getElem_cons_zero, List.getElem_cons_succ, List.setIfInBounds_toArray, List.set_cons_zero, List.set_cons_succ])
          refine held_done (by kernel_rfl) ?_ _
          clear hHeld
          have I2 : OI (r * 4 + (c + 1)) (r + 1) w (m.set (r * 4 + c) (x.tmod 67108865)) v (wr.setCell ⟨w.heap.size, r * 4 + c, none⟩ (.int .i64 (x.tmod 67108865))).drew := by
            have I := II.out
            have hxx := tmod_le x 67108865 (by omega)
            exact ⟨I.hm.next (by omega) (by omega), I.hv, I.am.set _, I.av.other _ (by omega), Below.drew (I.below.setCell (p := ⟨w.heap.size, r * 4 + c, none⟩) (Nat.le_refl _) _)⟩
          have HI2 := Lib.hid I2
          clear I2
          go_wp2_with fail
          go_roundg (4 - (c + 1))
          case measure => omega
          case rel => exact ⟨c + 1, _, _, rfl, by go_num, by omega, HI2.out⟩
        · have hce : c = 4 := by omega
          subst hce
          have I2 : OI ((r + 1) * 4) (r + 1) w m v wr := by rw [show (r + 1) * 4 = r * 4 + 4 by omega]; exact I
          have HI2 := Lib.hid I2
          clear I2 I
          go_wp2_with fail
          go_roundg (4 - (r + 1))
          case measure => omega
          case rel => exact ⟨r + 1, _, _, rfl, by go_num, by omega, HI2.out⟩
    · have hre : r = 4 := by omega
      subst hre
      have hmm : BM 16 m := I.hm
      have hvv : BV 4 v := I.hv
      have hap := ap_small hmm hvv
      have hnm := ap_num hmm hvv
      have hA := fun w => apply_any m v w hmm.1 hvv.1
      rw [hap] at hA
      obtain ⟨q0, q1, q2, q3, hq⟩ : ∃ q0 q1 q2 q3, apRows m v = [q0, q1, q2, q3] := ⟨_, _, _, _, rfl⟩
      rw [hq] at hnm hA
      have hnum := Lib.hid hnm
      clear hap hq hnm
      have HA : ∀ w, Calls Try.prog 38 #[.agg (mC m), .agg (mC v)] w fun e w' => e = .returned (.tuple #[.agg #[.int .i64 q0, .int .i64 q1, .int .i64 q2, .int .i64 q3], .int .i64 0]) ∧ Below w.heap.size w w' := fun w => (hA w).mono fun e w' h => h
      have HAH := Lib.hid HA
      have infm : Hid ((Try.prog.info? 64).map (·.size) = some (mC m).size) := Lib.hid (by rw [size16, mC_size, hmm.1])
      have infv : Hid ((Try.prog.info? 62).map (·.size) = some (mC v).size) := Lib.hid (by rw [show (Try.prog.info? 62).map (·.size) = some 4 from by kernel_rfl, mC_size, hvv.1])
      have AM := Lib.hid I.am
      have AV := Lib.hid I.av
      have BL := Lib.hid I.below
      clear hmm hvv hA HA I
      go_wp2_with (first | (refine wpList_load_row rfl 64 (.tmp 2) rfl w.heap.size rfl _ _ _ _ AM.out Try.underlying64 rfl infm.out ?_) | (refine wpList_load_row rfl 62 (.tmp 3) rfl (w.heap.size + 1) rfl _ _ _ _ AV.out Try.underlying62 rfl infv.out ?_))
      refine (HAH.out _).mono ?_
      rintro e w2 ⟨rfl, hb2⟩
      have hB2 : Below w.heap.size w w2 := bnext BL.out hb2
      have hcells : Hid (∀ j, j < 4 → (w2.alloc (.cells #[.int .i64 q0, .int .i64 q1, .int .i64 q2, .int .i64 q3] 62)).cell? ⟨w2.heap.size, j, none⟩ = some (.int .i64 ([q0, q1, q2, q3].getD j 0))) := Lib.hid fun j hj => VecL.cell (m := [q0, q1, q2, q3]) (heap_alloc_new _ _) hj
      have HB2 := Lib.hid (hB2.alloc hB2.size (.cells #[.int .i64 q0, .int .i64 q1, .int .i64 q2, .int .i64 q3] 62))
      clear hb2 hB2
      go_wp2_with fail
      generalize (w2.alloc (.cells #[.int .i64 q0, .int .i64 q1, .int .i64 q2, .int .i64 q3] 62)) = X at hcells HB2 ⊢
      go_loopg [10] 4 (fun g s wx => ∃ k : Nat, g = 4 - k ∧ s = .int .i64 (k : Int) ∧ k ≤ 4 ∧ X = wx)
      case atStart => exact ⟨0, rfl, rfl, by omega, rfl⟩
      case round =>
        obtain ⟨k, rfl, rfl, hk4, rfl⟩ := hrel
        by_cases hk : k < 4
        · have ck := hcells.out k hk
          have hn := hnum.out k hk
          have k0 : (0 : Int) ≤ (k : Int) := by omega
          have k1 : (k : Int) < 4 := by omega
          obtain ⟨y, hy⟩ : ∃ y, [q0, q1, q2, q3].getD k 0 = y := ⟨_, rfl⟩
          rw [hy] at ck hn
          clear hy
          obtain ⟨z, hz⟩ : ∃ z, y.natAbs = z := ⟨_, rfl⟩
          have hab := fun w => abs_any y w (by omega) (by omega)
          rw [hz] at hab hn
          have HAB := Lib.hid hab
          have t1 : ¬ (8796093022208 : Int) ≤ (z : Int) := by omega
          have t2 : (z : Int) < 8796093022208 := by omega
          have T1 := Lib.hid t1
          have T2 := Lib.hid t2
          have tb : decide ((8796093022208 : Int) ≤ (z : Int)) = false := by simp [t1]
          clear hab hz hn t1 t2 hnum
          go_wp2_with fail
          refine (HAB.out _).mono ?_
          rintro e w3 ⟨rfl, rfl⟩
          go_wp2_with fail
          go_roundg (4 - (k + 1))
          case measure => omega
          case rel => exact ⟨k + 1, rfl, by go_num, by omega, rfl⟩
        · have hke : k = 4 := by omega
          subst hke
          clear hcells hnum hk hk4 hr hr4 HAH infm infv AM AV BL
          go_wp2
          refine bodyPost_ret (results_tmp rfl _ _ _) rfl ⟨rfl, HB2.out⟩
end Go.Proofs.Ytjeolpgmhgfahaa.Fx
