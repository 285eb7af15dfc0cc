/- The number of a number of 128 bits, as the document has it, walked. -/
import Derived.Test.YtgkcbadfjhicnaaProg
import Derived.Test.YtgkcbadfjhicnaaK1
set_option linter.unusedVariables false
set_option linter.unusedSimpArgs false
namespace Go.Proofs.Ytgkcbadfjhicnaa.Fx
open Go Go.RowKit Wm
structure FrI (h : Int) (l : Nat) (p : List Nat) (w W : World) : Prop where
  bw : W.heap[w.heap.size]? = some (.cells #[.int .i64 h, .int .u64 l] 24 (0, 0))
  br : W.heap[w.heap.size + 1]? = some (.cells (bigC false zeros) 27 (0, 0))
  bl : W.heap[w.heap.size + 1 + 1]? = some (.cells (bigC false (pad p)) 27 (0, 0))
  below : Below w.heap.size w W
theorem FrI.next {h : Int} {l : Nat} {p : List Nat} {w W : World} (i : FrI h l p w W) (v : Nat) (hp : p.length < 20) : FrI h l (p ++ [v]) w (W.setCell ⟨w.heap.size + 1 + 1, 1 + p.length, none⟩ (.int .u64 (v : Int))) := by
  refine ⟨?_, ?_, ?_, i.below.setCell (p := ⟨w.heap.size + 1 + 1, 1 + p.length, none⟩) (by show _ ≤ w.heap.size + 1 + 1; omega) _⟩
  · rw [heap_setCell_other _ _ _ _ (by show _ ≠ w.heap.size + 1 + 1; omega)]; exact i.bw
  · rw [heap_setCell_other _ _ _ _ (by show _ ≠ w.heap.size + 1 + 1; omega)]; exact i.br
  · rw [heap_setCell_same _ _ _ _ _ _ i.bl, pad_put p v false hp]
def FrRel (h : Int) (l : Nat) (w : World) (g : Nat) (s4 s5 : Value) (W : World) : Prop :=
  ∃ k : Nat, g = 4 - k ∧ s4 = .int .u64 ((l / 65536 ^ k : Nat) : Int) ∧ s5 = .int .i64 (k : Int) ∧ k ≤ 4 ∧ FrI h l (dgF k l) w W
structure FrS (h : Int) (l : Nat) (w W : World) : Prop where
  bw : W.heap[w.heap.size]? = some (.cells #[.int .i64 h, .int .u64 l] 24 (0, 0))
  bl : BigAt (w.heap.size + 1 + 1) (l : Int) W
  below : Below w.heap.size w W
theorem FrS.up {h : Int} {l : Nat} {w W X : World} (i : FrS h l w W) (hb : Below W.heap.size W X) : FrS h l w X := ⟨keep_row hb i.bw, BigAt.below hb i.bl, bnext i.below hb⟩
theorem FrS.c0 {h : Int} {l : Nat} {w W : World} (i : FrS h l w W) : W.cell? ⟨w.heap.size, 0, none⟩ = some (.int .i64 h) := by rw [cell_of_row _ _ _ _ _ _ i.bw]; rfl
theorem FrS.put {h : Int} {l : Nat} {w W : World} (i : FrS h l w W) (c : Array Value) : FrS h l w (W.setRow (w.heap.size + 1) c) :=
  ⟨by rw [setRow_other _ _ _ _ (by omega)]; exact i.bw, by unfold BigAt; rw [setRow_other _ _ _ _ (by omega)]; exact i.bl, Below.row i.below (by omega) _⟩
set_option maxRecDepth 100000 in
set_option maxHeartbeats 4000000 in
theorem from_walk (h : Int) (l : Nat) (t m z : Int) (w : World) (hu : Hid (l < 18446744073709551616)) (HU : Hid (pad (dgF 4 l) = dg l))
    (cO : Hid (Ans 12 #[.int .i64 h] (.agg (bv h)))) (cT : Hid (Ans 20 #[.int .i64 64] (.agg (bv t)))) (cM : Hid (Ans 11 #[.agg (bv h), .agg (bv t)] (.agg (bv m))))
    (cA : Hid (Ans 15 #[.agg (bv m), .agg (bv (l : Int))] (.agg (bv z)))) :
    Calls Try.prog 9 #[.agg #[.int .i64 h, .int .u64 l]] w (RetZ z w) := by
  have HUU := hu
  have h3 := block3s w (.cells #[.int .i64 h, .int .u64 l] 24) (.cells (bigC false zeros) 27) (.cells (bigC false zeros) 27)
  have HI0 : Hid (FrI h l (dgF 0 l) w (((w.alloc (.cells #[.int .i64 h, .int .u64 l] 24)).alloc (.cells (bigC false zeros) 27)).alloc (.cells (bigC false zeros) 27))) :=
    Lib.hid ⟨h3.1, h3.2.1, h3.2.2, by go_grown⟩
  clear h3
  go_enter Try.func9, Try.ntmps9
  go_wp2_with (first | (refine wpList_build_to rfl 27 #[] rfl (bigC false zeros) (by kernel_rfl) ?_) | (refine wpList_store_new rfl 27 (.tmp 3) (.tmp 6) rfl (w.heap.size + 1 + 1) _ _ (bigC false zeros) rfl (by simp) rfl (big_info _ _ rfl) rfl (big_one _ _) ?_))
  go_loopg [4, 5] 4 (FrRel h l w)
  case atStart => exact ⟨0, rfl, by simp, rfl, by omega, HI0.out⟩
  case round =>
    clear HI0
    obtain ⟨k, rfl, rfl, rfl, hk4, I⟩ := hrel
    by_cases hk : k < 4
    · have hpl : (dgF k l).length = k := dgF_len k l
      have cz : wr.cell? ⟨w.heap.size + 1 + 1, 1 + k, none⟩ = some (.int .u64 (((pad (dgF k l)).getD k 0 : Nat) : Int)) := by rw [cell_of_row _ _ _ _ _ _ I.bl, big_at _ _ _ (by rw [pad_len _ (by rw [hpl]; omega)]; omega)]
      have fz : wr.frozen? ⟨w.heap.size + 1 + 1, 1 + k, none⟩ = false := frozen_row I.bl
      have k0 : (0 : Int) ≤ (k : Int) := by omega
      have k1 : (k : Int) < 4 := by omega
      have k2 : (k : Int) < 20 := by omega
      obtain ⟨q, hq⟩ : ∃ q, l / 65536 ^ k = q := ⟨_, rfl⟩
      have hq64 : q < 18446744073709551616 := by rw [← hq]; exact Nat.lt_of_le_of_lt (Nat.div_le_self _ _) HUU.out
      have HQ := Lib.hid hq64
      clear hq64
      have hsn : dgF (k + 1) l = dgF k l ++ [q % 65536] := by rw [dgF_snoc, hq]
      have hdv : l / 65536 ^ (k + 1) = q / 65536 := by rw [Nat.pow_succ, ← Nat.div_div_eq_div_mul, hq]
      have I2 := I.next (q % 65536) (by rw [hpl]; omega)
      rw [hpl, ← hsn] at I2
      have HI2 := Lib.hid I2
      have HDV := Lib.hid hdv
      rw [hq]
      clear I I2 hq hsn hdv hpl
      go_wp2_with fail
      go_roundg (4 - (k + 1))
      case measure => omega
      case rel =>
        refine ⟨k + 1, rfl, ?_, by go_num, by omega, ?_⟩
        · rw [HDV.out]
          have := HQ.out
          congr 1
          rw [IntKind.wrap_u64]
          omega
        · have := HI2.out
          simpa using this
    · have hke : k = 4 := by omega
      subst hke
      have bl := I.bl
      rw [HU.out] at bl
      have bl2 : BigAt (w.heap.size + 1 + 1) (l : Int) wr := by
        have e : bigC false (dg l) = bv (l : Int) := by unfold bv; rw [decide_eq_false (by omega), Int.natAbs_natCast]
        rw [e] at bl
        exact bl
      have hS : FrS h l w wr := ⟨I.bw, bl2, I.below⟩
      have hrow : wr.heap[w.heap.size + 1]? = some (.cells (bigC false zeros) 27 (0, 0)) := I.br
      clear I bl bl2 hk hk4 HU HUU hu
      go_wp2_with fail
      try rename_i KK hKK
      refine (wpIn_wide (n := 5)).1 (held_region (F := Fence.wide) (S := fun X => FrS h l w X) (by kernel_rfl) (hS.up (bdrew0 _ _ 1)) (fun hHeld => ?_))
      clear hS
      replace hrow : wr.drew.heap[w.heap.size + 1]? = _ := hrow
      refine held_take (fun _ => trivial) (by kernel_rfl) (i := 0) (oi := _) (v := ?_) rfl (by kernel_rfl) (by kernel_rfl) (by kernel_rfl) (fun _ _ _ h => h) (by assumption) (Or.inl ⟨by kernel_rfl, ?_⟩) ?_
      rotate_left
      · intro wz hSw; (first | (go_simp; done) | (go_simp; with_reducible rfl))
      (try simp only [Act.put, List.getElem_toArray, List.getElem_cons_zero, List.getElem_cons_succ, List.setIfInBounds_toArray, List.set_cons_zero, List.set_cons_succ])
      refine held_take (fun _ => trivial) (by kernel_rfl) (i := 1) (oi := _) (v := ?_) rfl (by kernel_rfl) (by kernel_rfl) (by kernel_rfl) (fun _ _ _ h => h) (by assumption) (Or.inl ⟨by kernel_rfl, ?_⟩) ?_
      rotate_left
      · intro wz hSw; have cc := FrS.c0 hSw; (first | (go_simp; done) | (go_simp; with_reducible rfl))
      (try simp only [Act.put, List.getElem_toArray, List.getElem_cons_zero, List.getElem_cons_succ, List.setIfInBounds_toArray, List.set_cons_zero, List.set_cons_succ])
      refine held_take (fun _ => trivial) (by kernel_rfl) (i := 5) (oi := _) (v := .agg (bv (l : Int))) rfl (by kernel_rfl) (by kernel_rfl) (by kernel_rfl) (fun _ _ _ h => h) (by assumption) (Or.inl ⟨by kernel_rfl, ?_⟩) ?_
      · intro wz hSw; exact exec_load_row 27 (.tmp 3) (by kernel_rfl) (w.heap.size + 1 + 1) (by kernel_rfl) _ _ _ _ (hSw.bl) Try.underlying27 (by kernel_rfl) (bv_info _)
      (try simp only [Act.put, List.getElem_toArray, List.getElem_cons_zero, List.getElem_cons_succ, List.setIfInBounds_toArray, List.set_cons_zero, List.set_cons_succ])
      refine held_step (fun _ => trivial) (i := 2) (o := _) (by kernel_rfl) rfl (fun K hK => ?_)
      go_simp
      refine ⟨trivial, callsIn_wide.2 ((cO.out _).mono ?_)⟩
      rintro e x1 ⟨rfl, hb1⟩
      dsimp only
      replace hrow := keep_row hb1 hrow
      refine hK.out _ _ (hHeld.up hb1) (fun hHeld => ?_)
      clear hK K
      (try simp only [Act.put, List.getElem_toArray, List.getElem_cons_zero, List.getElem_cons_succ, List.setIfInBounds_toArray, List.set_cons_zero, List.set_cons_succ])
      refine held_step (fun _ => trivial) (i := 3) (o := _) (by kernel_rfl) rfl (fun K hK => ?_)
      go_simp
      refine ⟨trivial, callsIn_wide.2 ((cT.out _).mono ?_)⟩
      rintro e x2 ⟨rfl, hb2⟩
      dsimp only
      replace hrow := keep_row hb2 hrow
      refine hK.out _ _ (hHeld.up hb2) (fun hHeld => ?_)
      clear hK K
      (try simp only [Act.put, List.getElem_toArray, List.getElem_cons_zero, List.getElem_cons_succ, List.setIfInBounds_toArray, List.set_cons_zero, List.set_cons_succ])
      refine held_step (fun _ => trivial) (i := 4) (o := _) (by kernel_rfl) rfl (fun K hK => ?_)
      go_simp
      refine ⟨trivial, callsIn_wide.2 ((cM.out _).mono ?_)⟩
      rintro e x3 ⟨rfl, hb3⟩
      dsimp only
      replace hrow := keep_row hb3 hrow
      refine hK.out _ _ (hHeld.up hb3) (fun hHeld => ?_)
      clear hK K
      (try simp only [Act.put, List.getElem_toArray, List.getElem_cons_zero, List.getElem_cons_succ, List.setIfInBounds_toArray, List.set_cons_zero, List.set_cons_succ])
      refine held_step (fun _ => trivial) (i := 6) (o := _) (by kernel_rfl) rfl (fun K hK => ?_)
      go_simp
      refine ⟨trivial, callsIn_wide.2 ((cA.out _).mono ?_)⟩
      rintro e x4 ⟨rfl, hb4⟩
      dsimp only
      replace hrow := keep_row hb4 hrow
      refine hK.out _ _ (hHeld.up hb4) (fun hHeld => ?_)
      clear hK K
      (try simp only [Act.put, List.getElem_toArray, List.getElem_cons_zero, List.getElem_cons_succ, List.setIfInBounds_toArray, List.set_cons_zero, List.set_cons_succ])
      refine held_step (fun _ => trivial) (i := 7) (o := _) (by kernel_rfl) rfl (fun K hK => ?_)
      rw [if_pos (by kernel_rfl)]
      refine wpIn_store_row (fun _ => trivial) 27 (.tmp 2) (.tmp 26) (by kernel_rfl) (w.heap.size + 1) _ _ (bv z) (by kernel_rfl) (by kernel_rfl) hrow (bv_info _) (bv_same 0 _) (bv_one _) ?_
      refine hK.out _ _ (hHeld.put _) (fun hHeld => ?_)
      clear hK K
      (try simp only [Act.put, List.getElem_toArray, List.getElem_cons_zero, List.getElem_cons_succ, List.setIfInBounds_toArray, List.set_cons_zero, List.set_cons_succ])
      refine held_done (by kernel_rfl) ?_ _
      first | (refine hKK _ _ ?_) | skip
      have hB := hHeld.below
      refine wp_ret ?_
      refine bodyPost_ret (v := .agg (bv z)) (results_cell_row rfl _ _ (w.heap.size + 1) _ _ _ _ rfl (setRow_heap _ _ _ _ _ _ hrow) Try.underlying27 rfl (bv_info _)) rfl ?_
      exact ⟨rfl, hB⟩
theorem from_z (z h : Int) (l : Nat) (w : World) (a : At z h l) : Calls Try.prog 9 #[.agg #[.int .i64 h, .int .u64 l]] w (RetZ z w) := by
  obtain ⟨e, hl, h0, h1⟩ := a
  subst e
  have hl2 : l < 65536 ^ 4 := by omega
  refine from_walk h l (2 ^ 64) (h * 2 ^ 64) _ w (Lib.hid hl) (Lib.hid (pad_dgF (by omega) hl2)) (Lib.hid fun w => of_z h w h0 (by omega)) (Lib.hid fun w => two_64 w) (Lib.hid fun w => mul_z _ _ w ?_ ?_) (Lib.hid fun w => ?_)
  · omega
  · decide
  · have := add_z (h * 2 ^ 64) l w (by unfold BB; omega)
    exact this
end Go.Proofs.Ytgkcbadfjhicnaa.Fx
