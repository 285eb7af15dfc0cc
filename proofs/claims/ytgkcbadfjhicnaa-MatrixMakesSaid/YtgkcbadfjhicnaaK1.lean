/- The document's comparison of two numbers, walked. -/
import Derived.Test.YtgkcbadfjhicnaaProg
import Derived.Test.YtgkcbadfjhicnaaBu
import Derived.Test.YtgkcbadfjhicnaaLd
import Derived.Test.YtgkcbadfjhicnaaK0
import Derived.Test.YtgkcbadfjhicnaaW5
set_option linter.unusedVariables false
set_option linter.unusedSimpArgs false
namespace Go.Proofs.Ytgkcbadfjhicnaa.Fx
open Go Go.RowKit Wm
/-- a number of the document lies at g -/
def BigAt (g : Nat) (z : Int) (W : World) : Prop := W.heap[g]? = some (.cells (bv z) 27 (0, 0))
theorem BigAt.below {W X : World} {g : Nat} {z : Int} (hb : Below W.heap.size W X) (h : BigAt g z W) : BigAt g z X := keep_row hb h
theorem bv_info (z : Int) : (Try.prog.info? 27).map (·.size) = some (bv z).size := big_info _ _ (dg_len _)
theorem bv_same (x z : Int) : (bv x).size = (bv z).size := big_same _ _ _ _ (dg_len _) (dg_len _)
theorem bv_one (z : Int) : (bv z).all (·.oneCell') = true := big_one _ _
theorem bv_zero : bv 0 = bigC false zeros := rfl
theorem BigAt.head {g : Nat} {z : Int} {W : World} (h : BigAt g z W) : W.cell? ⟨g, 0, none⟩ = some (.bool (decide (z < 0))) := by rw [cell_of_row _ _ _ _ _ _ h]; exact big_head _ _
theorem BigAt.dig {g : Nat} {z : Int} {W : World} (h : BigAt g z W) (k : Nat) (hk : k < 20) : W.cell? ⟨g, 1 + k, none⟩ = some (.int .u64 ((z.natAbs / 65536 ^ k % 65536 : Nat) : Int)) := by
  rw [cell_of_row _ _ _ _ _ _ h]
  unfold bv
  rw [big_at _ _ _ (by rw [dg_len]; exact hk)]
  unfold dg
  rw [dgF_at _ _ _ hk]
set_option maxRecDepth 100000 in
set_option maxHeartbeats 4000000 in
theorem less_walk (x y n z : Int) (b : Bool) (w : World) (cN : Hid (Ans 17 #[.agg (bv y)] (.agg (bv n)))) (cA : Hid (Ans 15 #[.agg (bv x), .agg (bv n)] (.agg (bv z)))) (hz : Hid (decide (z < 0) = b)) :
    Calls Try.prog 18 #[.agg (bv x), .agg (bv y)] w fun e w' => e = .returned (.bool b) ∧ Below w.heap.size w w' := by
  go_enter Try.func18, Try.ntmps18
  go_wp2_with fail
  have rX : BigAt w.heap.size x ((w.alloc (.cells (bv x) 27)).alloc (.cells (bv y) 27)) := step_row (heap_alloc_new _ _)
  have rY : BigAt (w.heap.size + 1) y ((w.alloc (.cells (bv x) 27)).alloc (.cells (bv y) 27)) := heap_alloc2_new _ _ _
  have hBV : Below w.heap.size w ((w.alloc (.cells (bv x) 27)).alloc (.cells (bv y) 27)) := by go_grown
  generalize ((w.alloc (.cells (bv x) 27)).alloc (.cells (bv y) 27)) = V at rX rY hBV ⊢
  have HX := Lib.hid rX
  have HY := Lib.hid rY
  have HBV := Lib.hid hBV
  clear rX rY hBV
  try rename_i KK hKK
  have HT : ∀ (Bq : Nat) (Wf : World), BigAt Bq z Wf → Below V.heap.size V Wf → KK { tmps := #[.agg (bv x), .agg (bv y), .pointer (some ⟨w.heap.size, 0, none⟩), .pointer (some ⟨w.heap.size + 1, 0, none⟩), .bool false, .pointer (some ⟨Bq, 0, none⟩), .agg (bv x), .agg (bv y), .agg (bv n), .agg (bv z), undef, undef], defers := [] } Wf := by
    intro Bq Wf hq hb
    refine hKK _ _ ?_
    have HB2 := Lib.hid (bnext HBV.out hb)
    have hc := hq.head
    rw [hz.out] at hc
    clear hKK hq hb HX HY HBV
    go_wp2_with fail
    go_ret
    exact ⟨rfl, HB2.out⟩
  refine (wpIn_wide (n := 5)).1 (held_region (F := Fence.wide) (S := fun X => Below V.heap.size V X) (by kernel_rfl) (bdrew0 _ _ 1) (fun hHeld => ?_))
  refine held_take (fun _ => trivial) (by kernel_rfl) (i := 0) (oi := _) (v := .agg (bv x)) rfl (by kernel_rfl) (by kernel_rfl) (by kernel_rfl) (fun _ _ _ h => h) (by assumption) (Or.inl ⟨by kernel_rfl, ?_⟩) ?_
  · intro wz hSw; exact exec_load_row 27 (.tmp 2) (by kernel_rfl) (w.heap.size) (by kernel_rfl) _ _ _ _ (BigAt.below hSw HX.out) Try.underlying27 (by kernel_rfl) (bv_info _)
  (try simp only [Act.put, List.getElem_toArray, List.getElem_cons_zero, List.getElem_cons_succ, List.setIfInBounds_toArray, List.set_cons_zero, List.set_cons_succ])
  refine held_take (fun _ => trivial) (by kernel_rfl) (i := 1) (oi := _) (v := .agg (bv y)) rfl (by kernel_rfl) (by kernel_rfl) (by kernel_rfl) (fun _ _ _ h => h) (by assumption) (Or.inl ⟨by kernel_rfl, ?_⟩) ?_
  · intro wz hSw; exact exec_load_row 27 (.tmp 3) (by kernel_rfl) (w.heap.size + 1) (by kernel_rfl) _ _ _ _ (BigAt.below hSw HY.out) Try.underlying27 (by kernel_rfl) (bv_info _)
  (try simp only [Act.put, List.getElem_toArray, List.getElem_cons_zero, List.getElem_cons_succ, List.setIfInBounds_toArray, List.set_cons_zero, List.set_cons_succ])
  refine held_step2 (fun _ => trivial) (i := 2) (j := 4) (o := _) (o2 := _) (by kernel_rfl) rfl rfl (fun K hK => ?_) (fun K hK => ?_)
  · go_simp
    refine ⟨trivial, callsIn_wide.2 ((cN.out _).mono ?_)⟩
    rintro e x1 ⟨rfl, hb1⟩
    dsimp only
    refine hK.out _ _ (bnext hHeld hb1) (fun hHeld => ?_)
    clear hK K
    (try simp only [Act.put, List.getElem_toArray, List.getElem_cons_zero, List.getElem_cons_succ, List.setIfInBounds_toArray, List.set_cons_zero, List.set_cons_succ])
    refine held_step2 (fun _ => trivial) (i := 3) (j := 4) (o := _) (o2 := _) (by kernel_rfl) rfl rfl (fun K hK => ?_) (fun K hK => ?_)
    · go_simp
      refine ⟨trivial, callsIn_wide.2 ((cA.out _).mono ?_)⟩
      rintro e x2 ⟨rfl, hb2⟩
      dsimp only
      refine hK.out _ _ (bnext hHeld hb2) (fun hHeld => ?_)
      clear hK K
      (try simp only [Act.put, List.getElem_toArray, List.getElem_cons_zero, List.getElem_cons_succ, List.setIfInBounds_toArray, List.set_cons_zero, List.set_cons_succ])
      refine held_step (fun _ => trivial) (i := 4) (o := _) (by kernel_rfl) rfl (fun K hK => ?_)
      have hBq : V.heap.size ≤ x2.heap.size := hHeld.size
      go_simp
      have hrow := heap_alloc_new (x2) ((.cells #[.bool false, .int .u64 0, .int .u64 0, .int .u64 0, .int .u64 0, .int .u64 0, .int .u64 0, .int .u64 0, .int .u64 0, .int .u64 0, .int .u64 0, .int .u64 0, .int .u64 0, .int .u64 0, .int .u64 0, .int .u64 0, .int .u64 0, .int .u64 0, .int .u64 0, .int .u64 0, .int .u64 0] 27))
      refine hK.out _ _ (hHeld.alloc hHeld.size _) (fun hHeld => ?_)
      clear hK K
      (try simp only [Act.put, List.getElem_toArray, List.getElem_cons_zero, List.getElem_cons_succ, List.setIfInBounds_toArray, List.set_cons_zero, List.set_cons_succ])
      refine held_step (fun _ => trivial) (i := 5) (o := _) (by kernel_rfl) rfl (fun K hK => ?_)
      rw [if_pos (by kernel_rfl)]
      refine wpIn_store_row (fun _ => trivial) 27 (.tmp 5) (.tmp 9) (by kernel_rfl) (x2.heap.size) _ _ (bv z) (by kernel_rfl) (by kernel_rfl) hrow (bv_info _) (bv_same 0 _) (bv_one _) ?_
      refine hK.out _ _ (Below.row hHeld hBq _) (fun hHeld => ?_)
      clear hK K
      (try simp only [Act.put, List.getElem_toArray, List.getElem_cons_zero, List.getElem_cons_succ, List.setIfInBounds_toArray, List.set_cons_zero, List.set_cons_succ])
      refine held_done (by kernel_rfl) ?_ _
      exact HT (x2.heap.size) _ (setRow_heap _ _ _ _ _ _ hrow) hHeld
    · have hBq : V.heap.size ≤ x1.heap.size := hHeld.size
      go_simp
      have hrow := heap_alloc_new (x1) ((.cells #[.bool false, .int .u64 0, .int .u64 0, .int .u64 0, .int .u64 0, .int .u64 0, .int .u64 0, .int .u64 0, .int .u64 0, .int .u64 0, .int .u64 0, .int .u64 0, .int .u64 0, .int .u64 0, .int .u64 0, .int .u64 0, .int .u64 0, .int .u64 0, .int .u64 0, .int .u64 0, .int .u64 0] 27))
      refine hK.out _ _ (hHeld.alloc hHeld.size _) (fun hHeld => ?_)
      clear hK K
      (try simp only [Act.put, List.getElem_toArray, List.getElem_cons_zero, List.getElem_cons_succ, List.setIfInBounds_toArray, List.set_cons_zero, List.set_cons_succ])
      refine held_step (fun _ => trivial) (i := 3) (o := _) (by kernel_rfl) rfl (fun K hK => ?_)
      go_simp
      refine ⟨trivial, callsIn_wide.2 ((cA.out _).mono ?_)⟩
      rintro e x2 ⟨rfl, hb2⟩
      dsimp only
      replace hrow := keep_row hb2 hrow
      refine hK.out _ _ (bnext hHeld hb2) (fun hHeld => ?_)
      clear hK K
      (try simp only [Act.put, List.getElem_toArray, List.getElem_cons_zero, List.getElem_cons_succ, List.setIfInBounds_toArray, List.set_cons_zero, List.set_cons_succ])
      refine held_step (fun _ => trivial) (i := 5) (o := _) (by kernel_rfl) rfl (fun K hK => ?_)
      rw [if_pos (by kernel_rfl)]
      refine wpIn_store_row (fun _ => trivial) 27 (.tmp 5) (.tmp 9) (by kernel_rfl) (x1.heap.size) _ _ (bv z) (by kernel_rfl) (by kernel_rfl) hrow (bv_info _) (bv_same 0 _) (bv_one _) ?_
      refine hK.out _ _ (Below.row hHeld hBq _) (fun hHeld => ?_)
      clear hK K
      (try simp only [Act.put, List.getElem_toArray, List.getElem_cons_zero, List.getElem_cons_succ, List.setIfInBounds_toArray, List.set_cons_zero, List.set_cons_succ])
      refine held_done (by kernel_rfl) ?_ _
      exact HT (x1.heap.size) _ (setRow_heap _ _ _ _ _ _ hrow) hHeld
  · have hBq : V.heap.size ≤ V.heap.size := hHeld.size
    go_simp
    have hrow := heap_alloc_new (V.drew) ((.cells #[.bool false, .int .u64 0, .int .u64 0, .int .u64 0, .int .u64 0, .int .u64 0, .int .u64 0, .int .u64 0, .int .u64 0, .int .u64 0, .int .u64 0, .int .u64 0, .int .u64 0, .int .u64 0, .int .u64 0, .int .u64 0, .int .u64 0, .int .u64 0, .int .u64 0, .int .u64 0, .int .u64 0] 27))
    refine hK.out _ _ (hHeld.alloc hHeld.size _) (fun hHeld => ?_)
    clear hK K
    (try simp only [Act.put, List.getElem_toArray, List.getElem_cons_zero, List.getElem_cons_succ, List.setIfInBounds_toArray, List.set_cons_zero, List.set_cons_succ])
    refine held_step (fun _ => trivial) (i := 2) (o := _) (by kernel_rfl) rfl (fun K hK => ?_)
    go_simp
    refine ⟨trivial, callsIn_wide.2 ((cN.out _).mono ?_)⟩
    rintro e x1 ⟨rfl, hb1⟩
    dsimp only
    replace hrow := keep_row hb1 hrow
    refine hK.out _ _ (bnext hHeld hb1) (fun hHeld => ?_)
    clear hK K
    (try simp only [Act.put, List.getElem_toArray, List.getElem_cons_zero, List.getElem_cons_succ, List.setIfInBounds_toArray, List.set_cons_zero, List.set_cons_succ])
    refine held_step (fun _ => trivial) (i := 3) (o := _) (by kernel_rfl) rfl (fun K hK => ?_)
    go_simp
    refine ⟨trivial, callsIn_wide.2 ((cA.out _).mono ?_)⟩
    rintro e x2 ⟨rfl, hb2⟩
    dsimp only
    replace hrow := keep_row hb2 hrow
    refine hK.out _ _ (bnext hHeld hb2) (fun hHeld => ?_)
    clear hK K
    (try simp only [Act.put, List.getElem_toArray, List.getElem_cons_zero, List.getElem_cons_succ, List.setIfInBounds_toArray, List.set_cons_zero, List.set_cons_succ])
    refine held_step (fun _ => trivial) (i := 5) (o := _) (by kernel_rfl) rfl (fun K hK => ?_)
    rw [if_pos (by kernel_rfl)]
    refine wpIn_store_row (fun _ => trivial) 27 (.tmp 5) (.tmp 9) (by kernel_rfl) (V.heap.size) _ _ (bv z) (by kernel_rfl) (by kernel_rfl) hrow (bv_info _) (bv_same 0 _) (bv_one _) ?_
    refine hK.out _ _ (Below.row hHeld hBq _) (fun hHeld => ?_)
    clear hK K
    (try simp only [Act.put, List.getElem_toArray, List.getElem_cons_zero, List.getElem_cons_succ, List.setIfInBounds_toArray, List.set_cons_zero, List.set_cons_succ])
    refine held_done (by kernel_rfl) ?_ _
    exact HT (V.heap.size) _ (setRow_heap _ _ _ _ _ _ hrow) hHeld
theorem less_z (x y : Int) (w : World) (h : x.natAbs + y.natAbs < BB) : Calls Try.prog 18 #[.agg (bv x), .agg (bv y)] w fun e w' => e = .returned (.bool (decide (x < y))) ∧ Below w.heap.size w w' :=
  less_walk x y (-y) (x + -y) _ w (Lib.hid fun w => neg_z y w (by omega)) (Lib.hid fun w => add_z x (-y) w (by omega)) (Lib.hid (by rw [decide_eq_decide]; omega))
end Go.Proofs.Ytgkcbadfjhicnaa.Fx
