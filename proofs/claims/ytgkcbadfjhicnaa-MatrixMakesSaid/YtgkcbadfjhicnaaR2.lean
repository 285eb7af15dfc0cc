/- The document's comparison of sizes, walked. -/
import Derived.Test.YtgkcbadfjhicnaaProg
import Derived.Test.YtgkcbadfjhicnaaR1
set_option linter.unusedVariables false
set_option linter.unusedSimpArgs false
namespace Go.Proofs.Ytgkcbadfjhicnaa.Fx
open Go Go.RowKit Wm
/-- less, from digit k - 1 down -/
def lessT (dx dy : List Nat) : Nat → Bool
  | 0 => false
  | k + 1 => if dx.getD k 0 = dy.getD k 0 then lessT dx dy k else decide (dx.getD k 0 < dy.getD k 0)
def LRel (nx ny : Bool) (dx dy : List Nat) (w : World) (g : Nat) (s5 : Value) (wr : World) : Prop :=
  ∃ k : Nat, k = g ∧ k ≤ 20 ∧ s5 = .int .i64 ((k : Int) - 1) ∧ lessT dx dy 20 = lessT dx dy k ∧ wr.heap[w.heap.size]? = some (.cells (bigC nx dx) 27 (0, 0)) ∧
    wr.heap[w.heap.size + 1]? = some (.cells (bigC ny dy) 27 (0, 0)) ∧ Below w.heap.size w wr
set_option maxHeartbeats 2000000 in
set_option maxRecDepth 100000 in
theorem less_big (nx ny : Bool) (dx dy : List Nat) (w : World) (hx : dx.length = 20) (hy : dy.length = 20) :
    Calls Try.prog 50 #[.agg (bigC nx dx), .agg (bigC ny dy)] w fun e w' => e = .returned (.bool (lessT dx dy 20)) ∧ Below w.heap.size w w' := by
  have HX := Lib.hid hx
  have HY := Lib.hid hy
  clear hx hy
  go_enter Try.func50, Try.ntmps50
  go_wp2_with fail
  go_loopg [5] 20 (LRel nx ny dx dy w)
  case atStart => exact ⟨20, rfl, by omega, rfl, rfl, step_row (heap_alloc_new _ _), heap_alloc2_new w _ _, by go_grown⟩
  case round =>
    obtain ⟨k, rfl, hk, rfl, hl, bx, bb, hB⟩ := hrel
    have HL := Lib.hid hl
    have BX := Lib.hid bx
    have BY := Lib.hid bb
    have HB := Lib.hid hB
    clear hl bx bb hB
    match k, hk with
    | 0, hk =>
      go_wp2_with fail
      go_ret
      exact ⟨by rw [HL.out]; rfl, HB.out⟩
    | j + 1, hk =>
      obtain ⟨a, ha⟩ : ∃ a, dx.getD j 0 = a := ⟨_, rfl⟩
      obtain ⟨b, hb⟩ : ∃ b, dy.getD j 0 = b := ⟨_, rfl⟩
      have cx : wr.cell? ⟨w.heap.size, 1 + j, none⟩ = some (.int .u64 (a : Int)) := by rw [cell_of_row _ _ _ _ _ _ BX.out, big_at _ _ _ (by rw [HX.out]; omega), ha]
      have cy : wr.cell? ⟨w.heap.size + 1, 1 + j, none⟩ = some (.int .u64 (b : Int)) := by rw [cell_of_row _ _ _ _ _ _ BY.out, big_at _ _ _ (by rw [HY.out]; omega), hb]
      have k0 : (0 : Int) ≤ (j : Int) := by omega
      have k1 : (j : Int) < 20 := by omega
      have e1 : ((j + 1 : Nat) : Int) - 1 = (j : Int) := by omega
      rw [e1]
      have HA : Hid (dx.getD j 0 = a) := Lib.hid ha
      have HBB : Hid (dy.getD j 0 = b) := Lib.hid hb
      clear ha hb e1
      by_cases hab : a = b
      · have t1 : ((a : Int) != (b : Int)) = false := by simp; omega
        have NX : Hid (lessT dx dy 20 = lessT dx dy j) := Lib.hid (by rw [HL.out]; show (if dx.getD j 0 = dy.getD j 0 then _ else _) = _; rw [if_pos (by rw [HA.out, HBB.out]; exact hab)])
        clear hab
        go_wp2_with fail
        go_quiet (fail)
        go_wp2_with fail
        go_roundg j
        case measure => omega
        case rel => exact ⟨j, rfl, by omega, rfl, NX.out, BX.out, BY.out, bdrewN _ HB.out⟩
      · have t1 : ((a : Int) != (b : Int)) = true := by simp; omega
        have NX : Hid (lessT dx dy 20 = decide (a < b)) := Lib.hid (by rw [HL.out]; show (if dx.getD j 0 = dy.getD j 0 then _ else _) = _; rw [if_neg (by rw [HA.out, HBB.out]; exact hab), HA.out, HBB.out])
        clear hab
        go_wp2_with fail
        go_quiet (fail)
        go_wp2_with fail
        go_quiet (fail)
        go_wp2_with fail
        go_ret
        exact ⟨ret_bool NX.out.symm, bdrewN _ (bdrewN _ HB.out)⟩
end Go.Proofs.Ytgkcbadfjhicnaa.Fx
