/- The law on quotients that are rounded down, walked. -/
import Derived.Test.YtabfdhecbbemjaaProg
import Derived.Test.YtabfdhecbbemjaaAlive
import Derived.WalkKit
import Derived.RowKit3
import Derived.OpenShut
import Derived.Outline
set_option linter.unusedVariables false
set_option linter.unusedSimpArgs false
namespace Go.Proofs.Ytabfdhecbbemjaa.Fx
open Go.RowKit
theorem tmod_bounds (a : Int) : -1099511627776 < a.tmod 1099511627776 ∧ a.tmod 1099511627776 < 1099511627776 := by
  have h := Int.tmod_lt_of_pos a (show (0 : Int) < 1099511627776 by decide)
  have h2 := Int.lt_tmod_of_pos a (show (0 : Int) < 1099511627776 by decide)
  omega
theorem floors_facts (a Y : Int) (c0 : -1099511627776 < a) (c1 : a < 1099511627776) (y0 : 1 ≤ Y) (y1 : Y ≤ 4294967296) :
    0 ≤ a * 65536 - a * 65536 / Y * Y ∧ a * 65536 - a * 65536 / Y * Y < Y ∧ -9007199254740992000 ≤ a * 65536 / Y * Y ∧ a * 65536 / Y * Y ≤ 9007199254740992000 ∧ Fm.mayB (a * 65536 / Y) = true ∧ Fm.mayB (a * Y / 65536) = true ∧ (decide (a * Y / 65536 < 0) == decide (a < 0)) = true := by
  have h0 := Int.emod_nonneg (a * 65536) (show Y ≠ 0 by omega)
  have h1 := Int.emod_lt_of_pos (a * 65536) (show 0 < Y by omega)
  have h2 := Int.mul_ediv_add_emod (a * 65536) Y
  rw [Int.mul_comm Y] at h2
  generalize (a * 65536) % Y = r at *
  generalize a * 65536 / Y = q at *
  have h3 : 0 ≤ q → q ≤ q * Y := fun h => by have := Int.mul_le_mul_of_nonneg_left y0 h; omega
  have h4 : q ≤ 0 → q * Y ≤ q := fun h => by have := Int.mul_le_mul_of_nonpos_left h y0; omega
  have h5 := Int.mul_le_mul_of_nonneg_right (show a ≤ 1099511627776 by omega) (show 0 ≤ Y by omega)
  have h6 := Int.mul_le_mul_of_nonneg_right (show -1099511627776 ≤ a by omega) (show 0 ≤ Y by omega)
  have h7 : a < 0 → a * Y ≤ -1 * Y := fun h => Int.mul_le_mul_of_nonneg_right (show a ≤ -1 by omega) (show 0 ≤ Y by omega)
  have h8 : 0 ≤ a → 0 ≤ a * Y := fun h => Int.mul_nonneg h (by omega)
  generalize q * Y = p at *
  generalize a * Y = z at *
  refine ⟨by omega, by omega, by omega, by omega, (Fm.may_iff _).2 ?_, (Fm.may_iff _).2 ?_, ?_⟩
  · by_cases hq : 0 ≤ q
    · have := h3 hq; omega
    · have := h4 (by omega); omega
  · omega
  · by_cases ha : a < 0
    · have : z / 65536 < 0 := by have := h7 ha; omega
      simp [ha, this]
    · have : ¬ z / 65536 < 0 := by have := h8 (by omega); omega
      simp [ha, this]
set_option maxHeartbeats 1600000 in
theorem floors_core (a0 a by0 Y q m p f : Int) (w : World) (p0 : -9223372036854775808 ≤ a0) (p1 : a0 ≤ 9223372036854775807) (ha : a0.tmod 1099511627776 = a) (b0 : 0 ≤ by0) (b1 : by0 ≤ 4294967295)
    (c0 : -1099511627776 < a) (c1 : a < 1099511627776) (hY : 1 + by0 = Y) (y0 : 1 ≤ Y) (y1 : Y ≤ 4294967296)
    (hD : ∀ w, Calls Try.prog 21 #[.int .i64 a, .int .i64 Y] w fun e w' => e = .returned (.tuple #[.int .i64 q, .int .i64 0]) ∧ ∃ n, w' = w.drewN n)
    (hM : ∀ w, Calls Try.prog 19 #[.int .i64 a, .int .i64 Y] w fun e w' => e = .returned (.tuple #[.int .i64 m, .int .i64 0]) ∧ ∃ n, w' = w.drewN n)
    (hF : ∀ w, Calls Try.prog 16 #[.int .i64 a] w fun e w' => e = .returned (.int .i64 f) ∧ w = w')
    (wp : IntKind.i64.wrap (q * Y) = p) (l0 : -9007199254740992000 ≤ p) (l1 : p ≤ 9007199254740992000) (t1 : 0 ≤ a * 65536 - p) (t2 : a * 65536 - p < Y) (f0 : -16777216 ≤ f) (f1 : f ≤ 16777216) (t3 : a - f * 65536 < 65536) (t4 : 0 ≤ a - f * 65536) (t5 : (decide (m < 0) == decide (a < 0)) = true) :
    Calls Try.prog 8 #[.int .i64 a0, .int .u32 by0] w fun e w' => e = .returned (.bool true) ∧ Grown w w' := by
  go_enter Try.func8, Try.ntmps8
  go_wp2_with fail
  refine (alive_any _).mono ?_
  rintro e w' ⟨rfl, n1, rfl⟩
  go_wp2_with fail
  refine (hD _).mono ?_
  rintro e w' ⟨rfl, n2, rfl⟩
  go_wp2_with fail
  refine (hM _).mono ?_
  rintro e w' ⟨rfl, n3, rfl⟩
  go_wp2_with fail
  refine (hF _).mono ?_
  rintro e w' ⟨rfl, rfl⟩
  go_wp2_with fail
  refine (hF _).mono ?_
  rintro e w' ⟨rfl, rfl⟩
  go_wp2_with fail
  go_ret
  exact ⟨rfl, grown_drewN _⟩
theorem walk_fixedFloors (a0 : Int) (a1 : Int) (w0 : (Lit.int .i64 a0).wf = true) (w1 : (Lit.int .u32 a1).wf = true) (w : World) :
    Calls Try.prog 8 #[.int .i64 a0, .int .u32 a1] w fun e w' => e = .returned (.bool true) ∧ Grown w w' := by
  obtain ⟨p0, p1⟩ := bounds_i64 w0
  obtain ⟨q0, q1⟩ := bounds_u32 w1
  obtain ⟨c0, c1⟩ := tmod_bounds a0
  obtain ⟨a, ha⟩ : ∃ a, a0.tmod 1099511627776 = a := ⟨_, rfl⟩
  rw [ha] at c0 c1
  obtain ⟨k1, k2, k3, k4, k5, k6, k7⟩ := floors_facts a (1 + a1) c0 c1 (by omega) (by omega)
  have hm : Fm.mayB a = true := (Fm.may_iff a).2 (by omega)
  have hy : Fm.mayB (1 + a1) = true := (Fm.may_iff _).2 (by omega)
  have d1 : Fm.dn (a * 65536) (1 + a1) = a * 65536 / (1 + a1) := by unfold Fm.dn; rw [if_pos (by omega)]
  have d2 : Fm.dn (a * (1 + a1)) 65536 = a * (1 + a1) / 65536 := by unfold Fm.dn; rw [if_pos (by omega)]
  exact floors_core a0 a a1 (1 + a1) _ _ _ (a / 65536) w p0 p1 ha q0 q1 c0 c1 rfl (by omega) (by omega)
    (fun w => fdiv_at a (1 + a1) _ 0 w (by omega) (by rw [d1]; exact (ov_in hm hy k5).1) (by rw [d1]; exact (ov_in hm hy k5).2))
    (fun w => fmul_at a (1 + a1) _ 0 w (by rw [d2]; exact (ov_in hm hy k6).1) (by rw [d2]; exact (ov_in hm hy k6).2))
    (fun w => floor_any a w (by omega) (by omega)) (IntWalk.i64_in _ ⟨by omega, by omega⟩) k3 k4 k1 k2 (by omega) (by omega) (by omega) (by omega) k7
end Go.Proofs.Ytabfdhecbbemjaa.Fx
