/- eightSteps, walked; and the document's one step. -/
import Derived.Test.YtgkcbadfjhicnabProg
import Derived.Test.YtgkcbadfjhicnabCm
import Derived.WalkKit
import Derived.Lib.Hide
import Derived.Outline
import Derived.Deep.LoopGhost
import Derived.Deep.QuietTactic
import Derived.BigQuiet
import Derived.Laws.BitsAllLaws
import Derived.Laws.ShiftsVarLaws
set_option linter.unusedVariables false
set_option linter.unusedSimpArgs false
namespace Go.Proofs.Ytgkcbadfjhicnab.Fx
open Go Go.RowKit
theorem sh_odd {n : Nat} (h : n % 2 = 1) : sh n = n / 2 ^^^ 3988292384 := by unfold sh; rw [if_pos h]
theorem sh_ev {n : Nat} (h : ¬ n % 2 = 1) : sh n = n / 2 := by unfold sh; rw [if_neg h]
theorem sh_bits {n : Nat} (hn : n < 4294967296) : bits .xor .u32 ((n : Int) / 2) 3988292384 = ((n / 2 ^^^ 3988292384 : Nat) : Int) := by
  rw [show ((n : Int) / 2) = ((n / 2 : Nat) : Int) from by omega]
  exact u32_xor_nat _ 3988292384 (by omega) (by omega)
theorem u32_bit1 (x : Nat) (hx : x < 4294967296) : bits .and .u32 (x : Int) 1 = ((x % 2 : Nat) : Int) := by
  rw [show (1 : Int) = ((1 : Nat) : Int) from rfl, u32_and_nat x 1 hx (by omega), Nat.and_two_pow_sub_one_eq_mod x 1]
theorem u32_mask (m : Nat) (hm : m < 4294967296) : bits .and .u32 (m : Int) 4294967295 = (m : Int) := by
  rw [show (4294967295 : Int) = ((4294967295 : Nat) : Int) from rfl, u32_and_nat m _ hm (by omega), Nat.and_two_pow_sub_one_eq_mod m 32, Nat.mod_eq_of_lt hm]
theorem u32_none (m : Nat) (hm : m < 4294967296) : bits .and .u32 (m : Int) 0 = 0 := by
  rw [show (0 : Int) = ((0 : Nat) : Int) from rfl, u32_and_nat m _ hm (by omega), Nat.and_zero]
theorem u32_xor0 (m : Nat) (hm : m < 4294967296) : bits .xor .u32 (m : Int) 0 = (m : Int) := by
  rw [show (0 : Int) = ((0 : Nat) : Int) from rfl, u32_xor_nat m _ hm (by omega), Nat.xor_zero]
theorem step_bits (x : Nat) (hx : x < 4294967296) :
    bits .xor .u32 ((x : Int) / 2) (bits .and .u32 3988292384 (-bits .and .u32 (x : Int) 1 % 4294967296)) = ((sh x : Nat) : Int) := by
  rw [u32_bit1 x hx]
  by_cases h : x % 2 = 1
  · rw [h, sh_odd h, ← sh_bits hx, show -((1 : Nat) : Int) % 4294967296 = 4294967295 by decide]
    rw [show bits .and .u32 3988292384 4294967295 = 3988292384 from u32_mask 3988292384 (by omega)]
  · rw [show x % 2 = 0 by omega, sh_ev h, show -((0 : Nat) : Int) % 4294967296 = 0 by decide, show bits .and .u32 3988292384 0 = 0 from u32_none 3988292384 (by omega), show ((x : Int) / 2) = ((x / 2 : Nat) : Int) from by omega]
    exact u32_xor0 _ (by omega)
set_option maxHeartbeats 1600000 in
theorem eight_any (n : Nat) (w : World) (hn : n < 4294967296) :
    Calls Try.prog 20 #[.int .u32 (n : Int)] w fun e w' => e = .returned (.int .u32 ((it 8 n : Nat) : Int)) ∧ w' = w := by
  go_enter Try.func20, Try.ntmps20
  go_wp2_with fail
  go_loopg [0, 3] 8 (fun g s0 s3 wx => ∃ k : Nat, g = 8 - k ∧ k ≤ 8 ∧ s3 = .int .i64 (k : Int) ∧ s0 = .int .u32 ((it k n : Nat) : Int) ∧ wx = w)
  case atStart => exact ⟨0, rfl, by omega, rfl, rfl, rfl⟩
  case round =>
    obtain ⟨k, rfl, hk, rfl, rfl, rfl⟩ := hrel
    have hx := it_lt k hn
    have hs := Lib.hid (it_succ k n)
    have hend : Hid (k = 8 → it k n = it 8 n) := Lib.hid (fun e => by rw [e])
    have hb := step_bits (it k n) hx
    generalize it k n = x at *
    by_cases h8 : k < 8
    · have t1 : (k : Int) < 8 := by omega
      go_wp2_with fail
      go_roundg (8 - (k + 1))
      case measure => omega
      case rel => exact ⟨k + 1, rfl, by omega, by go_num, by rw [hs.out], rfl⟩
    · have t1 : ¬ (k : Int) < 8 := by omega
      go_wp2_with fail
      go_ret
      exact ⟨by rw [hend.out (by omega)]; rfl, rfl⟩
set_option maxHeartbeats 1600000 in
theorem shift_any (n : Nat) (w : World) (hn : n < 4294967296) :
    Calls Try.prog 21 #[.int .u32 (n : Int)] w fun e w' => e = .returned (.int .u32 ((sh n : Nat) : Int)) ∧ w' = w := by
  by_cases h1 : n % 2 = 1
  · have t1 : (n : Int) % 2 = 1 := by omega
    rw [sh_odd h1, ← sh_bits hn]
    go_enter Try.func21, Try.ntmps21
    go_wp2_with fail
    go_ret
    exact ⟨rfl, rfl⟩
  · have t1 : ¬ (n : Int) % 2 = 1 := by omega
    rw [sh_ev h1, Int.natCast_ediv]
    go_enter Try.func21, Try.ntmps21
    go_wp2_with fail
    go_ret
    exact ⟨rfl, rfl⟩
end Go.Proofs.Ytgkcbadfjhicnab.Fx
