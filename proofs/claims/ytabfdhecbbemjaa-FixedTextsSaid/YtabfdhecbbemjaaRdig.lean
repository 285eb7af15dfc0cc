/- The reference's digits, walked. -/
import Derived.Test.YtabfdhecbbemjaaProg
import Derived.Test.YtabfdhecbbemjaaHex
import Derived.WalkKit
import Derived.Lib.Hide
set_option linter.unusedVariables false
set_option linter.unusedSimpArgs false
namespace Go.Proofs.Ytabfdhecbbemjaa.Fx
open Go Go.RowKit Go.Shelf
set_option maxHeartbeats 1600000 in
theorem digs_any (n : Nat) (w : World) (hn : n ≤ 70368744177664) :
    Calls Try.prog 41 #[.int .i64 (n : Int)] w fun e w' => e = .returned (.string (bstr (decs n))) ∧ _root_.Go.RowKit.Below w.heap.size w w' := by
  have hc := fun W => conv_one (48 + n % 10) 5 W
  have e1 : ((48 + n % 10 : Nat) : Int) = 48 + (n : Int) % 10 := by omega
  rw [e1] at hc
  have hD := di_start n hn
  go_enter Try.func41, Try.ntmps41
  go_wp2_with (rw [hc])
  have hB0 : _root_.Go.RowKit.Below w.heap.size w (w.alloc (.cells #[.int .u8 (48 + (n : Int) % 10)] 5)) := (_root_.Go.RowKit.Below.refl _ _).alloc (Nat.le_refl _) _
  generalize (w.alloc (.cells #[.int .u8 (48 + (n : Int) % 10)] 5)) = W0 at *
  generalize [48 + n % 10] = l0 at *
  clear hc e1
  go_loopg [0, 3] n (fun g s0 s3 wx => ∃ (m : Nat) (l : List Nat), g = m ∧ s0 = .int .i64 (m : Int) ∧ s3 = .string (bstr l) ∧ DI n m l ∧ _root_.Go.RowKit.Below w.heap.size w wx)
  case atStart => exact ⟨n, l0, rfl, rfl, rfl, hD, hB0⟩
  case round =>
    obtain ⟨m, l, rfl, rfl, rfl, hI, hB⟩ := hrel
    have hm := hI.1
    by_cases h9 : 9 < gk
    · have t1 : (9 : Int) < (gk : Int) := by omega
      have hc := conv_one (48 + gk / 10 % 10) 5 wr
      have e1 : ((48 + gk / 10 % 10 : Nat) : Int) = 48 + (gk : Int) / 10 % 10 := by omega
      rw [e1] at hc
      have hN := di_next hI h9
      have ha := add_str [48 + gk / 10 % 10] l (by have := di_len hI; simp; omega)
      go_wp2_with (first | rw [hc] | rw [ha])
      go_roundg (gk / 10)
      case measure => omega
      case rel => exact ⟨gk / 10, (48 + gk / 10 % 10) :: l, rfl, by go_num, rfl, hN, hB.alloc hB.size _⟩
    · have t1 : ¬ (9 : Int) < (gk : Int) := by omega
      have he := di_end hI h9
      subst he
      go_wp2_with fail
      go_ret
      exact ⟨rfl, hB⟩
end Go.Proofs.Ytabfdhecbbemjaa.Fx
