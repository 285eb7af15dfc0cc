/- Package wide: sums and differences by their value; comparisons; numbers of 64 bits. -/
import Derived.Test.YtgkglkoipocgaaaProg
import Derived.Test.YtgkglkoipocgaaaW3
import Derived.Test.YtgkglkoipocgaaaW1
import Derived.Deep.RegionHeld3
set_option linter.unusedVariables false
set_option linter.unusedSimpArgs false
namespace Go.Proofs.Ytgkglkoipocgaaa.Fx
open Go Go.RowKit Wm
theorem add_any (x y xh yh : Int) (xl yl : Nat) (w : World) (hx : At x xh xl) (hy : At y yh yl) :
    Calls Try.prog 76 #[.agg #[.int .i64 xh, .int .u64 xl], .agg #[.int .i64 yh, .int .u64 yl]] w (RetE (x + y) w) := by
  have r1 : Words0 79 xl yl _ _ := fun w => run_add64z xl yl w
  have L := add_at hx hy
  have e1 : IntKind.u64.wrap xh = (uw xh : Int) := by rw [IntKind.wrap_u64, uw_eq]
  have e2 : IntKind.u64.wrap yh = (uw yh : Int) := by rw [IntKind.wrap_u64, uw_eq]
  obtain ⟨z, hz⟩ : ∃ z, w128 (x + y) = z := ⟨_, rfl⟩
  have F := add_fits hx.inn hy.inn hz
  rw [hz] at L
  have hxs := hx.neg
  have hys := hy.neg
  have hb1 : (xl + yl) / 18446744073709551616 ≤ 1 := by have := hx.2.1; have := hy.2.1; omega
  have r2 : Words 79 (uw xh) (uw yh) _ _ _ := fun w => run_add64 (uw xh) (uw yh) _ hb1 w
  have e3 := IntKind.wrap_i64 (((uw xh + uw yh + (xl + yl) / 18446744073709551616) % 18446744073709551616 : Nat) : Int)
  have hzs := L.neg
  clear hx hy
  generalize ((((uw xh + uw yh + (xl + yl) / 18446744073709551616) % 18446744073709551616 : Nat) : Int) + 9223372036854775808) % 18446744073709551616 - 9223372036854775808 = H at *
  cases c1 : decide (xh < 0) <;> cases c2 : decide (yh < 0)
  · have d1 := of_decide_eq_false c1
    have d2 := of_decide_eq_false c2
    cases c3 : decide (H < 0)
    · have d3 := of_decide_eq_false c3
      exact (add_fff xh yh H xl yl _ _ _ _ _ _ w r1 r2 e1 e2 e3 (Lib.hid c1) (Lib.hid c2) (Lib.hid c3)).mono fun e w' ⟨he, hb⟩ => he ▸ ret_e (F.2 (by omega)) hz L hb
    · have d3 := of_decide_eq_true c3
      exact (add_fft xh yh H xl yl _ _ _ _ _ _ w r1 r2 e1 e2 e3 (Lib.hid c1) (Lib.hid c2) (Lib.hid c3)).mono fun e w' ⟨he, hb⟩ => he ▸ ret_no (fun hi => by have := F.1 hi; omega) hb
  · have d1 := of_decide_eq_false c1
    have d2 := of_decide_eq_true c2
    exact (add_ft xh yh H xl yl _ _ _ _ _ _ w r1 r2 e1 e2 e3 (Lib.hid c1) (Lib.hid c2)).mono fun e w' ⟨he, hb⟩ => he ▸ ret_e (F.2 (by omega)) hz L hb
  · have d1 := of_decide_eq_true c1
    have d2 := of_decide_eq_false c2
    exact (add_tf xh yh H xl yl _ _ _ _ _ _ w r1 r2 e1 e2 e3 (Lib.hid c1) (Lib.hid c2)).mono fun e w' ⟨he, hb⟩ => he ▸ ret_e (F.2 (by omega)) hz L hb
  · have d1 := of_decide_eq_true c1
    have d2 := of_decide_eq_true c2
    cases c3 : decide (H < 0)
    · have d3 := of_decide_eq_false c3
      exact (add_ttf xh yh H xl yl _ _ _ _ _ _ w r1 r2 e1 e2 e3 (Lib.hid c1) (Lib.hid c2) (Lib.hid c3)).mono fun e w' ⟨he, hb⟩ => he ▸ ret_no (fun hi => by have := F.1 hi; omega) hb
    · have d3 := of_decide_eq_true c3
      exact (add_ttt xh yh H xl yl _ _ _ _ _ _ w r1 r2 e1 e2 e3 (Lib.hid c1) (Lib.hid c2) (Lib.hid c3)).mono fun e w' ⟨he, hb⟩ => he ▸ ret_e (F.2 (by omega)) hz L hb
end Go.Proofs.Ytgkglkoipocgaaa.Fx
