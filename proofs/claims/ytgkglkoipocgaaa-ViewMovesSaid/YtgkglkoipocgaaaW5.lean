/- Package wide: comparisons; numbers of 64 bits. -/
import Derived.Test.YtgkglkoipocgaaaProg
import Derived.Test.YtgkglkoipocgaaaW3
import Derived.Deep.RegionHeld3
set_option linter.unusedVariables false
set_option linter.unusedSimpArgs false
namespace Go.Proofs.Ytgkglkoipocgaaa.Fx
open Go Go.RowKit Wm
/-- goes into 64 bits -/
def In64 (x : Int) : Prop := -9223372036854775808 ≤ x ∧ x < 9223372036854775808
instance (z : Int) : Decidable (In64 z) := by unfold In64; infer_instance
theorem int_w (h H n : Int) (l : Nat) (r s : Int) (w : World) (e0 : IntKind.i64.wrap (l : Int) = n) (e1 : n / 9223372036854775808 = H) (e2 : IntKind.u64.wrap n = (l : Int))
    (hc : h = H ∧ r = n ∧ s = 0 ∨ (h == H) = false ∧ r = 0 ∧ s = 20) :
    Calls Try.prog 53 #[.agg #[.int .i64 h, .int .u64 l]] w fun e w' => e = .returned (.tuple #[.int .i64 r, .int .i64 s]) ∧ Below w.heap.size w w' := by
  have RO := Lib.hid (fun w => of_w n H l w e1 e2)
  clear e1 e2
  rcases hc with ⟨rfl, rfl, rfl⟩ | ⟨c, rfl, rfl⟩
  all_goals
    go_enter Try.func53, Try.ntmps53
    go_wp2
    go_region_held3 (fun w' => w'.cell? ⟨w.heap.size, 0, none⟩ = some (.int .i64 h) ∧ w'.cell? ⟨w.heap.size, 1, none⟩ = some (.int .u64 l) ∧ Below w.heap.size w w')
      (first | (go_split_ands; refine ⟨keep_cell (by assumption) (by assumption), keep_cell (by assumption) (by assumption), bnext (by assumption) (by assumption)⟩) | (refine ⟨?_, ?_, ?_⟩ <;> first | (with_reducible assumption) | (go_grown; done) | (simp [go_sem, *]; done)))
      ((go_at_call 73; (with_reducible refine (RO.out _).mono ?_); rintro e w' ⟨rfl, hbb⟩))
    go_split_ands
    go_wp2
    go_ret2
    exact ⟨rfl, by repeat' (first | (with_reducible exact Below.refl _ _) | (with_reducible assumption) | (with_reducible refine Below.drew ?_) | (with_reducible refine Below.setCell ?_ ?_ _) | (with_reducible refine bnext ?_ (by assumption)) | (with_reducible refine Below.alloc ?_ ?_ _) | go_size)⟩
theorem int_any (x a : Int) (k : Nat) (w : World) (hx : At x a k) :
    Calls Try.prog 53 #[.agg #[.int .i64 a, .int .u64 k]] w fun e w' => e = .returned (.tuple #[.int .i64 (if In64 x then x else 0), .int .i64 (if In64 x then 0 else 20)]) ∧ Below w.heap.size w w' := by
  have hk := hx.2.1
  have e0 : IntKind.i64.wrap (k : Int) = ((k : Int) + 9223372036854775808) % 18446744073709551616 - 9223372036854775808 := IntKind.wrap_i64 _
  obtain ⟨n, hn⟩ : ∃ n, ((k : Int) + 9223372036854775808) % 18446744073709551616 - 9223372036854775808 = n := ⟨_, rfl⟩
  rw [hn] at e0
  refine int_w a _ n k _ _ w e0 rfl (by rw [IntKind.wrap_u64]; omega) ?_
  by_cases h : In64 x
  · left
    rw [if_pos h, if_pos h]
    unfold In64 at h
    unfold At at hx
    omega
  · right
    rw [if_neg h, if_neg h]
    refine ⟨?_, rfl, rfl⟩
    unfold In64 at h
    unfold At at hx
    simp
    omega
end Go.Proofs.Ytgkglkoipocgaaa.Fx
