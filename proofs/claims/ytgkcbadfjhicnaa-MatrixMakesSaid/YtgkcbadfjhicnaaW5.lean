/- Package wide: comparisons; numbers of 64 bits. -/
import Derived.Test.YtgkcbadfjhicnaaProg
import Derived.Test.YtgkcbadfjhicnaaW3
import Derived.Deep.RegionHeld3
set_option linter.unusedVariables false
set_option linter.unusedSimpArgs false
namespace Go.Proofs.Ytgkcbadfjhicnaa.Fx
open Go Go.RowKit Wm
theorem cmp_eq (h : Int) (l : Nat) (w : World) :
    Calls Try.prog 23 #[.agg #[.int .i64 h, .int .u64 l], .agg #[.int .i64 h, .int .u64 l]] w fun e w' => e = .returned (.int .i64 0) ∧ Below w.heap.size w w' := by
  go_enter Try.func23, Try.ntmps23
  go_wp2
  go_ret
  exact ⟨rfl, by go_grown⟩
theorem cmp_hi (h k : Int) (l m : Nat) (w : World) (c : h < k) :
    Calls Try.prog 23 #[.agg #[.int .i64 h, .int .u64 l], .agg #[.int .i64 k, .int .u64 m]] w fun e w' => e = .returned (.int .i64 (-1)) ∧ Below w.heap.size w w' := by
  have c2 : (h == k) = false := by simp; omega
  go_enter Try.func23, Try.ntmps23
  go_wp2
  go_ret
  exact ⟨rfl, by go_grown⟩
theorem cmp_lo (h : Int) (l m : Nat) (w : World) (c : l < m) :
    Calls Try.prog 23 #[.agg #[.int .i64 h, .int .u64 l], .agg #[.int .i64 h, .int .u64 m]] w fun e w' => e = .returned (.int .i64 (-1)) ∧ Below w.heap.size w w' := by
  have c2 : ((l : Int) == (m : Int)) = false := by simp; omega
  have c3 : ((l : Int) < (m : Int)) := by omega
  have c4 : ¬ h < h := by omega
  go_enter Try.func23, Try.ntmps23
  go_wp2
  go_ret
  exact ⟨rfl, by go_grown⟩
theorem cmp_lo_no (h : Int) (l m : Nat) (w : World) (c : m < l) :
    Calls Try.prog 23 #[.agg #[.int .i64 h, .int .u64 l], .agg #[.int .i64 h, .int .u64 m]] w fun e w' => e = .returned (.int .i64 1) ∧ Below w.heap.size w w' := by
  have c2 : ((l : Int) == (m : Int)) = false := by simp; omega
  have c3 : ¬ ((l : Int) < (m : Int)) := by omega
  have c4 : ¬ h < h := by omega
  go_enter Try.func23, Try.ntmps23
  go_wp2
  go_ret
  exact ⟨rfl, by go_grown⟩
theorem cmp_hi_no (h k : Int) (l m : Nat) (w : World) (c : k < h) :
    Calls Try.prog 23 #[.agg #[.int .i64 h, .int .u64 l], .agg #[.int .i64 k, .int .u64 m]] w fun e w' => e = .returned (.int .i64 1) ∧ Below w.heap.size w w' := by
  have c2 : (h == k) = false := by simp; omega
  have c3 : ¬ h < k := by omega
  go_enter Try.func23, Try.ntmps23
  go_wp2
  go_ret
  exact ⟨rfl, by go_grown⟩
theorem cmp_any (x y a b : Int) (k l : Nat) (w : World) (hx : At x a k) (hy : At y b l) :
    Calls Try.prog 23 #[.agg #[.int .i64 a, .int .u64 k], .agg #[.int .i64 b, .int .u64 l]] w fun e w' => e = .returned (.int .i64 (cmpI x y)) ∧ Below w.heap.size w w' := by
  have E := at_eq hx hy
  have L := at_lt hx hy
  have k0 : x = y → cmpI x y = 0 := fun h => if_pos h
  have k1 : x < y → cmpI x y = -1 := fun h => by unfold cmpI; rw [if_neg (by omega), if_pos h]
  have k2 : ¬ x = y → ¬ x < y → cmpI x y = 1 := fun h g => by unfold cmpI; rw [if_neg h, if_neg g]
  rcases Int.lt_trichotomy a b with h | h | h
  · rw [k1 (by omega)]
    exact cmp_hi a b k l w h
  · subst h
    rcases Nat.lt_trichotomy k l with h | h | h
    · rw [k1 (by omega)]
      exact cmp_lo a k l w h
    · subst h
      rw [k0 (by omega)]
      exact cmp_eq a k w
    · rw [k2 (by omega) (by omega)]
      exact cmp_lo_no a k l w h
  · rw [k2 (by omega) (by omega)]
    exact cmp_hi_no a b k l w h
theorem sign_w (x a : Int) (k : Nat) (w : World) (hx : At x a k) :
    Calls Try.prog 24 #[.agg #[.int .i64 a, .int .u64 k]] w fun e w' => e = .returned (.int .i64 (cmpI x 0)) ∧ Below w.heap.size w w' := by
  have A0 : Hid (At 0 0 0) := Lib.hid (by unfold At; omega)
  have A1 := Lib.hid hx
  clear hx
  go_enter Try.func24, Try.ntmps24
  go_wp2_with fail
  refine (cmp_any x 0 a 0 k 0 _ A1.out A0.out).mono ?_
  rintro e w' ⟨rfl, hb⟩
  go_wp2
  go_ret
  exact ⟨rfl, by repeat' (first | (with_reducible exact Below.refl _ _) | (with_reducible assumption) | (with_reducible refine Below.drew ?_) | (with_reducible refine Below.setCell ?_ ?_ _) | (with_reducible refine bnext ?_ (by assumption)) | (with_reducible refine Below.alloc ?_ ?_ _) | go_size)⟩
/-- goes into 64 bits -/
def In64 (x : Int) : Prop := -9223372036854775808 ≤ x ∧ x < 9223372036854775808
instance (z : Int) : Decidable (In64 z) := by unfold In64; infer_instance
theorem int_w (h H n : Int) (l : Nat) (r s : Int) (w : World) (e0 : IntKind.i64.wrap (l : Int) = n) (e1 : n / 9223372036854775808 = H) (e2 : IntKind.u64.wrap n = (l : Int))
    (hc : h = H ∧ r = n ∧ s = 0 ∨ (h == H) = false ∧ r = 0 ∧ s = 20) :
    Calls Try.prog 19 #[.agg #[.int .i64 h, .int .u64 l]] w fun e w' => e = .returned (.tuple #[.int .i64 r, .int .i64 s]) ∧ Below w.heap.size w w' := by
  have RO := Lib.hid (fun w => of_w n H l w e1 e2)
  clear e1 e2
  rcases hc with ⟨rfl, rfl, rfl⟩ | ⟨c, rfl, rfl⟩
  all_goals
    go_enter Try.func19, Try.ntmps19
    go_wp2
    go_region_held3 (fun w' => w'.cell? ⟨w.heap.size, 0, none⟩ = some (.int .i64 h) ∧ w'.cell? ⟨w.heap.size, 1, none⟩ = some (.int .u64 l) ∧ Below w.heap.size w w')
      (first | (go_split_ands; refine ⟨keep_cell (by assumption) (by assumption), keep_cell (by assumption) (by assumption), bnext (by assumption) (by assumption)⟩) | (refine ⟨?_, ?_, ?_⟩ <;> first | (with_reducible assumption) | (go_grown; done) | (simp [go_sem, *]; done)))
      ((go_at_call 22; (with_reducible refine (RO.out _).mono ?_); rintro e w' ⟨rfl, hbb⟩))
    go_split_ands
    go_wp2
    go_ret2
    exact ⟨rfl, by repeat' (first | (with_reducible exact Below.refl _ _) | (with_reducible assumption) | (with_reducible refine Below.drew ?_) | (with_reducible refine Below.setCell ?_ ?_ _) | (with_reducible refine bnext ?_ (by assumption)) | (with_reducible refine Below.alloc ?_ ?_ _) | go_size)⟩
theorem int_any (x a : Int) (k : Nat) (w : World) (hx : At x a k) :
    Calls Try.prog 19 #[.agg #[.int .i64 a, .int .u64 k]] w fun e w' => e = .returned (.tuple #[.int .i64 (if In64 x then x else 0), .int .i64 (if In64 x then 0 else 20)]) ∧ Below w.heap.size w w' := by
  have hk := hx.2.1
  have e0 : IntKind.i64.wrap (k : Int) = ((k : Int) + 9223372036854775808) % 18446744073709551616 - 9223372036854775808 := IntKind.wrap_i64 _
  obtain ⟨n, hn⟩ : ∃ n, ((k : Int) + 9223372036854775808) % 18446744073709551616 - 9223372036854775808 = n := ⟨_, rfl⟩
  rw [hn] at e0
  refine int_w a _ n k _ _ w e0 rfl (by rw [IntKind.wrap_u64]; omega) ?_
  by_cases h : In64 x
  · left
    rw [if_pos h, if_pos h]
    unfold In64 at h
    unfold At at hx
    omega
  · right
    rw [if_neg h, if_neg h]
    refine ⟨?_, rfl, rfl⟩
    unfold In64 at h
    unfold At at hx
    simp
    omega
end Go.Proofs.Ytgkcbadfjhicnaa.Fx
