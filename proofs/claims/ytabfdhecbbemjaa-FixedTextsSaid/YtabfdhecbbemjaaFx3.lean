/- Contracts of package fixed's checked steps: products and quotients. -/
import Derived.Test.YtabfdhecbbemjaaProg
import Derived.Test.YtabfdhecbbemjaaFx1
import Derived.WalkKit
import Derived.Deep.QuietTactic
set_option linter.unusedVariables false
namespace Go.Proofs.Ytabfdhecbbemjaa.Fx
open Go.RowKit

/-- a step by products, whatever world it is called in -/
def StepM (a b n : Int) (ok : Bool) : Prop := ∀ w, Calls Try.prog 35 #[.int .i64 a, .int .i64 b] w fun e w' => e = .returned (.tuple #[.int .i64 n, .bool ok]) ∧ ∃ n, w' = w.drewN n

theorem checkedM_fail (a b m n : Int) (w : World) (H : StepM a b n false) (hm1 : m ≤ 4611686018427387904) (ha1 : -m ≤ a) (ha2 : a ≤ m) (hb1 : -m ≤ b) (hb2 : b ≤ m) :
    Calls Try.prog 29 #[.int .i64 a, .int .i64 b, .int .i64 m, .func (.func 35) #[] #[]] w fun e w' => e = .returned (.tuple #[.int .i64 0, .int .i64 10]) ∧ ∃ n, w' = w.drewN n := by
  go_enter Try.func29, Try.ntmps29
  go_wp2_with fail
  refine (within_yes a m _ hm1 ha1 ha2).mono ?_
  rintro e w' ⟨rfl, rfl⟩
  go_wp2_with fail
  refine (within_yes b m _ hm1 hb1 hb2).mono ?_
  rintro e w' ⟨rfl, rfl⟩
  go_wp2_with fail
  refine (H _).mono ?_
  rintro e w' ⟨rfl, nd, rfl⟩
  go_wp2_with fail
  go_ret2
  exact ⟨rfl, nd, rfl⟩

theorem checkedM_over (a b m n : Int) (w : World) (H : StepM a b n true) (hm0 : 0 ≤ m) (hm1 : m ≤ 4611686018427387904) (ha1 : -m ≤ a) (ha2 : a ≤ m) (hb1 : -m ≤ b) (hb2 : b ≤ m) (hn : n < -m ∨ m < n) :
    Calls Try.prog 29 #[.int .i64 a, .int .i64 b, .int .i64 m, .func (.func 35) #[] #[]] w fun e w' => e = .returned (.tuple #[.int .i64 0, .int .i64 10]) ∧ ∃ n, w' = w.drewN n := by
  go_enter Try.func29, Try.ntmps29
  go_wp2_with fail
  refine (within_yes a m _ hm1 ha1 ha2).mono ?_
  rintro e w' ⟨rfl, rfl⟩
  go_wp2_with fail
  refine (within_yes b m _ hm1 hb1 hb2).mono ?_
  rintro e w' ⟨rfl, rfl⟩
  go_wp2_with fail
  refine (H _).mono ?_
  rintro e w' ⟨rfl, nd, rfl⟩
  go_wp2_with fail
  refine (within_no n m _ hm0 hm1 hn).mono ?_
  rintro e w' ⟨rfl, rfl⟩
  go_wp2_with fail
  go_ret2
  exact ⟨rfl, nd, rfl⟩

theorem checkedM_ok (a b m n : Int) (w : World) (H : StepM a b n true) (hm1 : m ≤ 4611686018427387904) (ha1 : -m ≤ a) (ha2 : a ≤ m) (hb1 : -m ≤ b) (hb2 : b ≤ m) (hn1 : -m ≤ n) (hn2 : n ≤ m) :
    Calls Try.prog 29 #[.int .i64 a, .int .i64 b, .int .i64 m, .func (.func 35) #[] #[]] w fun e w' => e = .returned (.tuple #[.int .i64 n, .int .i64 0]) ∧ ∃ n, w' = w.drewN n := by
  go_enter Try.func29, Try.ntmps29
  go_wp2_with fail
  refine (within_yes a m _ hm1 ha1 ha2).mono ?_
  rintro e w' ⟨rfl, rfl⟩
  go_wp2_with fail
  refine (within_yes b m _ hm1 hb1 hb2).mono ?_
  rintro e w' ⟨rfl, rfl⟩
  go_wp2_with fail
  refine (H _).mono ?_
  rintro e w' ⟨rfl, nd, rfl⟩
  go_wp2_with fail
  refine (within_yes n m _ hm1 hn1 hn2).mono ?_
  rintro e w' ⟨rfl, rfl⟩
  go_wp2_with fail
  go_ret2
  exact ⟨rfl, nd, rfl⟩

/-- a step by quotients, whatever world it is called in -/
def StepD (a b n : Int) (ok : Bool) : Prop := ∀ w, Calls Try.prog 37 #[.int .i64 a, .int .i64 b] w fun e w' => e = .returned (.tuple #[.int .i64 n, .bool ok]) ∧ ∃ n, w' = w.drewN n

theorem checkedD_fail (a b m n : Int) (w : World) (H : StepD a b n false) (hm1 : m ≤ 4611686018427387904) (ha1 : -m ≤ a) (ha2 : a ≤ m) (hb1 : -m ≤ b) (hb2 : b ≤ m) :
    Calls Try.prog 29 #[.int .i64 a, .int .i64 b, .int .i64 m, .func (.func 37) #[] #[]] w fun e w' => e = .returned (.tuple #[.int .i64 0, .int .i64 10]) ∧ ∃ n, w' = w.drewN n := by
  go_enter Try.func29, Try.ntmps29
  go_wp2_with fail
  refine (within_yes a m _ hm1 ha1 ha2).mono ?_
  rintro e w' ⟨rfl, rfl⟩
  go_wp2_with fail
  refine (within_yes b m _ hm1 hb1 hb2).mono ?_
  rintro e w' ⟨rfl, rfl⟩
  go_wp2_with fail
  refine (H _).mono ?_
  rintro e w' ⟨rfl, nd, rfl⟩
  go_wp2_with fail
  go_ret2
  exact ⟨rfl, nd, rfl⟩

theorem checkedD_over (a b m n : Int) (w : World) (H : StepD a b n true) (hm0 : 0 ≤ m) (hm1 : m ≤ 4611686018427387904) (ha1 : -m ≤ a) (ha2 : a ≤ m) (hb1 : -m ≤ b) (hb2 : b ≤ m) (hn : n < -m ∨ m < n) :
    Calls Try.prog 29 #[.int .i64 a, .int .i64 b, .int .i64 m, .func (.func 37) #[] #[]] w fun e w' => e = .returned (.tuple #[.int .i64 0, .int .i64 10]) ∧ ∃ n, w' = w.drewN n := by
  go_enter Try.func29, Try.ntmps29
  go_wp2_with fail
  refine (within_yes a m _ hm1 ha1 ha2).mono ?_
  rintro e w' ⟨rfl, rfl⟩
  go_wp2_with fail
  refine (within_yes b m _ hm1 hb1 hb2).mono ?_
  rintro e w' ⟨rfl, rfl⟩
  go_wp2_with fail
  refine (H _).mono ?_
  rintro e w' ⟨rfl, nd, rfl⟩
  go_wp2_with fail
  refine (within_no n m _ hm0 hm1 hn).mono ?_
  rintro e w' ⟨rfl, rfl⟩
  go_wp2_with fail
  go_ret2
  exact ⟨rfl, nd, rfl⟩

theorem checkedD_ok (a b m n : Int) (w : World) (H : StepD a b n true) (hm1 : m ≤ 4611686018427387904) (ha1 : -m ≤ a) (ha2 : a ≤ m) (hb1 : -m ≤ b) (hb2 : b ≤ m) (hn1 : -m ≤ n) (hn2 : n ≤ m) :
    Calls Try.prog 29 #[.int .i64 a, .int .i64 b, .int .i64 m, .func (.func 37) #[] #[]] w fun e w' => e = .returned (.tuple #[.int .i64 n, .int .i64 0]) ∧ ∃ n, w' = w.drewN n := by
  go_enter Try.func29, Try.ntmps29
  go_wp2_with fail
  refine (within_yes a m _ hm1 ha1 ha2).mono ?_
  rintro e w' ⟨rfl, rfl⟩
  go_wp2_with fail
  refine (within_yes b m _ hm1 hb1 hb2).mono ?_
  rintro e w' ⟨rfl, rfl⟩
  go_wp2_with fail
  refine (H _).mono ?_
  rintro e w' ⟨rfl, nd, rfl⟩
  go_wp2_with fail
  refine (within_yes n m _ hm1 hn1 hn2).mono ?_
  rintro e w' ⟨rfl, rfl⟩
  go_wp2_with fail
  go_ret2
  exact ⟨rfl, nd, rfl⟩
end Go.Proofs.Ytabfdhecbbemjaa.Fx
