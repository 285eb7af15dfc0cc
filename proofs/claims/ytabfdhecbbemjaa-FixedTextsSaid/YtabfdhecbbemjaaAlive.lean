/- The chapter's first examples, and the two laws on the order of two and on quotients rounded down, walked. -/
import Derived.Test.YtabfdhecbbemjaaProg
import Derived.Test.YtabfdhecbbemjaaFx4
import Derived.WalkKit
import Derived.RowKit3
import Derived.OpenShut
import Derived.Outline
import Derived.Deep.QuietTactic
import Derived.BigQuiet
set_option linter.unusedVariables false
set_option linter.unusedSimpArgs false
namespace Go.Proofs.Ytabfdhecbbemjaa.Fx
open Go.RowKit
theorem drewN_add (w : World) (a b : Nat) : (w.drewN a).drewN b = w.drewN (a + b) := by
  cases w; simp only [World.drewN]; simp [Nat.add_assoc]
theorem grown_drewN {w : World} (n : Nat) : Grown w (w.drewN n) := by
  induction n with
  | zero => exact Grown.refl _
  | succ n ih => rw [← drewN_add]; exact Grown.drew ih
theorem is_yes (n : Int) (w : World) :
    Calls Try.prog 28 #[.int .i64 n, .int .i64 0, .int .i64 n] w fun e w' => e = .returned (.bool true) ∧ w = w' := by
  go_enter Try.func28, Try.ntmps28
  go_wp2_with fail
  go_ret
  exact ⟨rfl, rfl⟩
theorem fmul_at (a b v x : Int) (w : World) (hv : Fm.ovV a b (Fm.dn (a * b) 65536) = v) (hx : Fm.ovE a b (Fm.dn (a * b) 65536) = x) : Calls Try.prog 19 #[.int .i64 a, .int .i64 b] w fun e w' => e = .returned (.tuple #[.int .i64 v, .int .i64 x]) ∧ ∃ n, w' = w.drewN n := by
  subst hv hx
  exact fmul_any a b w
theorem fdiv_at (a b v x : Int) (w : World) (hb : b ≠ 0) (hv : Fm.ovV a b (Fm.dn (a * 65536) b) = v) (hx : Fm.ovE a b (Fm.dn (a * 65536) b) = x) : Calls Try.prog 21 #[.int .i64 a, .int .i64 b] w fun e w' => e = .returned (.tuple #[.int .i64 v, .int .i64 x]) ∧ ∃ n, w' = w.drewN n := by
  subst hv hx
  exact fdiv_any a b hb w
theorem alive_any (w : World) : Calls Try.prog 27 #[] w fun e w' => e = .returned (.bool true) ∧ ∃ n, w' = w.drewN n := by
  go_enter Try.func27, Try.ntmps27
  go_wp2_with fail
  refine (fmul_at 98304 (-1) (-2) 0 _ (by decide) (by decide)).mono ?_
  rintro e w' ⟨rfl, n1, rfl⟩
  go_wp2_with fail
  refine (fmul_at 1 1 0 0 _ (by decide) (by decide)).mono ?_
  rintro e w' ⟨rfl, n2, rfl⟩
  go_wp2_with fail
  refine (fmul_at (-1) 1 (-1) 0 _ (by decide) (by decide)).mono ?_
  rintro e w' ⟨rfl, n3, rfl⟩
  go_wp2_with fail
  refine (is_yes _ _).mono ?_
  rintro e w' ⟨rfl, rfl⟩
  go_wp2_with fail
  refine (is_yes _ _).mono ?_
  rintro e w' ⟨rfl, rfl⟩
  go_wp2_with fail
  refine (is_yes _ _).mono ?_
  rintro e w' ⟨rfl, rfl⟩
  go_wp2_with fail
  go_ret
  exact ⟨rfl, _, rfl⟩
theorem ovV_comm (a b n : Int) : Fm.ovV b a n = Fm.ovV a b n := by unfold Fm.ovV; rw [Bool.and_comm (Fm.mayB b)]
theorem ovE_comm (a b n : Int) : Fm.ovE b a n = Fm.ovE a b n := by unfold Fm.ovE; rw [Bool.and_comm (Fm.mayB b)]
theorem dn_one (a : Int) : Fm.dn (a * 65536) 65536 = a := by
  unfold Fm.dn; rw [if_pos (by omega)]; omega
theorem one_in (a : Int) (h : Fm.mayB a = true) : Fm.ovV a 65536 (Fm.dn (a * 65536) 65536) = a ∧ Fm.ovE a 65536 (Fm.dn (a * 65536) 65536) = 0 := by
  rw [dn_one]; exact ov_in h (by decide) h
theorem one_out (a : Int) (h : Fm.mayB a = false) : Fm.ovV a 65536 (Fm.dn (a * 65536) 65536) = 0 ∧ Fm.ovE a 65536 (Fm.dn (a * 65536) 65536) = 10 :=
  ov_out (by rw [h]; simp)
set_option maxHeartbeats 1600000 in
theorem walk_fixedSwaps (a0 : Int) (a1 : Int) (w0 : (Lit.int .i64 a0).wf = true) (w1 : (Lit.int .i64 a1).wf = true) (w : World) :
    Calls Try.prog 7 #[.int .i64 a0, .int .i64 a1] w fun e w' => e = .returned (.bool true) ∧ Grown w w' := by
  obtain ⟨p0, p1⟩ := bounds_i64 w0
  obtain ⟨q0, q1⟩ := bounds_i64 w1
  clear w0 w1
  have hA := add_any a0 a1
  have hB := add_any a1 a0
  rw [Int.add_comm a1 a0, ovV_comm, ovE_comm] at hB
  have hM := fmul_any a0 a1
  have hN := fmul_any a1 a0
  rw [Int.mul_comm a1 a0, ovV_comm, ovE_comm] at hN
  generalize Fm.ovV a0 a1 (Fm.dn (a0 * a1) 65536) = m1 at hM hN
  generalize Fm.ovE a0 a1 (Fm.dn (a0 * a1) 65536) = m2 at hM hN
  have hP := fmul_any a0 65536
  have hQ := fdiv_any a0 65536 (by decide)
  cases hs : (Fm.mayB a0 && Fm.mayB a1 && Fm.mayB (a0 + a1)) with
  | true =>
    simp only [Bool.and_eq_true] at hs
    obtain ⟨⟨s1, s2⟩, s3⟩ := hs
    rw [(one_in a0 s1).1, (one_in a0 s1).2] at hP hQ
    rw [(ov_in s1 s2 s3).1, (ov_in s1 s2 s3).2] at hA hB
    have hS := sub_any (a0 + a1) a1
    have e0 : a0 + a1 - a1 = a0 := by omega
    rw [e0, (ov_in s3 s2 s1).1, (ov_in s3 s2 s1).2] at hS
    obtain ⟨u0, u1⟩ := (Fm.may_iff a0).1 s1
    obtain ⟨n0, n1⟩ := (Fm.may_iff _).1 s3
    have t1 : ¬ a0 < -4611686018427387904 := by omega
    have t2 : ¬ 4611686018427387904 < a0 := by omega
    clear e0 s1 s2 s3
    go_enter Try.func7, Try.ntmps7
    go_wp2_with fail
    refine (alive_any _).mono ?_
    rintro e w' ⟨rfl, n1, rfl⟩
    go_wp2_with fail
    refine (hA _).mono ?_
    rintro e w' ⟨rfl, rfl⟩
    go_wp2_with fail
    refine (hB _).mono ?_
    rintro e w' ⟨rfl, rfl⟩
    go_wp2_with fail
    refine (hM _).mono ?_
    rintro e w' ⟨rfl, n2, rfl⟩
    go_wp2_with fail
    refine (hN _).mono ?_
    rintro e w' ⟨rfl, n3, rfl⟩
    go_wp2_with fail
    refine (hS _).mono ?_
    rintro e w' ⟨rfl, rfl⟩
    go_wp2_with fail
    refine (hP _).mono ?_
    rintro e w' ⟨rfl, n4, rfl⟩
    go_wp2_with fail
    refine (hQ _).mono ?_
    rintro e w' ⟨rfl, n5, rfl⟩
    go_wp2_with fail
    refine (is_yes _ _).mono ?_
    rintro e w' ⟨rfl, rfl⟩
    go_wp2_with fail
    refine (is_yes _ _).mono ?_
    rintro e w' ⟨rfl, rfl⟩
    go_wp2_with fail
    go_ret
    exact ⟨rfl, grown_drewN _⟩
  | false =>
    rw [(ov_out hs).1, (ov_out hs).2] at hA hB
    clear hs
    cases hm : Fm.mayB a0 with
    | true =>
      rw [(one_in a0 hm).1, (one_in a0 hm).2] at hP hQ
      obtain ⟨u0, u1⟩ := (Fm.may_iff a0).1 hm
      have t1 : ¬ a0 < -4611686018427387904 := by omega
      have t2 : ¬ 4611686018427387904 < a0 := by omega
      clear hm
      go_enter Try.func7, Try.ntmps7
      go_wp2_with fail
      refine (alive_any _).mono ?_
      rintro e w' ⟨rfl, n1, rfl⟩
      go_wp2_with fail
      refine (hA _).mono ?_
      rintro e w' ⟨rfl, rfl⟩
      go_wp2_with fail
      refine (hB _).mono ?_
      rintro e w' ⟨rfl, rfl⟩
      go_wp2_with fail
      refine (hM _).mono ?_
      rintro e w' ⟨rfl, n2, rfl⟩
      go_wp2_with fail
      refine (hN _).mono ?_
      rintro e w' ⟨rfl, n3, rfl⟩
      go_wp2_with fail
      refine (hP _).mono ?_
      rintro e w' ⟨rfl, n4, rfl⟩
      go_wp2_with fail
      refine (hQ _).mono ?_
      rintro e w' ⟨rfl, n5, rfl⟩
      go_wp2_with fail
      refine (is_yes _ _).mono ?_
      rintro e w' ⟨rfl, rfl⟩
      go_wp2_with fail
      refine (is_yes _ _).mono ?_
      rintro e w' ⟨rfl, rfl⟩
      go_wp2_with fail
      go_ret
      exact ⟨rfl, grown_drewN _⟩
    | false =>
      rw [(one_out a0 hm).1, (one_out a0 hm).2] at hP hQ
      have hn := (Fm.may_not a0).1 hm
      clear hm
      by_cases t1 : a0 < -4611686018427387904
      · clear hn
        go_enter Try.func7, Try.ntmps7
        go_wp2_with fail
        refine (alive_any _).mono ?_
        rintro e w' ⟨rfl, n1, rfl⟩
        go_wp2_with fail
        refine (hA _).mono ?_
        rintro e w' ⟨rfl, rfl⟩
        go_wp2_with fail
        refine (hB _).mono ?_
        rintro e w' ⟨rfl, rfl⟩
        go_wp2_with fail
        refine (hM _).mono ?_
        rintro e w' ⟨rfl, n2, rfl⟩
        go_wp2_with fail
        refine (hN _).mono ?_
        rintro e w' ⟨rfl, n3, rfl⟩
        go_wp2_with fail
        refine (hP _).mono ?_
        rintro e w' ⟨rfl, n4, rfl⟩
        go_wp2_with fail
        refine (hQ _).mono ?_
        rintro e w' ⟨rfl, n5, rfl⟩
        go_wp2_with fail
        go_ret
        exact ⟨rfl, grown_drewN _⟩
      · have t2 : 4611686018427387904 < a0 := by omega
        clear hn
        go_enter Try.func7, Try.ntmps7
        go_wp2_with fail
        refine (alive_any _).mono ?_
        rintro e w' ⟨rfl, n1, rfl⟩
        go_wp2_with fail
        refine (hA _).mono ?_
        rintro e w' ⟨rfl, rfl⟩
        go_wp2_with fail
        refine (hB _).mono ?_
        rintro e w' ⟨rfl, rfl⟩
        go_wp2_with fail
        refine (hM _).mono ?_
        rintro e w' ⟨rfl, n2, rfl⟩
        go_wp2_with fail
        refine (hN _).mono ?_
        rintro e w' ⟨rfl, n3, rfl⟩
        go_wp2_with fail
        refine (hP _).mono ?_
        rintro e w' ⟨rfl, n4, rfl⟩
        go_wp2_with fail
        refine (hQ _).mono ?_
        rintro e w' ⟨rfl, n5, rfl⟩
        go_wp2_with fail
        go_ret
        exact ⟨rfl, grown_drewN _⟩
end Go.Proofs.Ytabfdhecbbemjaa.Fx
