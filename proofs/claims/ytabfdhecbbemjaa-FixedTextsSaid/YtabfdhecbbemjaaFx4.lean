/- Package fixed's four steps, by value. -/
import Derived.Test.YtabfdhecbbemjaaProg
import Derived.Test.YtabfdhecbbemjaaFx2
import Derived.Test.YtabfdhecbbemjaaFx3
import Derived.Test.YtabfdhecbbemjaaMdv
import Derived.WalkKit
set_option linter.unusedVariables false
namespace Go.Proofs.Ytabfdhecbbemjaa.Fx
open Go.RowKit
theorem ret_ii {k l : IntKind} {a b x y : Int} (h : a = b) (h2 : x = y) : Ending.returned (.tuple #[.int k a, .int l x]) = .returned (.tuple #[.int k b, .int l y]) := by rw [h, h2]
theorem ov_out {a b n : Int} (h : (Fm.mayB a && Fm.mayB b && Fm.mayB n) = false) : Fm.ovV a b n = 0 ∧ Fm.ovE a b n = 10 := by
  unfold Fm.ovV Fm.ovE; rw [h]; exact ⟨rfl, rfl⟩
theorem ov_in {a b n : Int} (h1 : Fm.mayB a = true) (h2 : Fm.mayB b = true) (h3 : Fm.mayB n = true) : Fm.ovV a b n = n ∧ Fm.ovE a b n = 0 := by
  unfold Fm.ovV Fm.ovE; rw [h1, h2, h3]; exact ⟨rfl, rfl⟩
theorem not_both {a b : Int} (h : ¬ (Fm.mayB a = true ∧ Fm.mayB b = true)) : (a < -4611686018427387904 ∨ 4611686018427387904 < a) ∨ (b < -4611686018427387904 ∨ 4611686018427387904 < b) := by
  by_cases ha : Fm.mayB a = true
  · right
    exact (Fm.may_not b).1 (by simpa using fun hb => h ⟨ha, hb⟩)
  · left
    exact (Fm.may_not a).1 (by simpa using ha)
theorem not_both' {a b n : Int} (h : ¬ (Fm.mayB a = true ∧ Fm.mayB b = true)) : (Fm.mayB a && Fm.mayB b && Fm.mayB n) = false := by
  cases ha : Fm.mayB a <;> cases hb : Fm.mayB b <;> simp [ha, hb] at h ⊢

theorem cP (a b : Int) (w : World) : Calls Try.prog 29 #[.int .i64 a, .int .i64 b, .int .i64 4611686018427387904, .func (.func 30) #[] #[]] w fun e w' => e = .returned (.tuple #[.int .i64 (Fm.ovV a b (a + b)), .int .i64 (Fm.ovE a b (a + b))]) ∧ w = w' := by
  by_cases h : Fm.mayB a = true ∧ Fm.mayB b = true
  · obtain ⟨h1, h2⟩ := h
    obtain ⟨a0, a1⟩ := (Fm.may_iff a).1 h1
    obtain ⟨b0, b1⟩ := (Fm.may_iff b).1 h2
    cases h3 : Fm.mayB (a + b) with
    | true =>
      obtain ⟨n0, n1⟩ := (Fm.may_iff _).1 h3
      rw [(ov_in h1 h2 h3).1, (ov_in h1 h2 h3).2]
      exact checkedP_ok a b _ (a + b) w (fun w => plus_yes a b w (by omega) (by omega)) (by omega) a0 a1 b0 b1 n0 n1
    | false =>
      have hn := (Fm.may_not _).1 h3
      have ho : (Fm.mayB a && Fm.mayB b && Fm.mayB (a + b)) = false := by rw [h3]; simp
      rw [(ov_out ho).1, (ov_out ho).2]
      by_cases hs : a + b ≤ 9223372036854775807
      · exact checkedP_over a b _ (a + b) w (fun w => plus_yes a b w (by omega) (by omega)) (by omega) (by omega) a0 a1 b0 b1 hn
      · exact checkedP_fail a b _ _ w (fun w => plus_no a b w a1 b1 (by omega)) (by omega) a0 a1 b0 b1
  · rw [(ov_out (not_both' h)).1, (ov_out (not_both' h)).2]
    exact checked_out _ a b _ w (by omega) (by omega) (not_both h)
theorem cS (a b : Int) (w : World) : Calls Try.prog 29 #[.int .i64 a, .int .i64 b, .int .i64 4611686018427387904, .func (.func 32) #[] #[]] w fun e w' => e = .returned (.tuple #[.int .i64 (Fm.ovV a b (a - b)), .int .i64 (Fm.ovE a b (a - b))]) ∧ w = w' := by
  by_cases h : Fm.mayB a = true ∧ Fm.mayB b = true
  · obtain ⟨h1, h2⟩ := h
    obtain ⟨a0, a1⟩ := (Fm.may_iff a).1 h1
    obtain ⟨b0, b1⟩ := (Fm.may_iff b).1 h2
    cases h3 : Fm.mayB (a - b) with
    | true =>
      obtain ⟨n0, n1⟩ := (Fm.may_iff _).1 h3
      rw [(ov_in h1 h2 h3).1, (ov_in h1 h2 h3).2]
      exact checkedS_ok a b _ (a - b) w (fun w => minus_yes a b w (by omega) (by omega)) (by omega) a0 a1 b0 b1 n0 n1
    | false =>
      have hn := (Fm.may_not _).1 h3
      have ho : (Fm.mayB a && Fm.mayB b && Fm.mayB (a - b)) = false := by rw [h3]; simp
      rw [(ov_out ho).1, (ov_out ho).2]
      by_cases hs : a - b ≤ 9223372036854775807
      · exact checkedS_over a b _ (a - b) w (fun w => minus_yes a b w (by omega) (by omega)) (by omega) (by omega) a0 a1 b0 b1 hn
      · exact checkedS_fail a b _ _ w (fun w => minus_no a b w a1 b0 (by omega)) (by omega) a0 a1 b0 b1
  · rw [(ov_out (not_both' h)).1, (ov_out (not_both' h)).2]
    exact checked_out _ a b _ w (by omega) (by omega) (not_both h)
theorem stepM (a b : Int) (h1 : Fm.mayB a = true) (h2 : Fm.mayB b = true) : StepM a b (if Fm.mayB (Fm.dn (a * b) 65536) = true then Fm.dn (a * b) 65536 else 0) (Fm.mayB (Fm.dn (a * b) 65536)) := by
  intro w
  obtain ⟨a0, a1⟩ := (Fm.may_iff a).1 h1
  obtain ⟨b0, b1⟩ := (Fm.may_iff b).1 h2
  have H := md_any a b 65536
  generalize (if Fm.mayB (Fm.dn (a * b) 65536) = true then Fm.dn (a * b) 65536 else 0) = n at H ⊢
  generalize Fm.mayB (Fm.dn (a * b) 65536) = ok at H ⊢
  go_enter Try.func35, Try.ntmps35
  go_wp2_with fail
  refine (H _ (by omega) (by omega) (by omega) (by omega) (by omega) (by omega) (by omega)).mono ?_
  rintro e w' ⟨rfl, nd, rfl⟩
  go_wp2_with fail
  go_ret2
  exact ⟨rfl, nd, rfl⟩
theorem stepD (a b : Int) (hb : b ≠ 0) (h1 : Fm.mayB a = true) (h2 : Fm.mayB b = true) : StepD a b (if Fm.mayB (Fm.dn (a * 65536) b) = true then Fm.dn (a * 65536) b else 0) (Fm.mayB (Fm.dn (a * 65536) b)) := by
  intro w
  obtain ⟨a0, a1⟩ := (Fm.may_iff a).1 h1
  obtain ⟨b0, b1⟩ := (Fm.may_iff b).1 h2
  have H := md_any a 65536 b
  generalize (if Fm.mayB (Fm.dn (a * 65536) b) = true then Fm.dn (a * 65536) b else 0) = n at H ⊢
  generalize Fm.mayB (Fm.dn (a * 65536) b) = ok at H ⊢
  go_enter Try.func37, Try.ntmps37
  go_wp2_with fail
  refine (H _ (by omega) (by omega) (by omega) (by omega) (by omega) (by omega) hb).mono ?_
  rintro e w' ⟨rfl, nd, rfl⟩
  go_wp2_with fail
  go_ret2
  exact ⟨rfl, nd, rfl⟩
theorem cM (a b : Int) (w : World) : Calls Try.prog 29 #[.int .i64 a, .int .i64 b, .int .i64 4611686018427387904, .func (.func 35) #[] #[]] w fun e w' => e = .returned (.tuple #[.int .i64 (Fm.ovV a b (Fm.dn (a * b) 65536)), .int .i64 (Fm.ovE a b (Fm.dn (a * b) 65536))]) ∧ ∃ n, w' = w.drewN n := by
  by_cases h : Fm.mayB a = true ∧ Fm.mayB b = true
  · obtain ⟨h1, h2⟩ := h
    have S := stepM a b h1 h2
    obtain ⟨a0, a1⟩ := (Fm.may_iff a).1 h1
    obtain ⟨b0, b1⟩ := (Fm.may_iff b).1 h2
    cases h3 : Fm.mayB (Fm.dn (a * b) 65536) with
    | true =>
      obtain ⟨n0, n1⟩ := (Fm.may_iff _).1 h3
      rw [(ov_in h1 h2 h3).1, (ov_in h1 h2 h3).2]
      rw [h3, if_pos rfl] at S
      exact checkedM_ok a b _ _ w S (by omega) a0 a1 b0 b1 n0 n1
    | false =>
      have ho : (Fm.mayB a && Fm.mayB b && Fm.mayB (Fm.dn (a * b) 65536)) = false := by rw [h3]; simp
      rw [(ov_out ho).1, (ov_out ho).2]
      rw [h3, if_neg (by simp)] at S
      exact checkedM_fail a b _ _ w S (by omega) a0 a1 b0 b1
  · rw [(ov_out (not_both' h)).1, (ov_out (not_both' h)).2]
    exact (checked_out _ a b _ w (by omega) (by omega) (not_both h)).mono fun e w' ⟨h1, h2⟩ => ⟨h1, 0, h2.symm⟩
theorem cD (a b : Int) (hb : b ≠ 0) (w : World) : Calls Try.prog 29 #[.int .i64 a, .int .i64 b, .int .i64 4611686018427387904, .func (.func 37) #[] #[]] w fun e w' => e = .returned (.tuple #[.int .i64 (Fm.ovV a b (Fm.dn (a * 65536) b)), .int .i64 (Fm.ovE a b (Fm.dn (a * 65536) b))]) ∧ ∃ n, w' = w.drewN n := by
  by_cases h : Fm.mayB a = true ∧ Fm.mayB b = true
  · obtain ⟨h1, h2⟩ := h
    have S := stepD a b hb h1 h2
    obtain ⟨a0, a1⟩ := (Fm.may_iff a).1 h1
    obtain ⟨b0, b1⟩ := (Fm.may_iff b).1 h2
    cases h3 : Fm.mayB (Fm.dn (a * 65536) b) with
    | true =>
      obtain ⟨n0, n1⟩ := (Fm.may_iff _).1 h3
      rw [(ov_in h1 h2 h3).1, (ov_in h1 h2 h3).2]
      rw [h3, if_pos rfl] at S
      exact checkedD_ok a b _ _ w S (by omega) a0 a1 b0 b1 n0 n1
    | false =>
      have ho : (Fm.mayB a && Fm.mayB b && Fm.mayB (Fm.dn (a * 65536) b)) = false := by rw [h3]; simp
      rw [(ov_out ho).1, (ov_out ho).2]
      rw [h3, if_neg (by simp)] at S
      exact checkedD_fail a b _ _ w S (by omega) a0 a1 b0 b1
  · rw [(ov_out (not_both' h)).1, (ov_out (not_both' h)).2]
    exact (checked_out _ a b _ w (by omega) (by omega) (not_both h)).mono fun e w' ⟨h1, h2⟩ => ⟨h1, 0, h2.symm⟩

theorem add_any (a b : Int) (w : World) : Calls Try.prog 10 #[.int .i64 a, .int .i64 b] w fun e w' => e = .returned (.tuple #[.int .i64 (Fm.ovV a b (a + b)), .int .i64 (Fm.ovE a b (a + b))]) ∧ w = w' := by
  go_enter Try.func10, Try.ntmps10
  go_wp2_with fail
  refine (cP a b _).mono ?_
  rintro e w' ⟨rfl, rfl⟩
  go_wp2_with fail
  go_ret2
  exact ⟨rfl, rfl⟩
theorem sub_any (a b : Int) (w : World) : Calls Try.prog 12 #[.int .i64 a, .int .i64 b] w fun e w' => e = .returned (.tuple #[.int .i64 (Fm.ovV a b (a - b)), .int .i64 (Fm.ovE a b (a - b))]) ∧ w = w' := by
  go_enter Try.func12, Try.ntmps12
  go_wp2_with fail
  refine (cS a b _).mono ?_
  rintro e w' ⟨rfl, rfl⟩
  go_wp2_with fail
  go_ret2
  exact ⟨rfl, rfl⟩
theorem fmul_any (a b : Int) (w : World) : Calls Try.prog 19 #[.int .i64 a, .int .i64 b] w fun e w' => e = .returned (.tuple #[.int .i64 (Fm.ovV a b (Fm.dn (a * b) 65536)), .int .i64 (Fm.ovE a b (Fm.dn (a * b) 65536))]) ∧ ∃ n, w' = w.drewN n := by
  go_enter Try.func19, Try.ntmps19
  go_wp2_with fail
  refine (cM a b _).mono ?_
  rintro e w' ⟨rfl, nd, rfl⟩
  go_wp2_with fail
  go_ret2
  exact ⟨rfl, nd, rfl⟩
theorem fdiv_any (a b : Int) (hb : b ≠ 0) (w : World) : Calls Try.prog 21 #[.int .i64 a, .int .i64 b] w fun e w' => e = .returned (.tuple #[.int .i64 (Fm.ovV a b (Fm.dn (a * 65536) b)), .int .i64 (Fm.ovE a b (Fm.dn (a * 65536) b))]) ∧ ∃ n, w' = w.drewN n := by
  have t : (b == 0) = false := by simp; omega
  have H := Lib.hid hb; clear hb
  go_enter Try.func21, Try.ntmps21
  go_wp2_with fail
  refine (cD a b H.out _).mono ?_
  rintro e w' ⟨rfl, nd, rfl⟩
  go_wp2_with fail
  go_ret2
  exact ⟨rfl, nd, rfl⟩
theorem fdiv_zero (a : Int) (w : World) : Calls Try.prog 21 #[.int .i64 a, .int .i64 0] w fun e w' => e = .returned (.tuple #[.int .i64 0, .int .i64 11]) ∧ w = w' := by
  go_enter Try.func21, Try.ntmps21
  go_wp2_with fail
  go_ret2
  exact ⟨rfl, rfl⟩
/-- of a whole number -/
theorem of_any (n : Int) (w : World) (h0 : -9223372036854775808 ≤ n) (h1 : n ≤ 9223372036854775807) :
    Calls Try.prog 14 #[.int .i64 n] w fun e w' => e = .returned (.tuple #[.int .i64 (if Fm.mayB (n * 65536) = true then n * 65536 else 0), .int .i64 (if Fm.mayB (n * 65536) = true then 0 else 10)]) ∧ w = w' := by
  cases h : Fm.mayB (n * 65536) with
  | true =>
    obtain ⟨n0, n1⟩ := (Fm.may_iff _).1 h
    simp only [if_true]
    go_enter Try.func14, Try.ntmps14
    go_wp2_with fail
    refine (within_yes n 70368744177664 _ (by omega) (by omega) (by omega)).mono ?_
    rintro e w' ⟨rfl, rfl⟩
    go_wp2_with fail
    go_ret2
    exact ⟨rfl, rfl⟩
  | false =>
    have hn := (Fm.may_not _).1 h
    have hn' : n < -70368744177664 ∨ 70368744177664 < n := by omega
    simp only [Bool.false_eq_true, if_false]
    clear hn
    have H := Lib.hid hn'; clear hn'
    go_enter Try.func14, Try.ntmps14
    go_wp2_with fail
    refine (within_no n 70368744177664 _ (by omega) (by omega) H.out).mono ?_
    rintro e w' ⟨rfl, rfl⟩
    go_wp2_with fail
    go_ret2
    exact ⟨rfl, rfl⟩
theorem floor_any (a : Int) (w : World) (h0 : -9223372036854775808 ≤ a) (h1 : a ≤ 9223372036854775807) :
    Calls Try.prog 16 #[.int .i64 a] w fun e w' => e = .returned (.int .i64 (a / 65536)) ∧ w = w' := by
  go_enter Try.func16, Try.ntmps16
  go_wp2_with fail
  go_ret
  exact ⟨rfl, rfl⟩
theorem clamp_any (a b c : Int) (w : World) :
    Calls Try.prog 18 #[.int .i64 a, .int .i64 b, .int .i64 c] w fun e w' => e = .returned (.int .i64 (if a < b then b else if c < a then c else a)) ∧ w = w' := by
  by_cases h : a < b
  · rw [if_pos h]
    go_enter Try.func18, Try.ntmps18
    go_wp2_with fail
    go_ret
    exact ⟨rfl, rfl⟩
  · rw [if_neg h]
    by_cases h2 : c < a
    · rw [if_pos h2]
      go_enter Try.func18, Try.ntmps18
      go_wp2_with fail
      go_ret
      exact ⟨rfl, rfl⟩
    · rw [if_neg h2]
      go_enter Try.func18, Try.ntmps18
      go_wp2_with fail
      go_ret
      exact ⟨rfl, rfl⟩
end Go.Proofs.Ytabfdhecbbemjaa.Fx
