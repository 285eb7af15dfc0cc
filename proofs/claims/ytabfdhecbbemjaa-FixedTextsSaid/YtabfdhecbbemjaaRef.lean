/- The reference's functions on numbers, walked: all but the products' and quotients' loops. -/
import Derived.Test.YtabfdhecbbemjaaProg
import Derived.Test.YtabfdhecbbemjaaFx4
import Derived.WalkKit
import Derived.Outline
import Derived.Lib.Hide
set_option linter.unusedVariables false
set_option linter.unusedSimpArgs false
namespace Go.Proofs.Ytabfdhecbbemjaa.Fx
open Go.RowKit
theorem rmay_any (a : Int) (w : World) : Calls Try.prog 31 #[.int .i64 a] w fun e w' => e = .returned (.bool (Fm.mayB a)) ∧ w = w' := by
  by_cases h1 : -4611686018427387904 ≤ a
  · by_cases h2 : a ≤ 4611686018427387904
    · rw [(Fm.may_iff a).2 ⟨h1, h2⟩]
      go_enter Try.func31, Try.ntmps31
      go_wp2
      go_ret
      exact ⟨ret_bool (by simp), rfl⟩
    · rw [(Fm.may_not a).2 (by omega)]
      go_enter Try.func31, Try.ntmps31
      go_wp2
      go_ret
      exact ⟨ret_bool (by simp), rfl⟩
  · rw [(Fm.may_not a).2 (by omega)]
    go_enter Try.func31, Try.ntmps31
    go_wp2
    go_ret
    exact ⟨rfl, rfl⟩

theorem down_any (a b : Int) (w : World) (ha0 : -9223372036854775808 ≤ a) (ha1 : a ≤ 9223372036854775807) (hb : 1 ≤ b) (hb1 : b ≤ 9223372036854775807) :
    Calls Try.prog 34 #[.int .i64 a, .int .i64 b] w fun e w' => e = .returned (.tuple #[.int .i64 (a / b), .int .i64 (a % b)]) ∧ w = w' := by
  have tb : ¬ b = 0 := by omega
  have tb' : (b == 0) = false := by simp; omega
  have hm0 := Int.emod_nonneg a tb
  have hm1 := Int.emod_lt_of_pos a (show 0 < b by omega)
  have hd := Int.mul_ediv_add_emod a b
  have en : ∀ x : Int, 0 ≤ x → x.tdiv b = x / b := fun x hx => Int.tdiv_eq_ediv_of_nonneg hx
  by_cases h0 : 0 ≤ a
  · have e := en a h0
    obtain ⟨q, hq⟩ : ∃ q, a / b = q := ⟨_, rfl⟩
    obtain ⟨p, hp⟩ : ∃ p, q * b = p := ⟨_, rfl⟩
    obtain ⟨r, hr⟩ : ∃ r, a % b = r := ⟨_, rfl⟩
    rw [hq] at e
    rw [hq, hr]
    rw [hr] at hm0 hm1
    rw [hq, hr, Int.mul_comm, hp] at hd
    have q0 : 0 ≤ q := by rw [← hq]; exact Int.ediv_nonneg h0 (by omega)
    have q1 : q ≤ a := by rw [← hq]; exact Int.ediv_le_self _ h0
    have t1 : ¬ (a - p < 0) := by omega
    have t2 : a - p = r := by omega
    have wq : IntKind.i64.wrap q = q := IntWalk.i64_in q ⟨by omega, by omega⟩
    have wp : IntKind.i64.wrap (q * b) = p := by rw [hp]; exact IntWalk.i64_in p ⟨by omega, by omega⟩
    have t3 : ¬ r < 0 := by omega
    have H0 := Lib.hid hd; clear hd
    have H1 := Lib.hid hq; clear hq
    have H2 := Lib.hid hp; clear hp
    have H3 := Lib.hid hr; clear hr
    clear en
    go_enter Try.func34, Try.ntmps34
    go_wp2_with fail
    go_ret2
    exact ⟨rfl, rfl⟩
  · have hx : 0 ≤ -a := by omega
    have e : a.tdiv b = -((-a) / b) := by
      have := Int.neg_tdiv (-a) b
      rw [Int.neg_neg, en _ hx] at this
      exact this
    have hm0' := Int.emod_nonneg (-a) tb
    have hm1' := Int.emod_lt_of_pos (-a) (show 0 < b by omega)
    have hd' := Int.mul_ediv_add_emod (-a) b
    have q0' : 0 ≤ (-a) / b := Int.ediv_nonneg hx (by omega)
    have q1' : (-a) / b ≤ -a := Int.ediv_le_self _ hx
    have hu : ∀ q r, b * q + r = a → 0 ≤ r → r < b → a / b = q ∧ a % b = r := fun q r h1 h2 h3 => (Int.ediv_emod_unique (show 0 < b by omega)).2 ⟨by omega, h2, h3⟩
    generalize (-a) / b = q' at *
    generalize (-a) % b = m at *
    obtain ⟨q, hq⟩ : ∃ q, -q' = q := ⟨_, rfl⟩
    obtain ⟨p, hp⟩ : ∃ p, q * b = p := ⟨_, rfl⟩
    rw [hq] at e
    have hpp : p = -(b * q') := by rw [← hp, ← hq, Int.neg_mul, Int.mul_comm]
    have wq : IntKind.i64.wrap q = q := IntWalk.i64_in q ⟨by omega, by omega⟩
    have wp : IntKind.i64.wrap (q * b) = p := by rw [hp]; exact IntWalk.i64_in p ⟨by omega, by omega⟩
    have bq : b * q = p := by rw [Int.mul_comm]; exact hp
    by_cases h00 : m = 0
    · obtain ⟨r1, r2⟩ := hu q 0 (by omega) (by omega) (by omega)
      rw [r1, r2]
      obtain ⟨r, hr⟩ : ∃ r, a - p = r := ⟨_, rfl⟩
      have hr0 : r = 0 := by omega
      subst hr0
      have t3 : ¬ (0 : Int) < 0 := by omega
      clear hu hpp bq r1 r2 hq hp hd hd' en hm0 hm1 h00 hm0' hm1' q0' q1'
      go_enter Try.func34, Try.ntmps34
      go_wp2_with fail
      go_ret2
      exact ⟨rfl, rfl⟩
    · obtain ⟨r, hr⟩ : ∃ r, a - p = r := ⟨_, rfl⟩
      obtain ⟨r1, r2⟩ := hu (q - 1) (r + b) (by rw [Int.mul_sub, Int.mul_one]; omega) (by omega) (by omega)
      rw [r1, r2]
      have b1 : -b < r := by omega
      have b2 : r < 0 := by omega
      have b5 := Int.mul_le_mul_of_nonneg_right hb q0'
      rw [Int.one_mul] at b5
      have b3 : -9223372036854775808 ≤ q - 1 := by omega
      clear b5
      have b4 : q ≤ 0 := by omega
      clear hu hpp bq r1 r2 hq hp hd hd' en hm0 hm1 h00 hm0' hm1' q0' q1'
      go_enter Try.func34, Try.ntmps34
      go_wp2_with fail
      go_ret2
      exact ⟨rfl, rfl⟩
theorem radd_any (a b : Int) (w : World) (ha0 : -9223372036854775808 ≤ a) (ha1 : a ≤ 9223372036854775807) (hb0 : -9223372036854775808 ≤ b) (hb1 : b ≤ 9223372036854775807) :
    Calls Try.prog 11 #[.int .i64 a, .int .i64 b] w fun e w' => e = .returned (.tuple #[.int .i64 (Fm.ovV a b (a + b)), .int .i64 (Fm.ovE a b (a + b))]) ∧ w = w' := by
  have A := rmay_any a
  have B := rmay_any b
  cases h1 : Fm.mayB a with
  | false =>
    rw [h1] at A
    have ho : (Fm.mayB a && Fm.mayB b && Fm.mayB (a + b)) = false := by rw [h1]; simp
    rw [(ov_out ho).1, (ov_out ho).2]
    clear ho
    go_enter Try.func11, Try.ntmps11
    go_wp2_with fail
    refine (A _).mono ?_
    rintro e w' ⟨rfl, rfl⟩
    go_wp2_with fail
    refine (B _).mono ?_
    rintro e w' ⟨rfl, rfl⟩
    go_wp2_with fail
    go_ret2
    exact ⟨rfl, rfl⟩
  | true =>
    rw [h1] at A
    cases h2 : Fm.mayB b with
    | false =>
      rw [h2] at B
      have ho : (Fm.mayB a && Fm.mayB b && Fm.mayB (a + b)) = false := by rw [h1, h2]; simp
      rw [(ov_out ho).1, (ov_out ho).2]
      clear ho
      go_enter Try.func11, Try.ntmps11
      go_wp2_with fail
      refine (A _).mono ?_
      rintro e w' ⟨rfl, rfl⟩
      go_wp2_with fail
      refine (B _).mono ?_
      rintro e w' ⟨rfl, rfl⟩
      go_wp2_with fail
      go_ret2
      exact ⟨rfl, rfl⟩
    | true =>
      rw [h2] at B
      obtain ⟨a0, a1⟩ := (Fm.may_iff a).1 h1
      obtain ⟨b0, b1⟩ := (Fm.may_iff b).1 h2
      cases h3 : Fm.mayB (a + b) with
      | true =>
        obtain ⟨n0, n1⟩ := (Fm.may_iff _).1 h3
        rw [(ov_in h1 h2 h3).1, (ov_in h1 h2 h3).2]
        clear h1 h2 h3
        by_cases hp : 0 < b
        · have t1 : ¬ 4611686018427387904 - b < a := by omega
          have t2 : ¬ b < 0 := by omega
          clear n0 n1
          go_enter Try.func11, Try.ntmps11
          go_wp2_with fail
          refine (A _).mono ?_
          rintro e w' ⟨rfl, rfl⟩
          go_wp2_with fail
          refine (B _).mono ?_
          rintro e w' ⟨rfl, rfl⟩
          go_wp2_with fail
          go_ret2
          exact ⟨rfl, rfl⟩
        · by_cases hn : b < 0
          · have t1 : ¬ a < -4611686018427387904 - b := by omega
            clear n0 n1
            go_enter Try.func11, Try.ntmps11
            go_wp2_with fail
            refine (A _).mono ?_
            rintro e w' ⟨rfl, rfl⟩
            go_wp2_with fail
            refine (B _).mono ?_
            rintro e w' ⟨rfl, rfl⟩
            go_wp2_with fail
            go_ret2
            exact ⟨rfl, rfl⟩
          · obtain rfl : b = 0 := by omega
            go_enter Try.func11, Try.ntmps11
            go_wp2_with fail
            refine (A _).mono ?_
            rintro e w' ⟨rfl, rfl⟩
            go_wp2_with fail
            refine (B _).mono ?_
            rintro e w' ⟨rfl, rfl⟩
            go_wp2_with fail
            go_ret2
            exact ⟨by simp, rfl⟩
      | false =>
        have hn := (Fm.may_not _).1 h3
        have ho : (Fm.mayB a && Fm.mayB b && Fm.mayB (a + b)) = false := by rw [h3]; simp
        rw [(ov_out ho).1, (ov_out ho).2]
        clear ho h1 h2 h3
        by_cases hp : 0 < b
        · have t1 : 4611686018427387904 - b < a := by omega
          have t2 : ¬ b < 0 := by omega
          clear hn
          go_enter Try.func11, Try.ntmps11
          go_wp2_with fail
          refine (A _).mono ?_
          rintro e w' ⟨rfl, rfl⟩
          go_wp2_with fail
          refine (B _).mono ?_
          rintro e w' ⟨rfl, rfl⟩
          go_wp2_with fail
          go_ret2
          exact ⟨rfl, rfl⟩
        · have hn2 : b < 0 := by omega
          have t1 : a < -4611686018427387904 - b := by omega
          clear hn
          go_enter Try.func11, Try.ntmps11
          go_wp2_with fail
          refine (A _).mono ?_
          rintro e w' ⟨rfl, rfl⟩
          go_wp2_with fail
          refine (B _).mono ?_
          rintro e w' ⟨rfl, rfl⟩
          go_wp2_with fail
          go_ret2
          exact ⟨rfl, rfl⟩
theorem rsub_any (a b : Int) (w : World) (ha0 : -9223372036854775808 ≤ a) (ha1 : a ≤ 9223372036854775807) (hb0 : -9223372036854775808 ≤ b) (hb1 : b ≤ 9223372036854775807) :
    Calls Try.prog 13 #[.int .i64 a, .int .i64 b] w fun e w' => e = .returned (.tuple #[.int .i64 (Fm.ovV a b (a - b)), .int .i64 (Fm.ovE a b (a - b))]) ∧ w = w' := by
  have B := rmay_any b
  cases h2 : Fm.mayB b with
  | false =>
    rw [h2] at B
    have ho : (Fm.mayB a && Fm.mayB b && Fm.mayB (a - b)) = false := by rw [h2]; simp
    rw [(ov_out ho).1, (ov_out ho).2]
    clear ho
    go_enter Try.func13, Try.ntmps13
    go_wp2_with fail
    refine (B _).mono ?_
    rintro e w' ⟨rfl, rfl⟩
    go_wp2_with fail
    go_ret2
    exact ⟨rfl, rfl⟩
  | true =>
    rw [h2] at B
    obtain ⟨b0, b1⟩ := (Fm.may_iff b).1 h2
    have e1 : Fm.mayB (-b) = true := (Fm.may_iff _).2 (by omega)
    have e2 : Fm.ovV a b (a - b) = Fm.ovV a (-b) (a + -b) := by unfold Fm.ovV; rw [e1, h2, Int.sub_eq_add_neg]
    have e3 : Fm.ovE a b (a - b) = Fm.ovE a (-b) (a + -b) := by unfold Fm.ovE; rw [e1, h2, Int.sub_eq_add_neg]
    rw [e2, e3]
    have H := radd_any a (-b)
    generalize Fm.ovV a (-b) (a + -b) = v at H ⊢
    generalize Fm.ovE a (-b) (a + -b) = x at H ⊢
    clear e1 e2 e3
    go_enter Try.func13, Try.ntmps13
    go_wp2_with fail
    refine (B _).mono ?_
    rintro e w' ⟨rfl, rfl⟩
    go_wp2_with fail
    refine (H _ (by omega) (by omega) (by omega) (by omega)).mono ?_
    rintro e w' ⟨rfl, rfl⟩
    go_wp2_with fail
    go_ret2
    exact ⟨rfl, rfl⟩
theorem rof_any (n : Int) (w : World) (h0 : -9223372036854775808 ≤ n) (h1 : n ≤ 9223372036854775807) :
    Calls Try.prog 15 #[.int .i64 n] w fun e w' => e = .returned (.tuple #[.int .i64 (if Fm.mayB (n * 65536) = true then n * 65536 else 0), .int .i64 (if Fm.mayB (n * 65536) = true then 0 else 10)]) ∧ w = w' := by
  cases h : Fm.mayB (n * 65536) with
  | true =>
    obtain ⟨n0, n1⟩ := (Fm.may_iff _).1 h
    have t1 : ¬ n < -70368744177664 := by omega
    have t2 : ¬ 70368744177664 < n := by omega
    simp only [if_true]
    go_enter Try.func15, Try.ntmps15
    go_wp2_with fail
    go_ret2
    exact ⟨rfl, rfl⟩
  | false =>
    have hn := (Fm.may_not _).1 h
    simp only [Bool.false_eq_true, if_false]
    by_cases t1 : n < -70368744177664
    · clear hn h
      go_enter Try.func15, Try.ntmps15
      go_wp2_with fail
      go_ret2
      exact ⟨rfl, rfl⟩
    · have t2 : 70368744177664 < n := by omega
      clear hn h
      go_enter Try.func15, Try.ntmps15
      go_wp2_with fail
      go_ret2
      exact ⟨rfl, rfl⟩
end Go.Proofs.Ytabfdhecbbemjaa.Fx
