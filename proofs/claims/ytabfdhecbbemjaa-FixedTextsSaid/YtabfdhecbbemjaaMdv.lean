/- fixed.mulDiv, by its value; the two steps that use it. -/
import Derived.Test.YtabfdhecbbemjaaProg
import Derived.Test.YtabfdhecbbemjaaMd
import Derived.Test.YtabfdhecbbemjaaVal
import Derived.WalkKit
set_option linter.unusedVariables false
namespace Go.Proofs.Ytabfdhecbbemjaa.Fx
open Go.RowKit

theorem md_any (a b c : Int) (w : World) (ha0 : -9223372036854775808 ≤ a) (ha1 : a ≤ 9223372036854775807) (hb0 : -9223372036854775808 ≤ b) (hb1 : b ≤ 9223372036854775807) (hc0 : -9223372036854775808 ≤ c) (hc1 : c ≤ 9223372036854775807) (hc : c ≠ 0) :
    Calls Try.prog 36 #[.int .i64 a, .int .i64 b, .int .i64 c] w fun e w' =>
      e = .returned (.tuple #[.int .i64 (if Fm.mayB (Fm.dn (a * b) c) = true then Fm.dn (a * b) c else 0), .bool (Fm.mayB (Fm.dn (a * b) c))]) ∧ ∃ n, w' = w.drewN n := by
  have hC : 0 < c.natAbs := by omega
  have hcl : c.natAbs < 18446744073709551616 := by omega
  by_cases hh : a.natAbs * b.natAbs / 18446744073709551616 < c.natAbs
  · have hq := Fm.high_small hC hh
    have hw := Fm.words (a.natAbs * b.natAbs)
    have h3 : (a.natAbs * b.natAbs / 18446744073709551616 * 18446744073709551616 + a.natAbs * b.natAbs % 18446744073709551616) / c.natAbs = a.natAbs * b.natAbs / c.natAbs := by rw [hw]
    have h4 : (a.natAbs * b.natAbs / 18446744073709551616 * 18446744073709551616 + a.natAbs * b.natAbs % 18446744073709551616) % c.natAbs = a.natAbs * b.natAbs % c.natAbs := by rw [hw]
    obtain ⟨nb, hb⟩ : ∃ nb, (!(!decide (a < 0) == decide (b < 0)) == decide (c < 0)) = nb := ⟨_, rfl⟩
    have hv := Fm.dn_cases a b c nb hc hb
    rw [hv]
    generalize a.natAbs * b.natAbs / c.natAbs = q at h3 hq ⊢
    generalize hr : a.natAbs * b.natAbs % c.natAbs = r at h4 ⊢
    cases nb with
    | true =>
      simp only [if_true]
      by_cases h0 : r = 0
      · rw [if_pos h0]
        by_cases hm : q ≤ 4611686018427387904
        · rw [(Fm.may_iff _).2 (by omega), if_pos rfl]
          exact md_even a b c _ _ _ _ _ q r w ha0 ha1 hb0 hb1 hc0 hc1 rfl rfl rfl rfl rfl hh h3 h4 hb h0 hm
        · rw [(Fm.may_not _).2 (by omega), if_neg (by simp)]
          exact md_evenbig a b c _ _ _ _ _ q r w ha0 ha1 hb0 hb1 hc0 hc1 rfl rfl rfl rfl rfl hh h3 h4 hb h0 (by omega)
      · rw [if_neg h0]
        by_cases hm : q + 1 ≤ 4611686018427387904
        · rw [(Fm.may_iff _).2 (by omega), if_pos rfl]
          exact md_up a b c _ _ _ _ _ q r w ha0 ha1 hb0 hb1 hc0 hc1 rfl rfl rfl rfl rfl hh h3 h4 hb (q + 1) rfl h0 hm
        · rw [(Fm.may_not _).2 (by omega), if_neg (by simp)]
          by_cases ho : q = 18446744073709551615
          · exact md_upover a b c _ _ _ _ _ q r w ha0 ha1 hb0 hb1 hc0 hc1 rfl rfl rfl rfl rfl hh h3 h4 hb h0 ho
          · exact md_upbig a b c _ _ _ _ _ q r w ha0 ha1 hb0 hb1 hc0 hc1 rfl rfl rfl rfl rfl hh h3 h4 hb (q + 1) rfl h0 (by omega) (by omega)
    | false =>
      simp only [Bool.false_eq_true, if_false]
      by_cases hm : q ≤ 4611686018427387904
      · rw [(Fm.may_iff (q : Int)).2 (by omega), if_pos rfl]
        exact md_pos a b c _ _ _ _ _ q r w ha0 ha1 hb0 hb1 hc0 hc1 rfl rfl rfl rfl rfl hh h3 h4 hb hm
      · rw [(Fm.may_not (q : Int)).2 (by omega), if_neg (by simp)]
        exact md_posbig a b c _ _ _ _ _ q r w ha0 ha1 hb0 hb1 hc0 hc1 rfl rfl rfl rfl rfl hh h3 h4 hb (by omega)
  · have hq := Fm.high_big hC (Nat.le_of_not_lt hh)
    obtain ⟨nb, hb⟩ : ∃ nb, (!(!decide (a < 0) == decide (b < 0)) == decide (c < 0)) = nb := ⟨_, rfl⟩
    have hv := Fm.dn_cases a b c nb hc hb
    have hm : Fm.mayB (Fm.dn (a * b) c) = false := by
      rw [Fm.may_not, hv]
      generalize a.natAbs * b.natAbs / c.natAbs = q at hq ⊢
      cases nb with
      | true => simp only [if_true]; split <;> omega
      | false => simp only [Bool.false_eq_true, if_false]; omega
    rw [hm, if_neg (by simp)]
    exact md_high a b c _ _ _ _ _ w ha0 ha1 hb0 hb1 hc0 hc1 rfl rfl rfl rfl rfl (Nat.le_of_not_lt hh)
end Go.Proofs.Ytabfdhecbbemjaa.Fx
