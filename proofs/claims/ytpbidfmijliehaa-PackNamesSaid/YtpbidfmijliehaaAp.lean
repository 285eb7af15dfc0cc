/- Forms, plain: what was written is read; what is read has one form; none begins another one. -/
import Derived.Test.YtpbidfmijliehaaProg
import Derived.Test.YtpbidfmijliehaaAy
import Derived.Test.YtpbidfmijliehaaAr
import Derived.Test.YtpbidfmijliehaaAs
set_option linter.unusedVariables false
namespace Go.Proofs.Ytpbidfmijliehaa.Fx
open Go Go.RowKit
theorem pow_k {k : Nat} (h : k ≤ 8) : (2 : Nat) ^ (64 - 7 * k) = 128 * 2 ^ (64 - 7 * (k + 1)) := pow_cut k (by omega)
theorem rdG_form : ∀ (f m most k a : Nat) (t : List Nat), m < 128 ^ f → m < 2 ^ (64 - 7 * k) → k ≤ 9 → (k = 0 ∨ m ≠ 0) → a + m * 128 ^ k ≤ most → rdG most k a (form m ++ t) = some (a + m * 128 ^ k, k + (form m).length)
  | 0, m, most, k, a, t, hf, hm, hk, h0, hle => by
    have hm0 : m = 0 := by simpa using hf
    subst hm0
    have hk0 : k = 0 := by rcases h0 with h | h; · exact h
                           · exact absurd rfl h
    subst hk0
    rw [form_small (by omega)]
    simp [rdG]
    simpa using hle
  | f + 1, m, most, k, a, t, hf, hm, hk, h0, hle => by
    by_cases h128 : m < 128
    · rw [form_small h128]
      have h9 : ¬ (k = 9 ∧ 1 < m) := by
        rintro ⟨rfl, h1⟩
        simp at hm
        omega
      have hmod : m % 128 = m := Nat.mod_eq_of_lt h128
      simp only [List.cons_append, List.nil_append, rdG]
      rw [if_neg h9, if_neg (by omega), if_neg (by rw [hmod]; rintro (⟨h1, h2⟩ | h1) <;> omega), hmod]
      simp
    · have hk8 : k ≤ 8 := by
        rcases Nat.lt_or_ge k 9 with h | h
        · omega
        · have e : k = 9 := by omega
          subst e
          simp at hm
          omega
      have hm64 : m < 18446744073709551616 := by
        have h1 : (2 : Nat) ^ (64 - 7 * k) ≤ 2 ^ 64 := Nat.pow_le_pow_right (by omega) (by omega)
        have h2 : (2 : Nat) ^ 64 = 18446744073709551616 := by decide
        omega
      rw [form_big h128 hm64]
      have hc : (128 + m % 128) % 128 = m % 128 := by omega
      have hsum : a + m % 128 * 128 ^ k + m / 128 * 128 ^ (k + 1) = a + m * 128 ^ k := by
        rw [Nat.pow_succ]
        have e : m = m % 128 + 128 * (m / 128) := by omega
        have : m * 128 ^ k = (m % 128 + 128 * (m / 128)) * 128 ^ k := by rw [← e]
        rw [this, Nat.add_mul, Nat.add_assoc]
        congr 2
        rw [Nat.mul_comm (128 ^ k) 128, ← Nat.mul_assoc, Nat.mul_comm (m / 128) 128]
      simp only [List.cons_append, rdG]
      rw [if_neg (by omega), if_pos (by omega), hc, rdG_form f (m / 128) most (k + 1) _ t (by rw [Nat.pow_succ] at hf; omega) (by rw [pow_k hk8] at hm; exact Nat.div_lt_of_lt_mul hm) (by omega) (Or.inr (by omega)) (by rw [hsum]; exact hle), hsum]
      simp
      omega
/-- what was written is read -/
theorem rd_form (n most : Nat) (t : List Nat) (hn : n < 18446744073709551616) (hm : n ≤ most) : rd most (form n ++ t) = some (n, (form n).length) := by
  have h1 : (128 : Nat) ^ 10 = 1180591620717411303424 := by decide
  have h2 : (2 : Nat) ^ (64 - 7 * 0) = 18446744073709551616 := by decide
  have := rdG_form 10 n most 0 0 t (by rw [h1]; omega) (by rw [h2]; exact hn) (by omega) (Or.inl rfl) (by simpa using hm)
  unfold rd
  rw [this]
  simp
theorem rdG_has : ∀ {s : List Nat} {most k a v j : Nat}, By s → k ≤ 9 → rdG most k a s = some (v, j) → ∃ m, v = a + m * 128 ^ k ∧ s.take (j - k) = form m ∧ m < 2 ^ (64 - 7 * k) ∧ (k = 0 ∨ m ≠ 0) ∧ k < j
  | [], _, _, _, _, _, _, _, h => by simp [rdG] at h
  | c :: s, most, k, a, v, j, hb, hk, h => by
    have hc : c < 256 := hb c (by simp)
    rw [rdG] at h
    split at h
    · cases h
    · rename_i h9
      split at h
      · rename_i h128
        have hk8 : k ≤ 8 := by omega
        obtain ⟨m, hv, ht, hm, h0, hlt⟩ := rdG_has (fun x hx => hb x (by simp [hx])) (by omega) h
        have hm0 : m ≠ 0 := by rcases h0 with h | h; · omega
                               · exact h
        have hm1 : c % 128 + 128 * m < 2 ^ (64 - 7 * k) := by rw [pow_k hk8]; omega
        refine ⟨c % 128 + 128 * m, ?_, ?_, hm1, Or.inr (by omega), by omega⟩
        · rw [hv, Nat.pow_succ, Nat.add_mul, Nat.add_assoc]
          congr 2
          rw [Nat.mul_comm (128 ^ k) 128, ← Nat.mul_assoc, Nat.mul_comm m 128]
        · have hm64 : c % 128 + 128 * m < 18446744073709551616 := by
            have h1 : (2 : Nat) ^ (64 - 7 * k) ≤ 2 ^ 64 := Nat.pow_le_pow_right (by omega) (by omega)
            have h2 : (2 : Nat) ^ 64 = 18446744073709551616 := by decide
            omega
          rw [form_big (by omega) hm64, show j - k = (j - (k + 1)) + 1 by omega, List.take_succ_cons, ht]
          congr 1
          · omega
          · congr 1
            omega
      · rename_i h128
        split at h
        · cases h
        · rename_i hz
          cases h
          refine ⟨c, by rw [Nat.mod_eq_of_lt (by omega)], ?_, ?_, by omega, by omega⟩
          · rw [show k + 1 - k = 1 by omega, form_small (by omega)]
            simp
          · rcases Nat.lt_or_ge k 9 with h | h
            · have : (2 : Nat) ^ 8 ≤ 2 ^ (64 - 7 * k) := Nat.pow_le_pow_right (by omega) (by omega)
              omega
            · have e : k = 9 := by omega
              subst e
              simp
              omega
/-- what is read has one form -/
theorem rd_has {s : List Nat} {most n j : Nat} (hb : By s) (h : rd most s = some (n, j)) : s.take j = form n ∧ n < 18446744073709551616 ∧ j = (form n).length := by
  obtain ⟨m, hv, ht, hm, _, hj⟩ := rdG_has hb (by omega) h
  have e : n = m := by simpa using hv
  subst e
  have h2 : (2 : Nat) ^ (64 - 7 * 0) = 18446744073709551616 := by decide
  have hl := (rd_le h).2.2
  have ht' : s.take j = form n := by simpa using ht
  refine ⟨ht', by rw [h2] at hm; exact hm, ?_⟩
  rw [← ht', List.length_take]
  omega
theorem rdG_cut : ∀ {s : List Nat} {most k a v j i : Nat}, rdG most k a s = some (v, j) → k + i < j → rdG most k a (s.take i) = none
  | [], _, _, _, _, _, _, h, _ => by simp [rdG] at h
  | c :: s, most, k, a, v, j, 0, h, hi => by simp [rdG]
  | c :: s, most, k, a, v, j, i + 1, h, hi => by
    rw [rdG] at h
    rw [List.take_succ_cons, rdG]
    split at h
    · cases h
    · rename_i h9
      rw [if_neg h9]
      split at h
      · rename_i h128
        rw [if_pos h128]
        exact rdG_cut h (by omega)
      · split at h
        · cases h
        · cases h
          omega
/-- no form begins another one -/
theorem rd_cut {s : List Nat} {most n j i : Nat} (h : rd most s = some (n, j)) (hi : i < j) : rd most (s.take i) = none := rdG_cut h (by omega)
theorem unf_fold {z : Int} (h0 : -9223372036854775808 ≤ z) (h1 : z ≤ 9223372036854775807) : unf (fold z) = z := by
  unfold unf fold
  split <;> split <;> omega
theorem fold_unf {n : Nat} (h : n < 18446744073709551616) : fold (unf n) = n := by
  unfold unf fold
  split <;> split <;> omega
end Go.Proofs.Ytpbidfmijliehaa.Fx
