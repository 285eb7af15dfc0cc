/- pack.value, walked: what the bytes of a form come to; plain: a number's form comes to the number. -/
import Derived.Test.YtpbidfmijliehaaProg
import Derived.Test.YtpbidfmijliehaaBz
import Derived.Test.YtpbidfmijliehaaAs
import Derived.Test.YtpbidfmijliehaaAu
import Derived.Test.YtpbidfmijliehaaAp
import Derived.Test.YtpbidfmijliehaaAm
set_option linter.unusedVariables false
set_option linter.unusedSimpArgs false
namespace Go.Proofs.Ytpbidfmijliehaa.Fx
open Go Go.RowKit
def valF : Nat → Nat → List Nat → Nat
  | _, n, [] => n
  | k, n, c :: s => if c < 128 then n + c % 128 * 128 ^ k % 18446744073709551616 else valF (k + 1) (n + c % 128 * 128 ^ k % 18446744073709551616) s
/-- what bytes come to -/
def valN (s : List Nat) : Nat := valF 0 0 (s.take 10)
theorem pow7 (k : Nat) : (2 : Nat) ^ (7 * k) = 128 ^ k := by rw [Nat.pow_mul]
theorem or_part {n c k : Nat} (hn : n < 128 ^ k) (hk : k ≤ 9) : n ||| (c % 128 * 128 ^ k % 18446744073709551616) = n + c % 128 * 128 ^ k % 18446744073709551616 := by
  have e : c % 128 * 128 ^ k % 18446744073709551616 = 2 ^ (7 * k) * (c % 128 % 2 ^ (64 - 7 * k)) := by
    rw [← pow7, Nat.mul_comm, show (18446744073709551616 : Nat) = 2 ^ (7 * k) * 2 ^ (64 - 7 * k) by rw [← Nat.pow_add, show 7 * k + (64 - 7 * k) = 64 by omega], Nat.mul_mod_mul_left]
  rw [e, Nat.or_comm, ← Nat.two_pow_add_eq_or_of_lt (by rw [pow7]; exact hn), Nat.add_comm]
theorem part_lt {n c k : Nat} (hn : n < 128 ^ k) (hk : k ≤ 8) : n + c % 128 * 128 ^ k % 18446744073709551616 < 128 ^ (k + 1) := by
  have h1 : c % 128 * 128 ^ k % 18446744073709551616 ≤ c % 128 * 128 ^ k := Nat.mod_le _ _
  have h2 : c % 128 * 128 ^ k ≤ 127 * 128 ^ k := Nat.mul_le_mul_right _ (by omega)
  rw [Nat.pow_succ]
  omega
theorem part_lt9 {n c : Nat} (hn : n < 128 ^ 9) : n + c % 128 * 128 ^ 9 % 18446744073709551616 < 18446744073709551616 := by
  have h9 : (128 : Nat) ^ 9 = 9223372036854775808 := by decide
  rw [h9] at hn ⊢
  omega
theorem part64 {n c k : Nat} (hn : n < 128 ^ k) (hk : k ≤ 9) : n + c % 128 * 128 ^ k % 18446744073709551616 < 18446744073709551616 := by
  rcases Nat.lt_or_ge k 9 with h | h
  · have h1 := part_lt (c := c) hn (show k ≤ 8 by omega)
    have h2 : (128 : Nat) ^ (k + 1) ≤ 128 ^ 9 := Nat.pow_le_pow_right (by omega) (by omega)
    have h9 : (128 : Nat) ^ 9 = 9223372036854775808 := by decide
    omega
  · obtain rfl : k = 9 := by omega
    exact part_lt9 hn
theorem valF_lt : ∀ (s : List Nat) (k n : Nat), k + s.length ≤ 10 → n < 128 ^ k → n < 18446744073709551616 → valF k n s < 18446744073709551616
  | [], _, _, _, _, h => h
  | c :: s, k, n, hk, hn, _ => by
    simp only [List.length_cons] at hk
    rw [valF]
    have h64 := part64 (c := c) hn (show k ≤ 9 by omega)
    split
    · exact h64
    · cases s with
      | nil => exact h64
      | cons d s =>
        simp only [List.length_cons] at hk
        exact valF_lt _ _ _ (by simp; omega) (part_lt hn (by omega)) h64
theorem valN_lt (s : List Nat) : valN s < 18446744073709551616 := valF_lt _ _ _ (by simp; omega) (by simp) (by omega)
/-- a form comes to its number -/
theorem valF_form : ∀ (f m k a : Nat) (t : List Nat), m < 128 ^ f → a + m * 128 ^ k < 18446744073709551616 → valF k a (form m ++ t) = a + m * 128 ^ k
  | 0, m, k, a, t, hf, h => by
    have hm0 : m = 0 := by simpa using hf
    subst hm0
    rw [form_small (by omega)]
    simp [valF]
  | f + 1, m, k, a, t, hf, h => by
    by_cases h128 : m < 128
    · rw [form_small h128]
      simp only [List.cons_append, List.nil_append, valF]
      rw [if_pos h128, Nat.mod_eq_of_lt h128, Nat.mod_eq_of_lt (by omega)]
    · have hm64 : m < 18446744073709551616 := by
        have : m * 1 ≤ m * 128 ^ k := Nat.mul_le_mul_left _ (Nat.pow_pos (by omega))
        omega
      rw [form_big h128 hm64]
      have hc : (128 + m % 128) % 128 = m % 128 := by omega
      have hsum : a + m % 128 * 128 ^ k + m / 128 * 128 ^ (k + 1) = a + m * 128 ^ k := by
        rw [Nat.pow_succ]
        have e : m = m % 128 + 128 * (m / 128) := by omega
        have : m * 128 ^ k = (m % 128 + 128 * (m / 128)) * 128 ^ k := by rw [← e]
        rw [this, Nat.add_mul, Nat.add_assoc]
        congr 2
        rw [Nat.mul_comm (128 ^ k) 128, ← Nat.mul_assoc, Nat.mul_comm (m / 128) 128]
      simp only [List.cons_append, valF]
      rw [if_neg (by omega), hc, Nat.mod_eq_of_lt (by omega), valF_form f (m / 128) (k + 1) _ t (by rw [Nat.pow_succ] at hf; omega) (by rw [hsum]; exact h), hsum]
theorem rdG_le10 : ∀ {s : List Nat} {most k n a j : Nat}, k ≤ 9 → rdG most k n s = some (a, j) → j ≤ 10
  | [], _, _, _, _, _, _, h => by simp [rdG] at h
  | c :: s, most, k, n, a, j, hk, h => by
    rw [rdG] at h
    split at h
    · cases h
    · rename_i h9
      split at h
      · rename_i h128
        exact rdG_le10 (by omega) h
      · split at h
        · cases h
        · cases h
          omega
theorem form_len10 {n : Nat} (h : n < 18446744073709551616) : (form n).length ≤ 10 := by
  have hr := rd_form n M64 [] h (by unfold M64; omega)
  have := rdG_le10 (by omega) hr
  simpa using this
theorem valN_form {n : Nat} (t : List Nat) (hn : n < 18446744073709551616) : valN (form n ++ t) = n := by
  unfold valN
  rw [List.take_append, List.take_of_length_le (form_len10 hn)]
  have h1 : (128 : Nat) ^ 10 = 1180591620717411303424 := by decide
  have := valF_form 10 n 0 0 (t.take (10 - (form n).length)) (by rw [h1]; omega) (by simpa using hn)
  simpa using this
/-- the number whose form stands at the head -/
theorem rd_val (s : List Nat) (hb : By s) : rd M64 s = if (form (valN s)).isPrefixOf s then some (valN s, (form (valN s)).length) else none := by
  cases h : rd M64 s with
  | none =>
    rw [if_neg]
    intro hp
    obtain ⟨t, ht⟩ := List.isPrefixOf_iff_prefix.1 hp
    have := rd_form (valN s) M64 t (valN_lt s) (by have := valN_lt s; unfold M64; omega)
    rw [ht, h] at this
    cases this
  | some r =>
    obtain ⟨n, j⟩ := r
    obtain ⟨h1, h2, h3⟩ := rd_has hb h
    have hs : form n ++ s.drop j = s := by rw [← h1]; exact List.take_append_drop j s
    have hv : valN s = n := by
      have := valN_form (s.drop j) h2
      rw [hs] at this
      exact this
    rw [hv, if_pos (List.isPrefixOf_iff_prefix.2 ⟨_, hs⟩), h3]
/-- a limit is looked at first or last -/
theorem rdG_most : ∀ {s : List Nat} {most k a : Nat}, most ≤ M64 → rdG most k a s = match rdG M64 k a s with | none => none | some (v, j) => if v ≤ most then some (v, j) else none
  | [], _, _, _, _ => by simp [rdG]
  | c :: s, most, k, a, hm => by
    rw [rdG, rdG]
    split
    · rfl
    · split
      · exact rdG_most hm
      · by_cases h0 : 0 < k ∧ c = 0
        · rw [if_pos (.inl h0), if_pos (.inl h0)]
        · by_cases h1 : M64 < a + c % 128 * 128 ^ k
          · rw [if_pos (.inr (by omega)), if_pos (.inr h1)]
          · rw [if_neg (show ¬((0 < k ∧ c = 0) ∨ M64 < a + c % 128 * 128 ^ k) by rintro (h | h); exact h0 h; exact h1 h)]
            dsimp only
            by_cases h2 : a + c % 128 * 128 ^ k ≤ most
            · rw [if_pos h2, if_neg (by rintro (h | h); exact h0 h; omega)]
            · rw [if_neg h2, if_pos (.inr (by omega))]
theorem rd_most (s : List Nat) {most : Nat} (hm : most ≤ M64) : rd most s = match rd M64 s with | none => none | some (v, j) => if v ≤ most then some (v, j) else none := rdG_most hm
end Go.Proofs.Ytpbidfmijliehaa.Fx
