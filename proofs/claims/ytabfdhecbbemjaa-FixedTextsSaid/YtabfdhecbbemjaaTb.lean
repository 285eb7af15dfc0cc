/- A number's text says it: plain. -/
import Derived.Test.YtabfdhecbbemjaaProg
import Derived.Test.YtabfdhecbbemjaaParse
set_option linter.unusedVariables false
set_option linter.unusedSimpArgs false
namespace Go.Proofs.Ytabfdhecbbemjaa.Fx
open Go Go.RowKit

theorem digit_dec {d : Nat} (h : d < 10) : digitOf (48 + d) = some d ∧ 48 + d ≠ 46 := by
  unfold digitOf
  rw [if_pos (by omega)]
  exact ⟨by congr 1; omega, by omega⟩
theorem digit_num {d : Nat} (h : d < 16) : digitOf (num d) = some d ∧ num d ≠ 46 := by
  have hd : d = 0 ∨ d = 1 ∨ d = 2 ∨ d = 3 ∨ d = 4 ∨ d = 5 ∨ d = 6 ∨ d = 7 ∨ d = 8 ∨ d = 9 ∨ d = 10 ∨ d = 11 ∨ d = 12 ∨ d = 13 ∨ d = 14 ∨ d = 15 := by omega
  rcases hd with rfl | rfl | rfl | rfl | rfl | rfl | rfl | rfl | rfl | rfl | rfl | rfl | rfl | rfl | rfl | rfl <;> decide
theorem val_digit {c d n b : Nat} {r : List Nat} (hc : digitOf c = some d ∧ c ≠ 46) (hb : 0 < b) (hn : n * b + d ≤ 4611686018427387904) : val (c :: r) n b = val r (n * b + d) b := by
  simp only [val, if_neg hc.2, hc.1]
  rw [if_neg]
  have : n ≤ (4611686018427387904 - d) / b := (Nat.le_div_iff_mul_le hb).2 (by omega)
  omega
theorem val_dec : ∀ (f n : Nat) (r : List Nat), n < 10 ^ f → n ≤ 4611686018427387904 → 1 ≤ f → val (decF f n ++ r) 0 10 = val r n 10
  | 0, _, _, _, _, h => by omega
  | f + 1, n, r, h, hn, _ => by
    simp only [decF]
    by_cases h10 : n < 10
    · rw [if_pos h10, List.cons_append, List.nil_append, val_digit (digit_dec h10) (by omega) (by omega)]
      congr 1; omega
    · rw [if_neg h10, List.append_assoc]
      have hf : 1 ≤ f := by
        refine Nat.pos_of_ne_zero fun h0 => ?_
        subst h0
        simp at h
        omega
      rw [val_dec f (n / 10) _ (by rw [Nat.pow_succ] at h; omega) (by omega) hf, List.cons_append, List.nil_append, val_digit (digit_dec (Nat.mod_lt _ (by omega))) (by omega) (by omega)]
      congr 1; omega
theorem val_body (s : Nat) (hs : s ≤ 4611686018427387904) : val (bodyT s) 0 10 = some s := by
  unfold bodyT decs
  rw [List.append_assoc, val_dec 20 _ _ (by omega) (by omega) (by omega)]
  rw [List.cons_append, List.nil_append]
  rw [show ∀ r n b, val (46 :: r) n b = val r n 16 from fun _ _ _ => rfl]
  unfold hex4
  rw [val_digit (digit_num (Nat.mod_lt _ (by omega))) (by omega) (by omega), val_digit (digit_num (Nat.mod_lt _ (by omega))) (by omega) (by omega),
    val_digit (digit_num (Nat.mod_lt _ (by omega))) (by omega) (by omega), val_digit (digit_num (Nat.mod_lt _ (by omega))) (by omega) (by omega)]
  simp only [val]
  congr 1
  omega
theorem decF_small : ∀ (f n : Nat), ∀ x ∈ decF f n, 48 ≤ x ∧ x ≤ 57
  | 0, _, x, h => by simp [decF] at h
  | f + 1, n, x, h => by
    simp only [decF] at h
    split at h
    · simp at h; omega
    · rw [List.mem_append] at h
      rcases h with h | h
      · exact decF_small f _ x h
      · simp at h; omega
theorem decF_len : ∀ (f n : Nat), (decF f n).length ≤ f
  | 0, _ => by simp [decF]
  | f + 1, n => by
    simp only [decF]
    split
    · simp
    · simp [decF_len f (n / 10)]
theorem num_lt (d : Nat) (h : d < 16) : num d < 256 ∧ 48 ≤ num d := by unfold num; split <;> omega
theorem body_small (s : Nat) : ∀ x ∈ bodyT s, x < 256 ∧ 46 ≤ x := by
  intro x h
  unfold bodyT decs hex4 at h
  simp only [List.mem_append, List.mem_cons, List.mem_nil_iff, or_false] at h
  rcases h with (h | h) | h | h | h | h
  · have := decF_small _ _ x h; omega
  · omega
  · subst h; have := num_lt (s / 4096 % 16) (Nat.mod_lt _ (by omega)); omega
  · subst h; have := num_lt (s / 256 % 16) (Nat.mod_lt _ (by omega)); omega
  · subst h; have := num_lt (s / 16 % 16) (Nat.mod_lt _ (by omega)); omega
  · subst h; have := num_lt (s % 16) (Nat.mod_lt _ (by omega)); omega
theorem tx_small (a : Int) : ∀ x ∈ tx a, x < 256 := by
  intro x h
  unfold tx at h
  rw [List.mem_append] at h
  rcases h with h | h
  · split at h
    · simp at h; omega
    · cases h
  · exact (body_small _ x h).1
theorem tx_len (a : Int) : (tx a).length ≤ 26 := by
  unfold tx bodyT decs hex4
  have := decF_len 20 (a.natAbs / 65536)
  simp only [List.length_append, List.length_cons, List.length_nil]
  split <;> simp <;> omega
theorem bstr_size (l : List Nat) : (bstr l).size = l.length := by
  show (l.map UInt8.ofNat).toArray.size = _
  simp
theorem sbytes_bstr (l : List Nat) (h : ∀ x ∈ l, x < 256) : sbytes (bstr l) = l := by
  unfold sbytes bstr
  simp only [List.map_map]
  conv => rhs; rw [← List.map_id l]
  refine List.map_congr_left fun x hx => ?_
  have := h x hx
  simp
  omega
theorem bstr_cons (x : Nat) (l : List Nat) : (bstr (x :: l)).data.toList = UInt8.ofNat x :: (bstr l).data.toList := by simp [bstr]
theorem body_ne (s : Nat) : ∃ x l, bodyT s = x :: l ∧ x ≠ 45 ∧ x < 256 := by
  cases h : bodyT s with
  | nil =>
    have : (bodyT s).length ≠ 0 := by unfold bodyT hex4; simp
    rw [h] at this
    simp at this
  | cons x l =>
    have := body_small s x (by rw [h]; exact List.mem_cons_self ..)
    exact ⟨x, l, rfl, by omega, this.1⟩
theorem ofNat_inj {x y : Nat} (hx : x < 256) (hy : y < 256) (h : UInt8.ofNat x = UInt8.ofNat y) : x = y := by
  have := congrArg UInt8.toNat h
  simp at this
  omega
theorem pre_no {y : UInt8} {l : List UInt8} (h : (45 : UInt8) ≠ y) : Lib.hasPrefix (y :: l) dash = false := by
  show ((45 : UInt8) == y && List.isPrefixOf [] l) = false
  rw [beq_eq_false_iff_ne.2 h]; rfl
/-- the number that a number's text could say is that number -/
theorem cand_tx (a : Int) (ha : Fm.mayB a = true) : cand (bstr (tx a)) = some a := by
  obtain ⟨a0, a1⟩ := (Fm.may_iff a).1 ha
  have hv := val_body a.natAbs (by omega)
  unfold cand
  by_cases hn : a < 0
  · have e : (bstr (tx a)).data.toList = 45 :: (bstr (bodyT a.natAbs)).data.toList := by
      unfold tx; rw [if_pos hn]; exact bstr_cons 45 _
    have h1 : negOf (bstr (tx a)) = true := by unfold negOf; rw [e]; simp [Lib.hasPrefix, dash]
    have h2 : unsignedOf (bstr (tx a)) = bstr (bodyT a.natAbs) := by
      unfold unsignedOf
      rw [e]
      simp [Lib.trimPrefix, Lib.hasPrefix, dash]
    rw [h1, h2, sbytes_bstr _ (fun x h => (body_small _ x h).1), hv]
    simp only [Option.map_some, signed, if_true]
    congr 1; omega
  · obtain ⟨x, l, hb, hx, hx2⟩ := body_ne a.natAbs
    have e : (bstr (tx a)) = bstr (bodyT a.natAbs) := by unfold tx; rw [if_neg hn]; rfl
    have h0 : (45 : UInt8) ≠ UInt8.ofNat x := fun h => hx (ofNat_inj hx2 (by omega) h.symm)
    have h1 : negOf (bstr (bodyT a.natAbs)) = false := by
      unfold negOf; rw [hb, bstr_cons]; exact pre_no h0
    have h2 : unsignedOf (bstr (bodyT a.natAbs)) = bstr (bodyT a.natAbs) := by
      unfold unsignedOf
      have : Lib.trimPrefix (bstr (bodyT a.natAbs)).data.toList dash = (bstr (bodyT a.natAbs)).data.toList := by
        rw [hb, bstr_cons]; unfold Lib.trimPrefix; rw [pre_no h0]; rfl
      rw [this]
    rw [e, h1, h2, sbytes_bstr _ (fun x h => (body_small _ x h).1), hv]
    simp only [Option.map_some, signed]
    congr 1
    rw [if_neg (by simp)]
    omega
theorem pv_tx (a : Int) (ha : Fm.mayB a = true) : pv (bstr (tx a)) = a ∧ pe (bstr (tx a)) = 0 := by
  unfold pv pe
  rw [cand_tx a ha]
  exact ⟨if_pos rfl, if_pos rfl⟩
/-- what is read has that text, and may be -/
theorem pv_ok (s : ByteArray) : (pe s = 0 ∧ bstr (tx (pv s)) = s ∧ Fm.mayB (pv s) = true) ∨ (pe s = 12 ∧ pv s = 0) := by
  unfold pv pe
  cases h : cand s with
  | none => right; exact ⟨rfl, rfl⟩
  | some a =>
    by_cases ht : bstr (tx a) = s
    · left
      simp only [if_pos ht]
      refine ⟨by trivial, ht, ?_⟩
      unfold cand at h
      cases hv : val (sbytes (unsignedOf s)) 0 10 with
      | none => rw [hv] at h; cases h
      | some n =>
        have := val_le _ 0 10 n (by omega) (by omega) hv
        rw [hv] at h
        cases h
        refine (Fm.may_iff _).2 ?_
        unfold signed
        split <;> omega
    · right
      simp only [if_neg ht]
      exact ⟨by trivial, by trivial⟩
end Go.Proofs.Ytabfdhecbbemjaa.Fx
