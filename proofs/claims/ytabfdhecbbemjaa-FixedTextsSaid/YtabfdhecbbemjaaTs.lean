/- A number's text, plain; what fixed.Text comes to. -/
import Derived.Test.YtabfdhecbbemjaaProg
import Derived.Test.YtabfdhecbbemjaaTxt
import Derived.Test.YtabfdhecbbemjaaVal
set_option linter.unusedVariables false
set_option linter.unusedSimpArgs false
namespace Go.Proofs.Ytabfdhecbbemjaa.Fx
open Go Go.RowKit

def decF : Nat → Nat → List Nat
  | 0, _ => []
  | f + 1, n => if n < 10 then [48 + n] else decF f (n / 10) ++ [48 + n % 10]
/-- a number's decimal digits -/
def decs (n : Nat) : List Nat := decF 20 n
def hex4 (s : Nat) : List Nat := [num (s / 4096 % 16), num (s / 256 % 16), num (s / 16 % 16), num (s % 16)]
def bodyT (s : Nat) : List Nat := decs (s / 65536) ++ [46] ++ hex4 s
/-- a number's text -/
def tx (a : Int) : List Nat := (if a < 0 then [45] else []) ++ bodyT a.natAbs

def tl : Nat → Nat → List Nat
  | _, 0 => []
  | q, J + 1 => (48 + q % 10) :: tl (q / 10) J
theorem tl_snoc : ∀ (J q : Nat), tl q (J + 1) = tl q J ++ [48 + q / 10 ^ J % 10]
  | 0, q => by simp [tl]
  | J + 1, q => by
    show (48 + q % 10) :: tl (q / 10) (J + 1) = ((48 + q % 10) :: tl (q / 10) J) ++ _
    rw [tl_snoc J (q / 10), Nat.div_div_eq_div_mul, Nat.pow_succ, Nat.mul_comm 10]
    rfl
theorem tl_rev : ∀ (J f q : Nat), J ≤ f → 1 ≤ J → q / 10 ^ J = 0 → (J = 1 ∨ q / 10 ^ (J - 1) ≠ 0) → (tl q J).reverse = decF f q
  | 0, _, _, _, h, _, _ => by omega
  | J + 1, 0, _, h, _, _, _ => by omega
  | J + 1, f + 1, q, hf, _, h0, h1 => by
    by_cases hJ : J = 0
    · subst hJ
      have : q < 10 := by simp at h0; omega
      simp only [decF, if_pos this, tl, List.reverse_cons, List.reverse_nil, List.nil_append]
      rw [Nat.mod_eq_of_lt this]
    · have hq : ¬ q < 10 := by
        intro hq
        rcases h1 with h1 | h1
        · omega
        · refine h1 (Nat.div_eq_of_lt (Nat.lt_of_lt_of_le hq ?_))
          simp only [Nat.add_sub_cancel]
          exact Nat.le_self_pow hJ 10
      simp only [decF, if_neg hq, tl, List.reverse_cons]
      rw [tl_rev J f (q / 10) (by omega) (by omega) ?_ ?_]
      · rw [Nat.div_div_eq_div_mul, Nat.mul_comm, ← Nat.pow_succ]; exact h0
      · by_cases h2 : J = 1
        · exact .inl h2
        · right
          rcases h1 with h1 | h1
          · omega
          · simp only [Nat.add_sub_cancel] at h1
            rw [Nat.div_div_eq_div_mul, Nat.mul_comm, ← Nat.pow_succ, show (J - 1).succ = J from by omega]
            exact h1
theorem bw_four (s : Nat) : bw s 4 = (hex4 s).reverse ++ [46] := by
  have e1 : dgt s 0 = s % 16 := rfl
  have e2 : dgt s 1 = s / 16 % 16 := rfl
  have e3 : dgt s 2 = s / 256 % 16 := by simp [dgt, lft, baseAt, Nat.div_div_eq_div_mul]
  have e4 : dgt s 3 = s / 4096 % 16 := by simp [dgt, lft, baseAt, Nat.div_div_eq_div_mul]
  simp [bw, e1, e2, e3, e4, hex4]
theorem bw_tl (s : Nat) : ∀ J, bw s (4 + J) = bw s 4 ++ tl (s / 65536) J
  | 0 => by simp [tl]
  | J + 1 => by
    show bw s (4 + J) ++ [num (dgt s (4 + J))] ++ (if 4 + J = 3 then [46] else []) = _
    rw [if_neg (by omega), List.append_nil, bw_tl s J, tl_snoc, List.append_assoc]
    congr 3
    have : dgt s (4 + J) = s / 65536 / 10 ^ J % 10 := by
      show lft s (4 + J) % baseAt (4 + J) = _
      rw [lft_low, show baseAt (4 + J) = 10 from if_neg (by omega)]
    rw [this]
    unfold num
    rw [if_pos (Nat.mod_lt _ (by omega))]
theorem bw_text {s m : Nat} (hs : s ≤ 4611686018427387904) (h5 : 5 ≤ m) (h0 : lft s m = 0) (h1 : m = 5 ∨ lft s (m - 1) ≠ 0) : (bw s m).reverse = bodyT s := by
  obtain ⟨J, rfl⟩ : ∃ J, m = 4 + J := ⟨m - 4, by omega⟩
  have hJ : J ≤ 20 := by
    rcases h1 with h | h
    · omega
    · have := lft_lt hs h; omega
  rw [lft_low] at h0
  have h1' : J = 1 ∨ s / 65536 / 10 ^ (J - 1) ≠ 0 := by
    rcases h1 with h | h
    · left; omega
    · right
      rw [show 4 + J - 1 = 4 + (J - 1) from by omega, lft_low] at h
      exact h
  rw [bw_tl, List.reverse_append, tl_rev J 20 _ hJ (by omega) h0 h1', bw_four, List.reverse_append, List.reverse_reverse]
  simp [bodyT, decs]
theorem text_any (a : Int) (w : World) (a0 : -9223372036854775808 ≤ a) (a1 : a ≤ 9223372036854775807) :
    Calls Try.prog 23 #[.int .i64 a] w fun e w' => e = .returned (.tuple #[.string (if Fm.mayB a = true then bstr (tx a) else ⟨#[]⟩), .int .i64 (if Fm.mayB a = true then 0 else 10)]) ∧ Below w.heap.size w w' := by
  cases hm : Fm.mayB a with
  | true =>
    simp only [if_true]
    obtain ⟨b0, b1⟩ := (Fm.may_iff a).1 hm
    refine (text_in a w b0 b1).mono ?_
    rintro e w' ⟨⟨m, ⟨h5, h0, h1⟩, rfl⟩, hB⟩
    refine ⟨?_, hB⟩
    rw [List.reverse_append, bw_text (by omega) h5 h0 h1]
    unfold tx
    by_cases hn : a < 0
    · rw [if_pos hn]; rfl
    · rw [if_neg hn]; rfl
  | false =>
    simp only [Bool.false_eq_true, if_false]
    have hn := (Fm.may_not a).1 hm
    clear hm
    have Hn := Lib.hid hn; clear hn
    go_enter Try.func23, Try.ntmps23
    go_wp2_with fail
    go_step3
    go_wp2_with fail
    refine (within_no a 4611686018427387904 _ (by omega) (by omega) Hn.out).mono ?_
    rintro e w' ⟨rfl, rfl⟩
    go_wp2_with fail
    try rw [Exit.noGoto_ret]
    go_ret2
    exact ⟨rfl, Below.refl _ _⟩
end Go.Proofs.Ytabfdhecbbemjaa.Fx
