/- What the reference's Parse comes to, plain. -/
import Derived.Test.YtabfdhecbbemjaaProg
import Derived.Test.YtabfdhecbbemjaaTb
import Derived.Test.YtabfdhecbbemjaaHex
set_option linter.unusedVariables false
set_option linter.unusedSimpArgs false
namespace Go.Proofs.Ytabfdhecbbemjaa.Fx
open Go Go.RowKit

def decv : List Nat → Nat → Option Nat
  | [], n => some n
  | c :: l, n => if c < 48 ∨ 57 < c then none else decv l (10 * n + (c - 48))
def hexv : List Nat → Nat → Option Nat
  | [], n => some n
  | c :: l, n => match digitOf c with
    | none => none
    | some d => hexv l (16 * n + d)
/-- an unsigned text's number, as the reference reads it: the signs before the point, and those behind it -/
def rdh (D H : List Nat) : Option Nat := match decv D 0 with
  | none => none
  | some q => if 70368744177664 < q then none else hexv H q
theorem decv_app : ∀ (l r : List Nat) (n : Nat), decv (l ++ r) n = match decv l n with | none => none | some m => decv r m
  | [], r, n => rfl
  | c :: l, r, n => by
    simp only [List.cons_append, decv]
    split
    · rfl
    · exact decv_app l r _
theorem decv_dec : ∀ (f q : Nat), q < 10 ^ f → 1 ≤ f → decv (decF f q) 0 = some q
  | 0, _, _, h => by omega
  | f + 1, q, h, _ => by
    simp only [decF]
    by_cases h10 : q < 10
    · rw [if_pos h10]
      simp only [decv]
      rw [if_neg (by omega)]
      congr 1; omega
    · rw [if_neg h10, decv_app]
      have hf : 1 ≤ f := by
        refine Nat.pos_of_ne_zero fun h0 => ?_
        subst h0
        simp at h
        omega
      rw [decv_dec f (q / 10) (by rw [Nat.pow_succ] at h; omega) hf]
      simp only [decv]
      rw [if_neg (by omega)]
      congr 1; omega
theorem hexv_num {d : Nat} (h : d < 16) (l : List Nat) (n : Nat) : hexv (num d :: l) n = hexv l (16 * n + d) := by
  simp only [hexv, (digit_num h).1]
theorem hexv_hex (m : Nat) : hexv (hex4 m) (m / 65536) = some m := by
  unfold hex4
  rw [hexv_num (Nat.mod_lt _ (by omega)), hexv_num (Nat.mod_lt _ (by omega)), hexv_num (Nat.mod_lt _ (by omega)), hexv_num (Nat.mod_lt _ (by omega))]
  show some _ = some m
  congr 1
  omega
theorem dec15 : ∀ (f q : Nat), q < 10 ^ f → 1 ≤ f → ∀ g, (decF g q).length ≤ f
  | 0, _, _, h, _ => by omega
  | f + 1, q, h, _, 0 => by simp [decF]
  | f + 1, q, h, _, g + 1 => by
    simp only [decF]
    by_cases h10 : q < 10
    · rw [if_pos h10]; simp
    · rw [if_neg h10]
      have hf : 1 ≤ f := by
        refine Nat.pos_of_ne_zero fun h0 => ?_
        subst h0
        simp at h
        omega
      have := dec15 f (q / 10) (by rw [Nat.pow_succ] at h; omega) hf g
      simp
      omega
theorem decs_one (q : Nat) : 1 ≤ (decs q).length := by
  show 1 ≤ (decF (19 + 1) q).length
  rw [decF]
  split <;> simp
/-- a row of six to twenty signs with a point before the last four, taken apart -/
def Parts (T D H : List Nat) : Prop := T = D ++ 46 :: H ∧ H.length = 4 ∧ 1 ≤ D.length ∧ D.length ≤ 15
theorem parts_of (T : List Nat) (h6 : 6 ≤ T.length) (h20 : T.length ≤ 20) (h46 : T.getD (T.length - 5) 0 = 46) : ∃ D H, Parts T D H := by
  refine ⟨T.take (T.length - 5), T.drop (T.length - 4), ?_, by simp; omega, by simp; omega, by simp; omega⟩
  have h := List.take_append_drop (T.length - 5) T
  rw [List.drop_eq_getElem_cons (by omega : T.length - 5 < T.length)] at h
  rw [List.getD_eq_getElem?_getD, List.getElem?_eq_getElem (by omega)] at h46
  simp at h46
  rw [h46, show T.length - 5 + 1 = T.length - 4 from by omega] at h
  exact h.symm
theorem parts_no (T : List Nat) (h : T.length < 6 ∨ 20 < T.length ∨ T.getD (T.length - 5) 0 ≠ 46) (m : Nat) (hm : m ≤ 4611686018427387904) : T ≠ bodyT m := by
  rintro rfl
  have h1 := dec15 15 (m / 65536) (by omega) (by omega) 20
  have h2 := decs_one (m / 65536)
  have hl : (bodyT m).length = (decs (m / 65536)).length + 5 := by unfold bodyT hex4; simp
  have h1' : (decs (m / 65536)).length ≤ 15 := h1
  rcases h with h | h | h
  · omega
  · omega
  · refine h ?_
    rw [hl, Nat.add_sub_cancel]
    unfold bodyT
    rw [List.getD_eq_getElem?_getD, List.append_assoc, List.getElem?_append_right (Nat.le_refl _)]
    simp
theorem parts_body {T D H : List Nat} (h : Parts T D H) {m : Nat} (hm : T = bodyT m) (hb : m ≤ 4611686018427387904) : rdh D H = some m := by
  obtain ⟨h1, h2, _⟩ := h
  rw [hm] at h1
  unfold bodyT at h1
  rw [List.append_assoc, List.singleton_append] at h1
  have h4 : (46 :: hex4 m).length = (46 :: H).length := by rw [List.length_cons, List.length_cons, h2]; rfl
  obtain ⟨e1, e2⟩ := List.append_inj' h1 h4
  rw [List.cons.injEq] at e2
  unfold rdh
  rw [← e1, ← e2.2, show decv (decs (m / 65536)) 0 = some (m / 65536) from decv_dec 20 _ (by omega) (by omega)]
  simp only []
  rw [if_neg (by omega)]
  exact hexv_hex m
end Go.Proofs.Ytabfdhecbbemjaa.Fx
