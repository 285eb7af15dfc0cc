/- The reference's hex, walked. -/
import Derived.Test.YtabfdhecbbemjaaProg
import Derived.Test.YtabfdhecbbemjaaFx1
import Derived.Test.YtabfdhecbbemjaaTb
import Derived.Test.YtabfdhecbbemjaaAlive
import Derived.Laws.Concat
import Derived.WalkKit
import Derived.Lib.Hide
set_option linter.unusedVariables false
set_option linter.unusedSimpArgs false
namespace Go.Proofs.Ytabfdhecbbemjaa.Fx
open Go Go.RowKit Go.Shelf

theorem conv_one (x : Nat) (t : TypeId) (W : World) :
    (convert 52 9 (.slice (some ⟨W.heap.size, 0, none⟩) 1 1)).run Try.prog (W.alloc (.cells #[.int .u8 (x : Int)] t)) = .ok (.string (bstr [x])) (W.alloc (.cells #[.int .u8 (x : Int)] t)) := by
  have h : ∀ j u, ([x].map encB)[j]? = some u → (W.alloc (.cells #[.int .u8 (x : Int)] t)).cell? ((⟨W.heap.size, 0, none⟩ : Addr).add j) = some u := cell_one_new W (.int .u8 (x : Int)) t
  exact conv_own [x] W.heap.size 1 _ h
theorem hex_any (n : Nat) (w : World) (hn : n < 16) :
    Calls Try.prog 42 #[.int .i64 (n : Int)] w fun e w' => e = .returned (.string (bstr [num n])) ∧ _root_.Go.RowKit.Below w.heap.size w w' := by
  by_cases h : n < 10
  · have t1 : (n : Int) < 10 := by omega
    have hc := conv_one (48 + n) 5
    have hx : num n = 48 + n := if_pos h
    have e1 : ((48 + n : Nat) : Int) = 48 + (n : Int) := by omega
    rw [hx]
    rw [e1] at hc
    generalize bstr [48 + n] = r at *
    go_enter Try.func42, Try.ntmps42
    go_wp2_with (rw [hc])
    go_ret
    exact ⟨rfl, (_root_.Go.RowKit.Below.refl _ _).alloc (Nat.le_refl _) _⟩
  · have t1 : ¬ (n : Int) < 10 := by omega
    have hc := conv_one (87 + n) 5
    have hx : num n = 87 + n := if_neg h
    have e1 : ((87 + n : Nat) : Int) = 97 + (n : Int) - 10 := by omega
    rw [hx]
    rw [e1] at hc
    generalize bstr [87 + n] = r at *
    go_enter Try.func42, Try.ntmps42
    go_wp2_with (rw [hc])
    go_ret
    exact ⟨rfl, (_root_.Go.RowKit.Below.refl _ _).alloc (Nat.le_refl _) _⟩

theorem bstr_add (a b : List Nat) : bstr a ++ bstr b = bstr (a ++ b) := by
  unfold bstr
  rw [ByteArray.mk_append_mk]
  simp
theorem add_str (a b : List Nat) (h : a.length + b.length ≤ 1000) (w : World) : (Op.stringOp .add (bstr a) (bstr b)).run Try.prog w = .ok (.string (bstr (a ++ b))) w := by
  rw [run_string_add_sum w _ _ (by rw [bstr_size, bstr_size]; omega), bstr_add]
theorem decF_more : ∀ (f n : Nat), n < 10 ^ f → 1 ≤ f → ∀ g, f ≤ g → decF g n = decF f n
  | 0, _, _, h, _, _ => by omega
  | f + 1, n, h, _, 0, hg => by omega
  | f + 1, n, h, _, g + 1, hg => by
    by_cases h10 : n < 10
    · simp only [decF, if_pos h10]
    · simp only [decF, if_neg h10]
      have hf : 1 ≤ f := by
        refine Nat.one_le_iff_ne_zero.2 fun e => ?_
        subst e
        simp at h
        omega
      rw [decF_more f (n / 10) (by rw [Nat.pow_succ] at h; omega) hf g (by omega)]
theorem decs_step (n : Nat) (h : 9 < n) (hn : n ≤ 70368744177664) : decs n = decs (n / 10) ++ [48 + n % 10] := by
  have h1 : decs n = decF 19 (n / 10) ++ [48 + n % 10] := by
    show decF (19 + 1) n = _
    rw [decF, if_neg (by omega)]
  rw [h1]
  congr 1
  exact (decF_more 19 (n / 10) (by omega) (by omega) 20 (by omega)).symm
theorem decs_small (n : Nat) (h : n ≤ 9) : decs n = [48 + n] := by
  show decF (19 + 1) n = _
  rw [decF, if_pos (by omega)]
theorem dF_len : ∀ f n, (decF f n).length ≤ f
  | 0, _ => Nat.le_refl _
  | f + 1, n => by
    simp only [decF]
    split
    · simp
    · have := dF_len f (n / 10)
      rw [List.length_append]
      simp
      omega
theorem dS_len (n : Nat) : (decs n).length ≤ 20 := dF_len 20 n
/-- what the loop holds: the digits yet to come and those done -/
def DI (n : Nat) (m : Nat) (l : List Nat) : Prop := m ≤ 70368744177664 ∧ decs n = (if 9 < m then decs (m / 10) else []) ++ l
theorem di_len {n m : Nat} {l : List Nat} (h : DI n m l) : l.length ≤ 20 := by
  have h1 := dS_len n
  rw [h.2, List.length_append] at h1
  omega
theorem di_start (n : Nat) (hn : n ≤ 70368744177664) : DI n n [48 + n % 10] := by
  refine ⟨hn, ?_⟩
  by_cases h : 9 < n
  · rw [if_pos h]; exact decs_step n h hn
  · rw [if_neg h, decs_small n (by omega), Nat.mod_eq_of_lt (by omega)]; rfl
theorem di_next {n m : Nat} {l : List Nat} (h : DI n m l) (h9 : 9 < m) : DI n (m / 10) ([48 + m / 10 % 10] ++ l) := by
  obtain ⟨h1, h4⟩ := h
  rw [if_pos h9] at h4
  refine ⟨by omega, ?_⟩
  by_cases h10 : 9 < m / 10
  · rw [if_pos h10, h4, decs_step _ h10 (by omega), List.append_assoc]
  · rw [if_neg h10, h4, decs_small (m / 10) (Nat.le_of_not_lt h10), Nat.mod_eq_of_lt (by omega : m / 10 < 10)]; rfl
theorem di_end {n m : Nat} {l : List Nat} (h : DI n m l) (h9 : ¬ 9 < m) : l = decs n := by
  have := h.2
  rw [if_neg h9] at this
  exact this.symm
end Go.Proofs.Ytabfdhecbbemjaa.Fx
