/- Bytes as one number: what turned bits within 32 do to a sum. -/
import Derived.Test.YtgkcbadfjhicnabProg
import Derived.Test.YtgkcbadfjhicnabCv
set_option linter.unusedVariables false
set_option linter.unusedSimpArgs false
namespace Go.Proofs.Ytgkcbadfjhicnab.Fx
open Go Go.RowKit
/-- bytes as a number, the lowest one first -/
def num : List Nat → Nat
  | [] => 0
  | c :: l => c + 256 * num l
theorem add_xor (a b i : Nat) (hb : b < 2 ^ i) : b + 2 ^ i * a = b ^^^ 2 ^ i * a := by
  apply Nat.eq_of_testBit_eq
  intro j
  rw [Nat.add_comm, Nat.testBit_two_pow_mul_add a hb, Nat.testBit_xor, Nat.testBit_two_pow_mul]
  by_cases h : j < i
  · have : ¬ i ≤ j := by omega
    simp [h, this]
  · have h2 : b.testBit j = false := Nat.testBit_lt_two_pow (Nat.lt_of_lt_of_le hb (Nat.pow_le_pow_right (by omega) (by omega)))
    have : i ≤ j := by omega
    simp [h, h2, this]
theorem mul_xor (i a b : Nat) : 2 ^ i * (a ^^^ b) = 2 ^ i * a ^^^ 2 ^ i * b := by
  apply Nat.eq_of_testBit_eq
  intro j
  rw [Nat.testBit_xor, Nat.testBit_two_pow_mul, Nat.testBit_two_pow_mul, Nat.testBit_two_pow_mul, Nat.testBit_xor]
  by_cases h : i ≤ j <;> simp [h]
theorem it_shift (k m : Nat) : it k (2 ^ k * m) = m := by
  induction k with
  | zero => simp [it]
  | succ k ih =>
    simp only [it]
    rw [show 2 ^ (k + 1) * m = 2 * (2 ^ k * m) by rw [Nat.pow_succ, Nat.mul_comm (2 ^ k) 2, Nat.mul_assoc], sh_double, ih]
theorem By.tail {c : Nat} {l : List Nat} (h : By (c :: l)) : By l := fun d hd => h d (List.mem_cons_of_mem _ hd)
theorem By.head {c : Nat} {l : List Nat} (h : By (c :: l)) : c < 256 := h c (List.mem_cons_self ..)
theorem num_cons {c : Nat} {l : List Nat} (h : c < 256) : num (c :: l) = c ^^^ 2 ^ 8 * num l := add_xor (num l) c 8 h
theorem reg_num {l : List Nat} (h : By l) (x : Nat) : reg l x = it (8 * l.length) (x ^^^ num l) := by
  induction l generalizing x with
  | nil => simp [reg, num, it]
  | cons c l ih =>
    rw [reg_cons, ih h.tail, num_cons h.head, List.length_cons, show 8 * (l.length + 1) = 8 + 8 * l.length by omega, it_add, ← Nat.xor_assoc, it_xor 8 (x ^^^ c) (2 ^ 8 * num l), it_shift]
theorem num_append (l m : List Nat) : num (l ++ m) = num l + 2 ^ (8 * l.length) * num m := by
  induction l with
  | nil => simp [num]
  | cons c l ih =>
    rw [List.cons_append, num, ih, num, List.length_cons, show 8 * (l.length + 1) = 8 * l.length + 8 by omega, Nat.pow_add, Nat.mul_add, ← Nat.add_assoc]
    congr 1
    rw [← Nat.mul_assoc, Nat.mul_comm (2 ^ (8 * l.length)) (2 ^ 8)]
theorem num_lt {l : List Nat} (h : By l) : num l < 2 ^ (8 * l.length) := by
  induction l with
  | nil => simp [num]
  | cons c l ih =>
    have a := ih h.tail
    have b := h.head
    rw [num, List.length_cons, show 8 * (l.length + 1) = 8 + 8 * l.length by omega, Nat.pow_add]
    generalize 2 ^ (8 * l.length) = P at *
    omega
theorem num_take {l : List Nat} (h : By l) (n : Nat) (hn : n ≤ l.length) : num (l.take n) = num l % 2 ^ (8 * n) := by
  have e := num_append (l.take n) (l.drop n)
  rw [List.take_append_drop, List.length_take, Nat.min_eq_left hn] at e
  rw [e, Nat.add_mul_mod_self_left]
  have hlt := num_lt (h.take n)
  rw [List.length_take, Nat.min_eq_left hn] at hlt
  exact (Nat.mod_eq_of_lt hlt).symm
theorem num_set {l : List Nat} (h : By l) (j b : Nat) (hj : j < l.length) (hb : b < 256) : num (l.set j (l.getD j 0 ^^^ b)) = num l ^^^ 2 ^ (8 * j) * b := by
  induction l generalizing j with
  | nil => simp at hj
  | cons c l ih =>
    have hc := h.head
    cases j with
    | zero =>
      have hx : c ^^^ b < 256 := Nat.xor_lt_two_pow (n := 8) hc hb
      show num ((c ^^^ b) :: l) = _
      rw [num_cons hx, num_cons hc, Nat.mul_zero, Nat.pow_zero, Nat.one_mul, Nat.xor_assoc, Nat.xor_comm b, ← Nat.xor_assoc]
    | succ j =>
      show num (c :: l.set j (l.getD j 0 ^^^ b)) = _
      rw [num_cons hc, num_cons hc, ih h.tail j (by simpa using hj), mul_xor, Nat.xor_assoc, ← Nat.mul_assoc, ← Nat.pow_add, show 8 + 8 * j = 8 * (j + 1) by omega]
theorem num_inj : ∀ {l m : List Nat}, By l → By m → l.length = m.length → num l = num m → l = m
  | [], [], _, _, _, _ => rfl
  | c :: l, d :: m, h1, h2, hl, hn => by
    have a := h1.head
    have b := h2.head
    simp only [num] at hn
    have e1 : c = d := by omega
    have e2 : num l = num m := by omega
    rw [e1, num_inj h1.tail h2.tail (by simpa using hl) e2]
  | [], _ :: _, _, _, h, _ => by simp at h
  | _ :: _, [], _, _, h, _ => by simp at h
theorem it_inj {k a b : Nat} (ha : a < 4294967296) (hb : b < 4294967296) (h : it k a = it k b) : a = b := by
  apply xor_eq_zero
  apply it_eq_zero k (xor_lt ha hb)
  rw [it_xor, h, Nat.xor_self]
theorem ones_lt : ones < 4294967296 := by rw [ones_eq]; omega
theorem more_ones (l : List Nat) : more 0 l = reg l ones ^^^ ones := by
  unfold more
  rw [show nt 0 = ones by decide]
  rfl
theorem num4 (c0 c1 c2 c3 : Nat) : num [c0, c1, c2, c3] = c0 + 256 * c1 + 65536 * c2 + 16777216 * c3 := by
  simp only [num]
  omega
/-- bytes are sealed ones, if their register is what ones come to -/
theorem sealed_reg {t : List Nat} {c0 c1 c2 c3 : Nat} (h : By (t ++ [c0, c1, c2, c3])) : [c0, c1, c2, c3] = le4 (more 0 t) ↔ reg (t ++ [c0, c1, c2, c3]) ones = it 32 ones := by
  have ht : By t := fun c hc => h c (List.mem_append_left _ hc)
  have h4 : By [c0, c1, c2, c3] := fun c hc => h c (List.mem_append_right _ hc)
  have k0 := h4 c0 (by simp)
  have k1 := h4 c1 (by simp)
  have k2 := h4 c2 (by simp)
  have k3 := h4 c3 (by simp)
  have hr := reg_lt ht ones_lt
  rw [← le4_val k0 k1 k2 k3 (more_lt ht (by omega)), ← num4, reg_append, reg_num h4, more_ones]
  have hn : num [c0, c1, c2, c3] < 4294967296 := by have := num_lt h4; simpa using this
  generalize num [c0, c1, c2, c3] = z at *
  generalize reg t ones = r at *
  constructor
  · intro e
    rw [e, xor_twice]
    rfl
  · intro e
    have := it_inj (xor_lt hr hn) ones_lt e
    rw [← this, xor_twice]
theorem mod_min (n a b : Nat) : n % 2 ^ a % 2 ^ b = n % 2 ^ (min a b) := by
  by_cases h : b ≤ a
  · rw [Nat.min_eq_right h, Nat.mod_mod_of_dvd _ (Nat.pow_dvd_pow 2 h)]
  · rw [Nat.min_eq_left (by omega), Nat.mod_eq_of_lt (Nat.lt_of_lt_of_le (Nat.mod_lt _ (Nat.pow_pos (by omega))) (Nat.pow_le_pow_right (by omega) (by omega)))]
/-- the bits that are turned, of the first i, up to bit T -/
def cut (mask frm i T : Nat) : Nat := mask % 2 ^ (min i (T - frm))
theorem cut_zero (mask frm T : Nat) : cut mask frm 0 T = 0 := by simp [cut, Nat.mod_one]
theorem cut_lt {mask : Nat} (frm i T : Nat) (h : mask < 4294967296) : cut mask frm i T < 4294967296 := Nat.lt_of_le_of_lt (Nat.mod_le _ _) h
theorem cut_past {mask frm i T : Nat} (h : T ≤ frm + i) : cut mask frm (i + 1) T = cut mask frm i T := by
  unfold cut
  rw [show min (i + 1) (T - frm) = min i (T - frm) by omega]
theorem cut_in {mask frm i T : Nat} (h : frm + i < T) : cut mask frm (i + 1) T = cut mask frm i T + (if mask / 2 ^ i % 2 = 1 then 2 ^ i else 0) := by
  unfold cut
  rw [show min (i + 1) (T - frm) = i + 1 by omega, show min i (T - frm) = i by omega, mod_bit_add]
theorem cut_off {mask frm i T : Nat} (h : ¬ mask / 2 ^ i % 2 = 1) : cut mask frm (i + 1) T = cut mask frm i T := by
  by_cases hT : frm + i < T
  · rw [cut_in hT, if_neg h, Nat.add_zero]
  · exact cut_past (by omega)
theorem cut_bit {mask frm i T : Nat} (h : frm + i < T) (hb : mask / 2 ^ i % 2 = 1) : cut mask frm (i + 1) T ≠ 0 ∧ 2 ^ frm * cut mask frm i T ^^^ 2 ^ (frm + i) = 2 ^ frm * cut mask frm (i + 1) T := by
  rw [cut_in h, if_pos hb]
  have hp : 0 < 2 ^ i := Nat.pow_pos (by omega)
  refine ⟨by omega, ?_⟩
  have hlt : cut mask frm i T < 2 ^ i := by
    unfold cut
    rw [show min i (T - frm) = i by omega]
    exact Nat.mod_lt _ hp
  have := add_xor 1 (cut mask frm i T) i hlt
  rw [Nat.mul_one] at this
  rw [this, mul_xor, Nat.pow_add]
/-- what Open makes of sealed bytes of which bits were turned -/
theorem burst_open {b s' : List Nat} {m frm : Nat} (hb : By b) (hs : By s') (hl : s'.length = b.length + 4) (hf : frm ≤ 8 * (b.length + 4)) (hm : m < 4294967296)
    (hn : num s' = num (b ++ le4 (more 0 b)) ^^^ 2 ^ frm * m) : opened s' = if m = 0 then some b else none := by
  have hbs : By (b ++ le4 (more 0 b)) := hb.append (le4_by _)
  have hle : (b ++ le4 (more 0 b)).length = b.length + 4 := by rw [List.length_append]; rfl
  have r1 : reg (b ++ le4 (more 0 b)) ones = it 32 ones := (sealed_reg (t := b) hbs).1 rfl
  have r2 : reg s' ones = it 32 ones ^^^ it (8 * (b.length + 4) - frm) m := by
    rw [reg_num hs, hl, hn, ← Nat.xor_assoc, it_xor, ← hle, ← reg_num hbs, r1, hle]
    congr 1
    rw [show 8 * (b.length + 4) = frm + (8 * (b.length + 4) - frm) by omega, it_add, it_shift]
    congr 1
    omega
  have hf4 := four_of hl
  rw [opened_long hf4]
  have hs4 := hs
  rw [hf4] at hs4
  have key := sealed_reg hs4
  rw [← hf4, r2] at key
  by_cases h0 : m = 0
  · rw [if_pos h0]
    subst h0
    rw [it_zero, Nat.xor_zero] at key
    rw [Nat.mul_zero, Nat.xor_zero] at hn
    have he := num_inj hs hbs (hl.trans hle.symm) hn
    rw [if_pos (by rw [key.2 rfl]; exact beq_self_eq_true _), he, List.take_left]
  · rw [if_neg h0, if_neg]
    intro h
    have e := key.1 (by simpa using h)
    apply h0
    apply it_eq_zero (8 * (b.length + 4) - frm) hm
    have : it 32 ones ^^^ (it 32 ones ^^^ it (8 * (b.length + 4) - frm) m) = it 32 ones ^^^ it 32 ones := by rw [e]
    rwa [xor_twice, Nat.xor_self] at this
/-- and what becomes of their sum -/
theorem burst_sum {b s' : List Nat} {mask frm : Nat} (hb : By b) (hs : By s') (hl : s'.length = b.length + 4) (hm : mask < 4294967296)
    (hn : num s' = num (b ++ le4 (more 0 b)) ^^^ 2 ^ frm * cut mask frm 32 (8 * (b.length + 4))) : more 0 (s'.take b.length) = more 0 b ↔ cut mask frm 32 (8 * b.length) = 0 := by
  have hbs : By (b ++ le4 (more 0 b)) := hb.append (le4_by _)
  have h1 := num_take hs b.length (by omega)
  have h2 := num_take hbs b.length (by simp)
  rw [List.take_left] at h2
  rw [hn, Nat.xor_mod_two_pow, ← h2] at h1
  have hlt : (s'.take b.length).length = b.length := by rw [List.length_take]; omega
  have e1 : reg (s'.take b.length) ones = reg b ones ^^^ it (8 * b.length) (2 ^ frm * cut mask frm 32 (8 * (b.length + 4)) % 2 ^ (8 * b.length)) := by
    rw [reg_num (hs.take _), reg_num hb, hlt, h1, ← Nat.xor_assoc, it_xor]
  rw [more_ones, more_ones, e1]
  have hc : it (8 * b.length) (2 ^ frm * cut mask frm 32 (8 * (b.length + 4)) % 2 ^ (8 * b.length)) = 0 ↔ cut mask frm 32 (8 * b.length) = 0 := by
    by_cases hf : 8 * b.length ≤ frm
    · have z : 2 ^ frm * cut mask frm 32 (8 * (b.length + 4)) % 2 ^ (8 * b.length) = 0 := Nat.mod_eq_zero_of_dvd (Nat.dvd_mul_right_of_dvd (Nat.pow_dvd_pow 2 hf) _)
      rw [z, it_zero]
      unfold cut
      rw [show min 32 (8 * b.length - frm) = 0 by omega, Nat.pow_zero, Nat.mod_one]
    · have z : 2 ^ frm * cut mask frm 32 (8 * (b.length + 4)) % 2 ^ (8 * b.length) = 2 ^ frm * cut mask frm 32 (8 * b.length) := by
        rw [show 8 * b.length = frm + (8 * b.length - frm) by omega, Nat.pow_add, Nat.mul_mod_mul_left]
        unfold cut
        rw [mod_min]
        congr 3
        omega
      have hlt2 : cut mask frm 32 (8 * b.length) < 4294967296 := cut_lt _ _ _ hm
      rw [z]
      generalize cut mask frm 32 (8 * b.length) = x at *
      rw [show 8 * b.length = frm + (8 * b.length - frm) by omega, it_add, it_shift]
      constructor
      · intro h
        exact it_eq_zero _ hlt2 h
      · intro h
        rw [h, it_zero]
  rw [← hc]
  generalize it (8 * b.length) _ = y
  generalize reg b ones = r
  constructor
  · intro h
    have h3 : (r ^^^ y ^^^ ones) ^^^ ones = (r ^^^ ones) ^^^ ones := by rw [h]
    rw [xor_again, xor_again] at h3
    have h4 : r ^^^ (r ^^^ y) = r ^^^ r := by rw [h3]
    rwa [xor_twice, Nat.xor_self] at h4
  · intro h
    rw [h, Nat.xor_zero]
end Go.Proofs.Ytgkcbadfjhicnab.Fx
