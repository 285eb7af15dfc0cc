/- Plain arithmetic: what the steps of package fixed come to. No program in sight. -/
set_option linter.unusedVariables false
set_option linter.unusedSimpArgs false
namespace Go.Proofs.Ytabfdhecbbemjaa.Fm

/-- may a raw number be? -/
def mayB (a : Int) : Bool := decide (-4611686018427387904 ≤ a ∧ a ≤ 4611686018427387904)
theorem may_iff (a : Int) : mayB a = true ↔ (-4611686018427387904 ≤ a ∧ a ≤ 4611686018427387904) := by unfold mayB; exact decide_eq_true_iff
theorem may_not (a : Int) : mayB a = false ↔ (a < -4611686018427387904 ∨ 4611686018427387904 < a) := by
  unfold mayB
  rw [decide_eq_false_iff_not]
  omega
/-- the value and the error of a checked step that comes to n -/
def ovV (a b n : Int) : Int := if mayB a && mayB b && mayB n then n else 0
def ovE (a b n : Int) : Int := if mayB a && mayB b && mayB n then 0 else 10
/-- a quotient rounded down -/
def dn (x c : Int) : Int := if 0 < c then x / c else (-x) / (-c)

theorem neg_div {N C : Nat} (hC : 0 < C) : (-(N : Int)) / (C : Int) = if N % C = 0 then -((N / C : Nat) : Int) else -((N / C + 1 : Nat) : Int) := by
  have h := Nat.div_add_mod N C
  have hr := Nat.mod_lt N hC
  generalize N / C = q at *
  generalize N % C = r at *
  have e : (C : Int) * (q : Int) + (r : Int) = (N : Int) := by rw [← h]; simp
  split
  · rename_i h0
    subst h0
    refine ((Int.ediv_emod_unique (r := 0) (by omega)).2 ⟨?_, by omega, by omega⟩).1
    rw [Int.mul_neg]
    omega
  · rename_i h0
    refine ((Int.ediv_emod_unique (r := (C : Int) - (r : Int)) (by omega)).2 ⟨?_, by omega, by omega⟩).1
    rw [Int.mul_neg, Int.natCast_add, Int.mul_add]
    omega

theorem dn_sign (a b c : Int) (nb : Bool) (hc : c ≠ 0) (hb : (!(!decide (a < 0) == decide (b < 0)) == decide (c < 0)) = nb) :
    dn (a * b) c = if nb = true then (-((a.natAbs * b.natAbs : Nat) : Int)) / ((c.natAbs : Nat) : Int) else ((a.natAbs * b.natAbs : Nat) : Int) / ((c.natAbs : Nat) : Int) := by
  unfold dn
  have ea : a < 0 → a = -(a.natAbs : Int) := by omega
  have ea' : ¬ a < 0 → a = (a.natAbs : Int) := by omega
  have eb : b < 0 → b = -(b.natAbs : Int) := by omega
  have eb' : ¬ b < 0 → b = (b.natAbs : Int) := by omega
  have ec : c < 0 → c = -(c.natAbs : Int) := by omega
  have ec' : ¬ c < 0 → c = (c.natAbs : Int) := by omega
  rw [Int.natCast_mul]
  by_cases h1 : a < 0 <;> by_cases h2 : b < 0 <;> by_cases h3 : c < 0 <;> simp [h1, h2, h3] at hb <;> subst hb
  · rw [if_neg (by omega)]; simp; rw [ea h1, eb h2, ec h3]; simp [Int.neg_mul, Int.mul_neg]
  · rw [if_pos (by omega)]; simp; rw [ea h1, eb h2, ec' h3]; simp [Int.neg_mul, Int.mul_neg]
  · rw [if_neg (by omega)]; simp; rw [ea h1, eb' h2, ec h3]; simp [Int.neg_mul, Int.mul_neg]
  · rw [if_pos (by omega)]; simp; rw [ea h1, eb' h2, ec' h3]; simp [Int.neg_mul, Int.mul_neg]
  · rw [if_neg (by omega)]; simp; rw [ea' h1, eb h2, ec h3]; simp [Int.neg_mul, Int.mul_neg]
  · rw [if_pos (by omega)]; simp; rw [ea' h1, eb h2, ec' h3]; simp [Int.neg_mul, Int.mul_neg]
  · rw [if_neg (by omega)]; simp; rw [ea' h1, eb' h2, ec h3]; simp [Int.neg_mul, Int.mul_neg]
  · rw [if_pos (by omega)]; simp; rw [ea' h1, eb' h2, ec' h3]; simp [Int.neg_mul, Int.mul_neg]
theorem dn_cases (a b c : Int) (nb : Bool) (hc : c ≠ 0) (hb : (!(!decide (a < 0) == decide (b < 0)) == decide (c < 0)) = nb) :
    dn (a * b) c = if nb = true then (if a.natAbs * b.natAbs % c.natAbs = 0 then -((a.natAbs * b.natAbs / c.natAbs : Nat) : Int) else -((a.natAbs * b.natAbs / c.natAbs + 1 : Nat) : Int)) else ((a.natAbs * b.natAbs / c.natAbs : Nat) : Int) := by
  rw [dn_sign a b c nb hc hb]
  have h0 : 0 < c.natAbs := by omega
  rw [neg_div h0]
  rw [Int.natCast_ediv]

/-- a product's two words put together -/
theorem words (n : Nat) : n / 18446744073709551616 * 18446744073709551616 + n % 18446744073709551616 = n := by
  rw [Nat.mul_comm]; exact Nat.div_add_mod n _
theorem high_big {n C : Nat} (hC : 0 < C) (h : C ≤ n / 18446744073709551616) : 18446744073709551616 ≤ n / C := by
  refine (Nat.le_div_iff_mul_le hC).2 ?_
  rw [Nat.mul_comm]
  exact (Nat.le_div_iff_mul_le (by decide)).1 h
theorem high_small {n C : Nat} (hC : 0 < C) (h : n / 18446744073709551616 < C) : n / C < 18446744073709551616 := by
  refine (Nat.div_lt_iff_lt_mul hC).2 ?_
  rw [Nat.mul_comm]
  exact (Nat.div_lt_iff_lt_mul (by decide)).1 h
end Go.Proofs.Ytabfdhecbbemjaa.Fm
