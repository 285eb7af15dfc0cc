/- Plain arithmetic: no program in sight. Division of two words by one (Knuth's), signs and rounding. -/

set_option linter.unusedVariables false
namespace Go.Proofs.Ytgkglkoipocgaaa.Fm

/-! ### one step of the division: u two half words, y a normalized word y1 2^32 + y0 -/
theorem kn_le {u u1 y1 y0 q r : Nat} (hu : u = q * y1 + r) (h : q * y0 ≤ 4294967296 * r + u1) : q * (y1 * 4294967296 + y0) ≤ u * 4294967296 + u1 := by
  have e1 : q * (y1 * 4294967296 + y0) = q * y1 * 4294967296 + q * y0 := by rw [Nat.mul_add, Nat.mul_assoc]
  rw [e1, hu]
  omega
theorem kn_gt {u u1 y1 y0 q r : Nat} (hu : u = q * y1 + r) (h : 4294967296 * r + u1 < q * y0) : u * 4294967296 + u1 < q * (y1 * 4294967296 + y0) := by
  have e1 : q * (y1 * 4294967296 + y0) = q * y1 * 4294967296 + q * y0 := by rw [Nat.mul_add, Nat.mul_assoc]
  rw [e1, hu]
  omega
theorem y_split (y : Nat) : y / 4294967296 * 4294967296 + y % 4294967296 = y := by omega
/-- the quotient that is looked for -/
def Q (u u1 y : Nat) : Nat := (u * 4294967296 + u1) / y
def R (u u1 y : Nat) : Nat := (u * 4294967296 + u1) % y
theorem Q_le {u u1 y q r : Nat} (hy : 0 < y) (hu : u = q * (y / 4294967296) + r) (h : q * (y % 4294967296) ≤ 4294967296 * r + u1) : q ≤ Q u u1 y := by
  have := kn_le hu h
  rw [y_split] at this
  exact (Nat.le_div_iff_mul_le hy).2 this
theorem Q_lt {u u1 y q r : Nat} (hy : 0 < y) (hu : u = q * (y / 4294967296) + r) (h : 4294967296 * r + u1 < q * (y % 4294967296)) : Q u u1 y < q := by
  have := kn_gt hu h
  rw [y_split] at this
  exact (Nat.div_lt_iff_lt_mul hy).2 this
theorem Q_small {u u1 y : Nat} (hu : u < y) (h1 : u1 < 4294967296) : Q u u1 y < 4294967296 := by
  refine (Nat.div_lt_iff_lt_mul (by omega)).2 ?_
  omega
theorem R_lt {u u1 y : Nat} (hy : 0 < y) : R u u1 y < y := Nat.mod_lt _ hy
theorem QR (u u1 y : Nat) : u * 4294967296 + u1 = Q u u1 y * y + R u u1 y := by
  have := Nat.div_add_mod (u * 4294967296 + u1) y
  unfold Q R
  rw [Nat.mul_comm y] at this
  exact this.symm
/-- the first guess -/
theorem q_start {u u1 y : Nat} (hy : 9223372036854775808 ≤ y) (hu : u < y) : Q u u1 y ≤ u / (y / 4294967296) ∨ 4294967296 ≤ u1 := by
  by_cases h1 : 4294967296 ≤ u1
  · exact .inr h1
  · left
    refine Nat.le_of_lt_succ ((Nat.div_lt_iff_lt_mul (by omega)).2 ?_)
    have hp : 0 < y / 4294967296 := by omega
    have a := Nat.lt_mul_div_succ u hp
    have e : (u / (y / 4294967296)).succ * y = (y / 4294967296) * (u / (y / 4294967296) + 1) * 4294967296 + (u / (y / 4294967296) + 1) * (y % 4294967296) := by
      have := y_split y
      rw [Nat.succ_eq_add_one]
      generalize u / (y / 4294967296) + 1 = c
      rw [Nat.mul_comm (y / 4294967296) c, Nat.mul_assoc, ← Nat.mul_add, this]
    rw [e]
    generalize (y / 4294967296) * (u / (y / 4294967296) + 1) = k at *
    omega
theorem q_bound {u y : Nat} (hy : 9223372036854775808 ≤ y) (hu : u < y) : u / (y / 4294967296) ≤ 4294967297 := by
  refine Nat.le_of_lt_succ ((Nat.div_lt_iff_lt_mul (by omega)).2 ?_)
  omega
/-- what a guess that is too great, by the test, becomes -/
theorem q_over {u u1 y q r : Nat} (hy : 0 < y) (hu : u < y) (h1 : u1 < 4294967296) (he : u = q * (y / 4294967296) + r) (ht : 4294967296 ≤ q ∨ 4294967296 * r + u1 < q * (y % 4294967296)) : Q u u1 y ≤ q - 1 ∧ 1 ≤ q := by
  have hs := Q_small hu h1
  rcases ht with h | h
  · omega
  · have := Q_lt hy he h
    omega
theorem q_down {u y1 q r : Nat} (h1 : 1 ≤ q) (he : u = q * y1 + r) : u = (q - 1) * y1 + (r + y1) := by
  obtain ⟨k, rfl⟩ : ∃ k, q = k + 1 := ⟨q - 1, by omega⟩
  rw [he, Nat.add_mul]
  simp
  omega
theorem q_stop {u u1 y q r : Nat} (hy : 0 < y) (he : u = q * (y / 4294967296) + r) (hq : q ≤ 4294967296) (hr : 4294967296 ≤ r) (hQ : Q u u1 y ≤ q) : q = Q u u1 y := by
  refine Nat.le_antisymm (Q_le hy he ?_) hQ
  have h0 : y % 4294967296 ≤ 4294967295 := by omega
  have a := Nat.mul_le_mul hq h0
  omega
theorem q_done {u u1 y q r : Nat} (hy : 0 < y) (he : u = q * (y / 4294967296) + r) (h : q * (y % 4294967296) ≤ 4294967296 * r + u1) (hQ : Q u u1 y ≤ q) : q = Q u u1 y :=
  Nat.le_antisymm (Q_le hy he h) hQ

theorem rest_wrap0 (q y c : Nat) (r : Nat) (h : c = q * y + r) (hr : r < 18446744073709551616) : ((c : Int) % 18446744073709551616 - ((q * y : Nat) : Int) % 18446744073709551616) % 18446744073709551616 = (r : Int) := by
  generalize q * y = k at *
  subst h
  rw [← Int.sub_emod, Int.natCast_add, Int.add_comm, Int.add_sub_cancel]
  exact Int.emod_eq_of_lt (by omega) (by omega)
/-! ### the whole: N = hi 2^64 + lo by y, through y 2^s -/
theorem div_scaled {N y s a b : Nat} (hy : 0 < y) (h : N * 2 ^ s = a * (y * 2 ^ s) + b) (hb : b < y * 2 ^ s) : a = N / y ∧ b = (N % y) * 2 ^ s := by
  have hp : 0 < 2 ^ s := Nat.two_pow_pos s
  have e1 : N * 2 ^ s / (y * 2 ^ s) = N / y := Nat.mul_div_mul_right N y hp
  have e2 : N * 2 ^ s % (y * 2 ^ s) = (N % y) * 2 ^ s := Nat.mul_mod_mul_right (2 ^ s) N y
  have hys : 0 < y * 2 ^ s := Nat.mul_pos hy hp
  have e3 : N * 2 ^ s / (y * 2 ^ s) = a := by
    rw [h, Nat.add_comm, Nat.mul_comm a, Nat.add_mul_div_left _ _ hys, Nat.div_eq_of_lt hb]; omega
  have e4 : N * 2 ^ s % (y * 2 ^ s) = b := by
    rw [h, Nat.add_comm, Nat.mul_comm a, Nat.add_mul_mod_self_left, Nat.mod_eq_of_lt hb]
  exact ⟨by omega, by omega⟩
/-- the three parts of N 2^s -/
theorem parts {hi lo s : Nat} (hs : s ≤ 64) :
    (hi * 18446744073709551616 + lo) * 2 ^ s = (hi * 2 ^ s + lo / 2 ^ (64 - s)) * 18446744073709551616 + lo * 2 ^ s % 18446744073709551616 := by
  have hp : (18446744073709551616 : Nat) = 2 ^ (64 - s) * 2 ^ s := by rw [← Nat.pow_add]; rw [show 64 - s + s = 64 from by omega]
  have e1 : lo * 2 ^ s / 18446744073709551616 = lo / 2 ^ (64 - s) := by rw [hp]; exact Nat.mul_div_mul_right _ _ (Nat.two_pow_pos s)
  have e2 := Nat.div_add_mod (lo * 2 ^ s) 18446744073709551616
  rw [e1] at e2
  rw [Nat.add_mul, Nat.add_mul, Nat.mul_right_comm]
  omega
theorem join2 {U a c r d v1 v0 : Nat} (q1 : U + v1 = a + r) (q2 : r * 4294967296 + v0 = c + d) : U * 4294967296 + (4294967296 * v1 + v0) = a * 4294967296 + c + d := by
  rw [Nat.mul_comm U, Nat.mul_comm a, ← Nat.add_assoc, ← Nat.mul_add, q1, Nat.mul_add, Nat.add_assoc, Nat.add_assoc, Nat.mul_comm _ r, q2]
theorem join {u v a c r d v1 v0 : Nat} (q1 : u * 4294967296 + v1 = a + r) (q2 : r * 4294967296 + v0 = c + d) (hv : 4294967296 * v1 + v0 = v) : u * 18446744073709551616 + v = a * 4294967296 + c + d := by
  have e : u * 18446744073709551616 = u * 4294967296 * 4294967296 := by rw [Nat.mul_assoc]
  rw [e, ← hv]
  exact join2 q1 q2
theorem div128 {hi lo y s : Nat} (hs : s ≤ 64) (hlo : lo < 18446744073709551616) (hhi : hi < y) (hn : 9223372036854775808 ≤ y * 2 ^ s) (hn2 : y * 2 ^ s < 18446744073709551616) :
    let Y := y * 2 ^ s
    let u := hi * 2 ^ s + lo / 2 ^ (64 - s)
    let v := lo * 2 ^ s % 18446744073709551616
    u < Y ∧ (Q u (v / 4294967296) Y) * 4294967296 + Q (R u (v / 4294967296) Y) (v % 4294967296) Y = (hi * 18446744073709551616 + lo) / y ∧
      R (R u (v / 4294967296) Y) (v % 4294967296) Y = ((hi * 18446744073709551616 + lo) % y) * 2 ^ s := by
  intro Y u v
  have hY : 0 < Y := by omega
  have hy : 0 < y := by omega
  have hu : u < Y := by
    have a : lo / 2 ^ (64 - s) < 2 ^ s := by
      refine (Nat.div_lt_iff_lt_mul (Nat.two_pow_pos _)).2 ?_
      rw [← Nat.pow_add, show s + (64 - s) = 64 from by omega]
      exact hlo
    have b : (hi + 1) * 2 ^ s ≤ y * 2 ^ s := Nat.mul_le_mul_right _ hhi
    rw [Nat.add_mul] at b
    show hi * 2 ^ s + lo / 2 ^ (64 - s) < y * 2 ^ s
    omega
  have p := parts (hi := hi) (lo := lo) hs
  have q1 := QR u (v / 4294967296) Y
  have q2 := QR (R u (v / 4294967296) Y) (v % 4294967296) Y
  have r2 := R_lt (u := R u (v / 4294967296) Y) (u1 := v % 4294967296) hY
  refine ⟨hu, ?_⟩
  refine div_scaled hy ?_ r2
  show (hi * 18446744073709551616 + lo) * 2 ^ s = (Q u (v / 4294967296) Y * 4294967296 + Q (R u (v / 4294967296) Y) (v % 4294967296) Y) * Y + _
  rw [p]
  show u * 18446744073709551616 + v = _
  generalize R u (v / 4294967296) Y = r at *
  generalize Q r (v % 4294967296) Y = qq at *
  generalize Q u (v / 4294967296) Y = q at *
  have e : (q * 4294967296 + qq) * Y = q * Y * 4294967296 + qq * Y := by rw [Nat.add_mul, Nat.mul_right_comm]
  rw [e]
  have hv := Nat.div_add_mod v 4294967296
  clear_value u v Y
  exact join q1 q2 hv
end Go.Proofs.Ytgkglkoipocgaaa.Fm
