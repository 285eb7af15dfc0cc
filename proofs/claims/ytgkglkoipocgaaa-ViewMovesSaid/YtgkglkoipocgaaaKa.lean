/- Clipping, in plain words: distances, crossings, a cut, what is left. No program in sight. -/

set_option linter.unusedVariables false
set_option linter.unusedSimpArgs false
namespace Go.Proofs.Ytgkglkoipocgaaa.Fx

/-- a number of a vertex -/
def nv (v : List Int) (i : Nat) : Int := v.getD i 0
/-- the distance of a vertex to a plane -/
def distK : Nat → List Int → Int
  | 0, v => nv v 3 - 4096
  | 1, v => nv v 2
  | 2, v => nv v 3 - nv v 2
  | 3, v => 2 * nv v 3 + nv v 0
  | 4, v => 2 * nv v 3 - nv v 0
  | 5, v => 2 * nv v 3 + nv v 1
  | _, v => 2 * nv v 3 - nv v 1
/-- a number of the crossing: from x towards y, by p of p less q -/
def atK (p q x y : Int) : Int := x + ((y - x) * p) / (p - q)
/-- the crossing; a inside, b not -/
def crossK (k : Nat) (a b : List Int) : List Int := [atK (distK k a) (distK k b) (nv a 0) (nv b 0), atK (distK k a) (distK k b) (nv a 1) (nv b 1), atK (distK k a) (distK k b) (nv a 2) (nv b 2), atK (distK k a) (distK k b) (nv a 3) (nv b 3)]
/-- what an edge leaves -/
def edgeK (k : Nat) (a b : List Int) : List (List Int) :=
  if 0 ≤ distK k a then (if 0 ≤ distK k b then [a] else [a, crossK k a b]) else (if 0 ≤ distK k b then [crossK k b a] else [])
/-- the vertex at place i, going round -/
def turnK (l : List (List Int)) (i : Nat) : List Int := l.getD (i % l.length) []
/-- what the first n edges leave -/
def cutN (k : Nat) (l : List (List Int)) (n : Nat) : List (List Int) := (List.range n).flatMap fun i => edgeK k (turnK l i) (turnK l (i + 1))
def cutK (k : Nat) (l : List (List Int)) : List (List Int) := cutN k l l.length
/-- cut by the first n planes -/
def clipN (l : List (List Int)) : Nat → List (List Int)
  | 0 => l
  | n + 1 => cutK n (clipN l n)
theorem cutN_succ (k : Nat) (l : List (List Int)) (n : Nat) : cutN k l (n + 1) = cutN k l n ++ edgeK k (turnK l n) (turnK l (n + 1)) := by
  unfold cutN
  rw [List.range_succ, List.flatMap_append]
  simp
theorem cutN_zero (k : Nat) (l : List (List Int)) : cutN k l 0 = [] := rfl

/-! ### one number of a crossing -/
theorem at_eq (p q x y : Int) (h : 0 ≤ p) (hq : q < 0) : atK p q x y = (x * (0 - q) + y * p) / (p - q) := by
  have e : x * (0 - q) + y * p = (y - x) * p + x * (p - q) := by
    rw [Int.sub_mul, Int.mul_sub, Int.mul_sub]
    omega
  unfold atK
  rw [e, Int.add_mul_ediv_right _ _ (by omega)]
  omega
theorem at_between (p q x y : Int) (h : 0 ≤ p) (hq : q < 0) : min x y ≤ atK p q x y ∧ atK p q x y ≤ max x y := by
  rw [at_eq p q x y h hq]
  have hd : 0 < p - q := by omega
  have hn : 0 ≤ 0 - q := by omega
  constructor
  · rw [Int.le_ediv_iff_mul_le hd]
    have h1 : min x y * (0 - q) ≤ x * (0 - q) := Int.mul_le_mul_of_nonneg_right (Int.min_le_left ..) hn
    have h2 : min x y * p ≤ y * p := Int.mul_le_mul_of_nonneg_right (Int.min_le_right ..) h
    have e : min x y * (p - q) = min x y * (0 - q) + min x y * p := by rw [← Int.mul_add]; congr 1; omega
    omega
  · have h1 : x * (0 - q) ≤ max x y * (0 - q) := Int.mul_le_mul_of_nonneg_right (Int.le_max_left ..) hn
    have h2 : y * p ≤ max x y * p := Int.mul_le_mul_of_nonneg_right (Int.le_max_right ..) h
    have e : max x y * (p - q) = max x y * (0 - q) + max x y * p := by rw [← Int.mul_add]; congr 1; omega
    have h3 : (x * (0 - q) + y * p) / (p - q) < max x y + 1 := by
      rw [Int.ediv_lt_iff_lt_mul hd, Int.add_mul]
      omega
    omega
/-- a crossing's number, times the denominator -/
theorem at_mul (p q x y : Int) (h : 0 ≤ p) (hq : q < 0) : ∃ r, 0 ≤ r ∧ r < p - q ∧ (p - q) * atK p q x y + r = x * (0 - q) + y * p := by
  rw [at_eq p q x y h hq]
  exact ⟨(x * (0 - q) + y * p) % (p - q), Int.emod_nonneg _ (by omega), Int.emod_lt_of_pos _ (by omega), Int.mul_ediv_add_emod _ _⟩
