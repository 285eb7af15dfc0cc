/- Vertices that may be: their numbers are small, so nothing overflows; what the laws of layer 9 ask. -/
import Derived.Test.YtgkglkoipocgaaaKc
set_option linter.unusedVariables false
set_option linter.unusedSimpArgs false
namespace Go.Proofs.Ytgkglkoipocgaaa.Fx

/-- a vertex that may be -/
def mayK (v : List Int) : Bool := (List.range 4).all fun i => decide (-8796093022208 < nv v i) && decide (nv v i < 8796093022208)
theorem may_iff (v : List Int) : mayK v = true ↔ ∀ i, i < 4 → -8796093022208 < nv v i ∧ nv v i < 8796093022208 := by
  unfold mayK
  rw [List.all_eq_true]
  constructor
  · intro h i hi
    have := h i (List.mem_range.2 hi)
    simpa using this
  · intro h i hi
    have := h i (List.mem_range.1 hi)
    simpa using this
theorem may_nums {v : List Int} (h : mayK v = true) : (-8796093022208 < nv v 0 ∧ nv v 0 < 8796093022208) ∧ (-8796093022208 < nv v 1 ∧ nv v 1 < 8796093022208) ∧ (-8796093022208 < nv v 2 ∧ nv v 2 < 8796093022208) ∧ (-8796093022208 < nv v 3 ∧ nv v 3 < 8796093022208) := by
  have := (may_iff v).1 h
  exact ⟨this 0 (by omega), this 1 (by omega), this 2 (by omega), this 3 (by omega)⟩
/-- distances of vertices that may be: below 3 times 2^43 -/
theorem dist_small {v : List Int} (h : mayK v = true) (k : Nat) : -26388279066624 < distK k v ∧ distK k v < 26388279066624 := by
  obtain ⟨h0, h1, h2, h3⟩ := may_nums h
  match k with
  | 0 | 1 | 2 | 3 | 4 | 5 => simp only [distK]; omega
  | n + 6 => simp only [distK]; omega
/-- the product at a crossing -/
theorem prod_small {d p : Int} (hd : -17592186044416 < d ∧ d < 17592186044416) (hp : 0 ≤ p ∧ p < 26388279066624) : -464227514732017603087171584 < d * p ∧ d * p < 464227514732017603087171584 := by
  have a : d * p ≤ 17592186044416 * p := Int.mul_le_mul_of_nonneg_right (by omega) hp.1
  have b : -17592186044416 * p ≤ d * p := Int.mul_le_mul_of_nonneg_right (by omega) hp.1
  omega
/-- what is added at a crossing -/
theorem part_small {x y p q : Int} (h : 0 ≤ p) (hq : q < 0) (hx : -8796093022208 < x ∧ x < 8796093022208) (hy : -8796093022208 < y ∧ y < 8796093022208) :
    (-17592186044416 < ((y - x) * p) / (p - q) ∧ ((y - x) * p) / (p - q) < 17592186044416) ∧ -8796093022208 < atK p q x y ∧ atK p q x y < 8796093022208 := by
  have := at_between p q x y h hq
  have e : ((y - x) * p) / (p - q) = atK p q x y - x := by unfold atK; omega
  rw [e]
  omega
theorem cross_may {j : Nat} {a b : List Int} (ha : mayK a = true) (hb : mayK b = true) (h : 0 ≤ distK j a) (hq : distK j b < 0) : mayK (crossK j a b) = true := by
  rw [may_iff]
  intro i hi
  have := cross_between j a b h hq hi
  have := (may_iff a).1 ha i hi
  have := (may_iff b).1 hb i hi
  omega
theorem clip_may {l : List (List Int)} (h : ∀ v ∈ l, mayK v = true) (n : Nat) : ∀ v ∈ clipN l n, mayK v = true :=
  clip_all _ h (fun j a b ha hb pa pb => cross_may pa pb ha hb) n
/-- what is left may be cut again: it is never an error -/
theorem clip_cuts {a b c : List Int} (ha : mayK a = true) (hb : mayK b = true) (hc : mayK c = true) {n : Nat} (hn : n ≤ 7) : (clipN [a, b, c] n).length ≤ 100 ∧ ∀ v ∈ clipN [a, b, c] n, mayK v = true := by
  refine ⟨Nat.le_trans (clip_le _ rfl hn) (by omega), clip_may ?_ n⟩
  intro v hv
  simp at hv
  rcases hv with rfl | rfl | rfl <;> assumption
/-- the numbers of all that is left -/
theorem clip_nums {a b c v : List Int} {n i : Nat} (hi : i < 4) (h : v ∈ clipN [a, b, c] n) : min (nv a i) (min (nv b i) (nv c i)) ≤ nv v i ∧ nv v i ≤ max (nv a i) (max (nv b i) (nv c i)) := by
  refine clip_between hi ?_ n v h
  intro u hu
  simp at hu
  rcases hu with rfl | rfl | rfl <;> omega
theorem clip_seen {l : List (List Int)} {v : List Int} (h : v ∈ clipN l 7) : 4096 ≤ nv v 3 ∧ 0 ≤ nv v 2 ∧ nv v 2 ≤ nv v 3 ∧ (nv v 0 ≤ 2 * nv v 3 + 16 ∧ -2 * nv v 3 - 16 ≤ nv v 0) ∧ (nv v 1 ≤ 2 * nv v 3 + 16 ∧ -2 * nv v 3 - 16 ≤ nv v 1) := by
  have h0 := clip_in l 7 0 (by omega) v h
  have h1 := clip_in l 7 1 (by omega) v h
  have h2 := clip_in l 7 2 (by omega) v h
  have h3 := clip_in l 7 3 (by omega) v h
  have h4 := clip_in l 7 4 (by omega) v h
  have h5 := clip_in l 7 5 (by omega) v h
  have h6 := clip_in l 7 6 (by omega) v h
  simp [slackK, distK] at h0 h1 h2 h3 h4 h5 h6
  refine ⟨?_, ?_, ?_, ⟨?_, ?_⟩, ⟨?_, ?_⟩⟩ <;> omega
/-- a crossing is near its plane -/
theorem cross_near (j : Nat) (a b : List Int) (h : 0 ≤ distK j a) (hq : distK j b < 0) : -2 ≤ distK j (crossK j a b) ∧ distK j (crossK j a b) ≤ 2 := by
  have := cross_own j a b h hq
  have := slack_pos j
  have e : slackK j ≤ 2 := by unfold slackK; split <;> omega
  omega
/-- the crossing, whichever is inside -/
def crossO (k : Nat) (a b : List Int) : Option (List Int) :=
  if 0 ≤ distK k a then (if 0 ≤ distK k b then none else some (crossK k a b)) else (if 0 ≤ distK k b then some (crossK k b a) else none)
theorem crossO_comm (k : Nat) (a b : List Int) : crossO k a b = crossO k b a := by
  unfold crossO
  by_cases ha : 0 ≤ distK k a <;> by_cases hb : 0 ≤ distK k b <;> simp [ha, hb]
theorem crossO_facts {k : Nat} {a b v : List Int} (h : crossO k a b = some v) : v.length = 4 ∧ (-2 ≤ distK k v ∧ distK k v ≤ 2) ∧ ∀ i, i < 4 → min (nv a i) (nv b i) ≤ nv v i ∧ nv v i ≤ max (nv a i) (nv b i) := by
  unfold crossO at h
  by_cases ha : 0 ≤ distK k a <;> by_cases hb : 0 ≤ distK k b
  · rw [if_pos ha, if_pos hb] at h; cases h
  · rw [if_pos ha, if_neg hb] at h
    cases h
    exact ⟨rfl, cross_near k a b ha (by omega), fun i hi => cross_between k a b ha (by omega) hi⟩
  · rw [if_neg ha, if_pos hb] at h
    cases h
    refine ⟨rfl, cross_near k b a hb (by omega), fun i hi => ?_⟩
    have := cross_between k b a hb (by omega) hi
    omega
  · rw [if_neg ha, if_neg hb] at h; cases h
theorem crossO_may {k : Nat} {a b v : List Int} (ha : mayK a = true) (hb : mayK b = true) (h : crossO k a b = some v) : mayK v = true := by
  obtain ⟨_, _, g⟩ := crossO_facts h
  rw [may_iff]
  intro i hi
  have := g i hi
  have := (may_iff a).1 ha i hi
  have := (may_iff b).1 hb i hi
  omega
/-- the triangles of a fan -/
def fanK (l : List (List Int)) : List (List (List Int)) := (List.range (l.length - 2)).map fun i => [l.getD 0 [], l.getD (i + 1) [], l.getD (i + 2) []]
theorem fan_len (l : List (List Int)) : (fanK l).length = l.length - 2 := by simp [fanK]
theorem rot3 (a b c : List Int) : RotK [a, b, c] [b, c, a] := ⟨[a], [b, c], rfl, rfl⟩
/-- all that is left, named from the second vertex on -/
theorem clip_round (a b c : List Int) : RotK (clipN [a, b, c] 7) (clipN [b, c, a] 7) := clip_rot (rot3 a b c) 7
/-- inside all planes: as it was; outside one: nothing -/
theorem clip_as_was {a b c : List Int} (h : ∀ k, k < 7 → 0 ≤ distK k a ∧ 0 ≤ distK k b ∧ 0 ≤ distK k c) : clipN [a, b, c] 7 = [a, b, c] := by
  refine clip_inside ?_ 7 (Nat.le_refl _)
  intro k hk v hv
  simp at hv
  rcases hv with rfl | rfl | rfl
  · exact (h k hk).1
  · exact (h k hk).2.1
  · exact (h k hk).2.2
theorem clip_nothing {a b c : List Int} {k : Nat} (hk : k < 7) (ha : distK k a < 0) (hb : distK k b < 0) (hc : distK k c < 0) : clipN [a, b, c] 7 = [] := by
  refine clip_outside (k := k) ?_ 7 hk
  intro v hv
  simp at hv
  rcases hv with rfl | rfl | rfl <;> assumption
