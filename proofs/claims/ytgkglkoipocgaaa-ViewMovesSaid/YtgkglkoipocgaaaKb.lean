/- Crossings and distances: what was inside stays so by 2, what was outside stays outside. -/
import Derived.Test.YtgkglkoipocgaaaKa
set_option linter.unusedVariables false
set_option linter.unusedSimpArgs false
namespace Go.Proofs.Ytgkglkoipocgaaa.Fx

/-- two numbers of a crossing, put together -/
theorem at_comb (c d : Int) {p q w w' x x' : Int} (h : 0 ≤ p) (hq : q < 0) : ∃ r s, (0 ≤ r ∧ r < p - q) ∧ (0 ≤ s ∧ s < p - q) ∧
    (p - q) * (c * atK p q w w' + d * atK p q x x') + (c * r + d * s) = (c * w + d * x) * (0 - q) + (c * w' + d * x') * p := by
  obtain ⟨r, r0, r1, e1⟩ := at_mul p q w w' h hq
  obtain ⟨s, s0, s1, e2⟩ := at_mul p q x x' h hq
  refine ⟨r, s, ⟨r0, r1⟩, ⟨s0, s1⟩, ?_⟩
  generalize atK p q w w' = W at e1 ⊢
  generalize atK p q x x' = X at e2 ⊢
  have f1 : c * ((p - q) * W + r) = c * (w * (0 - q) + w' * p) := by rw [e1]
  have f2 : d * ((p - q) * X + s) = d * (x * (0 - q) + x' * p) := by rw [e2]
  have g1 : (p - q) * (c * W + d * X) = c * ((p - q) * W) + d * ((p - q) * X) := by rw [Int.mul_add, Int.mul_left_comm, Int.mul_left_comm (p - q) d]
  have g2 : (c * w + d * x) * (0 - q) = c * (w * (0 - q)) + d * (x * (0 - q)) := by rw [Int.add_mul, Int.mul_assoc, Int.mul_assoc]
  have g3 : (c * w' + d * x') * p = c * (w' * p) + d * (x' * p) := by rw [Int.add_mul, Int.mul_assoc, Int.mul_assoc]
  rw [Int.mul_add, Int.mul_add] at f1 f2
  rw [g1, g2, g3]
  omega
theorem mul_lt_cut {D t u : Int} (hd : 0 < D) (h : D * t < D * u) : t < u := Int.lt_of_mul_lt_mul_left h (by omega)
theorem at_lo (c d m k : Int) {p q w w' x x' : Int} (h : 0 ≤ p) (hq : q < 0) (ha : -m ≤ c * w + d * x) (hb : -m ≤ c * w' + d * x')
    (hk : ∀ r s, 0 ≤ r → r < p - q → 0 ≤ s → s < p - q → c * r + d * s < (p - q) * (k + 1)) : -m - k ≤ c * atK p q w w' + d * atK p q x x' := by
  obtain ⟨r, s, ⟨r0, r1⟩, ⟨s0, s1⟩, e⟩ := at_comb c d (w := w) (w' := w') (x := x) (x' := x') h hq
  have hr := hk r s r0 r1 s0 s1
  generalize c * atK p q w w' + d * atK p q x x' = F at e ⊢
  generalize c * w + d * x = f at e ha
  generalize c * w' + d * x' = f' at e hb
  generalize c * r + d * s = R at e hr
  have k1 : -m * (0 - q) ≤ f * (0 - q) := Int.mul_le_mul_of_nonneg_right ha (by omega)
  have k2 : -m * p ≤ f' * p := Int.mul_le_mul_of_nonneg_right hb h
  have k3 : (p - q) * (-m) = -m * (0 - q) + -m * p := by rw [← Int.mul_add, Int.mul_comm]; congr 1; omega
  have k4 : (p - q) * (-m - (k + 1)) = (p - q) * (-m) - (p - q) * (k + 1) := Int.mul_sub ..
  have := mul_lt_cut (D := p - q) (t := -m - (k + 1)) (u := F) (by omega) (by omega)
  omega
theorem at_hi (c d m : Int) {p q w w' x x' : Int} (h : 0 ≤ p) (hq : q < 0) (ha : c * w + d * x ≤ m) (hb : c * w' + d * x' ≤ m)
    (hk : ∀ r s, 0 ≤ r → r < p - q → 0 ≤ s → s < p - q → -(p - q) < c * r + d * s) : c * atK p q w w' + d * atK p q x x' ≤ m := by
  obtain ⟨r, s, ⟨r0, r1⟩, ⟨s0, s1⟩, e⟩ := at_comb c d (w := w) (w' := w') (x := x) (x' := x') h hq
  have hr := hk r s r0 r1 s0 s1
  generalize c * atK p q w w' + d * atK p q x x' = F at e ⊢
  generalize c * w + d * x = f at e ha
  generalize c * w' + d * x' = f' at e hb
  generalize c * r + d * s = R at e hr
  have k1 : f * (0 - q) ≤ m * (0 - q) := Int.mul_le_mul_of_nonneg_right ha (by omega)
  have k2 : f' * p ≤ m * p := Int.mul_le_mul_of_nonneg_right hb h
  have k3 : (p - q) * m = m * (0 - q) + m * p := by rw [← Int.mul_add, Int.mul_comm]; congr 1; omega
  have k4 : (p - q) * (m + 1) = (p - q) * m + (p - q) := by rw [Int.mul_add, Int.mul_one]
  have := mul_lt_cut (D := p - q) (t := F) (u := m + 1) (by omega) (by omega)
  omega
/-- of its own plane: the parts fall out -/
theorem at_own (c d k : Int) {p q w w' x x' e0 : Int} (h : 0 ≤ p) (hq : q < 0) (ha : c * w + d * x = p) (hb : c * w' + d * x' = q)
    (hk : ∀ r s, 0 ≤ r → r < p - q → 0 ≤ s → s < p - q → c * r + d * s < (p - q) * (k + 1) ∧ -(p - q) < c * r + d * s) :
    -k ≤ c * atK p q w w' + d * atK p q x x' ∧ c * atK p q w w' + d * atK p q x x' ≤ 0 := by
  obtain ⟨r, s, ⟨r0, r1⟩, ⟨s0, s1⟩, e⟩ := at_comb c d (w := w) (w' := w') (x := x) (x' := x') h hq
  obtain ⟨hr, hr2⟩ := hk r s r0 r1 s0 s1
  rw [ha, hb] at e
  generalize c * atK p q w w' + d * atK p q x x' = F at e ⊢
  generalize c * r + d * s = R at e hr hr2
  have z : p * (0 - q) + q * p = 0 := by rw [Int.mul_comm q p, ← Int.mul_add, show (0 - q) + q = 0 by omega, Int.mul_zero]
  have k4 : (p - q) * (-(k + 1)) = -((p - q) * (k + 1)) := Int.mul_neg ..
  have a := mul_lt_cut (D := p - q) (t := -(k + 1)) (u := F) (by omega) (by omega)
  have b := mul_lt_cut (D := p - q) (t := F) (u := 1) (by omega) (by omega)
  constructor <;> omega

/-- how much a plane's distance may lose at a crossing -/
def slackK (k : Nat) : Int := if k ≤ 2 then 0 else 2
theorem slack_pos (k : Nat) : 0 ≤ slackK k := by unfold slackK; split <;> omega
theorem nv_cross0 (k : Nat) (a b : List Int) : nv (crossK k a b) 0 = atK (distK k a) (distK k b) (nv a 0) (nv b 0) := rfl
theorem nv_cross1 (k : Nat) (a b : List Int) : nv (crossK k a b) 1 = atK (distK k a) (distK k b) (nv a 1) (nv b 1) := rfl
theorem nv_cross2 (k : Nat) (a b : List Int) : nv (crossK k a b) 2 = atK (distK k a) (distK k b) (nv a 2) (nv b 2) := rfl
theorem nv_cross3 (k : Nat) (a b : List Int) : nv (crossK k a b) 3 = atK (distK k a) (distK k b) (nv a 3) (nv b 3) := rfl
theorem cross_between (j : Nat) (a b : List Int) (h : 0 ≤ distK j a) (hq : distK j b < 0) {i : Nat} (hi : i < 4) : min (nv a i) (nv b i) ≤ nv (crossK j a b) i ∧ nv (crossK j a b) i ≤ max (nv a i) (nv b i) := by
  match i, hi with
  | 0, _ => exact at_between _ _ _ _ h hq
  | 1, _ => exact at_between _ _ _ _ h hq
  | 2, _ => exact at_between _ _ _ _ h hq
  | 3, _ => exact at_between _ _ _ _ h hq
theorem cross_lo (j k : Nat) (a b : List Int) {m : Int} (h : 0 ≤ distK j a) (hq : distK j b < 0) (ha : -m ≤ distK k a) (hb : -m ≤ distK k b) : -m - slackK k ≤ distK k (crossK j a b) := by
  match k with
  | 0 =>
    have := cross_between j a b h hq (i := 3) (by omega)
    simp only [distK, slackK] at *
    omega
  | 1 =>
    have := cross_between j a b h hq (i := 2) (by omega)
    simp only [distK, slackK] at *
    omega
  | 2 =>
    have := at_lo 1 (-1) m 0 (w := nv a 3) (w' := nv b 3) (x := nv a 2) (x' := nv b 2) h hq (by simp only [distK] at ha; omega) (by simp only [distK] at hb; omega) (by intros; omega)
    simp only [distK, slackK, nv_cross2, nv_cross3] at *
    omega
  | 3 =>
    have := at_lo 2 1 m 2 (w := nv a 3) (w' := nv b 3) (x := nv a 0) (x' := nv b 0) h hq (by simp only [distK] at ha; omega) (by simp only [distK] at hb; omega) (by intros; omega)
    simp only [distK, slackK, nv_cross0, nv_cross3] at *
    omega
  | 4 =>
    have := at_lo 2 (-1) m 2 (w := nv a 3) (w' := nv b 3) (x := nv a 0) (x' := nv b 0) h hq (by simp only [distK] at ha; omega) (by simp only [distK] at hb; omega) (by intros; omega)
    simp only [distK, slackK, nv_cross0, nv_cross3] at *
    omega
  | 5 =>
    have := at_lo 2 1 m 2 (w := nv a 3) (w' := nv b 3) (x := nv a 1) (x' := nv b 1) h hq (by simp only [distK] at ha; omega) (by simp only [distK] at hb; omega) (by intros; omega)
    simp only [distK, slackK, nv_cross1, nv_cross3] at *
    omega
  | (n + 6) =>
    have := at_lo 2 (-1) m 2 (w := nv a 3) (w' := nv b 3) (x := nv a 1) (x' := nv b 1) h hq (by simp only [distK] at ha; omega) (by simp only [distK] at hb; omega) (by intros; omega)
    have e : slackK (n + 6) = 2 := by unfold slackK; rw [if_neg (by omega)]
    rw [e]
    simp only [distK, nv_cross1, nv_cross3] at *
    omega
theorem cross_hi (j k : Nat) (a b : List Int) (h : 0 ≤ distK j a) (hq : distK j b < 0) (ha : distK k a < 0) (hb : distK k b < 0) : distK k (crossK j a b) < 0 := by
  match k with
  | 0 =>
    have := cross_between j a b h hq (i := 3) (by omega)
    simp only [distK] at *
    omega
  | 1 =>
    have := cross_between j a b h hq (i := 2) (by omega)
    simp only [distK] at *
    omega
  | 2 =>
    have := at_hi 1 (-1) (-1) (w := nv a 3) (w' := nv b 3) (x := nv a 2) (x' := nv b 2) h hq (by simp only [distK] at ha; omega) (by simp only [distK] at hb; omega) (by intros; omega)
    simp only [distK, nv_cross2, nv_cross3] at *
    omega
  | 3 =>
    have := at_hi 2 1 (-1) (w := nv a 3) (w' := nv b 3) (x := nv a 0) (x' := nv b 0) h hq (by simp only [distK] at ha; omega) (by simp only [distK] at hb; omega) (by intros; omega)
    simp only [distK, nv_cross0, nv_cross3] at *
    omega
  | 4 =>
    have := at_hi 2 (-1) (-1) (w := nv a 3) (w' := nv b 3) (x := nv a 0) (x' := nv b 0) h hq (by simp only [distK] at ha; omega) (by simp only [distK] at hb; omega) (by intros; omega)
    simp only [distK, nv_cross0, nv_cross3] at *
    omega
  | 5 =>
    have := at_hi 2 1 (-1) (w := nv a 3) (w' := nv b 3) (x := nv a 1) (x' := nv b 1) h hq (by simp only [distK] at ha; omega) (by simp only [distK] at hb; omega) (by intros; omega)
    simp only [distK, nv_cross1, nv_cross3] at *
    omega
  | (n + 6) =>
    have := at_hi 2 (-1) (-1) (w := nv a 3) (w' := nv b 3) (x := nv a 1) (x' := nv b 1) h hq (by simp only [distK] at ha; omega) (by simp only [distK] at hb; omega) (by intros; omega)
    simp only [distK, nv_cross1, nv_cross3] at *
    omega
theorem at_same (p q x : Int) : atK p q x x = x := by
  unfold atK
  rw [Int.sub_self, Int.zero_mul, Int.zero_ediv]
  omega
theorem cross_own (j : Nat) (a b : List Int) (h : 0 ≤ distK j a) (hq : distK j b < 0) : -slackK j ≤ distK j (crossK j a b) ∧ distK j (crossK j a b) ≤ 0 := by
  match j with
  | 0 =>
    have := at_own 1 (-1) 0 (w := nv a 3) (w' := nv b 3) (x := 4096) (x' := 4096) (e0 := 0) h hq (by simp only [distK]; omega) (by simp only [distK]; omega) (by intros; omega)
    rw [at_same] at this
    have e := nv_cross3 0 a b
    simp only [distK, slackK] at *
    rw [e]
    omega
  | 1 =>
    have := at_own 1 0 0 (w := nv a 2) (w' := nv b 2) (x := 0) (x' := 0) (e0 := 0) h hq (by simp only [distK]; omega) (by simp only [distK]; omega) (by intros; omega)
    rw [at_same] at this
    have e := nv_cross2 1 a b
    simp only [distK, slackK] at *
    rw [e]
    omega
  | 2 =>
    have := at_own 1 (-1) 0 (w := nv a 3) (w' := nv b 3) (x := nv a 2) (x' := nv b 2) (e0 := 0) h hq (by simp only [distK]; omega) (by simp only [distK]; omega) (by intros; omega)
    have e := nv_cross3 2 a b
    have e' := nv_cross2 2 a b
    simp only [distK, slackK] at *
    rw [e, e']
    omega
  | 3 =>
    have := at_own 2 1 2 (w := nv a 3) (w' := nv b 3) (x := nv a 0) (x' := nv b 0) (e0 := 0) h hq (by simp only [distK]; omega) (by simp only [distK]; omega) (by intros; omega)
    have e := nv_cross3 3 a b
    have e' := nv_cross0 3 a b
    simp only [distK, slackK] at *
    rw [e, e']
    omega
  | 4 =>
    have := at_own 2 (-1) 2 (w := nv a 3) (w' := nv b 3) (x := nv a 0) (x' := nv b 0) (e0 := 0) h hq (by simp only [distK]; omega) (by simp only [distK]; omega) (by intros; omega)
    have e := nv_cross3 4 a b
    have e' := nv_cross0 4 a b
    simp only [distK, slackK] at *
    rw [e, e']
    omega
  | 5 =>
    have := at_own 2 1 2 (w := nv a 3) (w' := nv b 3) (x := nv a 1) (x' := nv b 1) (e0 := 0) h hq (by simp only [distK]; omega) (by simp only [distK]; omega) (by intros; omega)
    have e := nv_cross3 5 a b
    have e' := nv_cross1 5 a b
    simp only [distK, slackK] at *
    rw [e, e']
    omega
  | (n + 6) =>
    have := at_own 2 (-1) 2 (w := nv a 3) (w' := nv b 3) (x := nv a 1) (x' := nv b 1) (e0 := 0) h hq (by simp only [distK]; omega) (by simp only [distK]; omega) (by intros; omega)
    have e := nv_cross3 (n + 6) a b
    have e' := nv_cross1 (n + 6) a b
    have e3 : slackK (n + 6) = 2 := by unfold slackK; rw [if_neg (by omega)]
    rw [e3]
    simp only [distK] at *
    rw [e, e']
    omega
