/- The document's numbers of layer 2, plain: what their digits come to. -/
import Derived.Test.YtgkcbadfjhicnaaProg
import Derived.Test.YtgkcbadfjhicnaaR2
import Derived.Test.YtgkcbadfjhicnaaR4
set_option linter.unusedVariables false
namespace Go.Proofs.Ytgkcbadfjhicnaa.Fx
open Go Go.RowKit Wm
/-- the lowest k digits -/
def dgF : Nat → Nat → List Nat
  | 0, _ => []
  | k + 1, n => n % 65536 :: dgF k (n / 65536)
def dg (n : Nat) : List Nat := dgF 20 n
theorem dgF_len : ∀ (k n : Nat), (dgF k n).length = k
  | 0, _ => rfl
  | k + 1, n => by rw [dgF, List.length_cons, dgF_len k]
theorem dgF_lt : ∀ (k n : Nat), ∀ x ∈ dgF k n, x < 65536
  | 0, _, x, h => by simp [dgF] at h
  | k + 1, n, x, h => by
    rw [dgF, List.mem_cons] at h
    rcases h with rfl | h
    · omega
    · exact dgF_lt k _ x h
theorem dg_dg (n : Nat) : Dg (dg n) := ⟨dgF_len 20 n, dgF_lt 20 n⟩
theorem dg_len (n : Nat) : (dg n).length = 20 := dgF_len 20 n
theorem addL_dgF : ∀ (k m n c : Nat), addL (dgF k m) (dgF k n) c = dgF k (m + n + c)
  | 0, _, _, _ => rfl
  | k + 1, m, n, c => by
    simp only [dgF, addL]
    rw [addL_dgF k]
    congr 1
    · omega
    · congr 1
      omega
theorem subL_dgF : ∀ (k m n c : Nat), c ≤ 1 → n + c ≤ m → subL (dgF k m) (dgF k n) c = dgF k (m - n - c)
  | 0, _, _, _, _, _ => rfl
  | k + 1, m, n, c, hc, h => by
    simp only [dgF, subL]
    rw [subL_dgF k _ _ _ (by omega) (by omega)]
    congr 1
    · omega
    · congr 1
      omega
theorem dgF_at : ∀ (k n i : Nat), i < k → (dgF k n).getD i 0 = n / 65536 ^ i % 65536
  | 0, _, _, h => absurd h (by omega)
  | k + 1, n, 0, _ => by simp [dgF]
  | k + 1, n, i + 1, h => by
    rw [dgF, List.getD_cons_succ, dgF_at k _ i (by omega), Nat.div_div_eq_div_mul, Nat.pow_succ, Nat.mul_comm]
theorem lessT_dg (m n : Nat) : ∀ k, k ≤ 20 → lessT (dg m) (dg n) k = decide (m % 65536 ^ k < n % 65536 ^ k)
  | 0, _ => by simp [lessT, Nat.mod_one]
  | k + 1, h => by
    rw [lessT, lessT_dg m n k (by omega)]
    unfold dg
    rw [dgF_at 20 m k (by omega), dgF_at 20 n k (by omega), Nat.mod_pow_succ, Nat.mod_pow_succ]
    have hp : 0 < 65536 ^ k := Nat.pow_pos (by omega)
    have h1 : m % 65536 ^ k < 65536 ^ k := Nat.mod_lt _ hp
    have h2 : n % 65536 ^ k < 65536 ^ k := Nat.mod_lt _ hp
    generalize m / 65536 ^ k % 65536 = a
    generalize n / 65536 ^ k % 65536 = b
    generalize m % 65536 ^ k = u at *
    generalize n % 65536 ^ k = v at *
    generalize 65536 ^ k = P at *
    split
    · subst_vars
      simp
    · rename_i hab
      rw [decide_eq_decide]
      rcases Nat.lt_or_gt_of_ne hab with h | h
      · refine ⟨fun _ => ?_, fun _ => h⟩
        have : P * (a + 1) ≤ P * b := Nat.mul_le_mul_left _ h
        rw [Nat.mul_add] at this
        omega
      · refine ⟨fun hh => absurd hh (by omega), fun hh => ?_⟩
        have : P * (b + 1) ≤ P * a := Nat.mul_le_mul_left _ h
        rw [Nat.mul_add] at this
        omega
/-- less than this many may be written -/
def BB : Nat := 65536 ^ 20
theorem less_dg {m n : Nat} (hm : m < BB) (hn : n < BB) : lessT (dg m) (dg n) 20 = decide (m < n) := by
  rw [lessT_dg m n 20 (by omega)]
  unfold BB at hm hn
  rw [Nat.mod_eq_of_lt hm, Nat.mod_eq_of_lt hn]
theorem add_dg (m n : Nat) : addL (dg m) (dg n) 0 = dg (m + n) := addL_dgF 20 m n 0
theorem sub_dg {m n : Nat} (h : n ≤ m) : subL (dg m) (dg n) 0 = dg (m - n) := subL_dgF 20 m n 0 (by omega) (by omega)
theorem zeros_dg : zeros = dg 0 := rfl
/-- what digits come to -/
def num : List Nat → Nat
  | [] => 0
  | x :: xs => x + 65536 * num xs
theorem num_dgF : ∀ (k n : Nat), num (dgF k n) = n % 65536 ^ k
  | 0, n => by simp [dgF, num, Nat.mod_one]
  | k + 1, n => by
    rw [dgF, num, num_dgF k, Nat.pow_succ, Nat.mul_comm (65536 ^ k), Nat.mod_mul]
theorem num_dg {n : Nat} (h : n < BB) : num (dg n) = n := by
  unfold dg
  rw [num_dgF]
  exact Nat.mod_eq_of_lt h
theorem dgF_num : ∀ (d : List Nat), (∀ x ∈ d, x < 65536) → dgF d.length (num d) = d
  | [], _ => rfl
  | x :: d, h => by
    have hx := h x (by simp)
    rw [List.length_cons, dgF, num, show (x + 65536 * num d) % 65536 = x by omega, show (x + 65536 * num d) / 65536 = num d by omega, dgF_num d fun y hy => h y (by simp [hy])]
theorem dg_num {d : List Nat} (h : Dg d) : dg (num d) = d := by
  have := dgF_num d h.2
  rw [h.1] at this
  exact this
theorem dg_zero {n : Nat} (h : n < BB) : (dg n == zeros) = decide (n = 0) := by
  rw [zeros_dg]
  by_cases hn : n = 0
  · subst hn
    simp
  · rw [decide_eq_false hn, beq_eq_false_iff_ne]
    intro e
    have := congrArg num e
    rw [num_dg h, num_dg (by unfold BB; exact Nat.pow_pos (by omega))] at this
    exact hn this
/-- a number as the document writes it -/
def bv (z : Int) : Array Value := bigC (decide (z < 0)) (dg z.natAbs)
theorem bv_eq {n : Bool} {d : List Nat} {z : Int} (h1 : n = decide (z < 0)) (h2 : d = dg z.natAbs) : bigC n d = bv z := by rw [h1, h2]; rfl
theorem bv_inj {x y : Int} (hx : x.natAbs < BB) (hy : y.natAbs < BB) (h1 : decide (x < 0) = decide (y < 0)) (h2 : dg x.natAbs = dg y.natAbs) : x = y := by
  have := congrArg num h2
  rw [num_dg hx, num_dg hy] at this
  have h3 := decide_eq_decide.1 h1
  omega
/-- answers a number -/
def RetZ (z : Int) (w : World) (e : Ending) (w' : World) : Prop := e = .returned (.agg (bv z)) ∧ Below w.heap.size w w'
theorem neg_z (x : Int) (w : World) (hx : x.natAbs < BB) : Calls Try.prog 17 #[.agg (bv x)] w (RetZ (-x) w) := by
  refine (neg_any (decide (x < 0)) (dg x.natAbs) w (dg_len _)).mono ?_
  rintro e w' ⟨rfl, hb⟩
  refine ⟨?_, hb⟩
  rw [bv_eq (z := -x) ?_ (by rw [Int.natAbs_neg])]
  unfold negB
  rw [dg_zero hx, Bool.eq_iff_iff]
  simp only [Bool.and_eq_true, Bool.not_eq_true', decide_eq_true_eq, decide_eq_false_iff_not]
  omega
end Go.Proofs.Ytgkcbadfjhicnaa.Fx
