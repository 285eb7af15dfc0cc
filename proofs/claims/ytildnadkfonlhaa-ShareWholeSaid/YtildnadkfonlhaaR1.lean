/- The document's sums of sizes, walked. 
  The document's comparison of sizes, walked. 
  The document's differences of sizes, walked. 
  The document's numbers with the other sign, walked. 
  The document's numbers of layer 2, plain: what their digits come to. -/
import Derived.Test.YtildnadkfonlhaaProg
import Derived.Test.YtildnadkfonlhaaR0
import Derived.Test.YtildnadkfonlhaaT1
import Derived.BigQuiet
import Derived.Deep.QuietTactic
import Derived.Deep.LoopGhost
set_option linter.unusedVariables false
set_option linter.unusedSimpArgs false
namespace Go.Proofs.Ytildnadkfonlhaa.Fx
open Go Go.RowKit Wm
/-- twenty digits -/
def Dg (d : List Nat) : Prop := d.length = 20 ∧ ∀ x ∈ d, x < 65536
def addL : List Nat → List Nat → Nat → List Nat
  | x :: xs, y :: ys, c => (x + y + c) % 65536 :: addL xs ys ((x + y + c) / 65536)
  | _, _, _ => []
theorem addL_len : ∀ (xs ys : List Nat) (c : Nat), xs.length = ys.length → (addL xs ys c).length = xs.length
  | [], [], _, _ => rfl
  | x :: xs, y :: ys, c, h => by simp only [addL, List.length_cons]; rw [addL_len xs ys _ (by simpa using h)]
  | [], _ :: _, _, h => by simp at h
  | _ :: _, [], _, h => by simp at h
theorem addL_lt : ∀ (xs ys : List Nat) (c : Nat), ∀ z ∈ addL xs ys c, z < 65536
  | [], _, _, z, h => by simp [addL] at h
  | _ :: _, [], _, z, h => by simp [addL] at h
  | x :: xs, y :: ys, c, z, h => by
    simp only [addL, List.mem_cons] at h
    rcases h with h | h
    · omega
    · exact addL_lt xs ys _ z h
/-- a number whose first digits are laid -/
def pad (p : List Nat) : List Nat := p ++ List.replicate (20 - p.length) 0
theorem pad_put (p : List Nat) (v : Nat) (neg : Bool) (h : p.length < 20) : (bigC neg (pad p)).setIfInBounds (1 + p.length) (.int .u64 (v : Int)) = bigC neg (pad (p ++ [v])) := by
  unfold bigC pad
  rw [List.setIfInBounds_toArray]
  congr 1
  rw [Nat.add_comm, List.set_cons_succ]
  congr 1
  rw [show 20 - p.length = (20 - (p ++ [v]).length) + 1 from by simp; omega, List.replicate_succ]
  simp [encN, List.set_append_right]
theorem big_at (neg : Bool) (d : List Nat) (k : Nat) (h : k < d.length) : (bigC neg d)[1 + k]? = some (.int .u64 ((d.getD k 0 : Nat) : Int)) := by
  unfold bigC
  rw [List.getElem?_toArray, Nat.add_comm, List.getElem?_cons_succ, List.getElem?_map]
  simp [List.getD_eq_getElem?_getD, h, encN]
theorem pad_len (p : List Nat) (h : p.length ≤ 20) : (pad p).length = 20 := by simp [pad]; omega
theorem block3 (w : World) (A B C D : Obj) : (((((w.alloc A).alloc B).alloc C).alloc D).heap[w.heap.size]? = some A ∧ ((((w.alloc A).alloc B).alloc C).alloc D).heap[w.heap.size + 1]? = some B) ∧ ((((w.alloc A).alloc B).alloc C).alloc D).heap[w.heap.size + 1 + 1]? = some C ∧ ((((w.alloc A).alloc B).alloc C).alloc D).heap[w.heap.size + 1 + 1 + 1]? = some D := by
  have h0 : (w.alloc A).heap[w.heap.size]? = some A := heap_alloc_new w A
  have h1 : ((w.alloc A).alloc B).heap[w.heap.size + 1]? = some B := heap_alloc2_new w A B
  have h2 : (((w.alloc A).alloc B).alloc C).heap[w.heap.size + 1 + 1]? = some C := by
    have := heap_alloc_new ((w.alloc A).alloc B) C
    simpa only [World.size_alloc] using this
  have h3 : ((((w.alloc A).alloc B).alloc C).alloc D).heap[w.heap.size + 1 + 1 + 1]? = some D := by
    have := heap_alloc_new (((w.alloc A).alloc B).alloc C) D
    simpa only [World.size_alloc] using this
  exact ⟨⟨step_row (step_row (step_row h0)), step_row (step_row h1)⟩, step_row h2, h3⟩
theorem addL_step (dx dy : List Nat) (k c : Nat) (hx : k < dx.length) (hy : k < dy.length) :
    addL (dx.drop k) (dy.drop k) c = ((dx.getD k 0 + dy.getD k 0 + c) % 65536) :: addL (dx.drop (k + 1)) (dy.drop (k + 1)) ((dx.getD k 0 + dy.getD k 0 + c) / 65536) := by
  rw [List.drop_eq_getElem_cons hx, List.drop_eq_getElem_cons hy, addL]
  simp [List.getD_eq_getElem?_getD, hx, hy]
/-- answers a number -/
def RetB (neg : Bool) (d : List Nat) (w : World) (e : Ending) (w' : World) : Prop := e = .returned (.agg (bigC neg d)) ∧ Below w.heap.size w w'
end Go.Proofs.Ytildnadkfonlhaa.Fx
set_option linter.unusedVariables false
set_option linter.unusedSimpArgs false
namespace Go.Proofs.Ytildnadkfonlhaa.Fx
open Go Go.RowKit Wm
/-- less, from digit k - 1 down -/
def lessT (dx dy : List Nat) : Nat → Bool
  | 0 => false
  | k + 1 => if dx.getD k 0 = dy.getD k 0 then lessT dx dy k else decide (dx.getD k 0 < dy.getD k 0)
end Go.Proofs.Ytildnadkfonlhaa.Fx
set_option linter.unusedVariables false
set_option linter.unusedSimpArgs false
namespace Go.Proofs.Ytildnadkfonlhaa.Fx
open Go Go.RowKit Wm
/-- the greater size less the lesser one, with what was borrowed -/
def subL : List Nat → List Nat → Nat → List Nat
  | x :: xs, y :: ys, c => (x + 65536 - y - c) % 65536 :: subL xs ys (1 - (x + 65536 - y - c) / 65536)
  | _, _, _ => []
theorem subL_len : ∀ (xs ys : List Nat) (c : Nat), xs.length = ys.length → (subL xs ys c).length = xs.length
  | [], [], _, _ => rfl
  | x :: xs, y :: ys, c, h => by simp only [subL, List.length_cons]; rw [subL_len xs ys _ (by simpa using h)]
  | [], _ :: _, _, h => by simp at h
  | _ :: _, [], _, h => by simp at h
theorem subL_lt : ∀ (xs ys : List Nat) (c : Nat), ∀ z ∈ subL xs ys c, z < 65536
  | [], _, _, z, h => by simp [subL] at h
  | _ :: _, [], _, z, h => by simp [subL] at h
  | x :: xs, y :: ys, c, z, h => by
    simp only [subL, List.mem_cons] at h
    rcases h with h | h
    · omega
    · exact subL_lt xs ys _ z h
theorem subL_step (dx dy : List Nat) (k c : Nat) (hx : k < dx.length) (hy : k < dy.length) :
    subL (dx.drop k) (dy.drop k) c = ((dx.getD k 0 + 65536 - dy.getD k 0 - c) % 65536) :: subL (dx.drop (k + 1)) (dy.drop (k + 1)) (1 - (dx.getD k 0 + 65536 - dy.getD k 0 - c) / 65536) := by
  rw [List.drop_eq_getElem_cons hx, List.drop_eq_getElem_cons hy, subL]
  simp [List.getD_eq_getElem?_getD, hx, hy]
end Go.Proofs.Ytildnadkfonlhaa.Fx
set_option linter.unusedVariables false
set_option linter.unusedSimpArgs false
namespace Go.Proofs.Ytildnadkfonlhaa.Fx
open Go Go.RowKit Wm
theorem big_sign (neg x : Bool) (d : List Nat) : (bigC neg d).setIfInBounds 0 (.bool x) = bigC x d := by
  unfold bigC
  rw [List.setIfInBounds_toArray]
  rfl
theorem big_head (neg : Bool) (d : List Nat) : (bigC neg d)[0]? = some (.bool neg) := by
  unfold bigC
  rw [List.getElem?_toArray]
  rfl
theorem big_same (a b : Bool) (d e : List Nat) (h : d.length = 20) (g : e.length = 20) : (bigC a d).size = (bigC b e).size := by rw [big_size, big_size, h, g]
theorem wpList_want {P : Program} {ops : Array Oper} {Q : Exit → Act → World → Prop} {rest : List Oper} {o : Oper} {a : Act} {w : World} (hw : Region.wanted o (yielded ops a.tmps) = true)
    (h : ∀ K : Act → World → Prop, (∀ a w, wpList P ops Q rest a w → K a w) → o.wp P a w K Q) : wpList P ops Q (o :: rest) a w :=
  wpList_step fun K hK => by rw [hw]; simp only [if_true]; exact h K hK
theorem wpList_load_big {P : Program} {ops : Array Oper} {rest : List Oper} {o : Oper} {a : Act} {w : World} {Q : Exit → Act → World → Prop} (hw : Region.wanted o (yielded ops a.tmps) = true) (ty : TypeId) (x : Operand) (ho : o.op = .load ty x)
    (g : Nat) (hx : a.eval x = .pointer (some ⟨g, 0, none⟩)) (t : TypeId) (cs : Array Value) (fr : Nat × Nat) (d : TypeDesc) (hg : w.heap[g]? = some (.cells cs t fr))
    (hu : P.underlying ty = some d) (hd : (match d with | .struct _ | .array _ _ => true | _ => false) = true) (hi : (P.info? ty).map (·.size) = some cs.size)
    (h : wpList P ops Q rest (a.put o.dst (.agg cs)) w) : wpList P ops Q (o :: rest) a w :=
  wpList_want hw fun _ hK => wp_load_row ty x ho g hx t cs fr d hg hu hd hi (hK _ _ h)
/-- the sign of the other one -/
def negB (neg : Bool) (d : List Nat) : Bool := !neg && !(d == zeros)
end Go.Proofs.Ytildnadkfonlhaa.Fx
set_option linter.unusedVariables false
namespace Go.Proofs.Ytildnadkfonlhaa.Fx
open Go Go.RowKit Wm
/-- the lowest k digits -/
def dgF : Nat → Nat → List Nat
  | 0, _ => []
  | k + 1, n => n % 65536 :: dgF k (n / 65536)
def dg (n : Nat) : List Nat := dgF 20 n
theorem dgF_len : ∀ (k n : Nat), (dgF k n).length = k
  | 0, _ => rfl
  | k + 1, n => by rw [dgF, List.length_cons, dgF_len k]
theorem dgF_lt : ∀ (k n : Nat), ∀ x ∈ dgF k n, x < 65536
  | 0, _, x, h => by simp [dgF] at h
  | k + 1, n, x, h => by
    rw [dgF, List.mem_cons] at h
    rcases h with rfl | h
    · omega
    · exact dgF_lt k _ x h
theorem dg_dg (n : Nat) : Dg (dg n) := ⟨dgF_len 20 n, dgF_lt 20 n⟩
theorem dg_len (n : Nat) : (dg n).length = 20 := dgF_len 20 n
theorem addL_dgF : ∀ (k m n c : Nat), addL (dgF k m) (dgF k n) c = dgF k (m + n + c)
  | 0, _, _, _ => rfl
  | k + 1, m, n, c => by
    simp only [dgF, addL]
    rw [addL_dgF k]
    congr 1
    · omega
    · congr 1
      omega
theorem subL_dgF : ∀ (k m n c : Nat), c ≤ 1 → n + c ≤ m → subL (dgF k m) (dgF k n) c = dgF k (m - n - c)
  | 0, _, _, _, _, _ => rfl
  | k + 1, m, n, c, hc, h => by
    simp only [dgF, subL]
    rw [subL_dgF k _ _ _ (by omega) (by omega)]
    congr 1
    · omega
    · congr 1
      omega
theorem dgF_at : ∀ (k n i : Nat), i < k → (dgF k n).getD i 0 = n / 65536 ^ i % 65536
  | 0, _, _, h => absurd h (by omega)
  | k + 1, n, 0, _ => by simp [dgF]
  | k + 1, n, i + 1, h => by
    rw [dgF, List.getD_cons_succ, dgF_at k _ i (by omega), Nat.div_div_eq_div_mul, Nat.pow_succ, Nat.mul_comm]
theorem lessT_dg (m n : Nat) : ∀ k, k ≤ 20 → lessT (dg m) (dg n) k = decide (m % 65536 ^ k < n % 65536 ^ k)
  | 0, _ => by simp [lessT, Nat.mod_one]
  | k + 1, h => by
    rw [lessT, lessT_dg m n k (by omega)]
    unfold dg
    rw [dgF_at 20 m k (by omega), dgF_at 20 n k (by omega), Nat.mod_pow_succ, Nat.mod_pow_succ]
    have hp : 0 < 65536 ^ k := Nat.pow_pos (by omega)
    have h1 : m % 65536 ^ k < 65536 ^ k := Nat.mod_lt _ hp
    have h2 : n % 65536 ^ k < 65536 ^ k := Nat.mod_lt _ hp
    generalize m / 65536 ^ k % 65536 = a
    generalize n / 65536 ^ k % 65536 = b
    generalize m % 65536 ^ k = u at *
    generalize n % 65536 ^ k = v at *
    generalize 65536 ^ k = P at *
    split
    · subst_vars
      simp
    · rename_i hab
      rw [decide_eq_decide]
      rcases Nat.lt_or_gt_of_ne hab with h | h
      · refine ⟨fun _ => ?_, fun _ => h⟩
        have : P * (a + 1) ≤ P * b := Nat.mul_le_mul_left _ h
        rw [Nat.mul_add] at this
        omega
      · refine ⟨fun hh => absurd hh (by omega), fun hh => ?_⟩
        have : P * (b + 1) ≤ P * a := Nat.mul_le_mul_left _ h
        rw [Nat.mul_add] at this
        omega
/-- less than this many may be written -/
def BB : Nat := 65536 ^ 20
theorem less_dg {m n : Nat} (hm : m < BB) (hn : n < BB) : lessT (dg m) (dg n) 20 = decide (m < n) := by
  rw [lessT_dg m n 20 (by omega)]
  unfold BB at hm hn
  rw [Nat.mod_eq_of_lt hm, Nat.mod_eq_of_lt hn]
theorem add_dg (m n : Nat) : addL (dg m) (dg n) 0 = dg (m + n) := addL_dgF 20 m n 0
theorem sub_dg {m n : Nat} (h : n ≤ m) : subL (dg m) (dg n) 0 = dg (m - n) := subL_dgF 20 m n 0 (by omega) (by omega)
theorem zeros_dg : zeros = dg 0 := rfl
/-- what digits come to -/
def num : List Nat → Nat
  | [] => 0
  | x :: xs => x + 65536 * num xs
theorem num_dgF : ∀ (k n : Nat), num (dgF k n) = n % 65536 ^ k
  | 0, n => by simp [dgF, num, Nat.mod_one]
  | k + 1, n => by
    rw [dgF, num, num_dgF k, Nat.pow_succ, Nat.mul_comm (65536 ^ k), Nat.mod_mul]
theorem num_dg {n : Nat} (h : n < BB) : num (dg n) = n := by
  unfold dg
  rw [num_dgF]
  exact Nat.mod_eq_of_lt h
theorem dgF_num : ∀ (d : List Nat), (∀ x ∈ d, x < 65536) → dgF d.length (num d) = d
  | [], _ => rfl
  | x :: d, h => by
    have hx := h x (by simp)
    rw [List.length_cons, dgF, num, show (x + 65536 * num d) % 65536 = x by omega, show (x + 65536 * num d) / 65536 = num d by omega, dgF_num d fun y hy => h y (by simp [hy])]
theorem dg_num {d : List Nat} (h : Dg d) : dg (num d) = d := by
  have := dgF_num d h.2
  rw [h.1] at this
  exact this
theorem dg_zero {n : Nat} (h : n < BB) : (dg n == zeros) = decide (n = 0) := by
  rw [zeros_dg]
  by_cases hn : n = 0
  · subst hn
    simp
  · rw [decide_eq_false hn, beq_eq_false_iff_ne]
    intro e
    have := congrArg num e
    rw [num_dg h, num_dg (by unfold BB; exact Nat.pow_pos (by omega))] at this
    exact hn this
/-- a number as the document writes it -/
def bv (z : Int) : Array Value := bigC (decide (z < 0)) (dg z.natAbs)
theorem bv_eq {n : Bool} {d : List Nat} {z : Int} (h1 : n = decide (z < 0)) (h2 : d = dg z.natAbs) : bigC n d = bv z := by rw [h1, h2]; rfl
theorem bv_inj {x y : Int} (hx : x.natAbs < BB) (hy : y.natAbs < BB) (h1 : decide (x < 0) = decide (y < 0)) (h2 : dg x.natAbs = dg y.natAbs) : x = y := by
  have := congrArg num h2
  rw [num_dg hx, num_dg hy] at this
  have h3 := decide_eq_decide.1 h1
  omega
/-- answers a number -/
def RetZ (z : Int) (w : World) (e : Ending) (w' : World) : Prop := e = .returned (.agg (bv z)) ∧ Below w.heap.size w w'
end Go.Proofs.Ytildnadkfonlhaa.Fx
