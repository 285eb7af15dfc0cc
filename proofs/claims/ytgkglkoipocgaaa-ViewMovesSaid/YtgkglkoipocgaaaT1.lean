/- A number's text: plain; the closure that lays a letter. 
  wide.Text, walked. -/
import Derived.Test.YtgkglkoipocgaaaProg
import Derived.Test.YtgkglkoipocgaaaW6a
import Derived.Laws.BytesString
import Derived.Laws.BytesArg
import Derived.Laws.Rows
import Derived.Outline
import Derived.Deep.LoopGhost
import Derived.Deep.DeepCutAuto
set_option linter.unusedVariables false
set_option linter.unusedSimpArgs false
namespace Go.Proofs.Ytgkglkoipocgaaa.Fx
open Go Go.RowKit Wm
def encB (x : Int) : Value := .int .u8 x
/-- the string that bytes make -/
def bstr (l : List Int) : ByteArray := ⟨(l.map fun n => UInt8.ofNat n.toNat).toArray⟩
/-- the last k digits of n -/
def dgs (n : Nat) : Nat → List Int
  | 0 => []
  | k + 1 => (48 + ((n / 10 ^ k % 10 : Nat) : Int)) :: dgs n k
theorem dgs_len (n : Nat) : ∀ k, (dgs n k).length = k
  | 0 => rfl
  | k + 1 => by rw [dgs, List.length_cons, dgs_len n k]
/-- the room for 40 letters, of which the last ones are laid -/
def arr (l : List Int) : Array Value := (List.replicate (40 - l.length) (Value.int .u8 0) ++ l.map encB).toArray
theorem arr_size (l : List Int) (h : l.length ≤ 40) : (arr l).size = 40 := by simp [arr]; omega
theorem arr_put (l : List Int) (c : Int) (m : Nat) (h : l.length + m = 39) : (arr l).setIfInBounds m (.int .u8 c) = arr (c :: l) := by
  unfold arr
  rw [List.setIfInBounds_toArray]
  congr 1
  rw [show 40 - l.length = m + 1 from by omega, show 40 - (c :: l).length = m from by simp; omega]
  rw [List.replicate_succ', List.append_assoc, List.set_append_right _ _ (by simp)]
  simp [encB]
theorem arr_at (l : List Int) (j : Nat) (u : Value) (h : l.length ≤ 40) (hu : (l.map encB)[j]? = some u) : (arr l)[40 - l.length + j]? = some u := by
  unfold arr
  rw [List.getElem?_toArray, List.getElem?_append_right (by simp)]
  simpa using hu
theorem arr_any (l : List Int) (j : Nat) (h : l.length ≤ 40) (hj : j < 40) : ∃ v, (arr l)[j]? = some v :=
  ⟨_, Array.getElem?_eq_getElem (by rw [arr_size l h]; exact hj)⟩
theorem frozen_row {w : World} {g j : Nat} {cs : Array Value} {t : TypeId} (hg : w.heap[g]? = some (.cells cs t (0, 0))) : w.frozen? ⟨g, j, none⟩ = false := by
  simp [World.frozen?, hg]
end Go.Proofs.Ytgkglkoipocgaaa.Fx
set_option linter.unusedVariables false
set_option linter.unusedSimpArgs false
namespace Go.Proofs.Ytgkglkoipocgaaa.Fx
open Go Go.RowKit Wm
theorem dgs_snoc (n : Nat) : ∀ k, dgs n (k + 1) = dgs (n / 10) k ++ [48 + ((n % 10 : Nat) : Int)]
  | 0 => by simp [dgs]
  | k + 1 => by
    rw [dgs, dgs_snoc n k]
    show _ = (48 + ((n / 10 / 10 ^ k % 10 : Nat) : Int)) :: dgs (n / 10) k ++ _
    rw [Nat.div_div_eq_div_mul, show 10 * 10 ^ k = 10 ^ (k + 1) from by rw [Nat.pow_succ, Nat.mul_comm]]
    rfl
/-- a number's decimal digits -/
def decF : Nat → Nat → List Int
  | 0, _ => []
  | f + 1, n => if n < 10 then [48 + (n : Int)] else decF f (n / 10) ++ [48 + ((n % 10 : Nat) : Int)]
theorem dgs_dec : ∀ (k f n : Nat), k ≤ f → 1 ≤ k → n / 10 ^ k = 0 → (k = 1 ∨ n / 10 ^ (k - 1) ≠ 0) → dgs n k = decF f n
  | 0, _, _, _, h, _, _ => by omega
  | k + 1, 0, _, h, _, _, _ => by omega
  | k + 1, f + 1, n, hf, _, h0, h1 => by
    by_cases hk : k = 0
    · subst hk
      have : n < 10 := by simp at h0; omega
      simp only [decF, if_pos this, dgs]
      simp [Nat.mod_eq_of_lt this]
    · have hn : ¬ n < 10 := by
        intro hn
        rcases h1 with h1 | h1
        · omega
        · exact h1 (Nat.div_eq_of_lt (Nat.lt_of_lt_of_le hn (Nat.le_self_pow hk 10)))
      rw [dgs_snoc]
      simp only [decF, if_neg hn]
      rw [dgs_dec k f (n / 10) (by omega) (by omega) (by rw [Nat.div_div_eq_div_mul, show 10 * 10 ^ k = 10 ^ (k + 1) from by rw [Nat.pow_succ, Nat.mul_comm]]; exact h0) ?_]
      rcases h1 with h1 | h1
      · omega
      · by_cases h2 : k = 1
        · exact .inl h2
        · right
          rw [Nat.div_div_eq_div_mul, show 10 * 10 ^ (k - 1) = 10 ^ k from by rw [Nat.mul_comm, ← Nat.pow_succ]; congr 1; omega]
          exact h1
/-- a number's text -/
def wtx (x : Int) : List Int := (if x < 0 then [45] else []) ++ decF 40 x.natAbs
theorem keep_row {w w' : World} {b : Nat} {o : Obj} (hb : Below w.heap.size w w') (h : w.heap[b]? = some o) : w'.heap[b]? = some o := by
  rw [hb.block b (Array.getElem?_eq_some_iff.1 h).1]
  exact h
theorem row_mid (w : World) (A L C : Obj) : (((w.alloc A).alloc L).alloc C).heap[w.heap.size + 1]? = some L := by
  rw [heap_alloc_old _ _ (by simp)]
  exact heap_alloc2_new w A L
theorem step_row {w : World} {o : Obj} {b : Nat} {x : Obj} (h : w.heap[b]? = some x) : (w.alloc o).heap[b]? = some x := by
  rw [heap_alloc_old _ _ (Array.getElem?_eq_some_iff.1 h).1]
  exact h
theorem cell_alloc {w : World} {o : Obj} {a : Addr} {v : Value} (h : w.cell? a = some v) : (w.alloc o).cell? a = some v := by
  rw [World.cell?_of_block (w := w) (heap_alloc_old _ _ (block_lt_of_cell h))]
  exact h
theorem free_alloc {w : World} {o : Obj} {b k : Nat} (hs : b < w.heap.size) (h : w.frozen? ⟨b, k, none⟩ = false) : (w.alloc o).frozen? ⟨b, k, none⟩ = false := by
  rw [World.frozen?_of_block (w := w) (heap_alloc_old _ _ hs)]
  exact h
theorem na_zero {a b : Nat} (h : Na 0 a b) : a = 0 ∧ b = 0 := by unfold Na at h; omega
theorem na_pos {r a b : Nat} (h : Na r a b) (hr : r ≠ 0) : ¬ (a = 0 ∧ b = 0) := by unfold Na at h; omega
theorem ten_step (n k : Nat) : n / 10 ^ k / 10 = n / 10 ^ (k + 1) := by rw [Nat.div_div_eq_div_mul, Nat.pow_succ]
theorem ten_small {n k m : Nat} (hn : n < 10 ^ 39) (hk : n / 10 ^ k ≠ 0) (h : k + m = 39) : 1 ≤ m := by
  refine Nat.pos_of_ne_zero fun h0 => hk ?_
  subst h0
  rw [show k = 39 from by omega]
  exact Nat.div_eq_of_lt hn
theorem add_at_off (g o j : Nat) : (⟨g, o, none⟩ : Addr).add j = ⟨g, o + j, none⟩ := by unfold Addr.add; split <;> simp_all
theorem ret_str {a b : ByteArray} (h : a = b) : Ending.returned (.string a) = .returned (.string b) := by rw [h]
end Go.Proofs.Ytgkglkoipocgaaa.Fx
