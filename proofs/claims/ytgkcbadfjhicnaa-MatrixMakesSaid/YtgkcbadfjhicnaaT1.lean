/- A number's text: plain; the closure that lays a letter. -/
import Derived.Test.YtgkcbadfjhicnaaProg
import Derived.Test.YtgkcbadfjhicnaaW6a
import Derived.Laws.BytesString
import Derived.Laws.BytesArg
import Derived.Laws.Rows
set_option linter.unusedVariables false
set_option linter.unusedSimpArgs false
namespace Go.Proofs.Ytgkcbadfjhicnaa.Fx
open Go Go.RowKit Wm
def encB (x : Int) : Value := .int .u8 x
/-- the string that bytes make -/
def bstr (l : List Int) : ByteArray := ⟨(l.map fun n => UInt8.ofNat n.toNat).toArray⟩
theorem conv_at (l : List Int) (g o cap : Nat) (W : World) (h : ∀ j u, (l.map encB)[j]? = some u → W.cell? ((⟨g, o, none⟩ : Addr).add j) = some u) :
    (convert 104 9 (.slice (some ⟨g, o, none⟩) l.length cap)).run Try.prog W = .ok (.string (bstr l)) W := by
  rw [run_convert_bytes_string W _ _ _ _ _ _ Try.underlying104 Try.underlying5 Try.underlying9]
  have hl := run_loadCells_list (P := Try.prog) (w := W) ⟨g, o, none⟩ (l.map encB) h
  rw [List.length_map] at hl
  rw [run_bytesToString W _ _ _ l hl, foldl_push_bytes]
  simp [bstr, ByteArray.empty, ByteArray.emptyWithCapacity]
  rfl
/-- the last k digits of n -/
def dgs (n : Nat) : Nat → List Int
  | 0 => []
  | k + 1 => (48 + ((n / 10 ^ k % 10 : Nat) : Int)) :: dgs n k
theorem dgs_len (n : Nat) : ∀ k, (dgs n k).length = k
  | 0 => rfl
  | k + 1 => by rw [dgs, List.length_cons, dgs_len n k]
/-- the room for 40 letters, of which the last ones are laid -/
def arr (l : List Int) : Array Value := (List.replicate (40 - l.length) (Value.int .u8 0) ++ l.map encB).toArray
theorem arr_size (l : List Int) (h : l.length ≤ 40) : (arr l).size = 40 := by simp [arr]; omega
theorem arr_put (l : List Int) (c : Int) (m : Nat) (h : l.length + m = 39) : (arr l).setIfInBounds m (.int .u8 c) = arr (c :: l) := by
  unfold arr
  rw [List.setIfInBounds_toArray]
  congr 1
  rw [show 40 - l.length = m + 1 from by omega, show 40 - (c :: l).length = m from by simp; omega]
  rw [List.replicate_succ', List.append_assoc, List.set_append_right _ _ (by simp)]
  simp [encB]
theorem arr_at (l : List Int) (j : Nat) (u : Value) (h : l.length ≤ 40) (hu : (l.map encB)[j]? = some u) : (arr l)[40 - l.length + j]? = some u := by
  unfold arr
  rw [List.getElem?_toArray, List.getElem?_append_right (by simp)]
  simpa using hu
theorem arr_any (l : List Int) (j : Nat) (h : l.length ≤ 40) (hj : j < 40) : ∃ v, (arr l)[j]? = some v :=
  ⟨_, Array.getElem?_eq_getElem (by rw [arr_size l h]; exact hj)⟩
theorem frozen_row {w : World} {g j : Nat} {cs : Array Value} {t : TypeId} (hg : w.heap[g]? = some (.cells cs t (0, 0))) : w.frozen? ⟨g, j, none⟩ = false := by
  simp [World.frozen?, hg]
/-- behind one letter more -/
def Put (l : List Int) (Ba Bl : Nat) (m : Nat) (w : World) (e : Ending) (w' : World) : Prop :=
  e = .returned (.tuple #[]) ∧ w'.cell? ⟨Ba, 0, none⟩ = some (.int .i64 (m : Int)) ∧ w'.frozen? ⟨Ba, 0, none⟩ = false ∧ w'.heap[Bl]? = some (.cells (arr l) 102 (0, 0)) ∧
    (∀ b, b ≠ Ba → b ≠ Bl → w'.heap[b]? = w.heap[b]?) ∧ w'.heap.size = w.heap.size ∧ (∀ B, B ≤ Ba → B ≤ Bl → Below B w w')
set_option maxHeartbeats 400000 in
theorem put_any (c : Int) (l : List Int) (Ba Bl m : Nat) (w : World) (hm : l.length + m = 39) (hne : Ba ≠ Bl) (ha : w.cell? ⟨Ba, 0, none⟩ = some (.int .i64 ((m + 1 : Nat) : Int))) (hfa : w.frozen? ⟨Ba, 0, none⟩ = false) (hb : w.heap[Bl]? = some (.cells (arr l) 102 (0, 0))) :
    Calls Try.prog 61 #[.int .u8 c, .pointer (some ⟨Ba, 0, none⟩), .pointer (some ⟨Bl, 0, none⟩)] w (Put (c :: l) Ba Bl m w) := by
  have ha' : w.cell? ⟨Ba, 0, none⟩ = some (.int .i64 ((m : Int) + 1)) := by rw [ha]; simp
  obtain ⟨v, hv⟩ := arr_any l m (by omega) (by omega)
  have hc : w.cell? ⟨Bl, m, none⟩ = some v := by rw [cell_of_row w Bl m _ _ _ hb]; exact hv
  have hfb : w.frozen? ⟨Bl, m, none⟩ = false := frozen_row hb
  have hne' : ¬ Bl = Ba := fun h => hne h.symm
  have m0 : (0 : Int) ≤ (m : Int) := by omega
  have m1 : (m : Int) < 40 := by omega
  have HB := Lib.hid hb
  have HM := Lib.hid hm
  clear hb ha hv hm
  go_enter Try.func61, Try.ntmps61
  go_wp2
  go_end0
  have hb1 : (w.setCell ⟨Ba, 0, none⟩ (.int .i64 (m : Int))).heap[Bl]? = some (.cells (arr l) 102 (0, 0)) := by
    rw [heap_setCell_other _ _ _ _ hne']
    exact HB.out
  refine ⟨rfl, by simp [go_sem, *], by simp [go_sem, *], ?_, ?_, by simp, ?_⟩
  · rw [heap_setCell_same _ _ _ _ _ _ hb1, arr_put l c m HM.out]
  · intro b h1 h2
    rw [heap_setCell_other _ _ _ _ h2, heap_setCell_other _ _ _ _ h1]
  · intro B h1 h2
    exact ((Below.refl _ _).setCell h1 _).setCell h2 _
end Go.Proofs.Ytgkcbadfjhicnaa.Fx
