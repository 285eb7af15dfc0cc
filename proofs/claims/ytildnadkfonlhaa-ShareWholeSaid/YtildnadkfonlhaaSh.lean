/- All IDs of a scene, rising: the document's IDs, walked. -/
import Derived.Test.YtildnadkfonlhaaProg
import Derived.Test.YtildnadkfonlhaaSg
import Derived.BigQuiet
set_option linter.unusedVariables false
set_option linter.unusedSimpArgs false
namespace Go.Proofs.Ytildnadkfonlhaa.Fx
open Go Go.RowKit
def part (a : Int) (zs : List Int) (i : Nat) (dn : Bool) : List Int := if dn = true then ins a (zs.take i) else zs.take i
structure PartOk (a : Int) (zs : List Int) (i : Nat) (dn : Bool) : Prop where
  no : dn = false → ∀ z ∈ zs.take i, z ≤ a
  yes : dn = true → ∃ z ∈ zs.take i, a < z
theorem part_len (a : Int) (zs : List Int) (i : Nat) (dn : Bool) (hi : i ≤ zs.length) : (part a zs i dn).length ≤ i + 1 := by
  unfold part
  split
  · rw [ins_len, List.length_take]; omega
  · rw [List.length_take]; omega
theorem take_snoc {zs : List Int} {i : Nat} (hi : i < zs.length) : zs.take (i + 1) = zs.take i ++ [zs.getD i 0] := by
  rw [List.take_add_one, List.getD_eq_getElem?_getD, List.getElem?_eq_getElem hi]
  rfl
/-- one more that is not greater, or behind what was put -/
theorem part_keep {a : Int} {zs : List Int} {i : Nat} {dn : Bool} (hi : i < zs.length) (h : PartOk a zs i dn) (hz : dn = true ∨ zs.getD i 0 ≤ a) : part a zs (i + 1) dn = part a zs i dn ++ [zs.getD i 0] ∧ PartOk a zs (i + 1) dn := by
  unfold part
  rw [take_snoc hi]
  cases dn
  · refine ⟨rfl, ⟨fun _ z hz' => ?_, fun h => (by cases h)⟩⟩
    rw [take_snoc hi] at hz'
    rcases List.mem_append.1 hz' with hz' | hz'
    · exact h.no rfl z hz'
    · obtain rfl := List.mem_singleton.1 hz'
      exact hz.resolve_left (by simp)
  · refine ⟨?_, ⟨fun h => (by cases h), fun _ => ?_⟩⟩
    · rw [if_pos rfl, if_pos rfl]
      exact ins_snoc_gt (h.yes rfl)
    · obtain ⟨z, h1, h2⟩ := h.yes rfl
      exact ⟨z, by rw [take_snoc hi]; exact List.mem_append_left _ h1, h2⟩
/-- it is put here -/
theorem part_put {a : Int} {zs : List Int} {i : Nat} (hi : i < zs.length) (h : PartOk a zs i false) (hz : a < zs.getD i 0) : part a zs (i + 1) true = part a zs i false ++ [a] ++ [zs.getD i 0] ∧ PartOk a zs (i + 1) true := by
  unfold part
  rw [take_snoc hi, if_pos rfl, if_neg (by simp), ins_snoc_le (h.no rfl) hz]
  exact ⟨rfl, ⟨fun h => (by cases h), fun _ => ⟨zs.getD i 0, by rw [take_snoc hi]; simp, hz⟩⟩⟩
theorem part_end {a : Int} {zs : List Int} {dn : Bool} (h : PartOk a zs zs.length dn) : (if dn = true then part a zs zs.length dn else part a zs zs.length dn ++ [a]) = ins a zs := by
  unfold part
  rw [List.take_length]
  cases dn
  · have := h.no rfl
    rw [List.take_length] at this
    rw [if_neg (by simp), if_neg (by simp), ins_le this]
  · rw [if_pos rfl, if_pos rfl]
theorem app_num {ops : Array Oper} {rest : List Oper} {o : Oper} {a : Act} {Q : Exit → Act → World → Prop} {W : World} (hgd : o.guard = none) (sx x : Operand)
    (ho : o.op = .call { callee := .builtin .append, args := #[sx, x], argTypes := #[22, 22] })
    (V : World) (v : Value) (L : List Int) (z : Int) (hs : a.eval sx = v) (hb : Below V.heap.size V W) (hown : OwnN W V.heap.size v L) (hL : L.length ≤ 100000) (c : Nat) (hx : a.eval x = .slice (some ⟨W.heap.size, 0, none⟩) 1 c)
    (h : ∀ v' X, OwnN X V.heap.size v' (L ++ [z]) → Below V.heap.size V X → wpList Try.prog ops Q rest (a.put o.dst v') X) :
    wpList Try.prog ops Q (o :: rest) a (W.alloc (.cells #[.int .i64 z] 3)) := by
  obtain ⟨i0, hi, hz0, hz1, hz2⟩ := info_parts infoN
  have hba : Below V.heap.size V (W.alloc (.cells #[.int .i64 z] 3)) := Below.alloc hb hb.size _
  refine wpList_append_own _ hgd sx x 22 ho V.heap.size 3 i0 (.int .i64 0) 1 8 Try.underlying22 hi hz0 hz1 hz2 rfl (by decide) v L.length (L.map encI) hs (hown.alloc _) ⟨W.heap.size, 0, none⟩ 1 c [.int .i64 z] hx rfl (cell_one_newN _ _ _) (by simp [Value.oneCell']) (by unfold maxLen; omega) (by omega) hba.size ?_
  intro v' w3 h1 h2 _
  exact h v' w3 (by unfold OwnN; rw [List.length_append, List.map_append]; exact h1) (below_grown2 (Nat.le_refl _) hba h2 hown.blk)
def IoRel (s : ScR) (V : World) (n : Nat) (g : Nat) (s3 s4 : Value) (W : World) : Prop :=
  ∃ (k : Nat) (zs : List Int), g = n - k ∧ s4 = .int .i64 (k : Int) ∧ k ≤ n ∧ zs = idsZ (s.os.take k) ∧ zs.length = k ∧ Below V.heap.size V W ∧ OwnN W V.heap.size s3 zs
def IiRel (a : Int) (zs : List Int) (V0 : World) (m : Nat) (g : Nat) (s5 s6 s7 : Value) (W : World) : Prop :=
  ∃ (i : Nat) (dn : Bool), g = m - i ∧ s6 = .bool dn ∧ s7 = .int .i64 (i : Int) ∧ i ≤ m ∧ PartOk a zs i dn ∧ Below V0.heap.size V0 W ∧ OwnN W V0.heap.size s5 (part a zs i dn)
def RetIDs (l : List Int) (w : World) (e : Ending) (w' : World) : Prop := ∃ v, e = .returned v ∧ OwnN w' (w.heap.size + 1) v l ∧ Below w.heap.size w w'
end Go.Proofs.Ytildnadkfonlhaa.Fx
