/- Worlds that only grow; bytes in slices; rows of bytes that a call made itself. -/
import Derived.Test.YtpbidfmijliehaaProg
import Derived.WalkKit
import Derived.Lib.Hide
import Derived.Outline
import Derived.Deep.LoopGhost
import Derived.Deep.QuietTactic
import Derived.BigQuiet
import Derived.Deep.WholeRow
import Derived.Laws.ResultCell
import Derived.Laws.Cover3
import Derived.Laws.OwnMore
import Derived.Laws.BytesString
import Derived.Lib.ConvBytes
import Derived.Lib.SmallJoins
import Derived.ProofKit
set_option linter.unusedVariables false
set_option linter.unusedSimpArgs false
namespace Go.Proofs.Ytpbidfmijliehaa.Fx
open Go Go.RowKit
theorem bdrew {B : Nat} {w w' : World} (n : Nat) (h : Below B (w.drewN n) w') : Below B w w' := ⟨h.os, h.tape, h.output, h.size, h.block⟩
theorem bdrew0 (B : Nat) (w : World) (n : Nat) : Below B w (w.drewN n) := bdrew n (Below.refl _ _)
theorem bdrewN {B : Nat} {a w : World} (n : Nat) (h : Below B a w) : Below B a (w.drewN n) := ⟨h.os, h.tape, h.output, h.size, h.block⟩
theorem bnext {w W1 W2 : World} (h : Below w.heap.size w W1) (k : Below W1.heap.size W1 W2) : Below w.heap.size w W2 := h.trans (k.mono h.size)
theorem keep_cell {w w' : World} {a : Addr} {v : Value} (hb : Below w.heap.size w w') (h : w.cell? a = some v) : w'.cell? a = some v := by
  rw [hb.cell]
  · exact h
  · exact block_lt_of_cell h
theorem keep_free {w w' : World} {b o : Nat} (hb : Below w.heap.size w w') (hs : b < w.heap.size) (h : w.frozen? ⟨b, o, none⟩ = false) : w'.frozen? ⟨b, o, none⟩ = false := by
  rw [hb.frozen (p := ⟨b, o, none⟩) hs]
  exact h
theorem keep_row {w w' : World} {b : Nat} {o : Obj} (hb : Below w.heap.size w w') (h : w.heap[b]? = some o) : w'.heap[b]? = some o := by
  rw [hb.block _ (Array.getElem?_eq_some_iff.1 h).1]; exact h
theorem frozen_row {w : World} {g j : Nat} {cs : Array Value} {t : TypeId} (hg : w.heap[g]? = some (.cells cs t (0, 0))) : w.frozen? ⟨g, j, none⟩ = false := by
  simp [World.frozen?, hg]
theorem step_row {w : World} {o : Obj} {b : Nat} {x : Obj} (h : w.heap[b]? = some x) : (w.alloc o).heap[b]? = some x := by
  rw [heap_alloc_old _ _ (Array.getElem?_eq_some_iff.1 h).1]
  exact h
theorem cell_alloc {w : World} {o : Obj} {a : Addr} {v : Value} (h : w.cell? a = some v) : (w.alloc o).cell? a = some v := by
  rw [World.cell?_of_block (w := w) (heap_alloc_old _ _ (block_lt_of_cell h))]
  exact h
theorem block3s (w : World) (A B C : Obj) : (((w.alloc A).alloc B).alloc C).heap[w.heap.size]? = some A ∧ (((w.alloc A).alloc B).alloc C).heap[w.heap.size + 1]? = some B ∧ (((w.alloc A).alloc B).alloc C).heap[w.heap.size + 1 + 1]? = some C := by
  have h0 := heap_alloc_new w A
  have h1 := heap_alloc_new (w.alloc A) B
  have h2 := heap_alloc_new ((w.alloc A).alloc B) C
  simp only [World.size_alloc] at h1 h2
  exact ⟨step_row (step_row h0), step_row h1, h2⟩
def Bs (W : World) (o : Option Addr) (l : List Nat) : Prop :=
  ∀ j, j < l.length → ∃ b off, o = some ⟨b, off, none⟩ ∧ W.cell? ⟨b, off + j, none⟩ = some (.int .u8 ((l.getD j 0 : Nat) : Int))
theorem Bs.below {w W : World} (h : Below w.heap.size w W) {o : Option Addr} {l : List Nat} (s : Bs w o l) : Bs W o l := fun j hj => by
  obtain ⟨b, off, e, hc⟩ := s j hj
  exact ⟨b, off, e, keep_cell h hc⟩
def By (l : List Nat) : Prop := ∀ c ∈ l, c < 256
theorem By.get {l : List Nat} (h : By l) (k : Nat) : l.getD k 0 < 256 := by
  by_cases hk : k < l.length
  · have : l.getD k 0 = l[k] := by simp [List.getD, hk]
    rw [this]
    exact h _ (List.getElem_mem hk)
  · simp [List.getD, hk]
theorem By.take {l : List Nat} (h : By l) (k : Nat) : By (l.take k) := fun c hc => h c (List.mem_of_mem_take hc)
theorem By.drop {l : List Nat} (h : By l) (k : Nat) : By (l.drop k) := fun c hc => h c (List.mem_of_mem_drop hc)
theorem By.append {l m : List Nat} (h : By l) (h2 : By m) : By (l ++ m) := fun c hc => (List.mem_append.1 hc).elim (h c) (h2 c)
theorem Bs.take {W : World} {o : Option Addr} {l : List Nat} (h : Bs W o l) (k : Nat) : Bs W o (l.take k) := fun j hj => by
  have hj2 : j < k ∧ j < l.length := by rw [List.length_take] at hj; omega
  obtain ⟨b, off, e, hc⟩ := h j hj2.2
  refine ⟨b, off, e, hc.trans ?_⟩
  simp [List.getD, List.getElem?_take, hj2.1]
theorem Bs.drop {W : World} {b off cap k : Nat} {l : List Nat} (hcap : l.length ≤ cap) (h : Bs W (some ⟨b, off, none⟩) l) : Bs W (if cap = k then some ⟨b, off, none⟩ else some ⟨b, off + k, none⟩) (l.drop k) := fun j hj => by
  rw [List.length_drop] at hj
  rw [if_neg (by omega)]
  obtain ⟨b', off', e, hc⟩ := h (k + j) (by omega)
  cases e
  refine ⟨b, off + k, rfl, ?_⟩
  rw [show off + k + j = off + (k + j) by omega, hc]
  simp [List.getD]
theorem Bs.nought {W : World} {o : Option Addr} : Bs W o [] := fun j hj => absurd hj (by simp)
def bR (l : List Nat) : Array Value := (l.map fun x : Nat => Value.int .u8 (x : Int)).toArray
theorem bR_size (l : List Nat) : (bR l).size = l.length := by simp [bR]
theorem bR_get (l : List Nat) {j : Nat} (h : j < l.length) : (bR l)[j]? = some (.int .u8 ((l.getD j 0 : Nat) : Int)) := by simp [bR, h, List.getD]
theorem Bs.row {W : World} {b : Nat} {l : List Nat} {t : TypeId} {fr : Nat × Nat} (h : W.heap[b]? = some (.cells (bR l) t fr)) : Bs W (some ⟨b, 0, none⟩) l := fun j hj =>
  ⟨b, 0, rfl, by rw [Nat.zero_add, cell_of_row _ _ _ _ _ _ h, bR_get l hj]⟩
theorem By.of {l : List Nat} (h : l.all (fun c => decide (c < 256)) = true) : By l := fun c hc => by
  have := List.all_eq_true.1 h c hc
  simpa using this
def encB (x : Nat) : Value := .int .u8 (x : Int)
def Own (W : World) (B : Nat) (v : Value) (l : List Nat) : Prop := W.ownsRow B 5 1 v l.length (l.map encB)
theorem Own.below {w W : World} {B : Nat} {v : Value} {l : List Nat} (h : Below w.heap.size w W) (s : Own w B v l) : Own W B v l := by
  obtain ⟨h1, h2⟩ := s
  refine ⟨h1, ?_⟩
  rcases h2 with h2 | ⟨g, cap, cur, e, hb, hg, h3⟩
  · exact Or.inl h2
  · exact Or.inr ⟨g, cap, cur, e, hb, keep_row h hg, h3⟩
theorem Own.mono {W : World} {B C : Nat} {v : Value} {l : List Nat} (hB : B ≤ C) (s : Own W C v l) : Own W B v l := by
  obtain ⟨h1, h2⟩ := s
  refine ⟨h1, ?_⟩
  rcases h2 with h2 | ⟨g, cap, cur, e, hb, h3⟩
  · exact Or.inl h2
  · exact Or.inr ⟨g, cap, cur, e, Nat.le_trans hB hb, h3⟩
theorem Own.open {W : World} {B : Nat} {v : Value} {l : List Nat} (s : Own W B v l) : ∃ o cap, v = .slice o l.length cap ∧ Bs W o l ∧ l.length ≤ cap ∧ cap ≤ 9223372036854775807 ∧ (o = none → cap = 0) ∧ (∀ a, o = some a → ∃ g, a = ⟨g, 0, none⟩ ∧ B ≤ g ∧ g < W.heap.size ∧ ∀ j, W.frozen? ⟨g, j, none⟩ = false) := by
  obtain ⟨h1, h2⟩ := s
  rcases h2 with ⟨rfl, h0⟩ | ⟨g, cap, cur, rfl, hb, hg, hc, hm, hs, ht⟩
  · have : l = [] := List.length_eq_zero_iff.1 h0
    subst this
    exact ⟨none, 0, rfl, Bs.nought, by simp, by omega, fun _ => rfl, fun a h => by cases h⟩
  · refine ⟨some ⟨g, 0, none⟩, cap, rfl, fun j hj => ⟨g, 0, rfl, ?_⟩, hc, by unfold maxLen at hm; omega, (fun h => by cases h), fun a h => ⟨g, (Option.some.inj h).symm, hb, (Array.getElem?_eq_some_iff.1 hg).1, fun j => frozen_row hg⟩⟩
    rw [Nat.zero_add, cell_of_row _ _ _ _ _ _ hg]
    have h3 : (cur.toList.take (l.length * 1))[j]? = some (encB (l.getD j 0)) := by rw [ht]; simp [hj, List.getD]
    rw [List.getElem?_take, if_pos (by omega)] at h3
    simpa [encB] using h3
theorem news_of {W : World} {b off : Nat} {l : List Nat} (h : Bs W (some ⟨b, off, none⟩) l) : ∀ j u, (l.map encB)[j]? = some u → W.cell? ((⟨b, off, none⟩ : Addr).add j) = some u := by
  intro j u hu
  have hj : j < l.length := by
    have := (List.getElem?_eq_some_iff.1 hu).1
    simpa using this
  obtain ⟨b', off', e, hc⟩ := h j hj
  cases e
  rw [Addr.add_lit, hc, ← hu]
  simp [hj, encB, List.getD]
theorem news_one (l : List Nat) : ∀ u ∈ l.map encB, u.oneCell' = true := by
  intro u hu
  obtain ⟨x, _, rfl⟩ := List.mem_map.1 hu
  rfl
theorem info5 : (Try.prog.info? 5).map (fun i => (i.zero, i.size, i.bytes)) = some (some (.int .u8 0), 1, 1) := by kernel_rfl
theorem run_eql_nil (w : World) (t e : TypeId) (a : Option Addr) (l c : Nat) (h : Try.prog.underlying t = some (.slice e)) : (binOp .eql t (.slice a l c) (.slice none 0 0)).run Try.prog w = .ok (.bool a.isNone) w := by
  show ((do pure (.bool (← Op.equal t (.slice a l c) (.slice none 0 0)))) : Sem Value).run Try.prog w = _
  simp [run_equal_slice_nil w t e a l c h]
theorem bR_one (l : List Nat) : (bR l).all (·.oneCell') = true := by
  simp only [bR, List.all_toArray, List.all_map, List.all_eq_true]
  intro i _
  rfl
def bstr (l : List Nat) : ByteArray := ⟨(l.map UInt8.ofNat).toArray⟩
theorem push_all (l : List Nat) : ∀ (b : ByteArray), (l.map fun x : Nat => (x : Int)).foldl (fun r n => r.push (UInt8.ofNat n.toNat)) b = ⟨b.data ++ (l.map UInt8.ofNat).toArray⟩ := by
  induction l with
  | nil => intro b; simp
  | cons x l ih =>
    intro b
    simp only [List.map_cons, List.foldl_cons]
    rw [ih]
    simp [ByteArray.push]
theorem news_any {W : World} {o : Option Addr} {l : List Nat} (h : Bs W o l) : ∀ ad, o = some ad → ∀ j u, (l.map encB)[j]? = some u → W.cell? (ad.add j) = some u := by
  intro ad e j u hu
  have hj : j < l.length := by
    have := (List.getElem?_eq_some_iff.1 hu).1
    simpa using this
  obtain ⟨b, off, e2, hc⟩ := h j hj
  rw [e] at e2
  cases e2
  rw [Addr.add_lit, hc, ← hu]
  simp [hj, encB, List.getD]
theorem nil_of {W : World} {l : List Nat} (h : Bs W none l) : l = [] := by
  cases l with
  | nil => rfl
  | cons x l => obtain ⟨_, _, e, _⟩ := h 0 (by simp); cases e
theorem conv_bs {W : World} {o : Option Addr} {l : List Nat} {n : Nat} (cap : Nat) (hn : l.length = n) (h : Bs W o l) : (convert 27 9 (.slice o n cap)).run Try.prog W = .ok (.string (bstr l)) W := by
  subst hn
  rw [run_convert_bytes_string W _ _ _ _ _ _ Try.underlying27 Try.underlying5 Try.underlying9]
  cases o with
  | none =>
    have : l = [] := by
      cases l with
      | nil => rfl
      | cons x l => obtain ⟨_, _, e, _⟩ := h 0 (by simp); cases e
    subst this
    rfl
  | some a =>
    have hl := run_loadCells_list (P := Try.prog) (w := W) a (l.map encB) (news_any h a rfl)
    rw [List.length_map] at hl
    have hm : l.map encB = (l.map fun x : Nat => (x : Int)).map (Value.int .u8) := by simp [encB]
    rw [hm] at hl
    rw [run_bytesToString W _ _ _ _ hl, push_all]
    simp [bstr, ByteArray.empty, ByteArray.emptyWithCapacity]
    rfl
theorem bs_part {W : World} {b off : Nat} {l m : List Nat} (h : Bs W (some ⟨b, off, none⟩) (l ++ m)) : Bs W (some ⟨b, off, none⟩) l := by
  have := h.take l.length
  rwa [List.take_left] at this
theorem bs_at {W : World} {b off : Nat} {l : List Nat} (h : Bs W (some ⟨b, off, none⟩) l) {j : Nat} (hj : j < l.length) : W.cell? ⟨b, off + j, none⟩ = some (.int .u8 ((l.getD j 0 : Nat) : Int)) := by
  obtain ⟨_, _, e, hc⟩ := h j hj
  cases e
  exact hc
theorem lit_row (w : World) (l : List Nat) (C : Array Value) (hC : C = bR l) (fr : Nat × Nat) : Bs (w.alloc (.cells C 5 fr)) (some ⟨w.heap.size, 0, none⟩) l := by
  subst hC
  exact Bs.row (heap_alloc_new w _)
end Go.Proofs.Ytpbidfmijliehaa.Fx
