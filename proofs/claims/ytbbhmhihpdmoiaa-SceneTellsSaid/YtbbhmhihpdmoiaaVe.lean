/- What the program's rules ask of one object: its five closures, walked. -/
import Derived.Test.YtbbhmhihpdmoiaaProg
import Derived.Test.YtbbhmhihpdmoiaaVa
import Derived.Test.YtbbhmhihpdmoiaaVc
import Derived.Test.YtbbhmhihpdmoiaaVd
import Derived.Test.YtbbhmhihpdmoiaaSd
import Derived.Test.YtbbhmhihpdmoiaaMu
set_option linter.unusedVariables false
set_option linter.unusedSimpArgs false
namespace Go.Proofs.Ytbbhmhihpdmoiaa.Fx
open Go Go.RowKit Go.Shelf
theorem far_any3 {v : List Int} (h : v.length = 3) : v.any farZ = !fineV v := by
  match v, h with
  | [a, b, c], _ => simp [fineV, Bool.or_assoc]
/-- an object in its box -/
structure BoxO (x : ObjR) (B : Nat) (V : World) : Prop where
  row : V.heap[B]? = some (.cells (objL x).toArray 44 (0, 0))
  wf : ObjWf x
theorem BoxO.at {x : ObjR} {B j : Nat} {V : World} (i : BoxO x B V) : V.cell? ⟨B, j, none⟩ = (objL x)[j]? := by
  rw [cell_of_row _ _ _ _ _ _ i.row]
  simp
theorem BoxO.c0 {x : ObjR} {B : Nat} {V : World} (i : BoxO x B V) : V.cell? ⟨B, 0, none⟩ = some (.int .i64 x.id) := i.at
theorem BoxO.c17 {x : ObjR} {B : Nat} {V : World} (i : BoxO x B V) : V.cell? ⟨B, 17, none⟩ = some (.slice x.vo x.vs.length x.vc) := i.at.trans (objL_vs i.wf)
theorem BoxO.c18 {x : ObjR} {B : Nat} {V : World} (i : BoxO x B V) : V.cell? ⟨B, 18, none⟩ = some (.slice x.tq x.ts.length x.tc) := i.at.trans (objL_ts i.wf)
theorem BoxO.mat {x : ObjR} {B : Nat} {V : World} (i : BoxO x B V) : V.rangeAt B 1 (x.m.map encI) := fun j v hj => i.at.trans (objL_m hj)
theorem BoxO.up {x : ObjR} {B : Nat} {V X : World} (hb : Below V.heap.size V X) (i : BoxO x B V) : BoxO x B X := ⟨keep_row hb i.row, i.wf⟩
theorem BoxO.new (x : ObjR) (w : World) (h : ObjWf x) : BoxO x w.heap.size (w.alloc (.cells (objL x).toArray 44)) := ⟨heap_alloc_new _ _, h⟩
theorem ObjsAt.wf {W : World} {o : Option Addr} {l : List ObjR} {k : Nat} {x : ObjR} (h : ObjsAt W o l) (hx : l[k]? = some x) : ObjWf x ∧ VertsAt W x.vo x.vs ∧ TrisAt W x.tq x.ts := by
  obtain ⟨b, off, e, hat⟩ := h k x hx
  exact ⟨hat.wf, hat.verts, hat.tris⟩
theorem ScAt.all {A : Nat} {s : ScR} {W : World} (h : ScAt A s W) : W.rangeAt A 0 (scL s) := fun j v hj => by
  rw [Nat.zero_add]
  exact h.at.trans hj
theorem sizeS {s : ScR} (hs : ScWf s) : (Try.prog.info? 28).map (·.size) = some (scL s).length := by rw [scL_len hs]; kernel_rfl
theorem find_first {s : ScR} {x : ObjR} {k : Nat} (hx : s.os[k]? = some x) : ((s.os.take k).all fun y => decide (y.id ≠ x.id)) = decide ((findZ s.os x.id).getD 0 = k) := by
  obtain ⟨hkl, hx'⟩ := List.getElem?_eq_some_iff.1 hx
  cases h : findZ (s.os.take k) x.id with
  | none =>
    rw [find_hit hx h rfl]
    have : ((s.os.take k).all fun y => decide (y.id ≠ x.id)) = true := by
      unfold findZ at h
      rw [List.findIdx?_eq_none_iff] at h
      rw [List.all_eq_true]
      intro y hy
      have := h y hy
      simpa using this
    rw [this]
    simp
  | some i =>
    have hi : findZ s.os x.id = some i := by
      unfold findZ at h ⊢
      rw [← List.take_append_drop k s.os, List.findIdx?_append, h]
      rfl
    have hlt : i < k := by
      unfold findZ at h
      obtain ⟨h1, _⟩ := List.findIdx?_eq_some_iff_getElem.1 h
      simp at h1
      omega
    have : ((s.os.take k).all fun y => decide (y.id ≠ x.id)) = false := by
      unfold findZ at h
      obtain ⟨h1, h2, _⟩ := List.findIdx?_eq_some_iff_getElem.1 h
      rw [List.all_eq_false]
      exact ⟨_, List.getElem_mem h1, by simpa using h2⟩
    rw [this, hi]
    simp
    omega
/-- what the program asks of both matrices -/
def keep6p (s : ScR) (k : Nat) : Bool := wB 67108864 ((bothO s (k : Int)).getD zero16) 16
theorem bothO_len (s : ScR) (k : Int) : ((bothO s k).getD zero16).length = 16 := by
  cases h : bothO s k with
  | none => rfl
  | some m =>
    unfold bothO at h
    split at h
    · cases hx : s.os[k.toNat]? with
      | none => rw [hx] at h; cases h
      | some x =>
        rw [hx] at h
        exact mulO_len h
    · cases h
theorem any_not {α : Type} (l : List α) (p : α → Bool) : l.any (fun x => !p x) = !l.all p := by
  induction l with
  | nil => rfl
  | cons a t ih => simp [ih, Bool.not_and]
/-- is a number no place among n? -/
def outN (n z : Int) : Bool := decide (z < 0) || decide (n ≤ z)
theorem fine_out (n : Int) (t : TriR) : (!([t.a, t.b, t.c].any (outN n))) = fineT n t := by
  unfold fineT outN
  simp only [List.any_cons, List.any_nil, Bool.or_false]
  congr 1
  cases decide (t.a < 0) <;> cases decide (t.b < 0) <;> cases decide (t.c < 0) <;> cases decide (n ≤ t.a) <;> cases decide (n ≤ t.b) <;> cases decide (n ≤ t.c) <;> rfl
end Go.Proofs.Ytbbhmhihpdmoiaa.Fx
