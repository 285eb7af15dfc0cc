/- A scene in its row; is it more than statements go through, where is an object: walked. 
  One object and the rules of scenes: what the document's holds answers; rules of numbers, vertices and triangles, walked. -/
import Derived.Test.YtildnadkfonlhaaProg
import Derived.Test.YtildnadkfonlhaaSa
import Derived.Test.YtildnadkfonlhaaBb
import Derived.BigQuiet
set_option linter.unusedVariables false
set_option linter.unusedSimpArgs false
namespace Go.Proofs.Ytildnadkfonlhaa.Fx
open Go Go.RowKit
def ScAt (B : Nat) (s : ScR) (W : World) : Prop := W.heap[B]? = some (.cells (scC s) 32 (0, 0))
theorem ScAt.new (w : World) (s : ScR) : ScAt w.heap.size s (w.alloc (.cells (scC s) 32)) := heap_alloc_new _ _
theorem ScAt.below {B : Nat} {s : ScR} {w W : World} (hb : Below w.heap.size w W) (h : ScAt B s w) : ScAt B s W := keep_row hb h
theorem ScAt.at {B j : Nat} {s : ScR} {W : World} (h : ScAt B s W) : W.cell? ⟨B, j, none⟩ = (scL s)[j]? := by
  rw [cell_of_row _ _ _ _ _ _ h]
  simp [scC]
theorem ScAt.c0 {B : Nat} {s : ScR} {W : World} (h : ScAt B s W) : W.cell? ⟨B, 0, none⟩ = some (.int .i64 s.w) := h.at
theorem ScAt.c1 {B : Nat} {s : ScR} {W : World} (h : ScAt B s W) : W.cell? ⟨B, 1, none⟩ = some (.int .i64 s.h) := h.at
theorem ScAt.c18 {B : Nat} {s : ScR} {W : World} (h : ScAt B s W) (hs : ScWf s) : W.cell? ⟨B, 18, none⟩ = some (.slice s.oo s.os.length s.oc) := h.at.trans (scL_os hs)
theorem ScAt.cam {B : Nat} {s : ScR} {W : World} (h : ScAt B s W) : W.rangeAt B 2 (s.cam.map encI) := fun j v hj => h.at.trans (scL_cam hj)
theorem ObjAt.c0 {W : World} {b j : Nat} {x : ObjR} (h : ObjAt W b j x) : W.cell? ⟨b, j, none⟩ = some (.int .i64 x.id) := h.cells 0 _ (objL_id x)
theorem ObjAt.c17 {W : World} {b j : Nat} {x : ObjR} (h : ObjAt W b j x) : W.cell? ⟨b, j + 17, none⟩ = some (.slice x.vo x.vs.length x.vc) := h.cells 17 _ (objL_vs h.wf)
theorem ObjAt.c18 {W : World} {b j : Nat} {x : ObjR} (h : ObjAt W b j x) : W.cell? ⟨b, j + 18, none⟩ = some (.slice x.tq x.ts.length x.tc) := h.cells 18 _ (objL_ts h.wf)
theorem ObjAt.mat {W : World} {b j : Nat} {x : ObjR} (h : ObjAt W b j x) : W.rangeAt b (j + 1) (x.m.map encI) := fun i v hi => by
  rw [Nat.add_assoc]
  exact h.cells (1 + i) _ (objL_m hi)
def bI (b : Bool) : Int := if b then 1 else 0
def bigZ (x : ObjR) : Bool := decide (80 < x.vs.length) || decide (80 < x.ts.length)
def greatZ (s : ScR) : Bool := decide (20 < s.os.length) || s.os.any bigZ
/-- where the first is, from a place on -/
def findZ (l : List ObjR) (id : Int) : Option Nat := l.findIdx? fun x => decide (x.id = id)
def RetFind (o : Option Nat) (w : World) (e : Ending) (w' : World) : Prop := e = .returned (.tuple #[.int .i64 ((o.getD 0 : Nat) : Int), .bool o.isSome]) ∧ Below w.heap.size w w'
end Go.Proofs.Ytildnadkfonlhaa.Fx
set_option linter.unusedVariables false
set_option linter.unusedSimpArgs false
namespace Go.Proofs.Ytildnadkfonlhaa.Fx
open Go Go.RowKit
def farZ (n : Int) : Bool := decide (1073741824 < n) || decide (n < -1073741824)
theorem objL_one (x : ObjR) : (objL x).toArray.all (·.oneCell') = true := by
  rw [List.all_toArray, List.all_eq_true]
  intro v hv
  unfold objL at hv
  rcases List.mem_cons.1 hv with rfl | hv
  · rfl
  rcases List.mem_append.1 hv with hv | hv
  · obtain ⟨z, _, rfl⟩ := List.mem_map.1 hv
    rfl
  · rcases List.mem_cons.1 hv with rfl | hv
    · rfl
    rcases List.mem_cons.1 hv with rfl | hv
    · rfl
    cases hv
theorem triL_one (t : TriR) : (triL t).toArray.all (·.oneCell') = true := by simp [triL, Value.oneCell']
/-- a scene in its row, one of its objects in the next -/
structure HoI (s : ScR) (x : ObjR) (w V : World) : Prop where
  sc : ScAt w.heap.size s V
  xr : V.heap[w.heap.size + 1]? = some (.cells (objL x).toArray 48 (0, 0))
  ob : ObjsAt V s.oo s.os
  vs : VertsAt V x.vo x.vs
  ts : TrisAt V x.tq x.ts
  bel : Below w.heap.size w V
theorem HoI.up {s : ScR} {x : ObjR} {w V X : World} (i : HoI s x w V) (hb : Below V.heap.size V X) : HoI s x w X :=
  ⟨i.sc.below hb, keep_row hb i.xr, i.ob.below hb, i.vs.below hb, i.ts.below hb, bnext i.bel hb⟩
theorem HoI.new {s : ScR} {x : ObjR} {k : Nat} {w : World} (hs : ScWf s) (h : ObjsAt w s.oo s.os) (hx : s.os[k]? = some x) : HoI s x w ((w.alloc (.cells (scC s) 32)).alloc (.cells (objL x).toArray 48)) := by
  have hB : Below w.heap.size w ((w.alloc (.cells (scC s) 32)).alloc (.cells (objL x).toArray 48)) := by go_grown
  obtain ⟨b, off, e, hat⟩ := h k x hx
  refine ⟨step_row (ScAt.new w s), ?_, h.below hB, hat.verts.below hB, hat.tris.below hB, hB⟩
  have := heap_alloc_new (w.alloc (.cells (scC s) 32)) (.cells (objL x).toArray 48)
  rw [World.size_alloc] at this
  exact this
theorem HoI.at {s : ScR} {x : ObjR} {w V : World} {j : Nat} (i : HoI s x w V) : V.cell? ⟨w.heap.size + 1, j, none⟩ = (objL x)[j]? := by
  rw [cell_of_row _ _ _ _ _ _ i.xr]
  simp
theorem HoI.x0 {s : ScR} {x : ObjR} {w V : World} (i : HoI s x w V) : V.cell? ⟨w.heap.size + 1, 0, none⟩ = some (.int .i64 x.id) := i.at
theorem HoI.x17 {s : ScR} {x : ObjR} {w V : World} (i : HoI s x w V) (hw : ObjWf x) : V.cell? ⟨w.heap.size + 1, 17, none⟩ = some (.slice x.vo x.vs.length x.vc) := i.at.trans (objL_vs hw)
theorem HoI.x18 {s : ScR} {x : ObjR} {w V : World} (i : HoI s x w V) (hw : ObjWf x) : V.cell? ⟨w.heap.size + 1, 18, none⟩ = some (.slice x.tq x.ts.length x.tc) := i.at.trans (objL_ts hw)
theorem HoI.mat {s : ScR} {x : ObjR} {w V : World} (i : HoI s x w V) : V.rangeAt (w.heap.size + 1) 1 (x.m.map encI) := fun j v hj => i.at.trans (objL_m hj)
theorem HoI.cam {s : ScR} {x : ObjR} {w V : World} (i : HoI s x w V) : V.rangeAt w.heap.size 2 (s.cam.map encI) := i.sc.cam
def fineV (v : List Int) : Bool := !(farZ (v.getD 0 0) || farZ (v.getD 1 0) || farZ (v.getD 2 0))
def fineT (n : Int) (t : TriR) : Bool := !(decide (t.a < 0) || decide (t.b < 0) || decide (t.c < 0) || decide (n ≤ t.a) || decide (n ≤ t.b) || decide (n ≤ t.c))
def keep4 (s : ScR) (x : ObjR) (k : Nat) : Bool := (s.os.take k).all (fun y => decide (y.id ≠ x.id)) && (decide (1 ≤ x.id) && decide (x.id ≤ 65535))
def keep7 (s : ScR) (x : ObjR) (k : Nat) : Bool := x.vs.all fineV && decide ((x.vs.length : Int) ≤ 64)
def keep8 (s : ScR) (x : ObjR) (k : Nat) : Bool := x.ts.all (fineT (x.vs.length : Int)) && decide ((x.ts.length : Int) ≤ 64)
theorem all_snoc {α : Type} {l : List α} {p : α → Bool} {k : Nat} {x : α} (hx : l[k]? = some x) (h : (l.take k).all p = true) : (l.take (k + 1)).all p = p x := by
  rw [List.take_add_one, hx, List.all_append, h]
  simp
theorem all_no {α : Type} {l : List α} {p : α → Bool} {k : Nat} {x : α} (hx : l[k]? = some x) (h : p x = false) : l.all p = false := by
  rw [List.all_eq_false]
  exact ⟨x, List.mem_of_getElem? hx, by simp [h]⟩
def T8Rel (s : ScR) (x : ObjR) (w : World) (m : Nat) (g : Nat) (u : Value) (W : World) : Prop :=
  ∃ i, g = m - i ∧ u = .int .i64 (i : Int) ∧ i ≤ m ∧ (x.ts.take i).all (fineT (x.vs.length : Int)) = true ∧ HoI s x w W
def T4Rel (s : ScR) (x : ObjR) (w : World) (k : Nat) (g : Nat) (u : Value) (W : World) : Prop :=
  ∃ i, g = k - i ∧ u = .int .i64 (i : Int) ∧ i ≤ k ∧ (s.os.take i).all (fun y => decide (y.id ≠ x.id)) = true ∧ HoI s x w W
end Go.Proofs.Ytildnadkfonlhaa.Fx
