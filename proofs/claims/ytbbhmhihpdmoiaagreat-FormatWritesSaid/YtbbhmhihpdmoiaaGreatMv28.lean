import Derived.Laws.Rows
import Derived.Test.YtbbhmhihpdmoiaaGreatProg
import Derived.Shelf.Abstract
import Derived.Shelf.RegionOpen
import Derived.WalkKit
import Derived.OwnWalkIn
import Derived.TacticsInMore
import Derived.LoopNIn
import Derived.LoopIn
import Derived.Lib.Hide
import Derived.Outline
import Derived.Deep.QuietTactic
import Derived.BigQuiet
import Derived.Maps.AppendAt
import Derived.Test.YtbbhmhihpdmoiaaGreatMv00
import Derived.Test.YtbbhmhihpdmoiaaGreatMv01
import Derived.Test.YtbbhmhihpdmoiaaGreatMv02
import Derived.Test.YtbbhmhihpdmoiaaGreatMv23
import Derived.Test.YtbbhmhihpdmoiaaGreatMv25
import Derived.Test.YtbbhmhihpdmoiaaGreatMv26
import Derived.Test.YtbbhmhihpdmoiaaGreatMv27
set_option linter.unusedVariables false
set_option linter.unusedSimpArgs false
namespace Go.Proofs.YtbbhmhihpdmoiaaGreat.Fx
open Go Go.RowKit Go.Shelf
attribute [local go_sem] Oper.semAt_some
def Rows (t : TypeId) (W X : World) : Prop := ∀ (g : Nat) (cur : Array Value), W.heap[g]? = some (.cells cur t (0, 0)) → X.heap[g]? = some (.cells cur t (0, 0))
theorem Rows.refl (t : TypeId) (W : World) : Rows t W W := fun _ _ h => h
theorem Rows.trans {t : TypeId} {W X Y : World} (h : Rows t W X) (k : Rows t X Y) : Rows t W Y := fun g cur hg => k g cur (h g cur hg)
theorem Rows.of_below {t : TypeId} {W X : World} (h : Below W.heap.size W X) : Rows t W X := fun g cur hg => keep_row h hg
theorem Rows.of_kept {t : TypeId} {B : Nat} {W X : World} (h : Kept B W X) : Rows t W X := fun g cur hg => h.cells hg
theorem Rows.of_set {t u : TypeId} {m j : Nat} {c : Array Value} {v : Value} {W : World} (hm : W.heap[m]? = some (.cells c u (0, 0))) (hne : t ≠ u) : Rows t W (W.setCell ⟨m, j, none⟩ v) := fun g cur hg => by
 rw [heap_setCell_other _ _ _ _ (by
  show g ≠ m
  intro e
  subst e
  rw [hg] at hm
  cases hm
  exact hne rfl)]
 exact hg
theorem Rows.of_grown {t u : TypeId} {row : Option Nat} {W X : World} (h : W.grownBy X row) (hr : ∀ k, row = some k → ∃ c, W.heap[k]? = some (.cells c u (0, 0))) (hne : t ≠ u) : Rows t W X := fun g cur hg => by
 rw [h.block g (Array.getElem?_eq_some_iff.1 hg).1 (fun e => by
  obtain ⟨c, hc⟩ := hr g e.symm
  rw [hg] at hc
  cases hc
  exact hne rfl)]
 exact hg
theorem LiesG.rows {α : Type} {t : TypeId} {n : Nat} {f : α → List Value} {W X : World} {B : Nat} {o : Option Addr} {l : List α} (s : LiesG t n f W B o l) (h : Rows t W X) : LiesG t n f X B o l :=
 ⟨fun k z hk => by
  obtain ⟨g, cur, e, hb, hg, hs, hr⟩ := s.at_ k z hk
  refine ⟨g, cur, e, hb, h g cur hg, hs, fun j u hj => ?_⟩
  have := hr j u hj
  rw [cell_of_row _ _ _ _ _ _ hg] at this
  rw [cell_of_row _ _ _ _ _ _ (h g cur hg)]
  exact this⟩
theorem LiesG.base {α : Type} {t : TypeId} {n : Nat} {f : α → List Value} {W : World} {B C : Nat} {o : Option Addr} {l : List α} (hc : C ≤ B) (s : LiesG t n f W B o l) : LiesG t n f W C o l :=
 ⟨fun k z hk => by
  obtain ⟨g, cur, e, hb, h⟩ := s.at_ k z hk
  exact ⟨g, cur, e, Nat.le_trans hc hb, h⟩⟩
structure FreshO (B : Nat) (x : ObjR) (W : World) : Prop where
 wf : ObjWf x
 v : LiesG 85 3 (fun z => z.map encI) W B x.vo x.vs
 t : LiesG 87 4 triL W B x.tq x.ts
 vw : ∀ z ∈ x.vs, VertWf z
 tw : ∀ z ∈ x.ts, TriWf z
theorem FreshO.rows {B : Nat} {x : ObjR} {W X : World} (s : FreshO B x W) (h3 : Rows 85 W X) (h4 : Rows 87 W X) : FreshO B x X := ⟨s.wf, s.v.rows h3, s.t.rows h4, s.vw, s.tw⟩
theorem FreshO.base {B C : Nat} {x : ObjR} {W : World} (hc : C ≤ B) (s : FreshO B x W) : FreshO C x W := ⟨s.wf, s.v.base hc, s.t.base hc, s.vw, s.tw⟩
structure FreshS (B : Nat) (c : ScR) (W : World) : Prop where
 wf : ScWf c
 objs : LiesG 73 19 objL W B c.oo c.os
 each : ∀ x ∈ c.os, FreshO B x W
theorem FreshS.at {B : Nat} {c : ScR} {W : World} (s : FreshS B c W) : ObjsAt W c.oo c.os := fun k z hk => by
 obtain ⟨g, cur, e, _, _, _, h⟩ := s.objs.at_ k z hk
 have hz := s.each z (List.mem_of_getElem? hk)
 exact ⟨g, 0, e, h, hz.v.verts hz.vw, hz.t.tris hz.tw, hz.wf⟩
def twL (s : ScR) (v : Value) : List Value := .int .i64 s.w :: .int .i64 s.h :: (s.cam.map encI ++ [v])
theorem twL_len {s : ScR} (h : ScWf s) (v : Value) : (twL s v).toArray.size = 19 := by simp [twL, h.len]
theorem twL_one (s : ScR) (v : Value) (hv : v.oneCell' = true) : (twL s v).toArray.all (·.oneCell') = true := by
 rw [Array.all_eq_true_iff_forall_mem]
 intro u hu
 simp only [twL, List.mem_toArray, List.mem_cons, List.mem_append, List.mem_map, List.not_mem_nil, or_false] at hu
 rcases hu with rfl | rfl | ⟨z, _, rfl⟩ | rfl
 ·rfl
 ·rfl
 ·rfl
 ·exact hv
theorem twL_set {s : ScR} (h : ScWf s) (v u : Value) : (twL s v).toArray.setIfInBounds 18 u = (twL s u).toArray := by
 simp [twL, List.set_append, h.len]
theorem twL_at {s : ScR} (h : ScWf s) (v : Value) : (twL s v).toArray[18]? = some v := by
 simp [twL, h.len]
theorem objL_set17 {x : ObjR} (h : x.m.length = 16) (o : Option Addr) (c : Nat) : (objL x).toArray.setIfInBounds 17 (.slice o x.vs.length c) = (objL { x with vo := o, vc := c }).toArray := by
 simp [objL, List.set_append, h]
theorem objL_set18 {x : ObjR} (h : x.m.length = 16) (o : Option Addr) (c : Nat) : (objL x).toArray.setIfInBounds 18 (.slice o x.ts.length c) = (objL { x with tq := o, tc := c }).toArray := by
 simp [objL, List.set_append, h]
structure CpS (s : ScR) (v : Value) (l : List ObjR) (w W : World) : Prop where
 box : ScAt w.heap.size s W
 res : W.heap[w.heap.size + 1]? = some (.cells #[.int .i64 0, .int .i64 0, .int .i64 0, .int .i64 0, .int .i64 0, .int .i64 0, .int .i64 0, .int .i64 0, .int .i64 0, .int .i64 0, .int .i64 0, .int .i64 0, .int .i64 0, .int .i64 0, .int .i64 0, .int .i64 0, .int .i64 0, .int .i64 0, .slice none 0 0] 28 (0, 0))
 twin : W.heap[w.heap.size + 1 + 1]? = some (.cells (twL s v).toArray 28 (0, 0))
 it : ScAt (w.heap.size + 1 + 1 + 1) s W
 own : OwnG 73 19 objL W (w.heap.size + 1 + 1 + 1 + 1) v l
 each : ∀ x ∈ l, FreshO (w.heap.size + 1 + 1 + 1 + 1) x W
 below : Below w.heap.size w W
theorem CpS.kept {s : ScR} {v : Value} {l : List ObjR} {B : Nat} {w W X : World} (hB : w.heap.size ≤ B) (h : Kept B W X) (i : CpS s v l w W) : CpS s v l w X :=
 ⟨i.box.kept h, h.cells i.res, h.cells i.twin, i.it.kept h, i.own.kept h, fun x hx => (i.each x hx).rows (Rows.of_kept h) (Rows.of_kept h), h.below hB i.below⟩
theorem CpS.up {s : ScR} {v : Value} {l : List ObjR} {w W X : World} (h : Below W.heap.size W X) (i : CpS s v l w W) : CpS s v l w X :=
 ⟨i.box.below h, keep_row h i.res, keep_row h i.twin, i.it.below h, i.own.below h, fun x hx => (i.each x hx).rows (Rows.of_below h) (Rows.of_below h), bnext i.below h⟩
theorem CpS.put {s : ScR} {v u : Value} {l : List ObjR} {w W : World} {b j : Nat} {c : Array Value} (i : CpS s v l w W) (hb : w.heap.size + 1 + 1 + 1 < b) (ho : v.ownBlock ≠ some b) (hr : W.heap[b]? = some (.cells c 73 (0, 0))) : CpS s v l w (W.setCell ⟨b, j, none⟩ u) := by
 have keep : ∀ {g : Nat} {o : Obj}, g < b → W.heap[g]? = some o → (W.setCell ⟨b, j, none⟩ u).heap[g]? = some o := fun hlt h => by
  rw [heap_setCell_other _ _ _ _ (by show _ ≠ b; omega)]
  exact h
 exact ⟨keep (by omega) i.box, keep (by omega) i.res, keep (by omega) i.twin, keep (by omega) i.it, i.own.cellset ho,
  fun x hx => (i.each x hx).rows (Rows.of_set hr (by decide)) (Rows.of_set hr (by decide)), i.below.setCell (p := ⟨b, j, none⟩) (by show _ ≤ b; omega) _⟩
theorem CpS.step {s : ScR} {v v' : Value} {l l' : List ObjR} {w W X : World} (hs : ScWf s) (i : CpS s v l w W) (ho : OwnG 73 19 objL X (w.heap.size + 1 + 1 + 1 + 1) v' l') (hg : W.grownBy X v.ownBlock) (he : ∀ x ∈ l', FreshO (w.heap.size + 1 + 1 + 1 + 1) x W) :
  CpS s v' l' w (X.setCell ⟨w.heap.size + 1 + 1, 18, none⟩ v') := by
 have hb := i.own.blk
 have keep : ∀ {g : Nat} {o : Obj}, g < w.heap.size + 1 + 1 + 1 + 1 → W.heap[g]? = some o → X.heap[g]? = some o := fun hlt h => by
  rw [hg.block _ (Array.getElem?_eq_some_iff.1 h).1 (fun e => by have := hb _ e.symm; omega)]
  exact h
 have k2 : ∀ {g : Nat} {o : Obj}, g ≠ w.heap.size + 1 + 1 → g < w.heap.size + 1 + 1 + 1 + 1 → W.heap[g]? = some o → (X.setCell ⟨w.heap.size + 1 + 1, 18, none⟩ v').heap[g]? = some o := fun hne hlt h => by
  rw [heap_setCell_other _ _ _ _ hne]
  exact keep hlt h
 have ht := keep (by omega) i.twin
 refine ⟨k2 (by omega) (by omega) i.box, k2 (by omega) (by omega) i.res, ?_, k2 (by omega) (by omega) i.it, ho.cellset (fun e => by have := ho.blk _ e; omega), fun x hx => ?_, ?_⟩
 ·rw [heap_setCell_same _ _ 18 _ _ v' ht, twL_set hs]
 ·have h1 : ∀ {t : TypeId}, t ≠ 73 → t ≠ 28 → Rows t W (X.setCell ⟨w.heap.size + 1 + 1, 18, none⟩ v') := fun n1 n2 => (Rows.of_grown hg (fun k hk => i.own.row k hk) n1).trans (Rows.of_set ht n2)
  exact (he x hx).rows (h1 (by decide) (by decide)) (h1 (by decide) (by decide))
 ·exact (below_grown2 (Nat.le_refl _) i.below hg (fun k hk => by have := hb k hk; omega)).setCell (p := ⟨w.heap.size + 1 + 1, 18, none⟩) (by show _ ≤ w.heap.size + 1 + 1; omega) _
theorem below_none {W X : World} (hg : W.grownBy X none) : Below W.heap.size W X := below_grown2 (Nat.le_refl _) (Below.refl _ _) hg (fun k hk => by cases hk)
theorem sizeZ (s : ScR) (h : ScWf s) (v : Value) : (Tryz.prog.info? 28).map (·.size) = some (twL s v).toArray.size := by rw [twL_len h]; kernel_rfl
end Go.Proofs.YtbbhmhihpdmoiaaGreat.Fx

set_option linter.unusedVariables false
set_option linter.unusedSimpArgs false
namespace Go.Proofs.YtbbhmhihpdmoiaaGreat.Fx
open Go Go.RowKit
def IntAt (k : IntKind) (W : World) (b j : Nat) : Prop := ((∃ z, W.cell? ⟨b, j, none⟩ = some (.int k z)) ∧ b < W.heap.size) ∧ W.frozen? ⟨b, j, none⟩ = false
theorem IntAt.below {k : IntKind} {W X : World} {b j : Nat} (hb : Below W.heap.size W X) (h : IntAt k W b j) : IntAt k X b j := by
 obtain ⟨⟨⟨z, hz⟩, hl⟩, hf⟩ := h
 exact ⟨⟨⟨z, keep_cell hb hz⟩, Nat.lt_of_lt_of_le hl hb.size⟩, keep_free hb hl hf⟩
theorem IntAt.put {k q : IntKind} {W : World} {b j b2 j2 : Nat} (h : IntAt k W b j) (h2 : IntAt q W b2 j2) (z : Int) : IntAt k (W.setCell ⟨b2, j2, none⟩ (.int q z)) b j := by
 obtain ⟨⟨⟨y, hy⟩, hl⟩, hf⟩ := h
 obtain ⟨⟨⟨y2, hy2⟩, hl2⟩, hf2⟩ := h2
 refine ⟨⟨?_, by simpa using hl⟩, by rw [World.frozen?_setCell]; exact hf⟩
 by_cases e : (⟨b2, j2, none⟩ : Addr) = ⟨b, j, none⟩
 ·cases e
  rw [hy2] at hy
  cases hy
  exact ⟨z, World.cell?_setCell_same _ _ _ hy2⟩
 ·exact ⟨y, by rw [World.cell?_setCell_other _ _ _ _ e]; exact hy⟩
theorem slice_put {q : IntKind} {W : World} {a : Addr} {b2 j2 n c : Nat} {o : Option Addr} (h : W.cell? a = some (.slice o n c)) (h2 : IntAt q W b2 j2) (z : Int) : (W.setCell ⟨b2, j2, none⟩ (.int q z)).cell? a = some (.slice o n c) := by
 obtain ⟨⟨⟨y2, hy2⟩, hl2⟩, hf2⟩ := h2
 by_cases e : (⟨b2, j2, none⟩ : Addr) = a
 ·subst e
  rw [hy2] at h
  cases h
 ·rw [World.cell?_setCell_other _ _ _ _ e]
  exact h
structure SpI (B bc : Nat) (c : ScR) (V W : World) : Prop where
 below : Below B V W
 le : B ≤ bc
 box : W.heap[bc]? = some (.cells (scC c) 28 (0, 0))
 id : ∀ k x, c.os[k]? = some x → ∃ g off, c.oo = some ⟨g, off, none⟩ ∧ B ≤ g ∧ g ≠ bc ∧ IntAt .i64 W g (off + k * 19) ∧ W.cell? ⟨g, off + k * 19 + 17, none⟩ = some (.slice x.vo x.vs.length x.vc) ∧ W.cell? ⟨g, off + k * 19 + 18, none⟩ = some (.slice x.tq x.ts.length x.tc)
 vs : ∀ x ∈ c.os, ∀ j, j < x.vs.length → ∃ g off, x.vo = some ⟨g, off, none⟩ ∧ B ≤ g ∧ g ≠ bc ∧ IntAt .i64 W g (off + j * 3)
 ts : ∀ x ∈ c.os, ∀ j, j < x.ts.length → ∃ g off, x.tq = some ⟨g, off, none⟩ ∧ B ≤ g ∧ g ≠ bc ∧ IntAt .i64 W g (off + j * 4)
theorem SpI.up {B bc : Nat} {c : ScR} {V W X : World} (hb : Below W.heap.size W X) (hB : B ≤ W.heap.size) (i : SpI B bc c V W) : SpI B bc c V X := by
 refine ⟨i.below.trans (hb.mono hB), i.le, keep_row hb i.box, fun k x hk => ?_, fun x hx j hj => ?_, fun x hx j hj => ?_⟩
 ·obtain ⟨g, off, e, h1, h2, h3, h4, h5⟩ := i.id k x hk
  exact ⟨g, off, e, h1, h2, h3.below hb, keep_cell hb h4, keep_cell hb h5⟩
 ·obtain ⟨g, off, e, h1, h2, h3⟩ := i.vs x hx j hj
  exact ⟨g, off, e, h1, h2, h3.below hb⟩
 ·obtain ⟨g, off, e, h1, h2, h3⟩ := i.ts x hx j hj
  exact ⟨g, off, e, h1, h2, h3.below hb⟩
theorem SpI.lt {B bc : Nat} {c : ScR} {V W : World} (i : SpI B bc c V W) : B ≤ W.heap.size := by
 have := (Array.getElem?_eq_some_iff.1 i.box).1
 have := i.le
 omega
theorem SpI.put {B bc : Nat} {c : ScR} {V W : World} (i : SpI B bc c V W) {g j : Nat} (hg : B ≤ g) (hn : g ≠ bc) (h : IntAt .i64 W g j) (z : Int) : SpI B bc c V (W.setCell ⟨g, j, none⟩ (.int .i64 z)) := by
 refine ⟨i.below.setCell (p := ⟨g, j, none⟩) hg _, i.le, ?_, fun k x hk => ?_, fun x hx j hj => ?_, fun x hx j hj => ?_⟩
 ·rw [heap_setCell_other _ _ _ _ (by exact fun e => hn e.symm)]
  exact i.box
 ·obtain ⟨g, off, e, h1, h2, h3, h4, h5⟩ := i.id k x hk
  exact ⟨g, off, e, h1, h2, h3.put h z, slice_put h4 h z, slice_put h5 h z⟩
 ·obtain ⟨g, off, e, h1, h2, h3⟩ := i.vs x hx j hj
  exact ⟨g, off, e, h1, h2, h3.put h z⟩
 ·obtain ⟨g, off, e, h1, h2, h3⟩ := i.ts x hx j hj
  exact ⟨g, off, e, h1, h2, h3.put h z⟩
theorem int_row {t : TypeId} {W : World} {g j : Nat} {cur : Array Value} {k : IntKind} {z : Int} (h : W.heap[g]? = some (.cells cur t (0, 0))) (hc : W.cell? ⟨g, j, none⟩ = some (.int k z)) : IntAt k W g j := ⟨⟨⟨z, hc⟩, (Array.getElem?_eq_some_iff.1 h).1⟩, frozen_row h⟩
theorem SpI.new {B C bc : Nat} {c : ScR} {V W : World} (hC : B ≤ C) (s : FreshS C c W) (hb : Below B V W) (hle : B ≤ bc) (hbc : W.heap[bc]? = some (.cells (scC c) 28 (0, 0))) : SpI B bc c V W := by
 have hne : ∀ {t : TypeId} {g : Nat} {cur : Array Value}, W.heap[g]? = some (.cells cur t (0, 0)) → t ≠ 28 → g ≠ bc := fun h ht e => by
  subst e
  rw [hbc] at h
  cases h
  exact ht rfl
 refine ⟨hb, hle, hbc, fun k x hk => ?_, fun x hx j hj => ?_, fun x hx j hj => ?_⟩
 ·obtain ⟨g, cur, e, h1, h2, _, h3⟩ := s.objs.at_ k x hk
  have hw := (s.each x (List.mem_of_getElem? hk)).wf
  refine ⟨g, 0, e, by omega, hne h2 (by decide), int_row h2 (z := x.id) ?_, ?_, ?_⟩
  ·exact h3 0 _ (objL_id x)
  ·exact h3 17 _ (objL_vs hw)
  ·exact h3 18 _ (objL_ts hw)
 ·have hw := s.each x hx
  obtain ⟨v, hv⟩ : ∃ v, x.vs[j]? = some v := ⟨_, List.getElem?_eq_getElem hj⟩
  obtain ⟨g, cur, e, h1, h2, _, h3⟩ := hw.v.at_ j v hv
  have hvl := (hw.vw v (List.mem_of_getElem? hv)).len
  obtain ⟨z, hz⟩ : ∃ z, v[0]? = some z := ⟨_, List.getElem?_eq_getElem (by omega)⟩
  refine ⟨g, 0, e, by omega, hne h2 (by decide), int_row h2 (z := z) ?_⟩
  exact h3 0 _ (by rw [List.getElem?_map, hz]; rfl)
 ·have hw := s.each x hx
  obtain ⟨v, hv⟩ : ∃ v, x.ts[j]? = some v := ⟨_, List.getElem?_eq_getElem hj⟩
  obtain ⟨g, cur, e, h1, h2, _, h3⟩ := hw.t.at_ j v hv
  refine ⟨g, 0, e, by omega, hne h2 (by decide), int_row h2 (z := v.a) ?_⟩
  exact h3 0 _ rfl
end Go.Proofs.YtbbhmhihpdmoiaaGreat.Fx

set_option linter.unusedVariables false
set_option linter.unusedSimpArgs false
namespace Go.Proofs.YtbbhmhihpdmoiaaGreat.Fx
open Go Go.RowKit Go.Shelf
theorem zsame_any (a b : ScR) (w : World) (ha : ScWf a) (hb : ScWf b) (h : ObjsAt w a.oo a.os) (h2 : ObjsAt w b.oo b.os) :
  Calls Tryz.prog 15 #[.agg (scC a), .agg (scC b)] w (RetBool (decide (sameS a b)) w) := by
 by_cases hno : a.w = b.w ∧ a.h = b.h ∧ a.cam = b.cam ∧ a.os.length = b.os.length
 ·obtain ⟨h1, h3, h4, hl⟩ := hno
  have := zsame_yes a b w ha hb h h2 h1 h3 h4 hl
  have e : decide (sameS a b) = decide (a.os.map keyO = b.os.map keyO) := by
   unfold sameS
   simp [h1, h3, h4]
  rw [e]
  exact this
 ·have e : decide (sameS a b) = false := decide_eq_false (fun hs => hno ⟨hs.1, hs.2.1, hs.2.2.1, by have := congrArg List.length hs.2.2.2; simpa using this⟩)
  rw [e]
  exact zsame_no a b w ha hb h h2 hno
end Go.Proofs.YtbbhmhihpdmoiaaGreat.Fx

set_option linter.unusedVariables false
set_option linter.unusedSimpArgs false
namespace Go.Proofs.YtbbhmhihpdmoiaaGreat.Pk
open Go.Proofs.YtbbhmhihpdmoiaaGreat.Fx (Hands)
open Go Go.RowKit Go.Shelf
attribute [local go_sem] Oper.semAt_some
def FrmM (n A : Nat) (X : World) : Prop := X.cell? ⟨A, 0, none⟩ = some (.int .u64 (n : Int))
def frmElem (n k : Nat) : Array Value := #[.int .u8 (((form n).getD k 0 : Nat) : Int)]
set_option maxRecDepth 100000 in
theorem u8_or128 (m : Nat) : bits .or .u8 ((m : Int) % 256) 128 = 128 + (m : Int) % 128 := by
 have h : ∀ x : Fin 256, bits .or .u8 ((x.val : Nat) : Int) 128 = ((128 + x.val % 128 : Nat) : Int) := by decide
 have := h ⟨m % 256, Nat.mod_lt _ (by omega)⟩
 dsimp only at this
 rw [show ((m : Int) % 256) = ((m % 256 : Nat) : Int) by omega, this]
 omega
theorem form_drop_small {n m k : Nat} (h : m < 128) (hf : form m = (form n).drop k) : (form n).length = k + 1 ∧ (form n).getD k 0 = m := by
 rw [form_small h] at hf
 have hl := congrArg List.length hf
 simp at hl
 refine ⟨by omega, ?_⟩
 have hk : k < (form n).length := by omega
 rw [List.drop_eq_getElem_cons hk] at hf
 simp only [List.cons.injEq] at hf
 simp [List.getD, hk, hf.1]
theorem form_drop_big {n m k : Nat} (h : ¬ m < 128) (hm : m < 18446744073709551616) (hf : form m = (form n).drop k) : k < (form n).length ∧ (form n).getD k 0 = 128 + m % 128 ∧ form (m / 128) = (form n).drop (k + 1) := by
 rw [form_big h hm] at hf
 have hl := congrArg List.length hf
 have := (form_len (m / 128)).1
 simp at hl
 have hk : k < (form n).length := by omega
 rw [List.drop_eq_getElem_cons hk] at hf
 simp only [List.cons.injEq] at hf
 exact ⟨hk, by simp [List.getD, hk, hf.1], hf.2⟩
set_option maxRecDepth 100000 in
set_option maxHeartbeats 1000000 in
theorem form_hands (n A : Nat) (hn : n < 18446744073709551616) :
  Hands Fence.wide 4 Tryz.prog 139 #[.pointer (some ⟨A, 0, none⟩)] (frmElem n) (form n).length (FrmM n A) := by
 intro l J Jx W hJ1 hJ2 hJB hJxB hY h0
 have cA := hJB 0 W h0
 have HY := Lib.hid hY; clear hY
 have HJ1 := Lib.hid hJ1; clear hJ1
 have HJ2 := Lib.hid hJ2; clear hJ2
 have HJB := Lib.hid hJB; clear hJB
 have HJxB := Lib.hid hJxB; clear hJxB
 unfold FrmM at cA
 refine callsIn_of_wp Tryz.func139 rfl trivial ?_ rfl
 simp only [Tryz.ntmps139, List.size_toArray, List.length_cons, List.length_nil, Nat.reduceAdd, Nat.reduceSub, Array.replicate_succ, Array.replicate_zero, List.push_toArray, List.append_toArray, List.nil_append, List.cons_append]
 gi_wp2
 gi_loopw [3] (fun v3 wr => ∃ k m : Nat, v3 = .int .u64 (m : Int) ∧ m < 18446744073709551616 ∧ form m = (form n).drop k ∧ J k wr) (fun v3 _ => (intOf v3).toNat)
 case atStart => exact ⟨0, n, rfl, hn, rfl, h0⟩
 case round =>
  clear cA
  obtain ⟨k, m, rfl, hm, hf, hJ⟩ := hrel
  by_cases hs : m < 128
  ·obtain ⟨hl, hg⟩ := form_drop_small hs hf
   obtain ⟨fn, tmps, assign, body, hy, hR⟩ := HY.out k wr (by omega) hJ
   simp only [frmElem] at hy
   rw [hg] at hy
   have t1 : ¬ (128 : Int) ≤ (m : Int) := by omega
   have hw : IntKind.u8.wrap (m : Int) = (m : Int) := by rw [IntKind.wrap_u8]; omega
   have HKN : Hid (k + 1 = (form n).length) := Lib.hid hl.symm
   clear hf hl hg
   gi_wp2
   refine hR.mono ?_
   rintro e W3 (⟨rfl, hJ3⟩ | ⟨rfl, hJx3⟩)
   ·gi_wp2
    go_end0
    exact ⟨⟨_, rfl⟩, .inl (HKN.out ▸ hJ3)⟩
   ·gi_wp2
    go_end0
    exact ⟨⟨_, rfl⟩, .inr hJx3⟩
  ·obtain ⟨hk, hg, hf2⟩ := form_drop_big hs hm hf
   obtain ⟨fn, tmps, assign, body, hy, hR⟩ := HY.out k wr hk hJ
   simp only [frmElem] at hy
   rw [hg] at hy
   have t1 : (128 : Int) ≤ (m : Int) := by omega
   have hor := u8_or128 m
   rw [show ((128 + m % 128 : Nat) : Int) = 128 + (m : Int) % 128 by omega] at hy
   gi_wp2
   refine hR.mono ?_
   rintro e W3 (⟨rfl, hJ3⟩ | ⟨rfl, hJx3⟩)
   ·gi_wp2
    go_roundw
    case rel => exact ⟨k + 1, m / 128, by go_num, by omega, hf2, hJ3⟩
    case measure => simp [intOf]; omega
   ·gi_wp2
    refine bodyPost_ret (results_none rfl _ _ _) rfl ?_
    exact ⟨⟨_, rfl⟩, .inr hJx3⟩
theorem form_w (n : Nat) (w : World) : Calls Tryz.prog 115 #[.int .u64 (n : Int)] w fun e w' =>
  e = .returned (.func (.func 139) #[] #[.pointer (some ⟨w.heap.size, 0, none⟩)]) ∧ w' = w.alloc (.cells #[.int .u64 (n : Int)] 89) := by
 go_enter Tryz.func115, Tryz.ntmps115
 go_wp2
 go_ret
 exact ⟨rfl, rfl⟩
end Go.Proofs.YtbbhmhihpdmoiaaGreat.Pk

set_option linter.unusedVariables false
set_option linter.unusedSimpArgs false
namespace Go.Proofs.YtbbhmhihpdmoiaaGreat.Pk
open Go Go.RowKit
def fl (made lost : Bool) : Int := if made then (if lost then 50 else 0) else 1
theorem store_fault (p : Nat) (made lost : Bool) (w : World) (c0 : w.cell? ⟨p, 0, none⟩ = some (.bool made)) (c1 : w.cell? ⟨p, 1, none⟩ = some (.bool lost)) :
  Calls Tryz.prog 108 #[.pointer (some ⟨p, 0, none⟩)] w fun e w' => e = .returned (.int .i64 (fl made lost)) ∧ w = w' := by
 cases made with
 | false =>
  go_enter Tryz.func108, Tryz.ntmps108
  go_wp2_with fail
  go_ret
  exact ⟨rfl, rfl⟩
 | true =>
  cases lost with
  | true =>
   go_enter Tryz.func108, Tryz.ntmps108
   go_wp2_with fail
   go_ret
   exact ⟨rfl, rfl⟩
  | false =>
   go_enter Tryz.func108, Tryz.ntmps108
   go_wp2_with fail
   go_ret
   exact ⟨rfl, rfl⟩
theorem writer_fault (p : Nat) (made lost : Bool) (w : World) (c0 : w.cell? ⟨p, 0, none⟩ = some (.bool made)) (c1 : w.cell? ⟨p, 1, none⟩ = some (.bool lost)) :
  Calls Tryz.prog 92 #[.pointer (some ⟨p, 0, none⟩)] w fun e w' => e = .returned (.int .i64 (fl made lost)) ∧ w = w' := by
 have H0 := store_fault p made lost w c0 c1
 clear c0 c1
 generalize fl made lost = z at *
 have H := Lib.hid H0
 clear H0
 go_enter Tryz.func92, Tryz.ntmps92
 go_wp2_with fail
 refine H.out.mono ?_
 rintro e w1 ⟨rfl, rfl⟩
 go_wp2_with fail
 go_ret
 exact ⟨rfl, rfl⟩
structure PW (B p : Nat) (v : Value) (l : List Nat) (lost : Bool) (W : World) : Prop where
 row : W.heap[p]? = some (.cells #[.bool true, .bool lost, v] 120 (0, 0))
 own : Own W B v l
theorem new_writer (w : World) : Calls Tryz.prog 31 #[] w fun e w' =>
  e = .returned (.pointer (some ⟨w.heap.size, 0, none⟩)) ∧ PW (w.heap.size + 1) w.heap.size (.slice none 0 0) [] false w' ∧ w' = w.alloc (.cells #[.bool true, .bool false, .slice none 0 0] 120) := by
 go_enter Tryz.func31, Tryz.ntmps31
 go_wp2_with fail
 go_ret
 exact ⟨rfl, ⟨heap_alloc_new _ _, World.ownsRow_nil _ _ _ _⟩, rfl⟩
structure Turn (p : Nat) (v v' : Value) (w w' : World) : Prop where
 os : w'.os = w.os
 tape : w'.tape = w.tape
 output : w'.output = w.output
 size : w.heap.size ≤ w'.heap.size
 block : ∀ k, k < w.heap.size → k ≠ p → v.ownBlock ≠ some k → w'.heap[k]? = w.heap[k]?
 own : ∀ k, v'.ownBlock = some k → v.ownBlock = some k ∨ w.heap.size ≤ k
theorem Turn.refl (p : Nat) (v : Value) (w : World) : Turn p v v w w := ⟨rfl, rfl, rfl, Nat.le_refl _, fun _ _ _ _ => rfl, fun _ h => .inl h⟩
theorem Turn.trans {p : Nat} {v v' v'' : Value} {w w' w'' : World} (s : Turn p v v' w w') (t : Turn p v' v'' w' w'') : Turn p v v'' w w'' :=
 ⟨t.os.trans s.os, t.tape.trans s.tape, t.output.trans s.output, Nat.le_trans s.size t.size, fun k hk hp hv => by
  rw [t.block k (Nat.lt_of_lt_of_le hk s.size) hp (fun h => (s.own k h).elim hv (by omega)), s.block k hk hp hv], fun k hk => by
  rcases t.own k hk with h | h
  ·exact s.own k h
  ·exact .inr (Nat.le_trans s.size h)⟩
theorem Turn.of_below {p : Nat} {v : Value} {w w' : World} (h : Below w.heap.size w w') : Turn p v v w w' := ⟨h.os, h.tape, h.output, h.size, fun k hk _ _ => h.block k hk, fun _ h => .inl h⟩
theorem Turn.set (p j : Nat) (v u : Value) (w : World) : Turn p v v w (w.setCell ⟨p, j, none⟩ u) :=
 ⟨rfl, rfl, rfl, by simp, fun k hk hp _ => heap_setCell_other _ _ _ _ hp, fun _ h => .inl h⟩
theorem Turn.of_grown {p : Nat} {v v' : Value} {w w' : World} (hg : w.grownBy w' v.ownBlock) (h : ∀ k, v'.ownBlock = some k → v.ownBlock = some k ∨ w.heap.size ≤ k) : Turn p v v' w w' :=
 ⟨hg.os, hg.tape, hg.output, hg.size, fun k hk _ hv => hg.block k hk (fun e => hv e.symm), h⟩
end Go.Proofs.YtbbhmhihpdmoiaaGreat.Pk

set_option linter.unusedVariables false
set_option linter.unusedSimpArgs false
namespace Go.Proofs.YtbbhmhihpdmoiaaGreat.Pk
open Go Go.RowKit
theorem run_app {B : Nat} {v : Value} {l : List Nat} {w : World} (ty : TypeId) (hown : Own w B v l) (ox : Option Addr) (m : List Nat) (c : Nat) (hc : ox = none → c = 0) (hb : Bs w ox m)
  (hlen : l.length + m.length ≤ 1000000000) (hbase : B ≤ w.heap.size) :
  ∃ v' w', (Builtin.append_ #[31, 31] ty #[v, .slice ox m.length c]).run Tryz.prog w = .ok v' w' ∧ Own w' B v' (l ++ m) ∧ w.grownBy w' v.ownBlock ∧ (∀ k, v'.ownBlock = some k → v.ownBlock = some k ∨ w.heap.size ≤ k) := by
 obtain ⟨i0, hi, hz0, hz1, hz2⟩ := info_parts info5
 cases ox with
 | none =>
  obtain rfl := nil_of hb
  obtain rfl := hc rfl
  have hrun := run_append_owned_none (P := Tryz.prog) (w := w) B 31 ty 5 i0 1 Tryz.underlying31 hi v l.length (l.map encB) hown
  exact ⟨v, w, hrun, by rw [List.append_nil]; exact hown, World.grownBy.refl _ _, fun k h => .inl h⟩
 | some ad =>
  obtain ⟨v', w', hr, h2, h3, _, h5⟩ := run_append_own_at (P := Tryz.prog) w B 31 ty 5 i0 (.int .u8 0) 1 1 Tryz.underlying31 hi hz0 hz1 hz2 rfl (by decide) v l.length (l.map encB) hown ad m.length c (m.map encB) (by simp) (news_any hb ad rfl) (news_one m) (by unfold maxLen; omega) (by omega) hbase
  refine ⟨v', w', hr, by unfold Own; rw [List.length_append, List.map_append]; exact h2, h3, fun k hk => ?_⟩
  rcases h5 with h5 | h5
  ·exact .inl (h5 ▸ hk)
  ·rw [h5] at hk
   cases hk
   exact .inr (Nat.le_refl _)
theorem wpIn_appT {F : Fence} (hF : ∀ f, F.fn f) {n : Nat} {o : Oper} {a : Act} {K : Act → World → Prop} {Q : Exit → Act → World → Prop} {w : World} (s x : Operand)
  (ho : o.op = .call { callee := .builtin .append, args := #[s, x], argTypes := #[31, 31] })
  (B : Nat) (v : Value) (l : List Nat) (hs : a.eval s = v) (hown : Own w B v l) (ox : Option Addr) (m : List Nat) (c : Nat) (hx : a.eval x = .slice ox m.length c) (hc : ox = none → c = 0) (hb : Bs w ox m)
  (hlen : l.length + m.length ≤ 1000000000) (hbase : B ≤ w.heap.size)
  (h : ∀ v' w', Own w' B v' (l ++ m) → w.grownBy w' v.ownBlock → (∀ k, v'.ownBlock = some k → v.ownBlock = some k ∨ w.heap.size ≤ k) → K (a.put o.dst v') w') : Oper.wpIn F n Tryz.prog o a w K Q := by
 unfold Oper.wpIn
 rw [Oper.semAt_plain _ _ _ (by intro c e; rw [ho] at e; cases e)]
 refine ⟨fun _ _ => hF _, ?_⟩
 obtain ⟨v', w', hrun, h1, h2, h3⟩ := run_app o.type hown ox m c hc hb hlen hbase
 unfold execOp
 simp only [ho, resolve, invoke, builtin, Sem.run_bind, Sem.run_pure, Result.andThen_ok, List.map_toArray, List.map_cons, List.map_nil, hs, hx, hrun]
 exact h v' w' h1 h2 h3
theorem app_at {ops : Array Oper} {rest : List Oper} {o : Oper} {a : Act} {Q : Exit → Act → World → Prop} {w : World} (hgd : o.guard = none) (s x : Operand)
  (ho : o.op = .call { callee := .builtin .append, args := #[s, x], argTypes := #[31, 31] })
  (B : Nat) (v : Value) (l : List Nat) (hs : a.eval s = v) (hown : Own w B v l) (ox : Option Addr) (m : List Nat) (c : Nat) (hx : a.eval x = .slice ox m.length c) (hc : ox = none → c = 0) (hb : Bs w ox m)
  (hlen : l.length + m.length ≤ 1000000000) (hbase : B ≤ w.heap.size)
  (h : ∀ v' w', Own w' B v' (l ++ m) → w.grownBy w' v.ownBlock → (∀ k, v'.ownBlock = some k → v.ownBlock = some k ∨ w.heap.size ≤ k) → wpList Tryz.prog ops Q rest (a.put o.dst v') w') : wpList Tryz.prog ops Q (o :: rest) a w := by
 obtain ⟨i0, hi, hz0, hz1, hz2⟩ := info_parts info5
 cases ox with
 | none =>
  obtain rfl := nil_of hb
  obtain rfl := hc rfl
  refine wpList_append_own_none hgd s x 31 ho B 5 i0 1 Tryz.underlying31 hi v l.length (l.map encB) hs hown hx ?_
  exact h v w (by rw [List.append_nil]; exact hown) (World.grownBy.refl _ _) (fun k h => .inl h)
 | some ad =>
  refine wpList_append_own_at w hgd s x 31 ho B 5 i0 (.int .u8 0) 1 1 Tryz.underlying31 hi hz0 hz1 hz2 rfl (by decide) v l.length (l.map encB) hs hown ad m.length c (m.map encB) hx (by simp) (news_any hb ad rfl) (news_one m) (by unfold maxLen; omega) (by omega) hbase ?_
  intro v' w' hown' hgrow _ h5
  refine h v' w' (by unfold Own; rw [List.length_append, List.map_append]; exact hown') hgrow (fun k hk => ?_)
  rcases h5 with h5 | h5
  ·exact .inl (h5 ▸ hk)
  ·rw [h5] at hk
   cases hk
   exact .inr (Nat.le_refl _)
end Go.Proofs.YtbbhmhihpdmoiaaGreat.Pk
