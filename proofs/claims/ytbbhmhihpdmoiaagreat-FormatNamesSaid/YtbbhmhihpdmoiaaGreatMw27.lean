import Derived.Laws.Rows
import Derived.Test.YtbbhmhihpdmoiaaGreatProg
import Derived.Test.YtbbhmhihpdmoiaaGreatMw09
import Derived.Test.YtbbhmhihpdmoiaaGreatMw19
import Derived.Test.YtbbhmhihpdmoiaaGreatMw24
import Derived.Test.YtbbhmhihpdmoiaaGreatMw26
set_option linter.unusedVariables false
set_option linter.unusedSimpArgs false
namespace Go.Proofs.YtbbhmhihpdmoiaaGreat.Fx
open Go Go.RowKit
open Go.Proofs.YtbbhmhihpdmoiaaGreat.Pk (PR RdOk Bs)
def runP {κ : Type} (lost : Bool) (P : Prs κ) (l : List Nat) (a : Nat) : Option (κ × Nat) := if lost = true then none else P l a
def ElOk {α : Type} (t tS : TypeId) (El : α → World → Prop) : Prop := ∀ z W X, El z W → (∀ u, u ≠ t → u ≠ 144 → u ≠ tS → Rows u W X) → El z X
structure MSG {α : Type} (t tS : TypeId) (n : Nat) (f : α → List Value) (El : α → World → Prop) (o : Option Addr) (c : Nat) (l : List Nat) (p a : Nat) (lost : Bool) (v : Value) (zs : List α) (w W : World) : Prop where
 box : W.heap[w.heap.size]? = some (.cells #[.pointer (some ⟨p, 0, none⟩)] 90 (0, 0))
 res : W.heap[w.heap.size + 1]? = some (.cells #[v] tS (0, 0))
 rd : PR o c l p a lost W
 own : OwnG t n f W (w.heap.size + 2) v zs
 el : ∀ z ∈ zs, El z W
 grow : w.grownBy W (some p)
section
variable {α : Type} {t tS : TypeId} {n : Nat} {f : α → List Value} {El : α → World → Prop} {o : Option Addr} {c : Nat} {l : List Nat} {p a : Nat} {lost : Bool} {v : Value} {zs : List α} {w W : World}
theorem MSG.facts (s : MSG t tS n f El o c l p a lost v zs w W) :
  W.cell? ⟨w.heap.size, 0, none⟩ = some (.pointer (some ⟨p, 0, none⟩)) ∧ W.cell? ⟨w.heap.size + 1, 0, none⟩ = some v ∧ W.frozen? ⟨w.heap.size + 1, 0, none⟩ = false :=
 ⟨(cell_of_row _ _ 0 _ _ _ s.box).trans rfl, (cell_of_row _ _ 0 _ _ _ s.res).trans rfl, frozen_row s.res⟩
theorem MSG.lt (s : MSG t tS n f El o c l p a lost v zs w W) : w.heap.size + 2 ≤ W.heap.size := by
 have := (Array.getElem?_eq_some_iff.1 s.res).1
 omega
theorem MSG.read {a2 : Nat} {lost2 : Bool} {X : World} (hel : ElOk t tS El) (ht : t ≠ 144) (s : MSG t tS n f El o c l p a lost v zs w W) (hp : p < w.heap.size) (hr : PR o c l p a2 lost2 X) (hg : W.grownBy X (some p)) : MSG t tS n f El o c l p a2 lost2 v zs w X := by
 refine ⟨?_, ?_, hr, s.own.grown hg (fun k hk e => ?_), fun z hz => hel z W X (s.el z hz) (fun u _ hu _ => Rows.of_grown hg (fun k hk => by cases hk; exact ⟨_, s.rd.row⟩) hu), s.grow.trans hg⟩
 ·rw [hg.block _ (Array.getElem?_eq_some_iff.1 s.box).1 (fun e => by have := Option.some.inj e; omega)]
  exact s.box
 ·rw [hg.block _ (Array.getElem?_eq_some_iff.1 s.res).1 (fun e => by have := Option.some.inj e; omega)]
  exact s.res
 ·cases hk
  obtain ⟨cur, hc⟩ := s.own.row p e
  rw [s.rd.row] at hc
  cases hc
  exact ht rfl
theorem MSG.up {X : World} (hel : ElOk t tS El) (s : MSG t tS n f El o c l p a lost v zs w W) (hb : Below W.heap.size W X) : MSG t tS n f El o c l p a lost v zs w X :=
 ⟨keep_row hb s.box, keep_row hb s.res, s.rd.below hb, s.own.below hb, fun z hz => hel z W X (s.el z hz) (fun u _ _ _ => Rows.of_below hb), s.grow.trans (Pk.below_grown hb (some p))⟩
theorem grown_cell1 (W : World) (b j : Nat) (v : Value) : W.grownBy (W.setCell ⟨b, j, none⟩ v) (some b) :=
 ⟨rfl, rfl, rfl, by simp, fun k _ hk => heap_setCell_other _ _ _ _ (by intro e; exact hk (by rw [show k = b from e]))⟩
theorem MSG.app {v' : Value} {zs' : List α} {X : World} (hel : ElOk t tS El) (hts : t ≠ tS) (s : MSG t tS n f El o c l p a lost v zs w W) (hp : p < w.heap.size) (hob : ∀ b off, o = some ⟨b, off, none⟩ → 0 < l.length → b < w.heap.size) (ho : OwnG t n f X (w.heap.size + 2) v' zs') (hg : W.grownBy X v.ownBlock) (he : ∀ z ∈ zs', El z W) :
  X.heap[w.heap.size + 1]? = some (.cells #[v] tS (0, 0)) ∧ MSG t tS n f El o c l p a lost v' zs' w (X.setCell ⟨w.heap.size + 1, 0, none⟩ v') := by
 have hv := s.own.blk
 have hres : X.heap[w.heap.size + 1]? = some (.cells #[v] tS (0, 0)) := by
  rw [hg.block _ (Array.getElem?_eq_some_iff.1 s.res).1 (fun e => by have := hv _ e.symm; omega)]
  exact s.res
 have hbox : X.heap[w.heap.size]? = some (.cells #[.pointer (some ⟨p, 0, none⟩)] 90 (0, 0)) := by
  rw [hg.block _ (Array.getElem?_eq_some_iff.1 s.box).1 (fun e => by have := hv _ e.symm; omega)]
  exact s.box
 have hrd : PR o c l p a lost X := s.rd.grown hg (fun e => by have := hv _ e.symm; omega) (fun b off e hm h => by have := hv b h.symm; have := hob b off e hm; omega)
 have hgx : w.grownBy X (some p) := ⟨hg.os.trans s.grow.os, hg.tape.trans s.grow.tape, hg.output.trans s.grow.output, Nat.le_trans s.grow.size hg.size, fun q hq hqp => by
  rw [hg.block q (Nat.lt_of_lt_of_le hq s.grow.size) (fun e => by have := hv q e.symm; omega)]
  exact s.grow.block q hq hqp⟩
 have hc := grown_cell1 X (w.heap.size + 1) 0 v'
 refine ⟨hres, by rw [heap_setCell_other _ _ _ _ (by show _ ≠ w.heap.size + 1; omega)]; exact hbox, heap_setCell_same _ _ 0 _ _ v' hres, hrd.grown hc (fun e => by have := Option.some.inj e; omega) (fun b off e hm h => by have := Option.some.inj h; have := hob b off e hm; omega),
  ho.cellset (fun e => by have := ho.blk _ e; omega), fun z hz => hel z W _ (he z hz) (fun u h1 _ h3 => (Rows.of_grown hg (fun k hk => s.own.row k hk) h1).trans (Rows.of_set hres h3)), ?_⟩
 exact ⟨hc.os.trans hgx.os, hc.tape.trans hgx.tape, hc.output.trans hgx.output, Nat.le_trans hgx.size hc.size, fun q hq hqp => by
  rw [hc.block q (Nat.lt_of_lt_of_le hq hgx.size) (fun e => by have := Option.some.inj e; omega)]
  exact hgx.block q hq hqp⟩
theorem MSG.strike (hel : ElOk t tS El) (hts : t ≠ tS) (s : MSG t tS n f El o c l p a lost v zs w W) (hp : p < w.heap.size) (hob : ∀ b off, o = some ⟨b, off, none⟩ → 0 < l.length → b < w.heap.size) : MSG t tS n f El o c l p a lost (.slice none 0 0) [] w (W.setCell ⟨w.heap.size + 1, 0, none⟩ (.slice none 0 0)) :=
 (s.app (v' := .slice none 0 0) (zs' := []) hel hts hp hob (OwnG.nil _ _ _ _ _) (World.grownBy.refl _ _) (fun z hz => by simp at hz)).2
end
def OneG {α κ : Type} (P : Prs κ) (key : α → κ) (El : α → World → Prop) (val : α → Value) (o : Option Addr) (c : Nat) (l : List Nat) (p a : Nat) (lost : Bool) (w : World) (e : Ending) (w' : World) : Prop :=
 w.grownBy w' (some p) ∧ ∃ x, e = .returned (val x) ∧ El x w' ∧ match runP lost P l a with
  | some (k, b) => key x = k ∧ b ≤ l.length ∧ PR o c l p b false w'
  | none => ∃ b, b ≤ l.length ∧ PR o c l p b true w'
structure PMG {α κ : Type} (key : α → κ) (t : TypeId) (n : Nat) (f : α → List Value) (El : α → World → Prop) (o : Option Addr) (c : Nat) (l : List Nat) (p : Nat) (r : Option (List κ × Nat)) (w : World) (e : Ending) (w' : World) : Prop where
 grow : w.grownBy w' (some p)
 no : r = none → e = .returned (.slice none 0 0) ∧ ∃ a, a ≤ l.length ∧ PR o c l p a true w'
 yes : ∀ ks a, r = some (ks, a) → (∃ v zs, e = .returned v ∧ OwnG t n f w' w.heap.size v zs ∧ (∀ z ∈ zs, El z w') ∧ zs.map key = ks) ∧ a ≤ l.length ∧ PR o c l p a false w'
theorem pU_le {most : Nat} {l : List Nat} {a : Nat} {z : Int} {b : Nat} (ha : a ≤ l.length) (h : pU most l a = some (z, b)) : 0 ≤ z ∧ z ≤ most ∧ b ≤ l.length := by
 unfold pU at h
 rw [Option.map_eq_some_iff] at h
 obtain ⟨⟨n, j⟩, hr, e⟩ := h
 simp only [Prod.mk.injEq] at e
 obtain ⟨rfl, rfl⟩ := e
 have := Pk.rd_le hr
 have hdl : (l.drop a).length = l.length - a := by simp
 omega
theorem small_eq {lost : Bool} {most : Nat} {l : List Nat} {a : Nat} : (Pk.rz lost (most : Int) (l.drop a)).map (fun q => ((q.1 : Int), a + q.2)) = runP lost (pU most) l a := by
 unfold Pk.rz runP pU
 cases lost
 ·have h : ¬ ((false = true) ∨ (most : Int) < 0) := by simp
  rw [if_neg h]
  simp
 ·simp
end Go.Proofs.YtbbhmhihpdmoiaaGreat.Fx

set_option linter.unusedVariables false
namespace Go.Proofs.YtbbhmhihpdmoiaaGreat.Fx
open Go Go.RowKit Go.ChangeShapes Go.WideShapes
instance : Inhabited ScR := ⟨⟨0, 0, [], none, [], 0⟩⟩
structure ScAtL (W : World) (b j : Nat) (s : ScR) : Prop where
 cells : W.rangeAt b j (scL s)
 objs : ObjsAt W s.oo s.os
 wf : ScWf s
def ScsAt (W : World) (o : Option Addr) (l : List ScR) : Prop := ListAt (ScAtL W) 19 o l
theorem ScAtL.below {w W : World} {b j : Nat} {s : ScR} (hb : Below w.heap.size w W) (h : ScAtL w b j s) : ScAtL W b j s := ⟨range_below hb h.cells, h.objs.below hb, h.wf⟩
theorem ScsAt.below {w W : World} {o : Option Addr} {l : List ScR} (hb : Below w.heap.size w W) (h : ScsAt w o l) : ScsAt W o l := fun k z hk => by
 obtain ⟨b, off, e, h1⟩ := h k z hk
 exact ⟨b, off, e, h1.below hb⟩
section
variable {H : Type} {enc : TypeId × Value → H} {w : World} {base : Nat} {held : Bool}
end
end Go.Proofs.YtbbhmhihpdmoiaaGreat.Fx

set_option linter.unusedVariables false
set_option linter.unusedSimpArgs false
namespace Go.Proofs.YtbbhmhihpdmoiaaGreat.Fx
open Go Go.RowKit
structure ZsI (a b : ScR) (x y : ObjR) (m n : Nat) (w W : World) : Prop where
 s : TwoS a b w W
 a : BoxO x m W
 b : BoxO y n W
 va : VertsAt W x.vo x.vs
 vb : VertsAt W y.vo y.vs
 ta : TrisAt W x.tq x.ts
 tb : TrisAt W y.tq y.ts
theorem ZsI.up {a b : ScR} {x y : ObjR} {m n : Nat} {w W X : World} (i : ZsI a b x y m n w W) (hb : Below W.heap.size W X) : ZsI a b x y m n w X :=
 ⟨i.s.up hb, i.a.up hb, i.b.up hb, i.va.below hb, i.vb.below hb, i.ta.below hb, i.tb.below hb⟩
def ZsRel (a b : ScR) (w : World) (n g : Nat) (s5 s6 s7 s8 s9 : Value) (W : World) : Prop :=
 ∃ k : Nat, g = n - k ∧ s5 = .int .i64 (k : Int) ∧ k ≤ n ∧ TwoS a b w W ∧ (a.os.map keyO).take k = (b.os.map keyO).take k
def ZiRel {α : Type} (a b : ScR) (x y : ObjR) (m1 m2 : Nat) (p q : List α) (w : World) (n g : Nat) (s8 : Value) (W : World) : Prop :=
 ∃ j : Nat, g = n - j ∧ s8 = .int .i64 (j : Int) ∧ j ≤ n ∧ ZsI a b x y m1 m2 w W ∧ p.take j = q.take j
set_option maxRecDepth 100000 in
set_option maxHeartbeats 2000000 in
theorem zsame_no (a b : ScR) (w : World) (ha : ScWf a) (hb : ScWf b) (h : ObjsAt w a.oo a.os) (h2 : ObjsAt w b.oo b.os) (hno : ¬ (a.w = b.w ∧ a.h = b.h ∧ a.cam = b.cam ∧ a.os.length = b.os.length)) :
  Calls Tryz.prog 15 #[.agg (scC a), .agg (scC b)] w (RetBool false w) := by
 have HI := Lib.hid (TwoS.new h h2)
 have hA := Lib.hid (sizeM ha.len)
 have hBm := Lib.hid (sizeM hb.len)
 have c0 : ((w.alloc (.cells (scC a) 28)).alloc (.cells (scC b) 28)).cell? ⟨w.heap.size, 0, none⟩ = some (.int .i64 a.w) := HI.out.sa.c0
 have c1 : ((w.alloc (.cells (scC a) 28)).alloc (.cells (scC b) 28)).cell? ⟨w.heap.size, 1, none⟩ = some (.int .i64 a.h) := HI.out.sa.c1
 have d0 : ((w.alloc (.cells (scC a) 28)).alloc (.cells (scC b) 28)).cell? ⟨w.heap.size + 1, 0, none⟩ = some (.int .i64 b.w) := HI.out.sb.c0
 have d1 : ((w.alloc (.cells (scC a) 28)).alloc (.cells (scC b) 28)).cell? ⟨w.heap.size + 1, 1, none⟩ = some (.int .i64 b.h) := HI.out.sb.c1
 have c18 : ((w.alloc (.cells (scC a) 28)).alloc (.cells (scC b) 28)).cell? ⟨w.heap.size, 18, none⟩ = some (.slice a.oo a.os.length a.oc) := HI.out.sa.c18 ha
 have d18 : ((w.alloc (.cells (scC a) 28)).alloc (.cells (scC b) 28)).cell? ⟨w.heap.size + 1, 18, none⟩ = some (.slice b.oo b.os.length b.oc) := HI.out.sb.c18 hb
 by_cases h1 : a.w = b.w
 ·by_cases h3 : a.h = b.h
  ·by_cases h4 : a.cam = b.cam
   ·have hne : ∀ W, (binOp .neq 25 (.agg (a.cam.map encI).toArray) (.agg (b.cam.map encI).toArray)).run Tryz.prog W = .ok (.bool false) W := fun W => by rw [neq_mat2 W _ _ ha.len hb.len]; simp [h4]
    have hl : ¬ (a.os.length : Int) = (b.os.length : Int) := fun e => hno ⟨h1, h3, h4, by omega⟩
    rw [h1] at c0
    rw [h3] at c1
    clear ha hb h h2 h1 h3 h4 hno
    generalize b.w = bw at c0 d0
    generalize b.h = bh at c1 d1
    generalize a.os.length = n1 at c18 hl
    generalize b.os.length = n2 at d18 hl
    go_enter Tryz.func15, Tryz.ntmps15
    go_wp2_with (first | (refine wpList_load_mid_g rfl 25 (.tmp 23) rfl w.heap.size 2 rfl (a.cam.map encI) _ HI.out.sa.cam Tryz.underlying25 rfl hA.out ?_) | (refine wpList_load_mid_g rfl 25 (.tmp 25) rfl (w.heap.size + 1) 2 rfl (b.cam.map encI) _ HI.out.sb.cam Tryz.underlying25 rfl hBm.out ?_))
    go_ret
    exact ⟨by first | rfl | simp, HI.out.bel⟩
   ·have hne : ∀ W, (binOp .neq 25 (.agg (a.cam.map encI).toArray) (.agg (b.cam.map encI).toArray)).run Tryz.prog W = .ok (.bool true) W := fun W => by rw [neq_mat2 W _ _ ha.len hb.len]; simp [h4]
    rw [h1] at c0
    rw [h3] at c1
    clear ha hb h h2 h1 h3 h4 hno c18 d18
    generalize b.w = bw at c0 d0
    generalize b.h = bh at c1 d1
    go_enter Tryz.func15, Tryz.ntmps15
    go_wp2_with (first | (refine wpList_load_mid_g rfl 25 (.tmp 23) rfl w.heap.size 2 rfl (a.cam.map encI) _ HI.out.sa.cam Tryz.underlying25 rfl hA.out ?_) | (refine wpList_load_mid_g rfl 25 (.tmp 25) rfl (w.heap.size + 1) 2 rfl (b.cam.map encI) _ HI.out.sb.cam Tryz.underlying25 rfl hBm.out ?_))
    go_ret
    exact ⟨by first | rfl | simp, HI.out.bel⟩
  ·rw [h1] at c0
   clear ha hb h h2 h1 hno c18 d18
   generalize b.w = bw at c0 d0
   generalize b.h = bh at d1 h3
   generalize a.h = ah at c1 h3
   go_enter Tryz.func15, Tryz.ntmps15
   go_wp2_with fail
   go_ret
   exact ⟨by first | rfl | simp, HI.out.bel⟩
 ·clear ha hb h h2 hno c18 d18 c1 d1
  generalize b.w = bw at d0 h1
  generalize a.w = aw at c0 h1
  go_enter Tryz.func15, Tryz.ntmps15
  go_wp2_with fail
  go_ret
  exact ⟨by first | rfl | simp, HI.out.bel⟩
end Go.Proofs.YtbbhmhihpdmoiaaGreat.Fx
