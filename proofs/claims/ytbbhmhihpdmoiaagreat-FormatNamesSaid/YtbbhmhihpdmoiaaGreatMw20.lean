import Derived.Laws.Rows
import Derived.Test.YtbbhmhihpdmoiaaGreatProg
import Derived.BigQuiet
import Derived.Deep.QuietTactic
import Derived.Deep.LoopGhost
import Derived.Deep.WholeRow
import Derived.Test.YtbbhmhihpdmoiaaGreatMw01
import Derived.Test.YtbbhmhihpdmoiaaGreatMw11
import Derived.Test.YtbbhmhihpdmoiaaGreatMw16
import Derived.Test.YtbbhmhihpdmoiaaGreatMw19
set_option linter.unusedVariables false
set_option linter.unusedSimpArgs false
namespace Go.Proofs.YtbbhmhihpdmoiaaGreat.Fx
open Go Go.RowKit Wm
def Dg (d : List Nat) : Prop := d.length = 20 ∧ ∀ x ∈ d, x < 65536
def addL : List Nat → List Nat → Nat → List Nat
 | x :: xs, y :: ys, c => (x + y + c) % 65536 :: addL xs ys ((x + y + c) / 65536)
 | _, _, _ => []
def pad (p : List Nat) : List Nat := p ++ List.replicate (20 - p.length) 0
theorem pad_put (p : List Nat) (v : Nat) (neg : Bool) (h : p.length < 20) : (bigC neg (pad p)).setIfInBounds (1 + p.length) (.int .u64 (v : Int)) = bigC neg (pad (p ++ [v])) := by
 unfold bigC pad
 rw [List.setIfInBounds_toArray]
 congr 1
 rw [Nat.add_comm, List.set_cons_succ]
 congr 1
 rw [show 20 - p.length = (20 - (p ++ [v]).length) + 1 from by simp; omega, List.replicate_succ]
 simp [encN, List.set_append_right]
theorem big_at (neg : Bool) (d : List Nat) (k : Nat) (h : k < d.length) : (bigC neg d)[1 + k]? = some (.int .u64 ((d.getD k 0 : Nat) : Int)) := by
 unfold bigC
 rw [List.getElem?_toArray, Nat.add_comm, List.getElem?_cons_succ, List.getElem?_map]
 simp [List.getD_eq_getElem?_getD, h, encN]
theorem pad_len (p : List Nat) (h : p.length ≤ 20) : (pad p).length = 20 := by simp [pad]; omega
structure MInv (nx ny : Bool) (dx dy : List Nat) (w : World) (k c : Nat) (p : List Nat) (wr : World) : Prop where
 kl : k ≤ 20
 pl : p.length = k
 cl : c ≤ 1
 eq : addL dx dy 0 = p ++ addL (dx.drop k) (dy.drop k) c
 bx : wr.heap[w.heap.size]? = some (.cells (bigC nx dx) 214 (0, 0))
 by0 : wr.heap[w.heap.size + 1]? = some (.cells (bigC ny dy) 214 (0, 0))
 bz : wr.heap[w.heap.size + 1 + 1 + 1]? = some (.cells (bigC false (pad p)) 214 (0, 0))
 br : wr.heap[w.heap.size + 1 + 1]? = some (.cells (bigC false zeros) 214 (0, 0))
 below : Below w.heap.size w wr
theorem block3 (w : World) (A B C D : Obj) : (((((w.alloc A).alloc B).alloc C).alloc D).heap[w.heap.size]? = some A ∧ ((((w.alloc A).alloc B).alloc C).alloc D).heap[w.heap.size + 1]? = some B) ∧ ((((w.alloc A).alloc B).alloc C).alloc D).heap[w.heap.size + 1 + 1]? = some C ∧ ((((w.alloc A).alloc B).alloc C).alloc D).heap[w.heap.size + 1 + 1 + 1]? = some D := by
 have h0 : (w.alloc A).heap[w.heap.size]? = some A := heap_alloc_new w A
 have h1 : ((w.alloc A).alloc B).heap[w.heap.size + 1]? = some B := heap_alloc2_new w A B
 have h2 : (((w.alloc A).alloc B).alloc C).heap[w.heap.size + 1 + 1]? = some C := by
  have := heap_alloc_new ((w.alloc A).alloc B) C
  simpa only [World.size_alloc] using this
 have h3 : ((((w.alloc A).alloc B).alloc C).alloc D).heap[w.heap.size + 1 + 1 + 1]? = some D := by
  have := heap_alloc_new (((w.alloc A).alloc B).alloc C) D
  simpa only [World.size_alloc] using this
 exact ⟨⟨step_row (step_row (step_row h0)), step_row (step_row h1)⟩, step_row h2, h3⟩
theorem addL_step (dx dy : List Nat) (k c : Nat) (hx : k < dx.length) (hy : k < dy.length) :
  addL (dx.drop k) (dy.drop k) c = ((dx.getD k 0 + dy.getD k 0 + c) % 65536) :: addL (dx.drop (k + 1)) (dy.drop (k + 1)) ((dx.getD k 0 + dy.getD k 0 + c) / 65536) := by
 rw [List.drop_eq_getElem_cons hx, List.drop_eq_getElem_cons hy, addL]
 simp [List.getD_eq_getElem?_getD, hx, hy]
theorem MInv.next {nx ny : Bool} {dx dy : List Nat} {w wr : World} {k c a b nq : Nat} {p : List Nat} (I : MInv nx ny dx dy w k c p wr) (hx : Dg dx) (hy : Dg dy) (hk : k < 20) (ha : dx.getD k 0 = a) (hb : dy.getD k 0 = b) (ha1 : a < 65536) (hb1 : b < 65536) :
  MInv nx ny dx dy w (k + 1) ((a + b + c) / 65536) (p ++ [(a + b + c) % 65536]) ((wr.drewN nq).setCell ⟨w.heap.size + 1 + 1 + 1, 1 + k, none⟩ (.int .u64 (((a + b + c) % 65536 : Nat) : Int))) := by
 have hc := I.cl
 have hp := I.pl
 have hz : (wr.drewN nq).heap[w.heap.size + 1 + 1 + 1]? = some (.cells (bigC false (pad p)) 214 (0, 0)) := I.bz
 refine { kl := (by omega), pl := (by rw [List.length_append, hp]; rfl), cl := (by omega), eq := ?_, bx := ?_, by0 := ?_, bz := ?_, br := ?_, below := ?_ }
 ·rw [I.eq, addL_step dx dy k c (by rw [hx.1]; exact hk) (by rw [hy.1]; exact hk), ha, hb, List.append_assoc]
  rfl
 ·rw [heap_setCell_other _ _ _ _ (show w.heap.size ≠ w.heap.size + 1 + 1 + 1 by omega)]; exact I.bx
 ·rw [heap_setCell_other _ _ _ _ (show w.heap.size + 1 ≠ w.heap.size + 1 + 1 + 1 by omega)]; exact I.by0
 ·rw [heap_setCell_same _ _ _ _ _ _ hz, ← hp, pad_put p _ false (by omega)]
 ·rw [heap_setCell_other _ _ _ _ (show w.heap.size + 1 + 1 ≠ w.heap.size + 1 + 1 + 1 by omega)]; exact I.br
 ·exact Below.setCell (show Below w.heap.size w (wr.drewN nq) from ⟨I.below.os, I.below.tape, I.below.output, I.below.size, I.below.block⟩) (show w.heap.size ≤ w.heap.size + 1 + 1 + 1 by omega) _
def MRel (nx ny : Bool) (dx dy : List Nat) (w : World) (g : Nat) (s6 s7 : Value) (wr : World) : Prop :=
 ∃ k c p, g = 20 - k ∧ s6 = .int .u64 ((c : Nat) : Int) ∧ s7 = .int .i64 ((k : Nat) : Int) ∧ MInv nx ny dx dy w k c p wr
def RetB (neg : Bool) (d : List Nat) (w : World) (e : Ending) (w' : World) : Prop := e = .returned (.agg (bigC neg d)) ∧ Below w.heap.size w w'
set_option maxHeartbeats 2000000 in
set_option maxRecDepth 100000 in
theorem more_any (nx ny : Bool) (dx dy : List Nat) (w : World) (hx : Dg dx) (hy : Dg dy) :
  Calls Tryz.prog 165 #[.agg (bigC nx dx), .agg (bigC ny dy)] w (RetB false (addL dx dy 0) w) := by
 have HX := Lib.hid hx
 have HY := Lib.hid hy
 clear hx hy
 go_enter Tryz.func165, Tryz.ntmps165
 go_wp2_with fail
 go_loopg [6, 7] 20 (MRel nx ny dx dy w)
 case atStart =>
  refine ⟨0, 0, [], rfl, rfl, rfl, ?_⟩
  refine { kl := (by omega), pl := rfl, cl := (by omega), eq := rfl, bx := ?_, by0 := ?_, bz := ?_, br := ?_, below := (by go_grown) }
  ·exact (block3 w _ _ _ _).1.1
  ·exact (block3 w _ _ _ _).1.2
  ·exact (block3 w _ _ _ _).2.2
  ·exact (block3 w _ _ _ _).2.1
 case round =>
  obtain ⟨k, c, p, rfl, rfl, rfl, I⟩ := hrel
  have HI := Lib.hid I
  by_cases hk : k < 20
  ·obtain ⟨a, ha⟩ : ∃ a, dx.getD k 0 = a := ⟨_, rfl⟩
   obtain ⟨b, hb⟩ : ∃ b, dy.getD k 0 = b := ⟨_, rfl⟩
   have ha1 : a < 65536 := HX.out.2 a (by rw [← ha]; have := HX.out.1; simp [List.getD_eq_getElem?_getD, show k < dx.length by omega])
   have hb1 : b < 65536 := HY.out.2 b (by rw [← hb]; have := HY.out.1; simp [List.getD_eq_getElem?_getD, show k < dy.length by omega])
   have cx : wr.cell? ⟨w.heap.size, 1 + k, none⟩ = some (.int .u64 (a : Int)) := by rw [cell_of_row _ _ _ _ _ _ I.bx, big_at _ _ _ (by rw [HX.out.1]; exact hk), ha]
   have cy : wr.cell? ⟨w.heap.size + 1, 1 + k, none⟩ = some (.int .u64 (b : Int)) := by rw [cell_of_row _ _ _ _ _ _ I.by0, big_at _ _ _ (by rw [HY.out.1]; exact hk), hb]
   have cz : wr.cell? ⟨w.heap.size + 1 + 1 + 1, 1 + k, none⟩ = some (.int .u64 (((pad p).getD k 0 : Nat) : Int)) := by rw [cell_of_row _ _ _ _ _ _ I.bz, big_at _ _ _ (by rw [pad_len p (by have := I.pl; omega)]; exact hk)]
   have fz : wr.frozen? ⟨w.heap.size + 1 + 1 + 1, 1 + k, none⟩ = false := frozen_row I.bz
   have hc1 := I.cl
   have k0 : (0 : Int) ≤ (k : Int) := by omega
   have k1 : (k : Int) < 20 := by omega
   have HA := Lib.hid ha
   have HB := Lib.hid hb
   clear ha hb I
   go_wp2_with fail
   go_quiet (fail)
   go_wp2_with fail
   go_roundg (20 - (k + 1))
   case measure => omega
   case rel => exact ⟨k + 1, _, _, rfl, by go_num, by go_num, by have := HI.out.next (nq := nq) HX.out HY.out hk HA.out HB.out ha1 hb1; simpa using this⟩
  ·have hk20 : k = 20 := by have := I.kl; omega
   have hp := I.pl
   have hpd : pad p = p := by unfold pad; rw [hp, hk20]; simp
   have hres : addL dx dy 0 = p := by
    rw [I.eq, hk20, List.drop_of_length_le (by rw [HX.out.1]; omega)]
    simp [addL]
   have bz := I.bz
   have br := I.br
   rw [hpd] at bz
   have hpl : p.length = 20 := by omega
   have hs1 : (bigC false p).size = 21 := by rw [big_size, hpl]
   have hi1 : (Tryz.prog.info? 214).map (·.size) = some (bigC false p).size := by rw [size21, hs1]
   have hs0 : (bigC false zeros).size = (bigC false p).size := by rw [hs1]; rfl
   have k1 : ¬ (k : Int) < 20 := by omega
   have HRES := Lib.hid hres
   have BZ := Lib.hid bz
   have BR := Lib.hid br
   have HI1 := Lib.hid hi1
   have HS0 := Lib.hid hs0
   have BB := Lib.hid I.below
   clear hk20 hp hpd hres bz br hpl hs1 hi1 hs0 I
   go_wp2_with (first | (refine wpList_load_row rfl 214 (.tmp 5) rfl (w.heap.size + 1 + 1 + 1) rfl _ _ _ _ BZ.out Tryz.underlying214 rfl HI1.out ?_) | (refine wpList_store_big rfl 214 (.tmp 4) (.tmp 31) rfl (w.heap.size + 1 + 1) _ _ (bigC false p) rfl rfl BR.out HI1.out HS0.out (big_one _ _) ?_))
   refine bodyPost_ret (v := .agg (bigC false p)) (results_cell_row rfl _ _ (w.heap.size + 1 + 1) _ _ _ _ rfl (setRow_heap _ _ _ _ _ _ BR.out) Tryz.underlying214 rfl HI1.out) rfl ?_
   rw [HRES.out]
   exact ⟨rfl, Below.row BB.out (by omega) _⟩
end Go.Proofs.YtbbhmhihpdmoiaaGreat.Fx
set_option linter.unusedVariables false
set_option linter.unusedSimpArgs false
namespace Go.Proofs.YtbbhmhihpdmoiaaGreat.Fx
open Go Go.RowKit Wm
end Go.Proofs.YtbbhmhihpdmoiaaGreat.Fx
set_option linter.unusedVariables false
set_option linter.unusedSimpArgs false
namespace Go.Proofs.YtbbhmhihpdmoiaaGreat.Fx
open Go Go.RowKit Wm
def subL : List Nat → List Nat → Nat → List Nat
 | x :: xs, y :: ys, c => (x + 65536 - y - c) % 65536 :: subL xs ys (1 - (x + 65536 - y - c) / 65536)
 | _, _, _ => []
structure AInv (nx ny : Bool) (dx dy : List Nat) (w : World) (k c : Nat) (p : List Nat) (wr : World) : Prop where
 kl : k ≤ 20
 pl : p.length = k
 cl : c ≤ 1
 eq : subL dx dy 0 = p ++ subL (dx.drop k) (dy.drop k) c
 bx : wr.heap[w.heap.size]? = some (.cells (bigC nx dx) 214 (0, 0))
 by0 : wr.heap[w.heap.size + 1]? = some (.cells (bigC ny dy) 214 (0, 0))
 bz : wr.heap[w.heap.size + 1 + 1 + 1]? = some (.cells (bigC false (pad p)) 214 (0, 0))
 br : wr.heap[w.heap.size + 1 + 1]? = some (.cells (bigC false zeros) 214 (0, 0))
 below : Below w.heap.size w wr
theorem subL_step (dx dy : List Nat) (k c : Nat) (hx : k < dx.length) (hy : k < dy.length) :
  subL (dx.drop k) (dy.drop k) c = ((dx.getD k 0 + 65536 - dy.getD k 0 - c) % 65536) :: subL (dx.drop (k + 1)) (dy.drop (k + 1)) (1 - (dx.getD k 0 + 65536 - dy.getD k 0 - c) / 65536) := by
 rw [List.drop_eq_getElem_cons hx, List.drop_eq_getElem_cons hy, subL]
 simp [List.getD_eq_getElem?_getD, hx, hy]
theorem AInv.next {nx ny : Bool} {dx dy : List Nat} {w wr : World} {k c a b s nq : Nat} {p : List Nat} (I : AInv nx ny dx dy w k c p wr) (hx : Dg dx) (hy : Dg dy) (hk : k < 20) (ha : dx.getD k 0 = a) (hb : dy.getD k 0 = b) (ha1 : a < 65536) (hb1 : b < 65536) (hs : a + 65536 - b - c = s) :
  AInv nx ny dx dy w (k + 1) (1 - s / 65536) (p ++ [s % 65536]) ((wr.drewN nq).setCell ⟨w.heap.size + 1 + 1 + 1, 1 + k, none⟩ (.int .u64 ((s % 65536 : Nat) : Int))) := by
 have hc := I.cl
 have hp := I.pl
 have hz : (wr.drewN nq).heap[w.heap.size + 1 + 1 + 1]? = some (.cells (bigC false (pad p)) 214 (0, 0)) := I.bz
 refine { kl := (by omega), pl := (by rw [List.length_append, hp]; rfl), cl := (by omega), eq := ?_, bx := ?_, by0 := ?_, bz := ?_, br := ?_, below := ?_ }
 ·rw [I.eq, subL_step dx dy k c (by rw [hx.1]; exact hk) (by rw [hy.1]; exact hk), ha, hb, hs, List.append_assoc]
  rfl
 ·rw [heap_setCell_other _ _ _ _ (show w.heap.size ≠ w.heap.size + 1 + 1 + 1 by omega)]; exact I.bx
 ·rw [heap_setCell_other _ _ _ _ (show w.heap.size + 1 ≠ w.heap.size + 1 + 1 + 1 by omega)]; exact I.by0
 ·rw [heap_setCell_same _ _ _ _ _ _ hz, ← hp, pad_put p _ false (by omega)]
 ·rw [heap_setCell_other _ _ _ _ (show w.heap.size + 1 + 1 ≠ w.heap.size + 1 + 1 + 1 by omega)]; exact I.br
 ·exact Below.setCell (show Below w.heap.size w (wr.drewN nq) from ⟨I.below.os, I.below.tape, I.below.output, I.below.size, I.below.block⟩) (show w.heap.size ≤ w.heap.size + 1 + 1 + 1 by omega) _
end Go.Proofs.YtbbhmhihpdmoiaaGreat.Fx
set_option linter.unusedVariables false
set_option linter.unusedSimpArgs false
namespace Go.Proofs.YtbbhmhihpdmoiaaGreat.Fx
open Go Go.RowKit Wm
theorem big_sign (neg x : Bool) (d : List Nat) : (bigC neg d).setIfInBounds 0 (.bool x) = bigC x d := by
 unfold bigC
 rw [List.setIfInBounds_toArray]
 rfl
theorem big_head (neg : Bool) (d : List Nat) : (bigC neg d)[0]? = some (.bool neg) := by
 unfold bigC
 rw [List.getElem?_toArray]
 rfl
end Go.Proofs.YtbbhmhihpdmoiaaGreat.Fx
set_option linter.unusedVariables false
namespace Go.Proofs.YtbbhmhihpdmoiaaGreat.Fx
open Go Go.RowKit Wm
def dgF : Nat → Nat → List Nat
 | 0, _ => []
 | k + 1, n => n % 65536 :: dgF k (n / 65536)
def dg (n : Nat) : List Nat := dgF 20 n
def BB : Nat := 65536 ^ 20
def num : List Nat → Nat
 | [] => 0
 | x :: xs => x + 65536 * num xs
theorem dgF_num : ∀ (d : List Nat), (∀ x ∈ d, x < 65536) → dgF d.length (num d) = d
 | [], _ => rfl
 | x :: d, h => by
  have hx := h x (by simp)
  rw [List.length_cons, dgF, num, show (x + 65536 * num d) % 65536 = x by omega, show (x + 65536 * num d) / 65536 = num d by omega, dgF_num d fun y hy => h y (by simp [hy])]
theorem dg_num {d : List Nat} (h : Dg d) : dg (num d) = d := by
 have := dgF_num d h.2
 rw [h.1] at this
 exact this
def bv (z : Int) : Array Value := bigC (decide (z < 0)) (dg z.natAbs)
end Go.Proofs.YtbbhmhihpdmoiaaGreat.Fx

set_option linter.unusedVariables false
set_option linter.unusedSimpArgs false
namespace Go.Proofs.YtbbhmhihpdmoiaaGreat.Fx
open Go Go.RowKit Wm
structure AddI (nx ny nz : Bool) (dx dy dz : List Nat) (w W : World) : Prop where
 bx : W.heap[w.heap.size]? = some (.cells (bigC nx dx) 214 (0, 0))
 by0 : W.heap[w.heap.size + 1]? = some (.cells (bigC ny dy) 214 (0, 0))
 br : W.heap[w.heap.size + 1 + 1]? = some (.cells (bigC false zeros) 214 (0, 0))
 bz : W.heap[w.heap.size + 1 + 1 + 1]? = some (.cells (bigC nz dz) 214 (0, 0))
 below : Below w.heap.size w W
theorem AddI.up {nx ny nz : Bool} {dx dy dz : List Nat} {w W X : World} (h : AddI nx ny nz dx dy dz w W) (hb : Below W.heap.size W X) : AddI nx ny nz dx dy dz w X :=
 ⟨keep_row hb h.bx, keep_row hb h.by0, keep_row hb h.br, keep_row hb h.bz, bnext h.below hb⟩
theorem AddI.row {nx ny nz : Bool} {dx dy dz : List Nat} {w W : World} (h : AddI nx ny nz dx dy dz w W) (n : Bool) (d : List Nat) : AddI nx ny n dx dy d w (W.setRow (w.heap.size + 1 + 1 + 1) (bigC n d)) :=
 ⟨by rw [setRow_other _ _ _ _ (by omega)]; exact h.bx, by rw [setRow_other _ _ _ _ (by omega)]; exact h.by0, by rw [setRow_other _ _ _ _ (by omega)]; exact h.br, setRow_heap _ _ _ _ _ _ h.bz, Below.row h.below (by omega) _⟩
theorem AddI.sign {nx ny nz : Bool} {dx dy dz : List Nat} {w W : World} (h : AddI nx ny nz dx dy dz w W) (n : Bool) : AddI nx ny n dx dy dz w (W.setCell ⟨w.heap.size + 1 + 1 + 1, 0, none⟩ (.bool n)) :=
 ⟨by rw [heap_setCell_other _ _ _ _ (by show _ ≠ w.heap.size + 1 + 1 + 1; omega)]; exact h.bx, by rw [heap_setCell_other _ _ _ _ (by show _ ≠ w.heap.size + 1 + 1 + 1; omega)]; exact h.by0, by rw [heap_setCell_other _ _ _ _ (by show _ ≠ w.heap.size + 1 + 1 + 1; omega)]; exact h.br,
  by rw [heap_setCell_same _ _ _ _ _ _ h.bz, big_sign], h.below.setCell (p := ⟨w.heap.size + 1 + 1 + 1, 0, none⟩) (by show _ ≤ w.heap.size + 1 + 1 + 1; omega) _⟩
end Go.Proofs.YtbbhmhihpdmoiaaGreat.Fx

set_option linter.unusedVariables false
set_option linter.unusedSimpArgs false
namespace Go.Proofs.YtbbhmhihpdmoiaaGreat.Fx
open Go Go.RowKit Wm
theorem wpList_build_to {P : Program} {ops : Array Oper} {rest : List Oper} {o : Oper} {a : Act} {w : World} {Q : Exit → Act → World → Prop} (hg : o.guard = none) (t : TypeId) (parts : Array (Nat × Operand)) (ho : o.op = .build t parts)
  (cells : Array Value) (hb : P.built t (parts.map fun (i, x) => (i, a.eval x)).toList = some cells) (h : wpList P ops Q rest (a.put o.dst (.agg cells)) w) : wpList P ops Q (o :: rest) a w :=
 wpList_build hg t parts ho (by rw [hb]; rfl) (by rw [hb]; exact h)
theorem wpList_store_new {P : Program} {ops : Array Oper} {rest : List Oper} {op : Oper} {a : Act} {w : World} {Q : Exit → Act → World → Prop} (hgd : op.guard = none) (ty : TypeId) (x y : Operand) (ho : op.op = .store ty x y)
  (g : Nat) (t : TypeId) (c c' : Array Value) (hx : a.eval x = .pointer (some ⟨g, 0, none⟩)) (hg : w.heap.size = g) (hy : a.eval y = .agg c')
  (hi : (P.info? ty).map (·.size) = some c'.size) (hs : c.size = c'.size) (h1 : c'.all (·.oneCell') = true)
  (h : wpList P ops Q rest (a.put op.dst undef) (w.alloc (.cells c' t))) : wpList P ops Q (op :: rest) a (w.alloc (.cells c t)) := by
 subst hg
 refine wpList_store_big hgd ty x y ho w.heap.size t c c' hx hy (heap_alloc_new _ _) hi hs h1 ?_
 rw [World.setRow_alloc_new]
 exact h
structure OfI (neg : Bool) (p : List Nat) (R Z : Nat) (w W : World) : Prop where
 br : W.heap[R]? = some (.cells (bigC false zeros) 214 (0, 0))
 bz : W.heap[Z]? = some (.cells (bigC neg (pad p)) 214 (0, 0))
 ne : R ≠ Z
 wz : w.heap.size ≤ Z
 below : Below w.heap.size w W
theorem OfI.next {neg : Bool} {p : List Nat} {R Z : Nat} {w W : World} (h : OfI neg p R Z w W) (v : Nat) (hp : p.length < 20) : OfI neg (p ++ [v]) R Z w (W.setCell ⟨Z, 1 + p.length, none⟩ (.int .u64 (v : Int))) := by
 have hn := h.ne
 refine ⟨?_, ?_, hn, h.wz, h.below.setCell (p := ⟨Z, 1 + p.length, none⟩) h.wz _⟩
 ·rw [heap_setCell_other _ _ _ _ (by show R ≠ Z; exact hn)]; exact h.br
 ·rw [heap_setCell_same _ _ _ _ _ _ h.bz, pad_put p v neg hp]
end Go.Proofs.YtbbhmhihpdmoiaaGreat.Fx

set_option linter.unusedVariables false
set_option linter.unusedSimpArgs false
namespace Go.Proofs.YtbbhmhihpdmoiaaGreat.Fx
open Go Go.RowKit
def ScAt (B : Nat) (s : ScR) (W : World) : Prop := W.heap[B]? = some (.cells (scC s) 28 (0, 0))
theorem ScAt.new (w : World) (s : ScR) : ScAt w.heap.size s (w.alloc (.cells (scC s) 28)) := heap_alloc_new _ _
theorem ScAt.below {B : Nat} {s : ScR} {w W : World} (hb : Below w.heap.size w W) (h : ScAt B s w) : ScAt B s W := keep_row hb h
theorem ScAt.at {B j : Nat} {s : ScR} {W : World} (h : ScAt B s W) : W.cell? ⟨B, j, none⟩ = (scL s)[j]? := by
 rw [cell_of_row _ _ _ _ _ _ h]
 simp [scC]
theorem ScAt.c0 {B : Nat} {s : ScR} {W : World} (h : ScAt B s W) : W.cell? ⟨B, 0, none⟩ = some (.int .i64 s.w) := h.at
theorem ScAt.c1 {B : Nat} {s : ScR} {W : World} (h : ScAt B s W) : W.cell? ⟨B, 1, none⟩ = some (.int .i64 s.h) := h.at
theorem ScAt.c18 {B : Nat} {s : ScR} {W : World} (h : ScAt B s W) (hs : ScWf s) : W.cell? ⟨B, 18, none⟩ = some (.slice s.oo s.os.length s.oc) := h.at.trans (scL_os hs)
theorem ScAt.cam {B : Nat} {s : ScR} {W : World} (h : ScAt B s W) : W.rangeAt B 2 (s.cam.map encI) := fun j v hj => h.at.trans (scL_cam hj)
theorem ObjAt.c0 {W : World} {b j : Nat} {x : ObjR} (h : ObjAt W b j x) : W.cell? ⟨b, j, none⟩ = some (.int .i64 x.id) := h.cells 0 _ (objL_id x)
theorem ObjAt.c17 {W : World} {b j : Nat} {x : ObjR} (h : ObjAt W b j x) : W.cell? ⟨b, j + 17, none⟩ = some (.slice x.vo x.vs.length x.vc) := h.cells 17 _ (objL_vs h.wf)
theorem ObjAt.c18 {W : World} {b j : Nat} {x : ObjR} (h : ObjAt W b j x) : W.cell? ⟨b, j + 18, none⟩ = some (.slice x.tq x.ts.length x.tc) := h.cells 18 _ (objL_ts h.wf)
theorem ObjAt.mat {W : World} {b j : Nat} {x : ObjR} (h : ObjAt W b j x) : W.rangeAt b (j + 1) (x.m.map encI) := fun i v hi => by
 rw [Nat.add_assoc]
 exact h.cells (1 + i) _ (objL_m hi)
def findZ (l : List ObjR) (id : Int) : Option Nat := l.findIdx? fun x => decide (x.id = id)
def RetFind (o : Option Nat) (w : World) (e : Ending) (w' : World) : Prop := e = .returned (.tuple #[.int .i64 ((o.getD 0 : Nat) : Int), .bool o.isSome]) ∧ Below w.heap.size w w'
end Go.Proofs.YtbbhmhihpdmoiaaGreat.Fx
set_option linter.unusedVariables false
set_option linter.unusedSimpArgs false
namespace Go.Proofs.YtbbhmhihpdmoiaaGreat.Fx
open Go Go.RowKit
def farZ (n : Int) : Bool := decide (1073741824 < n) || decide (n < -1073741824)
theorem objL_one (x : ObjR) : (objL x).toArray.all (·.oneCell') = true := by
 rw [List.all_toArray, List.all_eq_true]
 intro v hv
 unfold objL at hv
 rcases List.mem_cons.1 hv with rfl | hv
 ·rfl
 rcases List.mem_append.1 hv with hv | hv
 ·obtain ⟨z, _, rfl⟩ := List.mem_map.1 hv
  rfl
 ·rcases List.mem_cons.1 hv with rfl | hv
  ·rfl
  rcases List.mem_cons.1 hv with rfl | hv
  ·rfl
  cases hv
structure HoI (s : ScR) (x : ObjR) (w V : World) : Prop where
 sc : ScAt w.heap.size s V
 xr : V.heap[w.heap.size + 1]? = some (.cells (objL x).toArray 73 (0, 0))
 ob : ObjsAt V s.oo s.os
 vs : VertsAt V x.vo x.vs
 ts : TrisAt V x.tq x.ts
 bel : Below w.heap.size w V
theorem HoI.up {s : ScR} {x : ObjR} {w V X : World} (i : HoI s x w V) (hb : Below V.heap.size V X) : HoI s x w X :=
 ⟨i.sc.below hb, keep_row hb i.xr, i.ob.below hb, i.vs.below hb, i.ts.below hb, bnext i.bel hb⟩
theorem HoI.new {s : ScR} {x : ObjR} {k : Nat} {w : World} (hs : ScWf s) (h : ObjsAt w s.oo s.os) (hx : s.os[k]? = some x) : HoI s x w ((w.alloc (.cells (scC s) 28)).alloc (.cells (objL x).toArray 73)) := by
 have hB : Below w.heap.size w ((w.alloc (.cells (scC s) 28)).alloc (.cells (objL x).toArray 73)) := by go_grown
 obtain ⟨b, off, e, hat⟩ := h k x hx
 refine ⟨step_row (ScAt.new w s), ?_, h.below hB, hat.verts.below hB, hat.tris.below hB, hB⟩
 have := heap_alloc_new (w.alloc (.cells (scC s) 28)) (.cells (objL x).toArray 73)
 rw [World.size_alloc] at this
 exact this
theorem HoI.at {s : ScR} {x : ObjR} {w V : World} {j : Nat} (i : HoI s x w V) : V.cell? ⟨w.heap.size + 1, j, none⟩ = (objL x)[j]? := by
 rw [cell_of_row _ _ _ _ _ _ i.xr]
 simp
theorem HoI.x0 {s : ScR} {x : ObjR} {w V : World} (i : HoI s x w V) : V.cell? ⟨w.heap.size + 1, 0, none⟩ = some (.int .i64 x.id) := i.at
theorem HoI.x17 {s : ScR} {x : ObjR} {w V : World} (i : HoI s x w V) (hw : ObjWf x) : V.cell? ⟨w.heap.size + 1, 17, none⟩ = some (.slice x.vo x.vs.length x.vc) := i.at.trans (objL_vs hw)
theorem HoI.mat {s : ScR} {x : ObjR} {w V : World} (i : HoI s x w V) : V.rangeAt (w.heap.size + 1) 1 (x.m.map encI) := fun j v hj => i.at.trans (objL_m hj)
theorem HoI.cam {s : ScR} {x : ObjR} {w V : World} (i : HoI s x w V) : V.rangeAt w.heap.size 2 (s.cam.map encI) := i.sc.cam
def fineV (v : List Int) : Bool := !(farZ (v.getD 0 0) || farZ (v.getD 1 0) || farZ (v.getD 2 0))
def fineT (n : Int) (t : TriR) : Bool := !(decide (t.a < 0) || decide (t.b < 0) || decide (t.c < 0) || decide (n ≤ t.a) || decide (n ≤ t.b) || decide (n ≤ t.c))
def keep4 (s : ScR) (x : ObjR) (k : Nat) : Bool := (s.os.take k).all (fun y => decide (y.id ≠ x.id)) && (decide (1 ≤ x.id) && decide (x.id ≤ 65535))
def keep7 (s : ScR) (x : ObjR) (k : Nat) : Bool := x.vs.all fineV && decide ((x.vs.length : Int) ≤ 64)
def keep8 (s : ScR) (x : ObjR) (k : Nat) : Bool := x.ts.all (fineT (x.vs.length : Int)) && decide ((x.ts.length : Int) ≤ 64)
end Go.Proofs.YtbbhmhihpdmoiaaGreat.Fx

set_option linter.unusedVariables false
set_option linter.unusedSimpArgs false
namespace Go.Proofs.YtbbhmhihpdmoiaaGreat.Fx
open Go Go.RowKit Go.Shelf Wm
theorem exec_load_row {P : Program} {o : Oper} {a : Act} {w : World} (ty : TypeId) (x : Operand) (ho : o.op = .load ty x)
  (g : Nat) (hx : a.eval x = .pointer (some ⟨g, 0, none⟩)) (t : TypeId) (cs : Array Value) (fr : Nat × Nat) (d : TypeDesc) (hg : w.heap[g]? = some (.cells cs t fr))
  (hu : P.underlying ty = some d) (hd : (match d with | .struct _ | .array _ _ => true | _ => false) = true) (hi : (P.info? ty).map (·.size) = some cs.size) :
  (execOp a.eval o).run P w = .ok (.value (.agg cs)) w := by
 unfold execOp
 simp only [ho, hx, Instr.loadAt, Instr.sureAddr, Sem.run_bind, Sem.run_pure, Result.andThen_ok, run_loadVar_row w g t ty cs fr d hg hu hd hi]
end Go.Proofs.YtbbhmhihpdmoiaaGreat.Fx
set_option linter.unusedVariables false
set_option linter.unusedSimpArgs false
namespace Go.Proofs.YtbbhmhihpdmoiaaGreat.Fx
open Go Go.RowKit Go.Shelf Wm
def Ans (f : Nat) (args : Array Value) (v : Value) : Prop := ∀ w, Calls Tryz.prog f args w fun e w' => e = .returned v ∧ Below w.heap.size w w'
theorem wpIn_store_row {F : Fence} {n : Nat} {P : Program} {o : Oper} {a : Act} {w : World} {K : Act → World → Prop} {Q : Exit → Act → World → Prop} (hF : ∀ f, F.fn f) (ty : TypeId) (x y : Operand) (ho : o.op = .store ty x y)
  (g : Nat) (t : TypeId) (c c' : Array Value) (hx : a.eval x = .pointer (some ⟨g, 0, none⟩)) (hy : a.eval y = .agg c') (hg : w.heap[g]? = some (.cells c t (0, 0)))
  (hi : (P.info? ty).map (·.size) = some c'.size) (hs : c.size = c'.size) (h1 : c'.all (·.oneCell') = true) (h : K (a.put o.dst undef) (w.setRow g c')) : Oper.wpIn F n P o a w K Q := by
 unfold Oper.wpIn
 rw [Oper.semAt_plain F _ _ (by intro c e; rw [ho] at e; cases e)]
 unfold execOp
 simp only [ho, hx, hy, Instr.storeAt, Instr.sureAddr, Sem.run_bind, Sem.run_pure, Result.andThen_ok, run_storeVar_row w g t ty c c' hg hi hs h1, Oper.uponIn]
 exact ⟨fun f _ => hF f, h⟩
end Go.Proofs.YtbbhmhihpdmoiaaGreat.Fx
