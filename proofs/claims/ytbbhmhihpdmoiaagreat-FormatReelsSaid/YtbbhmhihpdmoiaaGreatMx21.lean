import Derived.Laws.Rows
import Derived.Test.YtbbhmhihpdmoiaaGreatProg
import Derived.Deep.WholeRow
import Derived.BigQuiet
import Derived.Laws.ResultCell
import Derived.Laws.StructEq
import Derived.Test.YtbbhmhihpdmoiaaGreatMx01
import Derived.Test.YtbbhmhihpdmoiaaGreatMx10
import Derived.Test.YtbbhmhihpdmoiaaGreatMx11
import Derived.Test.YtbbhmhihpdmoiaaGreatMx19
import Derived.Test.YtbbhmhihpdmoiaaGreatMx20
/- The document's sums, walked. -/
set_option linter.unusedVariables false
set_option linter.unusedSimpArgs false
namespace Go.Proofs.YtbbhmhihpdmoiaaGreat.Fx
open Go Go.RowKit Wm
structure AddI (nx ny nz : Bool) (dx dy dz : List Nat) (w W : World) : Prop where
  bx : W.heap[w.heap.size]? = some (.cells (bigC nx dx) 214 (0, 0))
  by0 : W.heap[w.heap.size + 1]? = some (.cells (bigC ny dy) 214 (0, 0))
  br : W.heap[w.heap.size + 1 + 1]? = some (.cells (bigC false zeros) 214 (0, 0))
  bz : W.heap[w.heap.size + 1 + 1 + 1]? = some (.cells (bigC nz dz) 214 (0, 0))
  below : Below w.heap.size w W
theorem AddI.up {nx ny nz : Bool} {dx dy dz : List Nat} {w W X : World} (h : AddI nx ny nz dx dy dz w W) (hb : Below W.heap.size W X) : AddI nx ny nz dx dy dz w X :=
  ⟨keep_row hb h.bx, keep_row hb h.by0, keep_row hb h.br, keep_row hb h.bz, bnext h.below hb⟩
theorem AddI.row {nx ny nz : Bool} {dx dy dz : List Nat} {w W : World} (h : AddI nx ny nz dx dy dz w W) (n : Bool) (d : List Nat) : AddI nx ny n dx dy d w (W.setRow (w.heap.size + 1 + 1 + 1) (bigC n d)) :=
  ⟨by rw [setRow_other _ _ _ _ (by omega)]; exact h.bx, by rw [setRow_other _ _ _ _ (by omega)]; exact h.by0, by rw [setRow_other _ _ _ _ (by omega)]; exact h.br, setRow_heap _ _ _ _ _ _ h.bz, Below.row h.below (by omega) _⟩
theorem AddI.sign {nx ny nz : Bool} {dx dy dz : List Nat} {w W : World} (h : AddI nx ny nz dx dy dz w W) (n : Bool) : AddI nx ny n dx dy dz w (W.setCell ⟨w.heap.size + 1 + 1 + 1, 0, none⟩ (.bool n)) :=
  ⟨by rw [heap_setCell_other _ _ _ _ (by show _ ≠ w.heap.size + 1 + 1 + 1; omega)]; exact h.bx, by rw [heap_setCell_other _ _ _ _ (by show _ ≠ w.heap.size + 1 + 1 + 1; omega)]; exact h.by0, by rw [heap_setCell_other _ _ _ _ (by show _ ≠ w.heap.size + 1 + 1 + 1; omega)]; exact h.br,
    by rw [heap_setCell_same _ _ _ _ _ _ h.bz, big_sign], h.below.setCell (p := ⟨w.heap.size + 1 + 1 + 1, 0, none⟩) (by show _ ≤ w.heap.size + 1 + 1 + 1; omega) _⟩
end Go.Proofs.YtbbhmhihpdmoiaaGreat.Fx


/- The document's numbers of 64 bits, walked. -/
set_option linter.unusedVariables false
set_option linter.unusedSimpArgs false
namespace Go.Proofs.YtbbhmhihpdmoiaaGreat.Fx
open Go Go.RowKit Wm
theorem wpList_build_to {P : Program} {ops : Array Oper} {rest : List Oper} {o : Oper} {a : Act} {w : World} {Q : Exit → Act → World → Prop} (hg : o.guard = none) (t : TypeId) (parts : Array (Nat × Operand)) (ho : o.op = .build t parts)
    (cells : Array Value) (hb : P.built t (parts.map fun (i, x) => (i, a.eval x)).toList = some cells) (h : wpList P ops Q rest (a.put o.dst (.agg cells)) w) : wpList P ops Q (o :: rest) a w :=
  wpList_build hg t parts ho (by rw [hb]; rfl) (by rw [hb]; exact h)
/-- a store of the whole of the block that was just laid -/
theorem wpList_store_new {P : Program} {ops : Array Oper} {rest : List Oper} {op : Oper} {a : Act} {w : World} {Q : Exit → Act → World → Prop} (hgd : op.guard = none) (ty : TypeId) (x y : Operand) (ho : op.op = .store ty x y)
    (g : Nat) (t : TypeId) (c c' : Array Value) (hx : a.eval x = .pointer (some ⟨g, 0, none⟩)) (hg : w.heap.size = g) (hy : a.eval y = .agg c')
    (hi : (P.info? ty).map (·.size) = some c'.size) (hs : c.size = c'.size) (h1 : c'.all (·.oneCell') = true)
    (h : wpList P ops Q rest (a.put op.dst undef) (w.alloc (.cells c' t))) : wpList P ops Q (op :: rest) a (w.alloc (.cells c t)) := by
  subst hg
  refine wpList_store_big hgd ty x y ho w.heap.size t c c' hx hy (heap_alloc_new _ _) hi hs h1 ?_
  rw [World.setRow_alloc_new]
  exact h
structure OfI (neg : Bool) (p : List Nat) (R Z : Nat) (w W : World) : Prop where
  br : W.heap[R]? = some (.cells (bigC false zeros) 214 (0, 0))
  bz : W.heap[Z]? = some (.cells (bigC neg (pad p)) 214 (0, 0))
  ne : R ≠ Z
  wz : w.heap.size ≤ Z
  below : Below w.heap.size w W
theorem OfI.next {neg : Bool} {p : List Nat} {R Z : Nat} {w W : World} (h : OfI neg p R Z w W) (v : Nat) (hp : p.length < 20) : OfI neg (p ++ [v]) R Z w (W.setCell ⟨Z, 1 + p.length, none⟩ (.int .u64 (v : Int))) := by
  have hn := h.ne
  refine ⟨?_, ?_, hn, h.wz, h.below.setCell (p := ⟨Z, 1 + p.length, none⟩) h.wz _⟩
  · rw [heap_setCell_other _ _ _ _ (by show R ≠ Z; exact hn)]; exact h.br
  · rw [heap_setCell_same _ _ _ _ _ _ h.bz, pad_put p v neg hp]
end Go.Proofs.YtbbhmhihpdmoiaaGreat.Fx


/- A scene in its row; is it more than statements go through, where is an object: walked. 
  One object and the rules of scenes: what the document's holds answers; rules of numbers, vertices and triangles, walked. -/
set_option linter.unusedVariables false
set_option linter.unusedSimpArgs false
namespace Go.Proofs.YtbbhmhihpdmoiaaGreat.Fx
open Go Go.RowKit
def ScAt (B : Nat) (s : ScR) (W : World) : Prop := W.heap[B]? = some (.cells (scC s) 28 (0, 0))
theorem ScAt.new (w : World) (s : ScR) : ScAt w.heap.size s (w.alloc (.cells (scC s) 28)) := heap_alloc_new _ _
theorem ScAt.below {B : Nat} {s : ScR} {w W : World} (hb : Below w.heap.size w W) (h : ScAt B s w) : ScAt B s W := keep_row hb h
theorem ScAt.at {B j : Nat} {s : ScR} {W : World} (h : ScAt B s W) : W.cell? ⟨B, j, none⟩ = (scL s)[j]? := by
  rw [cell_of_row _ _ _ _ _ _ h]
  simp [scC]
theorem ScAt.c0 {B : Nat} {s : ScR} {W : World} (h : ScAt B s W) : W.cell? ⟨B, 0, none⟩ = some (.int .i64 s.w) := h.at
theorem ScAt.c1 {B : Nat} {s : ScR} {W : World} (h : ScAt B s W) : W.cell? ⟨B, 1, none⟩ = some (.int .i64 s.h) := h.at
theorem ScAt.c18 {B : Nat} {s : ScR} {W : World} (h : ScAt B s W) (hs : ScWf s) : W.cell? ⟨B, 18, none⟩ = some (.slice s.oo s.os.length s.oc) := h.at.trans (scL_os hs)
theorem ScAt.cam {B : Nat} {s : ScR} {W : World} (h : ScAt B s W) : W.rangeAt B 2 (s.cam.map encI) := fun j v hj => h.at.trans (scL_cam hj)
theorem ObjAt.c0 {W : World} {b j : Nat} {x : ObjR} (h : ObjAt W b j x) : W.cell? ⟨b, j, none⟩ = some (.int .i64 x.id) := h.cells 0 _ (objL_id x)
theorem ObjAt.c17 {W : World} {b j : Nat} {x : ObjR} (h : ObjAt W b j x) : W.cell? ⟨b, j + 17, none⟩ = some (.slice x.vo x.vs.length x.vc) := h.cells 17 _ (objL_vs h.wf)
theorem ObjAt.c18 {W : World} {b j : Nat} {x : ObjR} (h : ObjAt W b j x) : W.cell? ⟨b, j + 18, none⟩ = some (.slice x.tq x.ts.length x.tc) := h.cells 18 _ (objL_ts h.wf)
theorem ObjAt.mat {W : World} {b j : Nat} {x : ObjR} (h : ObjAt W b j x) : W.rangeAt b (j + 1) (x.m.map encI) := fun i v hi => by
  rw [Nat.add_assoc]
  exact h.cells (1 + i) _ (objL_m hi)
def bI (b : Bool) : Int := if b then 1 else 0
def bigZ (x : ObjR) : Bool := decide (80 < x.vs.length) || decide (80 < x.ts.length)
def greatZ (s : ScR) : Bool := decide (20 < s.os.length) || s.os.any bigZ
set_option maxRecDepth 100000 in
set_option maxHeartbeats 1000000 in
theorem zgreat_any (s : ScR) (w : World) (hs : ScWf s) (h : ObjsAt w s.oo s.os) :
    Calls Tryz.prog 10 #[.agg (scC s)] w fun e w' => e = .returned (.int .i64 (bI (greatZ s))) ∧ Below w.heap.size w w' := by
  have HB : Hid (Below w.heap.size w (w.alloc (.cells (scC s) 28))) := Lib.hid (by go_grown)
  have HO := Lib.hid (h.below HB.out)
  have c18 : (w.alloc (.cells (scC s) 28)).cell? ⟨w.heap.size, 18, none⟩ = some (.slice s.oo s.os.length s.oc) := (ScAt.new w s).c18 hs
  have hcap := hs.cap.1
  clear h hs
  by_cases h2 : 20 < s.os.length
  · have e : greatZ s = true := by unfold greatZ; rw [decide_eq_true h2]; rfl
    have t1 : (20 : Int) < (s.os.length : Int) := by omega
    rw [e]
    clear h2 e
    go_enter Tryz.func10, Tryz.ntmps10
    go_wp2_with fail
    go_ret
    exact ⟨rfl, HB.out⟩
  · have t1 : ¬ (20 : Int) < (s.os.length : Int) := by omega
    have HG : Hid (greatZ s = s.os.any bigZ) := Lib.hid (by unfold greatZ; rw [decide_eq_false h2]; rfl)
    obtain ⟨n, hn⟩ : ∃ n, s.os.length = n := ⟨_, rfl⟩
    have HN := Lib.hid hn
    have hn200 : n ≤ 20 := by omega
    rw [hn] at t1 c18
    have n0 : (0 : Int) ≤ (n : Int) := by omega
    have n1 : (n : Int) ≤ 20 := by omega
    clear h2 hn hcap
    go_enter Tryz.func10, Tryz.ntmps10
    go_wp2_with fail
    generalize (w.alloc (.cells (scC s) 28)) = V at HB HO c18 ⊢
    go_loop [3] (fun u => ∃ k : Nat, u = .int .i64 (k : Int) ∧ k ≤ n ∧ (s.os.take k).any bigZ = false) (fun u => n - (intOf u).toNat)
    case atStart => exact ⟨0, rfl, by omega, rfl⟩
    case round =>
      obtain ⟨k, rfl, hk, ha⟩ := hrel
      have HA := Lib.hid ha
      clear ha
      have k0 : (0 : Int) ≤ (k : Int) := by omega
      by_cases hkn : k < n
      · have t2 : (k : Int) < (n : Int) := by omega
        have hkl : k < s.os.length := by rw [HN.out]; exact hkn
        obtain ⟨x, hx⟩ : ∃ x, s.os[k]? = some x := ⟨_, List.getElem?_eq_getElem hkl⟩
        obtain ⟨b, off, e, hat⟩ := HO.out k x hx
        have d17 := hat.c17
        have d18 := hat.c18
        have HS : Hid ((s.os.take (k + 1)).any bigZ = bigZ x) := Lib.hid (by
          rw [List.take_add_one, hx, List.any_append, HA.out]
          simp)
        have HXX : Hid (bigZ x = true → greatZ s = true) := Lib.hid (fun h => by
          rw [HG.out, List.any_eq_true]
          exact ⟨x, List.mem_of_getElem? hx, h⟩)
        have HBZ : Hid (bigZ x = (decide (80 < x.vs.length) || decide (80 < x.ts.length))) := Lib.hid rfl
        have hv1 := hat.wf.vcap.1
        have hv2 := hat.wf.tcap.1
        obtain ⟨m, hm⟩ : ∃ m, x.vs.length = m := ⟨_, rfl⟩
        obtain ⟨m2, hm2⟩ : ∃ m, x.ts.length = m := ⟨_, rfl⟩
        rw [hm] at HBZ d17 hv1
        rw [hm2] at HBZ d18 hv2
        rw [e] at c18
        clear hx hat hm hm2 e
        by_cases h3 : 80 < m
        · have t3 : (80 : Int) < (m : Int) := by omega
          go_wp2_with fail
          go_ret
          exact ⟨by rw [HXX.out (by rw [HBZ.out, decide_eq_true h3]; rfl)]; rfl, HB.out⟩
        · have t3 : ¬ (80 : Int) < (m : Int) := by omega
          by_cases h4 : 80 < m2
          · have t4 : (80 : Int) < (m2 : Int) := by omega
            go_wp2_with fail
            go_ret
            exact ⟨by rw [HXX.out (by rw [HBZ.out, decide_eq_true h4, decide_eq_false h3]; rfl)]; rfl, HB.out⟩
          · have t4 : ¬ (80 : Int) < (m2 : Int) := by omega
            go_wp2_with fail
            go_round
            case rel => exact ⟨k + 1, by go_num, by omega, by rw [HS.out, HBZ.out, decide_eq_false h3, decide_eq_false h4]; rfl⟩
            case measure => simp [intOf]; omega
      · obtain rfl : k = n := by omega
        have t2 : ¬ (k : Int) < (k : Int) := by omega
        have HE : Hid (greatZ s = false) := Lib.hid (by rw [HG.out]; have := HA.out; rw [List.take_of_length_le (by rw [HN.out]; omega)] at this; exact this)
        go_wp2_with fail
        go_ret
        exact ⟨by rw [HE.out]; rfl, HB.out⟩
/-- where the first is, from a place on -/
def findZ (l : List ObjR) (id : Int) : Option Nat := l.findIdx? fun x => decide (x.id = id)
def RetFind (o : Option Nat) (w : World) (e : Ending) (w' : World) : Prop := e = .returned (.tuple #[.int .i64 ((o.getD 0 : Nat) : Int), .bool o.isSome]) ∧ Below w.heap.size w w'
end Go.Proofs.YtbbhmhihpdmoiaaGreat.Fx
set_option linter.unusedVariables false
set_option linter.unusedSimpArgs false
namespace Go.Proofs.YtbbhmhihpdmoiaaGreat.Fx
open Go Go.RowKit
def farZ (n : Int) : Bool := decide (1073741824 < n) || decide (n < -1073741824)
theorem objL_one (x : ObjR) : (objL x).toArray.all (·.oneCell') = true := by
  rw [List.all_toArray, List.all_eq_true]
  intro v hv
  unfold objL at hv
  rcases List.mem_cons.1 hv with rfl | hv
  · rfl
  rcases List.mem_append.1 hv with hv | hv
  · obtain ⟨z, _, rfl⟩ := List.mem_map.1 hv
    rfl
  · rcases List.mem_cons.1 hv with rfl | hv
    · rfl
    rcases List.mem_cons.1 hv with rfl | hv
    · rfl
    cases hv
/-- a scene in its row, one of its objects in the next -/
structure HoI (s : ScR) (x : ObjR) (w V : World) : Prop where
  sc : ScAt w.heap.size s V
  xr : V.heap[w.heap.size + 1]? = some (.cells (objL x).toArray 73 (0, 0))
  ob : ObjsAt V s.oo s.os
  vs : VertsAt V x.vo x.vs
  ts : TrisAt V x.tq x.ts
  bel : Below w.heap.size w V
theorem HoI.up {s : ScR} {x : ObjR} {w V X : World} (i : HoI s x w V) (hb : Below V.heap.size V X) : HoI s x w X :=
  ⟨i.sc.below hb, keep_row hb i.xr, i.ob.below hb, i.vs.below hb, i.ts.below hb, bnext i.bel hb⟩
theorem HoI.new {s : ScR} {x : ObjR} {k : Nat} {w : World} (hs : ScWf s) (h : ObjsAt w s.oo s.os) (hx : s.os[k]? = some x) : HoI s x w ((w.alloc (.cells (scC s) 28)).alloc (.cells (objL x).toArray 73)) := by
  have hB : Below w.heap.size w ((w.alloc (.cells (scC s) 28)).alloc (.cells (objL x).toArray 73)) := by go_grown
  obtain ⟨b, off, e, hat⟩ := h k x hx
  refine ⟨step_row (ScAt.new w s), ?_, h.below hB, hat.verts.below hB, hat.tris.below hB, hB⟩
  have := heap_alloc_new (w.alloc (.cells (scC s) 28)) (.cells (objL x).toArray 73)
  rw [World.size_alloc] at this
  exact this
theorem HoI.at {s : ScR} {x : ObjR} {w V : World} {j : Nat} (i : HoI s x w V) : V.cell? ⟨w.heap.size + 1, j, none⟩ = (objL x)[j]? := by
  rw [cell_of_row _ _ _ _ _ _ i.xr]
  simp
theorem HoI.x0 {s : ScR} {x : ObjR} {w V : World} (i : HoI s x w V) : V.cell? ⟨w.heap.size + 1, 0, none⟩ = some (.int .i64 x.id) := i.at
theorem HoI.mat {s : ScR} {x : ObjR} {w V : World} (i : HoI s x w V) : V.rangeAt (w.heap.size + 1) 1 (x.m.map encI) := fun j v hj => i.at.trans (objL_m hj)
theorem HoI.cam {s : ScR} {x : ObjR} {w V : World} (i : HoI s x w V) : V.rangeAt w.heap.size 2 (s.cam.map encI) := i.sc.cam
def fineV (v : List Int) : Bool := !(farZ (v.getD 0 0) || farZ (v.getD 1 0) || farZ (v.getD 2 0))
def fineT (n : Int) (t : TriR) : Bool := !(decide (t.a < 0) || decide (t.b < 0) || decide (t.c < 0) || decide (n ≤ t.a) || decide (n ≤ t.b) || decide (n ≤ t.c))
def keep4 (s : ScR) (x : ObjR) (k : Nat) : Bool := (s.os.take k).all (fun y => decide (y.id ≠ x.id)) && (decide (1 ≤ x.id) && decide (x.id ≤ 65535))
def keep7 (s : ScR) (x : ObjR) (k : Nat) : Bool := x.vs.all fineV && decide ((x.vs.length : Int) ≤ 64)
def keep8 (s : ScR) (x : ObjR) (k : Nat) : Bool := x.ts.all (fineT (x.vs.length : Int)) && decide ((x.ts.length : Int) ≤ 64)
end Go.Proofs.YtbbhmhihpdmoiaaGreat.Fx


/- A load of a whole matrix inside a held region. 
  A store of a whole row inside a held region; a call of which the answer is known. -/
set_option linter.unusedVariables false
set_option linter.unusedSimpArgs false
namespace Go.Proofs.YtbbhmhihpdmoiaaGreat.Fx
open Go Go.RowKit Go.Shelf Wm
theorem exec_load_row {P : Program} {o : Oper} {a : Act} {w : World} (ty : TypeId) (x : Operand) (ho : o.op = .load ty x)
    (g : Nat) (hx : a.eval x = .pointer (some ⟨g, 0, none⟩)) (t : TypeId) (cs : Array Value) (fr : Nat × Nat) (d : TypeDesc) (hg : w.heap[g]? = some (.cells cs t fr))
    (hu : P.underlying ty = some d) (hd : (match d with | .struct _ | .array _ _ => true | _ => false) = true) (hi : (P.info? ty).map (·.size) = some cs.size) :
    (execOp a.eval o).run P w = .ok (.value (.agg cs)) w := by
  unfold execOp
  simp only [ho, hx, Instr.loadAt, Instr.sureAddr, Sem.run_bind, Sem.run_pure, Result.andThen_ok, run_loadVar_row w g t ty cs fr d hg hu hd hi]
end Go.Proofs.YtbbhmhihpdmoiaaGreat.Fx
set_option linter.unusedVariables false
set_option linter.unusedSimpArgs false
namespace Go.Proofs.YtbbhmhihpdmoiaaGreat.Fx
open Go Go.RowKit Go.Shelf Wm
def Ans (f : Nat) (args : Array Value) (v : Value) : Prop := ∀ w, Calls Tryz.prog f args w fun e w' => e = .returned v ∧ Below w.heap.size w w'
theorem wpIn_store_row {F : Fence} {n : Nat} {P : Program} {o : Oper} {a : Act} {w : World} {K : Act → World → Prop} {Q : Exit → Act → World → Prop} (hF : ∀ f, F.fn f) (ty : TypeId) (x y : Operand) (ho : o.op = .store ty x y)
    (g : Nat) (t : TypeId) (c c' : Array Value) (hx : a.eval x = .pointer (some ⟨g, 0, none⟩)) (hy : a.eval y = .agg c') (hg : w.heap[g]? = some (.cells c t (0, 0)))
    (hi : (P.info? ty).map (·.size) = some c'.size) (hs : c.size = c'.size) (h1 : c'.all (·.oneCell') = true) (h : K (a.put o.dst undef) (w.setRow g c')) : Oper.wpIn F n P o a w K Q := by
  unfold Oper.wpIn
  rw [Oper.semAt_plain F _ _ (by intro c e; rw [ho] at e; cases e)]
  unfold execOp
  simp only [ho, hx, hy, Instr.storeAt, Instr.sureAddr, Sem.run_bind, Sem.run_pure, Result.andThen_ok, run_storeVar_row w g t ty c c' hg hi hs h1, Oper.uponIn]
  exact ⟨fun f _ => hF f, h⟩
end Go.Proofs.YtbbhmhihpdmoiaaGreat.Fx


/- The document's powers of two, walked. 
  The document's products, walked. 
  The document's comparison of two numbers, walked. 
  The number of a number of 128 bits, as the document has it, walked. 
  The number of 128 bits of a number, as the document has it, walked. 
  The document's To and Cut: their answers. 
  The document's long division: plain. -/
set_option linter.unusedVariables false
set_option linter.unusedSimpArgs false
namespace Go.Proofs.YtbbhmhihpdmoiaaGreat.Fx
open Go Go.RowKit Wm
theorem big_put (neg : Bool) (d : List Nat) (q v : Nat) : (bigC neg d).setIfInBounds (1 + q) (.int .u64 (v : Int)) = bigC neg (d.set q v) := by
  unfold bigC
  rw [List.setIfInBounds_toArray, Nat.add_comm, List.set_cons_succ, List.map_set]
  rfl
structure TwI (q v : Nat) (w W : World) : Prop where
  br : W.heap[w.heap.size]? = some (.cells (bigC false zeros) 214 (0, 0))
  bz : W.heap[w.heap.size + 1]? = some (.cells (bigC false (zeros.set q v)) 214 (0, 0))
  below : Below w.heap.size w W
theorem TwI.next {q v : Nat} {w W : World} (h : TwI q v w W) (u : Nat) : TwI q u w (W.setCell ⟨w.heap.size + 1, 1 + q, none⟩ (.int .u64 (u : Int))) := by
  refine ⟨?_, ?_, h.below.setCell (p := ⟨w.heap.size + 1, 1 + q, none⟩) (by show _ ≤ w.heap.size + 1; omega) _⟩
  · rw [heap_setCell_other _ _ _ _ (by show _ ≠ w.heap.size + 1; omega)]; exact h.br
  · rw [heap_setCell_same _ _ _ _ _ _ h.bz, big_put, List.set_set]
theorem TwI.cell {q v : Nat} {w W : World} (h : TwI q v w W) (hq : q < 20) : W.cell? ⟨w.heap.size + 1, 1 + q, none⟩ = some (.int .u64 (v : Int)) ∧ W.frozen? ⟨w.heap.size + 1, 1 + q, none⟩ = false := by
  refine ⟨?_, frozen_row h.bz⟩
  rw [cell_of_row _ _ _ _ _ _ h.bz, big_at _ _ _ (by rw [List.length_set]; exact hq)]
  congr 3
  simp [List.getD_eq_getElem?_getD, hq, zeros]
end Go.Proofs.YtbbhmhihpdmoiaaGreat.Fx
set_option linter.unusedVariables false
set_option linter.unusedSimpArgs false
namespace Go.Proofs.YtbbhmhihpdmoiaaGreat.Fx
open Go Go.RowKit Wm
theorem num_set : ∀ (d : List Nat) (k v : Nat), k < d.length → num (d.set k v) + d.getD k 0 * 65536 ^ k = num d + v * 65536 ^ k
  | [], k, v, h => by simp at h
  | x :: d, 0, v, h => by
    simp only [List.set_cons_zero, num, List.getD_cons_zero, Nat.pow_zero, Nat.mul_one]
    omega
  | x :: d, k + 1, v, h => by
    have ih := num_set d k v (by simpa using h)
    simp only [List.set_cons_succ, num, List.getD_cons_succ]
    rw [Nat.pow_succ, ← Nat.mul_assoc, ← Nat.mul_assoc]
    generalize d.getD k 0 * 65536 ^ k = A at *
    generalize v * 65536 ^ k = B at *
    omega
theorem dg_set {d : List Nat} (h : Dg d) (k : Nat) {v : Nat} (hv : v < 65536) : Dg (d.set k v) := by
  refine ⟨by rw [List.length_set]; exact h.1, fun x hx => ?_⟩
  rcases List.mem_or_eq_of_mem_set hx with hx | rfl
  · exact h.2 x hx
  · exact hv
theorem dg_at_lt {d : List Nat} (h : Dg d) (k : Nat) : d.getD k 0 < 65536 := by
  rw [List.getD_eq_getElem?_getD]
  by_cases hk : k < d.length
  · rw [List.getElem?_eq_getElem hk]
    exact h.2 _ (List.getElem_mem hk)
  · rw [List.getElem?_eq_none (by omega)]
    simp
theorem getD_set_n (l : List Nat) (k p : Nat) (x : Nat) (hk : k < l.length) : (l.set k x).getD p 0 = if k = p then x else l.getD p 0 := by
  simp only [List.getD_eq_getElem?_getD, List.getElem?_set]
  split
  · subst_vars
    simp [hk]
  · rfl
/-- between two digits of a product -/
structure Pr (m n i j c : Nat) (d : List Nat) : Prop where
  hd : Dg d
  eq : num d + c * 65536 ^ (i + j) = m % 65536 ^ i * n + m / 65536 ^ i % 65536 * (n % 65536 ^ j) * 65536 ^ i
  hc : c < 65536
  up : ∀ p, i + 9 ≤ p → d.getD p 0 = 0
set_option maxRecDepth 100000 in
theorem Pr.next {m n i j c a b s : Nat} {d : List Nat} (h : Pr m n i j c d) (hij : i + j < 20) (hj : j < 9) (ha : m / 65536 ^ i % 65536 = a) (hb : n / 65536 ^ j % 65536 = b) (hs : s = d.getD (i + j) 0 + a * b + c) :
    Pr m n i (j + 1) (s / 65536) (d.set (i + j) (s % 65536)) := by
  have hz := dg_at_lt h.hd (i + j)
  have hab : a * b ≤ 65535 * 65535 := Nat.mul_le_mul (by omega) (by omega)
  have hc := h.hc
  refine ⟨dg_set h.hd _ (by omega), ?_, by omega, fun p hp => ?_⟩
  · have e1 := num_set d (i + j) (s % 65536) (by rw [h.hd.1]; exact hij)
    have e2 := h.eq
    rw [ha] at e2 ⊢
    have e3 : n % 65536 ^ (j + 1) = n % 65536 ^ j + 65536 ^ j * b := by rw [Nat.mod_pow_succ, hb]
    have e4 : a * (65536 ^ j * b) * 65536 ^ i = a * b * 65536 ^ (i + j) := by rw [Nat.pow_add]; ac_rfl
    have e5 : 65536 ^ (i + (j + 1)) = 65536 ^ (i + j) * 65536 := by rw [← Nat.pow_succ]; rfl
    rw [e3, Nat.mul_add, Nat.add_mul, e4, e5]
    have e6 : s / 65536 * (65536 ^ (i + j) * 65536) + s % 65536 * 65536 ^ (i + j) = s * 65536 ^ (i + j) := by
      rw [Nat.mul_comm (65536 ^ (i + j)) 65536, ← Nat.mul_assoc, ← Nat.add_mul, Nat.div_add_mod']
    have e7 : s * 65536 ^ (i + j) = d.getD (i + j) 0 * 65536 ^ (i + j) + a * b * 65536 ^ (i + j) + c * 65536 ^ (i + j) := by rw [hs, Nat.add_mul, Nat.add_mul]
    generalize s / 65536 * (65536 ^ (i + j) * 65536) = A1 at *
    generalize s % 65536 * 65536 ^ (i + j) = A2 at *
    generalize s * 65536 ^ (i + j) = A3 at *
    generalize d.getD (i + j) 0 * 65536 ^ (i + j) = A4 at *
    generalize a * b * 65536 ^ (i + j) = A5 at *
    generalize c * 65536 ^ (i + j) = A6 at *
    generalize a * (n % 65536 ^ j) * 65536 ^ i = A7 at *
    generalize m % 65536 ^ i * n = A8 at *
    omega
  · rw [getD_set_n _ _ _ _ (by rw [h.hd.1]; exact hij), if_neg (by omega)]
    exact h.up p hp
theorem Pr.row {m n i c : Nat} {d : List Nat} (h : Pr m n i 9 c d) (hi : i < 9) (hn : n < 65536 ^ 9) : Pr m n (i + 1) 0 0 (d.set (i + 9) c) := by
  refine ⟨dg_set h.hd _ h.hc, ?_, by omega, fun p hp => ?_⟩
  · have e1 := num_set d (i + 9) c (by rw [h.hd.1]; omega)
    have e2 := h.eq
    rw [h.up (i + 9) (by omega), Nat.zero_mul] at e1
    rw [Nat.mod_eq_of_lt hn] at e2
    rw [Nat.mod_pow_succ, Nat.zero_mul, Nat.pow_zero, Nat.mod_one, Nat.mul_zero, Nat.zero_mul, Nat.add_mul]
    have e3 : 65536 ^ i * (m / 65536 ^ i % 65536) * n = m / 65536 ^ i % 65536 * n * 65536 ^ i := by ac_rfl
    rw [e3]
    omega
  · rw [getD_set_n _ _ _ _ (by rw [h.hd.1]; omega), if_neg (by omega)]
    exact h.up p (by omega)
theorem Pr.done {m n : Nat} {d : List Nat} (h : Pr m n 9 0 0 d) (hm : m < 65536 ^ 9) : d = dg (m * n) := by
  have e := h.eq
  rw [Nat.mod_eq_of_lt hm, Nat.pow_zero, Nat.mod_one, Nat.mul_zero, Nat.zero_mul, Nat.add_zero, Nat.add_zero] at e
  rw [← e]
  exact (dg_num h.hd).symm
theorem AddI.put {nx ny nz : Bool} {dx dy dz : List Nat} {w W : World} (h : AddI nx ny nz dx dy dz w W) (k v : Nat) : AddI nx ny nz dx dy (dz.set k v) w (W.setCell ⟨w.heap.size + 1 + 1 + 1, 1 + k, none⟩ (.int .u64 (v : Int))) :=
  ⟨by rw [heap_setCell_other _ _ _ _ (by show _ ≠ w.heap.size + 1 + 1 + 1; omega)]; exact h.bx, by rw [heap_setCell_other _ _ _ _ (by show _ ≠ w.heap.size + 1 + 1 + 1; omega)]; exact h.by0, by rw [heap_setCell_other _ _ _ _ (by show _ ≠ w.heap.size + 1 + 1 + 1; omega)]; exact h.br,
    by rw [heap_setCell_same _ _ _ _ _ _ h.bz, big_put], h.below.setCell (p := ⟨w.heap.size + 1 + 1 + 1, 1 + k, none⟩) (by show _ ≤ w.heap.size + 1 + 1 + 1; omega) _⟩
theorem AddI.drewN {nx ny nz : Bool} {dx dy dz : List Nat} {w W : World} (h : AddI nx ny nz dx dy dz w W) (q : Nat) : AddI nx ny nz dx dy dz w (W.drewN q) := h.up (bdrew0 _ _ q)
end Go.Proofs.YtbbhmhihpdmoiaaGreat.Fx
set_option linter.unusedVariables false
set_option linter.unusedSimpArgs false
namespace Go.Proofs.YtbbhmhihpdmoiaaGreat.Fx
open Go Go.RowKit Wm
/-- a number of the document lies at g -/
def BigAt (g : Nat) (z : Int) (W : World) : Prop := W.heap[g]? = some (.cells (bv z) 214 (0, 0))
theorem BigAt.below {W X : World} {g : Nat} {z : Int} (hb : Below W.heap.size W X) (h : BigAt g z W) : BigAt g z X := keep_row hb h
theorem BigAt.head {g : Nat} {z : Int} {W : World} (h : BigAt g z W) : W.cell? ⟨g, 0, none⟩ = some (.bool (decide (z < 0))) := by rw [cell_of_row _ _ _ _ _ _ h]; exact big_head _ _
end Go.Proofs.YtbbhmhihpdmoiaaGreat.Fx
set_option linter.unusedVariables false
set_option linter.unusedSimpArgs false
namespace Go.Proofs.YtbbhmhihpdmoiaaGreat.Fx
open Go Go.RowKit Wm
structure FrI (h : Int) (l : Nat) (p : List Nat) (w W : World) : Prop where
  bw : W.heap[w.heap.size]? = some (.cells #[.int .i64 h, .int .u64 l] 220 (0, 0))
  br : W.heap[w.heap.size + 1]? = some (.cells (bigC false zeros) 214 (0, 0))
  bl : W.heap[w.heap.size + 1 + 1]? = some (.cells (bigC false (pad p)) 214 (0, 0))
  below : Below w.heap.size w W
theorem FrI.next {h : Int} {l : Nat} {p : List Nat} {w W : World} (i : FrI h l p w W) (v : Nat) (hp : p.length < 20) : FrI h l (p ++ [v]) w (W.setCell ⟨w.heap.size + 1 + 1, 1 + p.length, none⟩ (.int .u64 (v : Int))) := by
  refine ⟨?_, ?_, ?_, i.below.setCell (p := ⟨w.heap.size + 1 + 1, 1 + p.length, none⟩) (by show _ ≤ w.heap.size + 1 + 1; omega) _⟩
  · rw [heap_setCell_other _ _ _ _ (by show _ ≠ w.heap.size + 1 + 1; omega)]; exact i.bw
  · rw [heap_setCell_other _ _ _ _ (by show _ ≠ w.heap.size + 1 + 1; omega)]; exact i.br
  · rw [heap_setCell_same _ _ _ _ _ _ i.bl, pad_put p v false hp]
structure FrS (h : Int) (l : Nat) (w W : World) : Prop where
  bw : W.heap[w.heap.size]? = some (.cells #[.int .i64 h, .int .u64 l] 220 (0, 0))
  bl : BigAt (w.heap.size + 1 + 1) (l : Int) W
  below : Below w.heap.size w W
theorem FrS.up {h : Int} {l : Nat} {w W X : World} (i : FrS h l w W) (hb : Below W.heap.size W X) : FrS h l w X := ⟨keep_row hb i.bw, BigAt.below hb i.bl, bnext i.below hb⟩
theorem FrS.c0 {h : Int} {l : Nat} {w W : World} (i : FrS h l w W) : W.cell? ⟨w.heap.size, 0, none⟩ = some (.int .i64 h) := by rw [cell_of_row _ _ _ _ _ _ i.bw]; rfl
theorem FrS.put {h : Int} {l : Nat} {w W : World} (i : FrS h l w W) (c : Array Value) : FrS h l w (W.setRow (w.heap.size + 1) c) :=
  ⟨by rw [setRow_other _ _ _ _ (by omega)]; exact i.bw, by unfold BigAt; rw [setRow_other _ _ _ _ (by omega)]; exact i.bl, Below.row i.below (by omega) _⟩
end Go.Proofs.YtbbhmhihpdmoiaaGreat.Fx
set_option linter.unusedVariables false
set_option linter.unusedSimpArgs false
namespace Go.Proofs.YtbbhmhihpdmoiaaGreat.Fx
open Go Go.RowKit Wm
theorem results_row_tmp {P : Program} {fn : Func} {p u : Tmp} {ty : TypeId} (h : fn.results = #[.cell p ty, .tmp u]) (tmps : Array Value) (w : World) (g : Nat) (t : TypeId) (cs : Array Value) (fr : Nat × Nat) (d : TypeDesc) (v : Value)
    (hp : tmps.getD p undef = .pointer (some ⟨g, 0, none⟩)) (hg : w.heap[g]? = some (.cells cs t fr))
    (hu : P.underlying ty = some d) (hd : (match d with | .struct _ | .array _ _ => true | _ => false) = true) (hi : (P.info? ty).map (·.size) = some cs.size) (hv : tmps.getD u undef = v) :
    (results fn tmps).run P w = .ok (.tuple #[.agg cs, v]) w := by
  rw [results_cell_tmp h, hp, hv]
  simp [asAddr, Result.andThen, run_loadVar_row w g t ty cs fr d hg hu hd hi]
def WideAt (g : Nat) (h : Int) (l : Nat) (W : World) : Prop := W.heap[g]? = some (.cells #[.int .i64 h, .int .u64 l] 220 (0, 0))
theorem WideAt.below {W X : World} {g l : Nat} {h : Int} (hb : Below W.heap.size W X) (i : WideAt g h l W) : WideAt g h l X := keep_row hb i
theorem WideAt.c0 {W : World} {g l : Nat} {h : Int} (i : WideAt g h l W) : W.cell? ⟨g, 0, none⟩ = some (.int .i64 h) := by rw [cell_of_row _ _ _ _ _ _ i]; rfl
theorem WideAt.c1 {W : World} {g l : Nat} {h : Int} (i : WideAt g h l W) : W.cell? ⟨g, 1, none⟩ = some (.int .u64 (l : Int)) := by rw [cell_of_row _ _ _ _ _ _ i]; rfl
theorem WideAt.fr {W : World} {g l : Nat} {h : Int} (i : WideAt g h l W) (j : Nat) : W.frozen? ⟨g, j, none⟩ = false := frozen_row i
theorem WideAt.put2 {W : World} {g b l : Nat} {a h : Int} (i : WideAt g a b W) : WideAt g h l ((W.setCell ⟨g, 0, none⟩ (.int .i64 h)).setCell ⟨g, 1, none⟩ (.int .u64 (l : Int))) := by
  unfold WideAt
  rw [heap_setCell_same _ _ _ _ _ _ (heap_setCell_same _ _ _ _ _ _ i)]
  rfl
theorem Below.put2 {B : Nat} {v W : World} {g : Nat} (hb : Below B v W) (hg : B ≤ g) (x y : Value) : Below B v ((W.setCell ⟨g, 0, none⟩ x).setCell ⟨g, 1, none⟩ y) :=
  (hb.setCell (p := ⟨g, 0, none⟩) hg _).setCell (p := ⟨g, 1, none⟩) hg _
structure ToI (y : Nat) (w W : World) : Prop where
  bx : BigAt w.heap.size (y : Int) W
  br : WideAt (w.heap.size + 1) 0 0 W
  below : Below w.heap.size w W
structure ToS (x : Int) (w W : World) : Prop where
  bx : BigAt w.heap.size x W
  br : WideAt (w.heap.size + 1) 0 0 W
  below : Below w.heap.size w W
theorem ToS.up {x : Int} {w W X : World} (i : ToS x w W) (hb : Below W.heap.size W X) : ToS x w X := ⟨BigAt.below hb i.bx, WideAt.below hb i.br, bnext i.below hb⟩
theorem ToS.put {x : Int} {w W : World} (y : Nat) (i : ToS x w W) : ToI y w (W.setRow w.heap.size (bv (y : Int))) :=
  ⟨setRow_heap _ _ _ _ _ _ i.bx, by unfold WideAt; rw [setRow_other _ _ _ _ (by omega)]; exact i.br, Below.row i.below (Nat.le_refl _) _⟩
end Go.Proofs.YtbbhmhihpdmoiaaGreat.Fx
set_option linter.unusedVariables false
set_option linter.unusedSimpArgs false
namespace Go.Proofs.YtbbhmhihpdmoiaaGreat.Fx
open Go Go.RowKit Wm
end Go.Proofs.YtbbhmhihpdmoiaaGreat.Fx
set_option linter.unusedVariables false
set_option linter.unusedSimpArgs false
namespace Go.Proofs.YtbbhmhihpdmoiaaGreat.Fx
open Go Go.RowKit Wm
theorem BigAt.set_sign {g : Nat} {z : Int} {W : World} (h : BigAt g z W) (b : Bool) : (W.setCell ⟨g, 0, none⟩ (.bool b)).heap[g]? = some (.cells (bigC b (dg z.natAbs)) 214 (0, 0)) := by
  rw [heap_setCell_same _ _ _ _ _ _ h]
  unfold bv
  rw [big_sign]
theorem BigAt.neg {g : Nat} {q : Nat} {W : World} (h : BigAt g (q : Int) W) (b : Bool) (z : Int) (hz : decide (z < 0) = b) (hq : z.natAbs = q) : BigAt g z (W.setCell ⟨g, 0, none⟩ (.bool b)) := by
  have := h.set_sign b
  unfold BigAt bv
  rw [hz, hq, this, Int.natAbs_natCast]
theorem BigAt.row {g : Nat} {z : Int} {W : World} (h : BigAt g z W) (y : Int) : BigAt g y (W.setRow g (bv y)) := setRow_heap _ _ _ _ _ _ h
theorem BigAt.other {g k : Nat} {z : Int} {W : World} (h : BigAt g z W) (hk : g ≠ k) (c : Array Value) : BigAt g z (W.setRow k c) := by unfold BigAt; rw [setRow_other _ _ _ _ hk]; exact h
theorem BigAt.otherC {g k j : Nat} {z : Int} {W : World} (h : BigAt g z W) (hk : g ≠ k) (v : Value) : BigAt g z (W.setCell ⟨k, j, none⟩ v) := by unfold BigAt; rw [heap_setCell_other _ _ _ _ (by show g ≠ k; exact hk)]; exact h
structure DvI (x c : Int) (n q r B : Nat) (w W : World) : Prop where
  bx : BigAt w.heap.size x W
  bc : BigAt (w.heap.size + 1) c W
  r1 : BigAt (w.heap.size + 1 + 1) 0 W
  r2 : BigAt (w.heap.size + 1 + 1 + 1) 0 W
  bq : BigAt B (q : Int) W
  br : BigAt (B + 1) (r : Int) W
  bd : BigAt (B + 1 + 1) (n : Int) W
  hB : w.heap.size + 1 + 1 + 1 < B
  below : Below w.heap.size w W
theorem DvI.up {x c : Int} {n q r B : Nat} {w W X : World} (i : DvI x c n q r B w W) (hb : Below W.heap.size W X) : DvI x c n q r B w X :=
  ⟨BigAt.below hb i.bx, BigAt.below hb i.bc, BigAt.below hb i.r1, BigAt.below hb i.r2, BigAt.below hb i.bq, BigAt.below hb i.br, BigAt.below hb i.bd, i.hB, bnext i.below hb⟩
end Go.Proofs.YtbbhmhihpdmoiaaGreat.Fx


/- The document's long division, walked. 
  The document's quotients: their answers; numbers held against one another. -/
set_option linter.unusedVariables false
set_option linter.unusedSimpArgs false
namespace Go.Proofs.YtbbhmhihpdmoiaaGreat.Fx
open Go Go.RowKit Wm
structure DvS (x c Q : Int) (B : Nat) (w W : World) : Prop where
  bx : BigAt w.heap.size x W
  bc : BigAt (w.heap.size + 1) c W
  bq : BigAt B Q W
  hB : w.heap.size + 1 + 1 + 1 < B
  below : Below w.heap.size w W
theorem DvS.up {x c Q : Int} {B : Nat} {w W X : World} (i : DvS x c Q B w W) (hb : Below W.heap.size W X) : DvS x c Q B w X :=
  ⟨BigAt.below hb i.bx, BigAt.below hb i.bc, BigAt.below hb i.bq, i.hB, bnext i.below hb⟩
theorem DvS.put {x c Q : Int} {B : Nat} {w W : World} (i : DvS x c Q B w W) (g : Nat) (h1 : g = w.heap.size + 1 + 1 ∨ g = w.heap.size + 1 + 1 + 1) (a : Array Value) : DvS x c Q B w (W.setRow g a) := by
  have hB := i.hB
  exact ⟨i.bx.other (by omega) _, i.bc.other (by omega) _, i.bq.other (by omega) _, hB, Below.row i.below (by omega) _⟩
theorem DvI.done {x c Q : Int} {n q r B : Nat} {w W : World} (i : DvI x c n q r B w W) (b : Bool) (hz : decide (Q < 0) = b) (hq : Q.natAbs = q) :
    DvS x c Q B w (W.setCell ⟨B, 0, none⟩ (.bool b)) ∧ BigAt (w.heap.size + 1 + 1) 0 (W.setCell ⟨B, 0, none⟩ (.bool b)) ∧ BigAt (w.heap.size + 1 + 1 + 1) 0 (W.setCell ⟨B, 0, none⟩ (.bool b)) := by
  have hB := i.hB
  exact ⟨⟨i.bx.otherC (by omega) _, i.bc.otherC (by omega) _, i.bq.neg b Q hz hq, hB, i.below.setCell (p := ⟨B, 0, none⟩) (by show _ ≤ B; omega) _⟩, i.r1.otherC (by omega) _, i.r2.otherC (by omega) _⟩
end Go.Proofs.YtbbhmhihpdmoiaaGreat.Fx
set_option linter.unusedVariables false
set_option linter.unusedSimpArgs false
namespace Go.Proofs.YtbbhmhihpdmoiaaGreat.Fx
open Go Go.RowKit Wm
end Go.Proofs.YtbbhmhihpdmoiaaGreat.Fx

