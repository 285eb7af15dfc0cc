/- A scene's objects with their places: the program's iterator, walked. 
  Where an object is: the program's Find, walked. -/
import Derived.Test.YtildnadkfonlhaaProg
import Derived.Test.YtildnadkfonlhaaIt
import Derived.Test.YtildnadkfonlhaaSb
import Derived.Test.YtildnadkfonlhaaSf
import Derived.Test.YtildnadkfonlhaaBt
import Derived.Shelf.Abstract
import Derived.Shelf.RegionOpen
import Derived.WalkKit
import Derived.OwnWalkIn
import Derived.TacticsInMore
import Derived.LoopNIn
import Derived.LoopIn
import Derived.WalkMore
import Derived.Lib.Hide
import Derived.Outline
import Derived.Deep.QuietTactic
import Derived.BigQuiet
set_option linter.unusedVariables false
set_option linter.unusedSimpArgs false
namespace Go.Proofs.Ytildnadkfonlhaa.Fx
open Go Go.RowKit Go.Shelf
theorem wpIn_load_mid {F : Fence} {n : Nat} {P : Program} {o : Oper} {a : Act} {w : World} {K : Act → World → Prop} {Q : Exit → Act → World → Prop} (hF : ∀ f, F.fn f) (ty : TypeId) (x : Operand) (ho : o.op = .load ty x)
    (b off : Nat) (hx : a.eval x = .pointer (some ⟨b, off, none⟩)) (cs : List Value) (d : TypeDesc) (hc : w.rangeAt b off cs)
    (hu : P.underlying ty = some d) (hd : d.isRow = true) (hi : (P.info? ty).map (·.size) = some cs.length) (h : K (a.put o.dst (.agg cs.toArray)) w) : Oper.wpIn F n P o a w K Q := by
  unfold Oper.wpIn
  rw [Oper.semAt_plain F _ _ (by intro c e; rw [ho] at e; cases e)]
  rw [exec_load_mid ty x ho b off hx cs d hc hu hd hi]
  exact ⟨fun f _ => hF f, h⟩
theorem wpListIn_load_mid {F : Fence} {n : Nat} {P : Program} {ops : Array Oper} {rest : List Oper} {o : Oper} {a : Act} {w : World} {Q : Exit → Act → World → Prop} (hF : ∀ f, F.fn f) (hg : o.guard = none) (ty : TypeId) (x : Operand) (ho : o.op = .load ty x)
    (b off : Nat) (hx : a.eval x = .pointer (some ⟨b, off, none⟩)) (cs : List Value) (d : TypeDesc) (hc : w.rangeAt b off cs)
    (hu : P.underlying ty = some d) (hd : d.isRow = true) (hi : (P.info? ty).map (·.size) = some cs.length) (h : wpListIn F n P ops Q rest (a.put o.dst (.agg cs.toArray)) w) : wpListIn F n P ops Q (o :: rest) a w :=
  wpListIn_plain hg fun K hK => wpIn_load_mid hF ty x ho b off hx cs d hc hu hd hi (hK _ _ h)
theorem wpListIn_store_new {F : Fence} {n : Nat} {P : Program} {ops : Array Oper} {rest : List Oper} {o : Oper} {a : Act} {w : World} {Q : Exit → Act → World → Prop} (hF : ∀ f, F.fn f) (hgd : o.guard = none) (ty : TypeId) (x y : Operand) (ho : o.op = .store ty x y)
    (g : Nat) (t : TypeId) (c c' : Array Value) (hx : a.eval x = .pointer (some ⟨g, 0, none⟩)) (hg : w.heap.size = g) (hy : a.eval y = .agg c')
    (hi : (P.info? ty).map (·.size) = some c'.size) (hs : c.size = c'.size) (h1 : c'.all (·.oneCell') = true)
    (h : wpListIn F n P ops Q rest (a.put o.dst undef) (w.alloc (.cells c' t))) : wpListIn F n P ops Q (o :: rest) a (w.alloc (.cells c t)) := by
  subst hg
  refine wpListIn_plain hgd fun K hK => ?_
  refine wpIn_store_row hF ty x y ho w.heap.size t c c' hx hy (heap_alloc_new _ _) hi hs h1 ?_
  rw [World.setRow_alloc_new]
  exact hK _ _ h
theorem wpList_load_mid_g {P : Program} {ops : Array Oper} {rest : List Oper} {op : Oper} {a : Act} {w : World} {Q : Exit → Act → World → Prop} (hw : Region.wanted op (yielded ops a.tmps) = true) (ty : TypeId) (x : Operand) (ho : op.op = .load ty x)
    (b o : Nat) (hx : a.eval x = .pointer (some ⟨b, o, none⟩)) (cs : List Value) (d : TypeDesc) (hc : w.rangeAt b o cs)
    (hu : P.underlying ty = some d) (hd : d.isRow = true) (hi : (P.info? ty).map (·.size) = some cs.length)
    (h : wpList P ops Q rest (a.put op.dst (.agg cs.toArray)) w) : wpList P ops Q (op :: rest) a w :=
  wpList_step fun K hK => by
    rw [if_pos hw]
    exact wp_load_mid ty x ho b o hx cs d hc hu hd hi (hK _ _ h)
theorem below_keeps {W X : World} (h : Below W.heap.size W X) (B : Nat) : KeepsFrom B W X :=
  ⟨h.size, fun k o _ hk _ => by rw [h.block k (Array.getElem?_eq_some_iff.1 hk).1]; exact hk⟩
theorem Kept.cell {B : Nat} {W W' : World} (k : Kept B W W') {p : Addr} {v : Value} (h : W.cell? p = some v) : W'.cell? p = some v := by
  unfold World.cell? at h ⊢
  cases hb : W.heap[p.block]? with
  | none => rw [hb] at h; simp at h
  | some o =>
    cases o with
    | cells c t f =>
      rw [k.cells hb]
      rw [hb] at h
      exact h
    | _ => rw [hb] at h; simp at h
theorem Kept.range {B : Nat} {W W' : World} (k : Kept B W W') {b j : Nat} {l : List Value} (h : W.rangeAt b j l) : W'.rangeAt b j l := fun i v hi => k.cell (h i v hi)
theorem VertsAt.kept {B : Nat} {W W' : World} {o : Option Addr} {l : List (List Int)} (kp : Kept B W W') (h : VertsAt W o l) : VertsAt W' o l := fun k z hk => by
  obtain ⟨b, off, e, h1, h2⟩ := h k z hk
  exact ⟨b, off, e, kp.range h1, h2⟩
theorem TrisAt.kept {B : Nat} {W W' : World} {o : Option Addr} {l : List TriR} (kp : Kept B W W') (h : TrisAt W o l) : TrisAt W' o l := fun k z hk => by
  obtain ⟨b, off, e, h1, h2⟩ := h k z hk
  exact ⟨b, off, e, kp.range h1, h2⟩
theorem ObjAt.kept {B : Nat} {W W' : World} {b j : Nat} {x : ObjR} (kp : Kept B W W') (h : ObjAt W b j x) : ObjAt W' b j x := ⟨kp.range h.cells, h.verts.kept kp, h.tris.kept kp, h.wf⟩
theorem ObjsAt.kept {B : Nat} {W W' : World} {o : Option Addr} {l : List ObjR} (kp : Kept B W W') (h : ObjsAt W o l) : ObjsAt W' o l := fun k z hk => by
  obtain ⟨b, off, e, h1⟩ := h k z hk
  exact ⟨b, off, e, h1.kept kp⟩
theorem ScAt.kept {C B : Nat} {s : ScR} {W W' : World} (kp : Kept C W W') (h : ScAt B s W) : ScAt B s W' := kp.cells h
/-- what the iterator hands on -/
def objElem (s : ScR) (k : Nat) : Array Value := #[.int .i64 (k : Int), .agg (objL (s.os.getD k default)).toArray]
def ObM (s : ScR) (A : Nat) (X : World) : Prop := ScAt A s X ∧ ObjsAt X s.oo s.os
set_option maxRecDepth 100000 in
set_option maxHeartbeats 1000000 in
theorem obj_hands (s : ScR) (A : Nat) (hs : ScWf s) :
    Hands Fence.wide 4 Try.prog 47 #[.pointer (some ⟨A, 0, none⟩)] (objElem s) s.os.length (ObM s A) := by
  intro l J Jx W hJ1 hJ2 hJB hJxB hY h0
  obtain ⟨hsc, hob⟩ := hJB 0 W h0
  have c18 := hsc.c18 hs
  have HS := Lib.hid hs; clear hs
  have HY := Lib.hid hY; clear hY
  have HJ1 := Lib.hid hJ1; clear hJ1
  have HJ2 := Lib.hid hJ2; clear hJ2
  have HJB := Lib.hid hJB; clear hJB
  have HJxB := Lib.hid hJxB; clear hJxB
  have hcap := HS.out.cap.1
  obtain ⟨n, hn⟩ : ∃ n, s.os.length = n := ⟨_, rfl⟩
  have HN := Lib.hid hn
  rw [hn] at c18 hcap HY ⊢
  obtain ⟨oo, hoo⟩ : ∃ oo, s.oo = oo := ⟨_, rfl⟩
  have HOO := Lib.hid hoo
  rw [hoo] at c18
  have n0 : (0 : Int) ≤ (n : Int) := by omega
  have n1 : (n : Int) ≤ 9223372036854775807 := by omega
  clear hn hcap hoo hsc hob
  refine callsIn_of_wp Try.func47 rfl trivial ?_ rfl
  simp only [Try.ntmps47, List.size_toArray, List.length_cons, List.length_nil, Nat.reduceAdd, Nat.reduceSub, Array.replicate_succ, Array.replicate_zero, List.push_toArray, List.append_toArray, List.nil_append, List.cons_append]
  gi_wp2
  clear c18
  gi_loopw [8] (fun v8 wr => ∃ k : Nat, v8 = .int .i64 (k : Int) ∧ k ≤ n ∧ J k wr) (fun v8 _ => n - (intOf v8).toNat)
  case atStart => exact ⟨0, rfl, by omega, h0⟩
  case round =>
    clear h0
    obtain ⟨k, rfl, hk, hJ⟩ := hrel
    have k0 : (0 : Int) ≤ (k : Int) := by omega
    by_cases hkn : k < n
    · have t1 : (k : Int) < (n : Int) := by omega
      obtain ⟨hsc, hob⟩ := HJB.out k wr hJ
      obtain ⟨x, hx⟩ : ∃ x, s.os[k]? = some x := ⟨_, List.getElem?_eq_getElem (by rw [HN.out]; exact hkn)⟩
      obtain ⟨b, off, e, hat⟩ := hob k x hx
      rw [HOO.out] at e
      subst e
      have hel : objElem s k = #[.int .i64 (k : Int), .agg (objL x).toArray] := by
        unfold objElem
        rw [List.getD_eq_getElem?_getD, hx]
        rfl
      have HR := Lib.hid hat.cells
      have hinf := Lib.hid (show (Try.prog.info? 48).map (·.size) = some (objL x).length by rw [objL_len hat.wf]; kernel_rfl)
      have hinfA := Lib.hid (show (Try.prog.info? 48).map (·.size) = some (objL x).toArray.size by rw [List.size_toArray, objL_len hat.wf]; kernel_rfl)
      have HL := Lib.hid (show 19 = (objL x).toArray.size by rw [List.size_toArray, objL_len hat.wf])
      have HONE := Lib.hid (objL_one x)
      have HB : Hid (Below wr.heap.size wr (wr.alloc (.cells (objL x).toArray 48))) := Lib.hid ((Below.refl _ wr).alloc (Nat.le_refl _) _)
      have hJ2 := HJ1.out k _ _ hJ HB.out
      have HRN := Lib.hid (heap_alloc_new wr (.cells (objL x).toArray 48))
      have HRI : Hid (∀ W' : World, W'.heap[wr.heap.size]? = some (.cells (objL x).toArray 48 (0, 0)) → W'.rangeAt wr.heap.size 0 (objL x)) := Lib.hid (fun W' h j v hj => by
        rw [cell_of_row _ _ _ _ _ _ h, Nat.zero_add]
        simpa using hj)
      obtain ⟨fn, tmps, assign, body, hy, hR⟩ := HY.out k _ hkn hJ2
      rw [hel] at hy
      clear hel hat hob hsc hx hJ hJ2 HJ1
      gi_wp2_with (first | (refine wpListIn_load_mid (fun _ => trivial) rfl 48 (.tmp 11) rfl b (off + k * 19) rfl (objL x) _ HR.out Try.underlying48 rfl hinf.out ?_) | (refine wpListIn_store_new (fun _ => trivial) rfl 48 (.tmp 4) (.tmp 12) rfl wr.heap.size _ _ (objL x).toArray rfl rfl rfl hinfA.out HL.out HONE.out ?_) | (refine wpListIn_load_mid (fun _ => trivial) rfl 48 (.tmp 4) rfl wr.heap.size 0 rfl (objL x) _ (HRI.out _ HRN.out) Try.underlying48 rfl hinf.out ?_))
      refine hR.mono ?_
      rintro e W3 (⟨rfl, hJ3⟩ | ⟨rfl, hJx3⟩)
      · gi_wp2
        go_roundw
        case rel => exact ⟨k + 1, by go_num, by omega, hJ3⟩
        case measure => simp [intOf]; omega
      · gi_wp2
        refine bodyPost_ret (results_none rfl _ _ _) rfl ?_
        exact ⟨⟨_, rfl⟩, .inr hJx3⟩
    · obtain rfl : k = n := by omega
      have t1 : ¬ (k : Int) < (k : Int) := by omega
      gi_wp2
      go_end0
      exact ⟨⟨_, rfl⟩, .inl hJ⟩
theorem objects_w (s : ScR) (w : World) : Calls Try.prog 31 #[.agg (scC s)] w fun e w' =>
    e = .returned (.func (.func 47) #[] #[.pointer (some ⟨w.heap.size, 0, none⟩)]) ∧ w' = w.alloc (.cells (scC s) 32) := by
  go_enter Try.func31, Try.ntmps31
  go_wp2_with fail
  go_ret
  exact ⟨rfl, rfl⟩
end Go.Proofs.Ytildnadkfonlhaa.Fx
set_option linter.unusedVariables false
set_option linter.unusedSimpArgs false
namespace Go.Proofs.Ytildnadkfonlhaa.Fx
open Go Go.RowKit Go.Shelf
attribute [local go_sem] Oper.semAt_some
theorem find_step {s : ScR} {id : Int} {k : Nat} {x : ObjR} (hx : s.os[k]? = some x) (ha : findZ (s.os.take k) id = none) (h : x.id ≠ id) : findZ (s.os.take (k + 1)) id = none := by
  unfold findZ at ha ⊢
  rw [List.take_add_one, hx, List.findIdx?_append, ha]
  simp [h]
theorem find_hit {s : ScR} {id : Int} {k : Nat} {x : ObjR} (hx : s.os[k]? = some x) (ha : findZ (s.os.take k) id = none) (h : x.id = id) : findZ s.os id = some k := by
  obtain ⟨hkl, hx'⟩ := List.getElem?_eq_some_iff.1 hx
  unfold findZ at ha ⊢
  rw [← List.take_append_drop k s.os, List.findIdx?_append, ha, List.drop_eq_getElem_cons hkl]
  simp [List.findIdx?_cons, hx', h]
  omega
theorem find_none {s : ScR} {id : Int} {n : Nat} (hn : s.os.length ≤ n) (h : findZ (s.os.take n) id = none) : findZ s.os id = none := by
  rw [List.take_of_length_le hn] at h
  exact h
/-- the boxes of Find: scene, number, two results, the iterator's scene -/
structure FdS (s : ScR) (id x : Int) (y : Bool) (w W : World) : Prop where
  box : ScAt w.heap.size s W
  idr : W.heap[w.heap.size + 1]? = some (.cells #[.int .i64 id] 3 (0, 0))
  r1 : W.heap[w.heap.size + 1 + 1]? = some (.cells #[.int .i64 x] 3 (0, 0))
  r2 : W.heap[w.heap.size + 1 + 1 + 1]? = some (.cells #[.bool y] 4 (0, 0))
  it : ScAt (w.heap.size + 1 + 1 + 1 + 1) s W
  below : Below w.heap.size w W
theorem FdS.kept {s : ScR} {id x : Int} {y : Bool} {B : Nat} {w W X : World} (hB : w.heap.size ≤ B) (h : Kept B W X) (i : FdS s id x y w W) : FdS s id x y w X :=
  ⟨i.box.kept h, h.cells i.idr, h.cells i.r1, h.cells i.r2, i.it.kept h, h.below hB i.below⟩
theorem FdS.up {s : ScR} {id x : Int} {y : Bool} {w W X : World} (h : Below W.heap.size W X) (i : FdS s id x y w W) : FdS s id x y w X :=
  ⟨i.box.below h, keep_row h i.idr, keep_row h i.r1, keep_row h i.r2, i.it.below h, bnext i.below h⟩
theorem FdS.facts {s : ScR} {id x : Int} {y : Bool} {w W : World} (i : FdS s id x y w W) :
    W.cell? ⟨w.heap.size + 1, 0, none⟩ = some (.int .i64 id) ∧ W.cell? ⟨w.heap.size + 1 + 1, 0, none⟩ = some (.int .i64 x) ∧ W.cell? ⟨w.heap.size + 1 + 1 + 1, 0, none⟩ = some (.bool y) ∧
    W.frozen? ⟨w.heap.size + 1 + 1, 0, none⟩ = false ∧ W.frozen? ⟨w.heap.size + 1 + 1 + 1, 0, none⟩ = false :=
  ⟨by rw [cell_of_row _ _ _ _ _ _ i.idr]; rfl, by rw [cell_of_row _ _ _ _ _ _ i.r1]; rfl, by rw [cell_of_row _ _ _ _ _ _ i.r2]; rfl, frozen_row i.r1, frozen_row i.r2⟩
theorem FdS.put {s : ScR} {id x x2 : Int} {y y2 : Bool} {w W : World} (i : FdS s id x y w W) : FdS s id x2 y2 w ((W.setCell ⟨w.heap.size + 1 + 1, 0, none⟩ (.int .i64 x2)).setCell ⟨w.heap.size + 1 + 1 + 1, 0, none⟩ (.bool y2)) := by
  have a1 := heap_setCell_same W _ 0 _ _ (.int .i64 x2) i.r1
  have o1 : ∀ {g : Nat} {ob : Obj}, g ≠ w.heap.size + 1 + 1 → g ≠ w.heap.size + 1 + 1 + 1 → W.heap[g]? = some ob → ((W.setCell ⟨w.heap.size + 1 + 1, 0, none⟩ (.int .i64 x2)).setCell ⟨w.heap.size + 1 + 1 + 1, 0, none⟩ (.bool y2)).heap[g]? = some ob := fun h1 h2 h => by
    rw [heap_setCell_other _ _ _ _ h2, heap_setCell_other _ _ _ _ h1]
    exact h
  refine ⟨o1 (by omega) (by omega) i.box, o1 (by omega) (by omega) i.idr, ?_, ?_, o1 (by omega) (by omega) i.it, (i.below.setCell (p := ⟨w.heap.size + 1 + 1, 0, none⟩) (by show _ ≤ w.heap.size + 1 + 1; omega) _).setCell (p := ⟨w.heap.size + 1 + 1 + 1, 0, none⟩) (by show _ ≤ w.heap.size + 1 + 1 + 1; omega) _⟩
  · rw [heap_setCell_other _ _ _ _ (by show _ ≠ w.heap.size + 1 + 1 + 1; omega)]
    exact a1
  · have a2 : (W.setCell ⟨w.heap.size + 1 + 1, 0, none⟩ (.int .i64 x2)).heap[w.heap.size + 1 + 1 + 1]? = some (.cells #[.bool y] 4 (0, 0)) := by
      rw [heap_setCell_other _ _ _ _ (by show _ ≠ w.heap.size + 1 + 1; omega)]
      exact i.r2
    exact heap_setCell_same _ _ 0 _ _ (.bool y2) a2
def FdI (s : ScR) (id : Int) (w : World) (k : Nat) (W : World) : Prop := FdS s id 0 false w W ∧ findZ (s.os.take k) id = none
def FdX (s : ScR) (id : Int) (w W : World) : Prop := ∃ k : Nat, FdS s id (k : Int) true w W ∧ findZ s.os id = some k
def FdA (s : ScR) (id : Int) (w : World) (k : Nat) (a : Act) (W : World) : Prop :=
  ∃ b7, W.heap[b7]? = some (.cells (objL (s.os.getD k default)).toArray 48 (0, 0)) ∧
  a = { tmps := #[.agg (scC s), .int .i64 id, .pointer (some ⟨w.heap.size, 0, none⟩), .pointer (some ⟨w.heap.size + 1, 0, none⟩), .pointer (some ⟨w.heap.size + 1 + 1, 0, none⟩), .pointer (some ⟨w.heap.size + 1 + 1 + 1, 0, none⟩), .int .i64 (k : Int), .pointer (some ⟨b7, 0, none⟩),
    .agg (scC s), .func (.func 47) #[] #[.pointer (some ⟨w.heap.size + 1 + 1 + 1 + 1, 0, none⟩)], .int .i64 (k : Int), .agg (objL (s.os.getD k default)).toArray, undef, undef, undef, undef, undef], defers := [] }
set_option maxRecDepth 100000 in
set_option maxHeartbeats 4000000 in
theorem pfind_any (s : ScR) (id : Int) (w : World) (hs : ScWf s) (h : ObjsAt w s.oo s.os) :
    Calls Try.prog 36 #[.agg (scC s), .int .i64 id] w (RetFind (findZ s.os id) w) := by
  obtain ⟨W1, hW1⟩ : ∃ W1, (((w.alloc (.cells (scC s) 32)).alloc (.cells #[.int .i64 id] 3)).alloc (.cells #[.int .i64 0] 3)).alloc (.cells #[.bool false] 4) = W1 := ⟨_, rfl⟩
  obtain ⟨W0, hW0⟩ : ∃ W0, W1.alloc (.cells (scC s) 32) = W0 := ⟨_, rfl⟩
  have hs1 : W1.heap.size = w.heap.size + 1 + 1 + 1 + 1 := by rw [← hW1]; simp
  have b1 : Below w.heap.size w W1 := by rw [← hW1]; exact ((((Below.refl _ w).alloc (Nat.le_refl _) _).alloc (by simp) _).alloc (by simp; omega) _).alloc (by simp; omega) _
  have h12 : Below W1.heap.size W1 W0 := by rw [← hW0]; exact (Below.refl _ W1).alloc (Nat.le_refl _) _
  have g0 : ScAt w.heap.size s W1 := by rw [← hW1]; exact step_row (step_row (step_row (ScAt.new w s)))
  have F0 : FdS s id 0 false w W0 := by
    refine ⟨g0.below h12, keep_row h12 ?_, keep_row h12 ?_, keep_row h12 ?_, ?_, bnext b1 h12⟩
    · rw [← hW1]
      have := heap_alloc_new (w.alloc (.cells (scC s) 32)) (.cells #[.int .i64 id] 3)
      rw [World.size_alloc] at this
      exact step_row (step_row this)
    · rw [← hW1]
      have := heap_alloc_new ((w.alloc (.cells (scC s) 32)).alloc (.cells #[.int .i64 id] 3)) (.cells #[.int .i64 0] 3)
      rw [World.size_alloc, World.size_alloc] at this
      exact step_row this
    · rw [← hW1]
      have := heap_alloc_new (((w.alloc (.cells (scC s) 32)).alloc (.cells #[.int .i64 id] 3)).alloc (.cells #[.int .i64 0] 3)) (.cells #[.bool false] 4)
      rw [World.size_alloc, World.size_alloc, World.size_alloc] at this
      exact this
    · rw [← hW0, ← hs1]
      exact ScAt.new W1 s
  have HF0 : Hid (FdI s id w 0 W0) := Lib.hid ⟨F0, rfl⟩
  have HS0 : Hid (W0.heap.size = w.heap.size + 1 + 1 + 1 + 1 + 1) := Lib.hid (by rw [← hW0, World.size_alloc, hs1])
  have HS1 := Lib.hid hs1
  have HW1 := Lib.hid hW1
  have HW0 := Lib.hid hW0
  have HOB := Lib.hid h
  have HSW := Lib.hid hs
  have HN : Hid (s.os.length ≤ s.os.length) := Lib.hid (Nat.le_refl _)
  have HALL : Hid (W1.rangeAt w.heap.size 0 (scL s)) := Lib.hid (fun j v hj => by
    rw [Nat.zero_add]
    exact g0.at.trans hj)
  have hall := Lib.hid (show (Try.prog.info? 32).map (·.size) = some (scL s).length by rw [scL_len hs]; kernel_rfl)
  clear F0 h12 b1 g0 hW1 hW0 hs1 h hs
  refine (callsIn_wide (n := 5)).1 ?_
  refine callsIn_of_wp_marks Try.func36 rfl trivial ?_ rfl
  simp only [Try.ntmps36, List.size_toArray, List.length_cons, List.length_nil, Nat.reduceAdd, Nat.reduceSub, Array.replicate_succ, Array.replicate_zero, List.push_toArray, List.append_toArray, List.nil_append, List.cons_append]
  refine wpIn_wide.2 ?_
  go_wp2_with (first | (rw [HW1.out]; refine wpList_load_mid rfl 32 (.tmp 2) rfl w.heap.size 0 rfl (scL s) _ HALL.out Try.underlying32 rfl hall.out ?_))
  refine (objects_w s _).mono ?_
  rintro e w' ⟨rfl, rfl⟩
  rw [HS1.out, HW0.out]
  go_wp2_with fail
  refine wpIn_wide.1 (wpIn_range_jump (F := Fence.wide) (n := 5) rfl (by omega) (gf := 47) (lb := #[.pointer (some ⟨w.heap.size + 1 + 1 + 1 + 1, 0, none⟩)]) rfl trivial (enters_of Try.func47 (by kernel_rfl) rfl)
    (obj_hands s (w.heap.size + 1 + 1 + 1 + 1) HSW.out) (fun _ => rfl) .ret (FdI s id w) (FdX s id w) (fun j a' W => FdA s id w j a' W ∧ FdI s id w j W)
    ?i1 ?i2 ?i3 ?i4 ?i5 HF0.out ?assign ?body ?done ?stop)
  case i1 => rintro j W X ⟨h1, h2⟩ hk; exact ⟨h1.kept (by have := HS0.out; omega) hk, h2⟩
  case i2 => rintro W X ⟨k, h1, h2⟩ hk; exact ⟨k, h1.kept (by have := HS0.out; omega) hk, h2⟩
  case i3 => rintro j a W X ⟨⟨b7, h0, ha⟩, h1, h2⟩ hk; exact ⟨⟨b7, hk.cells h0, ha⟩, h1.kept (by have := HS0.out; omega) hk, h2⟩
  case i4 => rintro j W ⟨h1, h2⟩; exact ⟨h1.it, HOB.out.below h1.below⟩
  case i5 => rintro W ⟨k, h1, h2⟩; exact ⟨h1.it, HOB.out.below h1.below⟩
  case assign =>
    intro l1 j W C hk hI hC
    have hx : s.os[j]? = some (s.os.getD j default) := by rw [List.getD_eq_getElem?_getD, List.getElem?_eq_getElem hk]; rfl
    obtain ⟨b, off, e, hat⟩ := HOB.out j _ hx
    simp only [objElem]
    have HA : Hid (∀ (X : World) (b7 : Nat), X.heap[b7]? = some (.cells (objL (s.os.getD j default)).toArray 48 (0, 0)) → FdA s id w j _ X) := Lib.hid (fun X b7 h => ⟨b7, h, rfl⟩)
    obtain ⟨x, hxx⟩ : ∃ x, s.os.getD j default = x := ⟨_, rfl⟩
    rw [hxx] at hat hx HA ⊢
    have hinfA := Lib.hid (show (Try.prog.info? 48).map (·.size) = some (objL x).toArray.size by rw [List.size_toArray, objL_len hat.wf]; kernel_rfl)
    have HL := Lib.hid (show 19 = (objL x).toArray.size by rw [List.size_toArray, objL_len hat.wf])
    have HONE := Lib.hid (objL_one x)
    have HB : Hid (Below W.heap.size W (W.alloc (.cells (objL x).toArray 48))) := Lib.hid ((Below.refl _ W).alloc (Nat.le_refl _) _)
    have HRN := Lib.hid (heap_alloc_new W (.cells (objL x).toArray 48))
    clear hat hx hxx e
    gi_wp2_with (refine wpListIn_store_new (fun _ => trivial) rfl 48 (.tmp 7) (.tmp 11) rfl W.heap.size _ _ (objL x).toArray rfl rfl rfl hinfA.out HL.out HONE.out ?_)
    exact hC _ _ (below_keeps HB.out _) ⟨HA.out _ _ HRN.out, hI.1.up HB.out, hI.2⟩
  case body =>
    rintro l1 j a' W hk ⟨⟨b7, h7, ha⟩, fs, hpre⟩
    subst ha
    have hx : s.os[j]? = some (s.os.getD j default) := by rw [List.getD_eq_getElem?_getD, List.getElem?_eq_getElem hk]; rfl
    obtain ⟨x, hxx⟩ : ∃ x, s.os.getD j default = x := ⟨_, rfl⟩
    rw [hxx] at h7 hx ⊢
    have d0 : W.cell? ⟨b7, 0, none⟩ = some (.int .i64 x.id) := by rw [cell_of_row _ _ _ _ _ _ h7]; rfl
    obtain ⟨c1, c2, c3, f1, f2⟩ := fs.facts
    have HNX := Lib.hid (find_step hx hpre)
    have HHIT := Lib.hid (find_hit hx hpre)
    have HS := Lib.hid fs
    generalize x.id = z at d0 HNX HHIT
    clear h7 hx hxx hpre fs hk
    by_cases hz : z = id
    · subst hz
      have HE : Hid (FdX s z w ((W.setCell ⟨w.heap.size + 1 + 1, 0, none⟩ (.int .i64 (j : Int))).setCell ⟨w.heap.size + 1 + 1 + 1, 0, none⟩ (.bool true))) := Lib.hid ⟨j, HS.out.put, HHIT.out rfl⟩
      have HKF : Hid (KeepsFrom W0.heap.size W ((W.setCell ⟨w.heap.size + 1 + 1, 0, none⟩ (.int .i64 (j : Int))).setCell ⟨w.heap.size + 1 + 1 + 1, 0, none⟩ (.bool true))) := Lib.hid (((KeepsOthers.setCell _ _ _).trans (KeepsOthers.setCell _ _ _)).from _)
      clear HNX HHIT
      gi_wp2
      exact ⟨rfl, HKF.out, HE.out⟩
    · have HE : Hid (FdI s id w (j + 1) W) := Lib.hid ⟨HS.out, HNX.out hz⟩
      clear HNX HHIT
      gi_wp2
      exact ⟨KeepsFrom.refl _ _, HE.out⟩
  case done =>
    rintro D W hD ⟨fs, hpre⟩ hdef
    have hr := find_none (Nat.le_refl _) hpre
    obtain ⟨c1, c2, c3, f1, f2⟩ := fs.facts
    have HS := Lib.hid fs
    have HDD : Hid (w.heap.size + 1 + 1 + 1 + 1 + 1 ≤ D) := Lib.hid (by have := HS0.out; omega)
    have HR := Lib.hid hr
    clear fs hpre hr hD
    go_wp2_with fail
    have hdf : ((W.setCell ⟨w.heap.size + 1 + 1, 0, none⟩ (.int .i64 0)).setCell ⟨w.heap.size + 1 + 1 + 1, 0, none⟩ (.bool false)).heap[D]? = some (.deferred (some [])) := (((KeepsOthers.setCell W ⟨w.heap.size + 1 + 1, 0, none⟩ (.int .i64 0)).trans (KeepsOthers.setCell _ ⟨w.heap.size + 1 + 1 + 1, 0, none⟩ (.bool false))).same D _ hdef rfl)
    have fs2 := (HS.out.put (x2 := 0) (y2 := false)).kept (B := w.heap.size) (Nat.le_refl _) (Kept.putObj (.deferred none) (by have := HDD.out; omega) hdf rfl)
    refine ⟨by simp, .inl ⟨_, _, rfl, run_takeDeferred hdf, ?_⟩⟩
    generalize (((W.setCell ⟨w.heap.size + 1 + 1, 0, none⟩ (.int .i64 0)).setCell ⟨w.heap.size + 1 + 1 + 1, 0, none⟩ (.bool false)).putObj D (.deferred none)) = Y at fs2 ⊢
    obtain ⟨_, d1, d2, _, _⟩ := fs2.facts
    have HBL := Lib.hid fs2.below
    clear fs2 hdf hdef c1 c2 c3 f1 f2
    refine ⟨.tuple #[.int .i64 0, .bool false], ?_, by rw [HR.out]; rfl, HBL.out⟩
    simp [results, Try.results36, go_sem, *]
  case stop =>
    rintro D W hD ⟨k, fs, hr⟩ hdef
    have HS := Lib.hid fs
    have HDD : Hid (w.heap.size + 1 + 1 + 1 + 1 + 1 ≤ D) := Lib.hid (by have := HS0.out; omega)
    have HR := Lib.hid hr
    clear fs hr hD
    refine wpIn_wide.2 ?_
    go_wp2_with fail
    have fs2 := HS.out.kept (B := w.heap.size) (Nat.le_refl _) (Kept.putObj (.deferred none) (by have := HDD.out; omega) hdef rfl)
    refine ⟨by simp, .inl ⟨_, _, rfl, run_takeDeferred hdef, ?_⟩⟩
    generalize W.putObj D (.deferred none) = Y at fs2 ⊢
    obtain ⟨_, d1, d2, _, _⟩ := fs2.facts
    have HBL := Lib.hid fs2.below
    clear fs2 hdef
    refine ⟨.tuple #[.int .i64 (k : Int), .bool true], ?_, by rw [HR.out]; rfl, HBL.out⟩
    simp [results, Try.results36, go_sem, *]
end Go.Proofs.Ytildnadkfonlhaa.Fx
