import Derived.Laws.Rows
import Derived.Test.YtbbhmhihpdmoiaaGreatProg
import Derived.RangeFuncCalls
import Derived.Test.YtbbhmhihpdmoiaaGreatMw02
import Derived.Test.YtbbhmhihpdmoiaaGreatMw08
import Derived.Test.YtbbhmhihpdmoiaaGreatMw26
import Derived.Test.YtbbhmhihpdmoiaaGreatMw27
import Derived.Test.YtbbhmhihpdmoiaaGreatMw28
set_option linter.unusedVariables false
set_option linter.unusedSimpArgs false
namespace Go.Proofs.YtbbhmhihpdmoiaaGreat.Fx
open Go Go.RowKit
def IntAt (k : IntKind) (W : World) (b j : Nat) : Prop := ((∃ z, W.cell? ⟨b, j, none⟩ = some (.int k z)) ∧ b < W.heap.size) ∧ W.frozen? ⟨b, j, none⟩ = false
theorem IntAt.below {k : IntKind} {W X : World} {b j : Nat} (hb : Below W.heap.size W X) (h : IntAt k W b j) : IntAt k X b j := by
 obtain ⟨⟨⟨z, hz⟩, hl⟩, hf⟩ := h
 exact ⟨⟨⟨z, keep_cell hb hz⟩, Nat.lt_of_lt_of_le hl hb.size⟩, keep_free hb hl hf⟩
theorem IntAt.put {k q : IntKind} {W : World} {b j b2 j2 : Nat} (h : IntAt k W b j) (h2 : IntAt q W b2 j2) (z : Int) : IntAt k (W.setCell ⟨b2, j2, none⟩ (.int q z)) b j := by
 obtain ⟨⟨⟨y, hy⟩, hl⟩, hf⟩ := h
 obtain ⟨⟨⟨y2, hy2⟩, hl2⟩, hf2⟩ := h2
 refine ⟨⟨?_, by simpa using hl⟩, by rw [World.frozen?_setCell]; exact hf⟩
 by_cases e : (⟨b2, j2, none⟩ : Addr) = ⟨b, j, none⟩
 ·cases e
  rw [hy2] at hy
  cases hy
  exact ⟨z, World.cell?_setCell_same _ _ _ hy2⟩
 ·exact ⟨y, by rw [World.cell?_setCell_other _ _ _ _ e]; exact hy⟩
theorem slice_put {q : IntKind} {W : World} {a : Addr} {b2 j2 n c : Nat} {o : Option Addr} (h : W.cell? a = some (.slice o n c)) (h2 : IntAt q W b2 j2) (z : Int) : (W.setCell ⟨b2, j2, none⟩ (.int q z)).cell? a = some (.slice o n c) := by
 obtain ⟨⟨⟨y2, hy2⟩, hl2⟩, hf2⟩ := h2
 by_cases e : (⟨b2, j2, none⟩ : Addr) = a
 ·subst e
  rw [hy2] at h
  cases h
 ·rw [World.cell?_setCell_other _ _ _ _ e]
  exact h
structure SpI (B bc : Nat) (c : ScR) (V W : World) : Prop where
 below : Below B V W
 le : B ≤ bc
 box : W.heap[bc]? = some (.cells (scC c) 28 (0, 0))
 id : ∀ k x, c.os[k]? = some x → ∃ g off, c.oo = some ⟨g, off, none⟩ ∧ B ≤ g ∧ g ≠ bc ∧ IntAt .i64 W g (off + k * 19) ∧ W.cell? ⟨g, off + k * 19 + 17, none⟩ = some (.slice x.vo x.vs.length x.vc) ∧ W.cell? ⟨g, off + k * 19 + 18, none⟩ = some (.slice x.tq x.ts.length x.tc)
 vs : ∀ x ∈ c.os, ∀ j, j < x.vs.length → ∃ g off, x.vo = some ⟨g, off, none⟩ ∧ B ≤ g ∧ g ≠ bc ∧ IntAt .i64 W g (off + j * 3)
 ts : ∀ x ∈ c.os, ∀ j, j < x.ts.length → ∃ g off, x.tq = some ⟨g, off, none⟩ ∧ B ≤ g ∧ g ≠ bc ∧ IntAt .i64 W g (off + j * 4)
theorem SpI.up {B bc : Nat} {c : ScR} {V W X : World} (hb : Below W.heap.size W X) (hB : B ≤ W.heap.size) (i : SpI B bc c V W) : SpI B bc c V X := by
 refine ⟨i.below.trans (hb.mono hB), i.le, keep_row hb i.box, fun k x hk => ?_, fun x hx j hj => ?_, fun x hx j hj => ?_⟩
 ·obtain ⟨g, off, e, h1, h2, h3, h4, h5⟩ := i.id k x hk
  exact ⟨g, off, e, h1, h2, h3.below hb, keep_cell hb h4, keep_cell hb h5⟩
 ·obtain ⟨g, off, e, h1, h2, h3⟩ := i.vs x hx j hj
  exact ⟨g, off, e, h1, h2, h3.below hb⟩
 ·obtain ⟨g, off, e, h1, h2, h3⟩ := i.ts x hx j hj
  exact ⟨g, off, e, h1, h2, h3.below hb⟩
theorem SpI.lt {B bc : Nat} {c : ScR} {V W : World} (i : SpI B bc c V W) : B ≤ W.heap.size := by
 have := (Array.getElem?_eq_some_iff.1 i.box).1
 have := i.le
 omega
theorem SpI.put {B bc : Nat} {c : ScR} {V W : World} (i : SpI B bc c V W) {g j : Nat} (hg : B ≤ g) (hn : g ≠ bc) (h : IntAt .i64 W g j) (z : Int) : SpI B bc c V (W.setCell ⟨g, j, none⟩ (.int .i64 z)) := by
 refine ⟨i.below.setCell (p := ⟨g, j, none⟩) hg _, i.le, ?_, fun k x hk => ?_, fun x hx j hj => ?_, fun x hx j hj => ?_⟩
 ·rw [heap_setCell_other _ _ _ _ (by exact fun e => hn e.symm)]
  exact i.box
 ·obtain ⟨g, off, e, h1, h2, h3, h4, h5⟩ := i.id k x hk
  exact ⟨g, off, e, h1, h2, h3.put h z, slice_put h4 h z, slice_put h5 h z⟩
 ·obtain ⟨g, off, e, h1, h2, h3⟩ := i.vs x hx j hj
  exact ⟨g, off, e, h1, h2, h3.put h z⟩
 ·obtain ⟨g, off, e, h1, h2, h3⟩ := i.ts x hx j hj
  exact ⟨g, off, e, h1, h2, h3.put h z⟩
theorem int_row {t : TypeId} {W : World} {g j : Nat} {cur : Array Value} {k : IntKind} {z : Int} (h : W.heap[g]? = some (.cells cur t (0, 0))) (hc : W.cell? ⟨g, j, none⟩ = some (.int k z)) : IntAt k W g j := ⟨⟨⟨z, hc⟩, (Array.getElem?_eq_some_iff.1 h).1⟩, frozen_row h⟩
theorem SpI.new {B C bc : Nat} {c : ScR} {V W : World} (hC : B ≤ C) (s : FreshS C c W) (hb : Below B V W) (hle : B ≤ bc) (hbc : W.heap[bc]? = some (.cells (scC c) 28 (0, 0))) : SpI B bc c V W := by
 have hne : ∀ {t : TypeId} {g : Nat} {cur : Array Value}, W.heap[g]? = some (.cells cur t (0, 0)) → t ≠ 28 → g ≠ bc := fun h ht e => by
  subst e
  rw [hbc] at h
  cases h
  exact ht rfl
 refine ⟨hb, hle, hbc, fun k x hk => ?_, fun x hx j hj => ?_, fun x hx j hj => ?_⟩
 ·obtain ⟨g, cur, e, h1, h2, _, h3⟩ := s.objs.at_ k x hk
  have hw := (s.each x (List.mem_of_getElem? hk)).wf
  refine ⟨g, 0, e, by omega, hne h2 (by decide), int_row h2 (z := x.id) ?_, ?_, ?_⟩
  ·exact h3 0 _ (objL_id x)
  ·exact h3 17 _ (objL_vs hw)
  ·exact h3 18 _ (objL_ts hw)
 ·have hw := s.each x hx
  obtain ⟨v, hv⟩ : ∃ v, x.vs[j]? = some v := ⟨_, List.getElem?_eq_getElem hj⟩
  obtain ⟨g, cur, e, h1, h2, _, h3⟩ := hw.v.at_ j v hv
  have hvl := (hw.vw v (List.mem_of_getElem? hv)).len
  obtain ⟨z, hz⟩ : ∃ z, v[0]? = some z := ⟨_, List.getElem?_eq_getElem (by omega)⟩
  refine ⟨g, 0, e, by omega, hne h2 (by decide), int_row h2 (z := z) ?_⟩
  exact h3 0 _ (by rw [List.getElem?_map, hz]; rfl)
 ·have hw := s.each x hx
  obtain ⟨v, hv⟩ : ∃ v, x.ts[j]? = some v := ⟨_, List.getElem?_eq_getElem hj⟩
  obtain ⟨g, cur, e, h1, h2, _, h3⟩ := hw.t.at_ j v hv
  refine ⟨g, 0, e, by omega, hne h2 (by decide), int_row h2 (z := v.a) ?_⟩
  exact h3 0 _ rfl
theorem wpIn_call_any {n : Nat} {P : Program} {o : Oper} {a : Act} {w : World} {K : Act → World → Prop} {Q : Exit → Act → World → Prop} (f : FuncId) (args : Array Value) (hrun : (execOp a.eval o).run P w = .ok (.enter f args) w) (c : Callee) (ps : Array Operand) (ts : Array TypeId) (ho : o.op = .call { callee := c, args := ps, argTypes := ts })
  {post : Ending → World → Prop} (hc : Calls P f args w post) (h : ∀ e w', post e w' → ∃ v, e = .returned v ∧ K (a.put o.dst v) w') : Oper.wpIn Fence.wide n P o a w K Q := by
 unfold Oper.wpIn
 refine ⟨fun f _ => trivial, ?_⟩
 rw [Oper.semAt_plain _ _ _ (by rw [ho]; intro c hc'; cases hc'), hrun]
 refine ⟨fun h => (by cases h), callsIn_wide.2 (hc.mono ?_)⟩
 intro e w' hp
 obtain ⟨v, rfl, hk⟩ := h e w' hp
 exact hk
end Go.Proofs.YtbbhmhihpdmoiaaGreat.Fx

set_option linter.unusedVariables false
set_option linter.unusedSimpArgs false
namespace Go.Proofs.YtbbhmhihpdmoiaaGreat.Fx
open Go Go.RowKit Go.Shelf
theorem zsame_any (a b : ScR) (w : World) (ha : ScWf a) (hb : ScWf b) (h : ObjsAt w a.oo a.os) (h2 : ObjsAt w b.oo b.os) :
  Calls Tryz.prog 15 #[.agg (scC a), .agg (scC b)] w (RetBool (decide (sameS a b)) w) := by
 by_cases hno : a.w = b.w ∧ a.h = b.h ∧ a.cam = b.cam ∧ a.os.length = b.os.length
 ·obtain ⟨h1, h3, h4, hl⟩ := hno
  have := zsame_yes a b w ha hb h h2 h1 h3 h4 hl
  have e : decide (sameS a b) = decide (a.os.map keyO = b.os.map keyO) := by
   unfold sameS
   simp [h1, h3, h4]
  rw [e]
  exact this
 ·have e : decide (sameS a b) = false := decide_eq_false (fun hs => hno ⟨hs.1, hs.2.1, hs.2.2.1, by have := congrArg List.length hs.2.2.2; simpa using this⟩)
  rw [e]
  exact zsame_no a b w ha hb h h2 hno
end Go.Proofs.YtbbhmhihpdmoiaaGreat.Fx

set_option linter.unusedVariables false
set_option linter.unusedSimpArgs false
namespace Go.Proofs.YtbbhmhihpdmoiaaGreat.Fx
open Go Go.RowKit
open Go.Proofs.YtbbhmhihpdmoiaaGreat.Pk (PR RdOk Bs upV upA upB rq)
theorem rint_any (o : Option Addr) (c : Nat) (l : List Nat) (p a : Nat) (lost : Bool) (w : World) (k : RdOk l a) (h : PR o c l p a lost w) :
  Calls Tryz.prog 80 #[.pointer (some ⟨p, 0, none⟩)] w (OneG pI (fun z : Int => z) (fun z _ => Num z) (fun z => .int .i64 z) o c l p a lost w) := by
 refine (Pk.print_any o c l p a lost w k h).mono ?_
 rintro e w' ⟨rfl, hr, hg⟩
 have hlt : upV (rq lost 18446744073709551615 (l.drop a)) < 18446744073709551616 := by have := Pk.rq_le (lost := lost) (most := 18446744073709551615) (s := l.drop a); omega
 refine ⟨hg, _, rfl, unf_num hlt, ?_⟩
 have e1 : runP lost pI l a = (rq lost 18446744073709551615 (l.drop a)).map (fun q => (Pk.unf q.1, a + q.2)) := by
  unfold runP pI rq
  cases lost <;> rfl
 rw [e1]
 cases hq : rq lost 18446744073709551615 (l.drop a) with
 | none =>
  rw [hq] at hr
  exact ⟨a, k.at', hr⟩
 | some q =>
  rw [hq] at hr
  refine ⟨rfl, ?_, hr⟩
  unfold rq at hq
  split at hq
  ·cases hq
  ·have := Pk.rd_le hq
   have hdl : (l.drop a).length = l.length - a := by simp
   omega
theorem rsmall_any (most : Nat) (hm : most < 9223372036854775808) (o : Option Addr) (c : Nat) (l : List Nat) (p a : Nat) (lost : Bool) (w : World) (k : RdOk l a) (h : PR o c l p a lost w) :
  Calls Tryz.prog 50 #[.pointer (some ⟨p, 0, none⟩), .int .i64 (most : Int)] w (OneG (pU most) (fun z : Int => z) (fun z _ => 0 ≤ z ∧ z ≤ most) (fun z => .int .i64 z) o c l p a lost w) := by
 refine (Pk.prsmall_any o c l p a most lost w k (by omega) h).mono ?_
 rintro e w' ⟨rfl, hr, hg⟩
 have hle := Pk.rz_le (lost := lost) (most := (most : Int)) (s := l.drop a)
 refine ⟨hg, _, rfl, ⟨by omega, by omega⟩, ?_⟩
 rw [← small_eq]
 cases hq : Pk.rz lost (most : Int) (l.drop a) with
 | none =>
  rw [hq] at hr
  exact ⟨a, k.at', hr⟩
 | some q =>
  rw [hq] at hr
  refine ⟨rfl, ?_, hr⟩
  have := small_eq (lost := lost) (most := most) (l := l) (a := a)
  rw [hq] at this
  simp only [Option.map_some] at this
  unfold runP at this
  split at this
  ·cases this
  ·exact (pU_le k.at' this.symm).2.2
end Go.Proofs.YtbbhmhihpdmoiaaGreat.Fx

set_option linter.unusedVariables false
set_option linter.unusedSimpArgs false
namespace Go.Proofs.YtbbhmhihpdmoiaaGreat.Fx
open Go Go.RowKit Go.Shelf
attribute [local go_sem] Oper.semAt_some
theorem wpIn_call_round {l n : Nat} {P : Program} {o : Oper} {a : Act} {w : World} {K : Act → World → Prop} {Q : Exit → Act → World → Prop} (f : FuncId) (args : Array Value) (hrun : (execOp a.eval o).run P w = .ok (.enter f args) w) (c : Callee) (ps : Array Operand) (ts : Array TypeId) (ho : o.op = .call { callee := c, args := ps, argTypes := ts })
  {post : Ending → World → Prop} (hc : Calls P f args w post) (h : ∀ e w', post e w' → ∃ v, e = .returned v ∧ K (a.put o.dst v) w') : Oper.wpIn (Fence.wide.inRound l) n P o a w K Q := by
 unfold Oper.wpIn
 refine ⟨fun f _ => trivial, ?_⟩
 rw [Oper.semAt_plain _ _ _ (by rw [ho]; intro c hc'; cases hc'), hrun]
 refine ⟨fun h => (by cases h), CallsIn.inRound l (callsIn_wide.2 (hc.mono ?_))⟩
 intro e w' hp
 obtain ⟨v, rfl, hk⟩ := h e w' hp
 exact hk
structure PmS (p : Nat) (m : List Int) (l : List Nat) (w W : World) : Prop where
 box : W.heap[w.heap.size]? = some (.cells #[.pointer (some ⟨p, 0, none⟩)] 75 (0, 0))
 mat : W.heap[w.heap.size + 1]? = some (.cells (mC m) 25 (0, 0))
 it : W.heap[w.heap.size + 1 + 1]? = some (.cells #[.pointer (some ⟨w.heap.size + 1, 0, none⟩)] 158 (0, 0))
 wr : WSt p l W
 fr : WFr p w W
theorem PmS.kept {p : Nat} {m : List Int} {l : List Nat} {B : Nat} {w W X : World} (hB : w.heap.size ≤ B) (hp : p ≤ w.heap.size) (k : Kept B W X) (i : PmS p m l w W) : PmS p m l w X :=
 ⟨k.cells i.box, k.cells i.mat, k.cells i.it, i.wr.kept k, i.fr.kept hB hp k⟩
theorem PmS.step {p : Nat} {m : List Int} {l l' : List Nat} {w W X : World} (i : PmS p m l w W) (h : WSt p l' X) (hf : WFr p W X) : PmS p m l' w X := by
 obtain ⟨cs, hr⟩ := i.wr.row
 exact ⟨hf.rows (by decide) hr (by decide) _ _ i.box, hf.rows (by decide) hr (by decide) _ _ i.mat, hf.rows (by decide) hr (by decide) _ _ i.it, h, i.fr.trans hf⟩
theorem mC_get0 {m : List Int} {k : Nat} (hk : k < m.length) : (mC m)[k]? = some (.int .i64 (m.getD k 0)) := by
 simp [mC, hk, encI]
theorem PmS.num {p : Nat} {m : List Int} {l : List Nat} {w W : World} (i : PmS p m l w W) {k : Nat} (hk : k < m.length) : W.cell? ⟨w.heap.size + 1, k, none⟩ = some (.int .i64 (m.getD k 0)) := by
 rw [cell_of_row _ _ _ _ _ _ i.mat]
 exact mC_get0 hk
def PmI (p : Nat) (m : List Int) (l : List Nat) (w : World) (k : Nat) (W : World) : Prop := PmS p m (l ++ fNums (m.take k)) w W
def PmA (p : Nat) (m : List Int) (w : World) (k : Nat) (a : Act) : Prop :=
 a = { tmps := #[.pointer (some ⟨p, 0, none⟩), .agg (mC m), .pointer (some ⟨w.heap.size, 0, none⟩), .pointer (some ⟨w.heap.size + 1, 0, none⟩), .pointer (some ⟨w.heap.size + 1, k, none⟩), .func (.func 131) #[] #[.pointer (some ⟨w.heap.size + 1 + 1, 0, none⟩)], .pointer (some ⟨w.heap.size + 1, k, none⟩), undef, undef, undef, undef, undef], defers := [] }
theorem fNums_len (m : List Int) : (fNums m).length ≤ 11 * m.length := by
 unfold fNums
 induction m with
 | nil => simp
 | cons a t ih =>
  rw [List.flatMap_cons, List.length_append, List.length_cons]
  have : (fI a).length ≤ 11 := (Pk.form_len _).2
  omega
theorem fNums_snoc {m : List Int} {k : Nat} (hk : k < m.length) : fNums (m.take (k + 1)) = fNums (m.take k) ++ fI (m.getD k 0) := by
 unfold fNums
 rw [List.take_add_one, List.flatMap_append, List.getElem?_eq_getElem hk]
 simp [hk]
set_option maxRecDepth 100000 in
set_option maxHeartbeats 4000000 in
theorem pputm_any (p : Nat) (m : List Int) (l : List Nat) (w : World) (hm : dNums 16 m) (hl : l.length ≤ 90000000) (h : WSt p l w) : Calls Tryz.prog 62 #[.pointer (some ⟨p, 0, none⟩), .agg (mC m)] w (WPost p (l ++ fNums m) w) := by
 have hlt := h.lt
 obtain ⟨W1, hW1⟩ : ∃ V, (w.alloc (.cells #[.pointer (some ⟨p, 0, none⟩)] 75)).alloc (.cells (mC m) 25) = V := ⟨_, rfl⟩
 obtain ⟨W0, hW0⟩ : ∃ V, W1.alloc (.cells #[.pointer (some ⟨w.heap.size + 1, 0, none⟩)] 158) = V := ⟨_, rfl⟩
 have z1 : W1.heap.size = w.heap.size + 1 + 1 := by rw [← hW1]; simp
 have b1 : Below w.heap.size w W1 := by rw [← hW1]; exact ((Below.refl _ w).alloc (Nat.le_refl _) _).alloc (by simp) _
 have b0 : Below W1.heap.size W1 W0 := by rw [← hW0]; exact (Below.refl _ W1).alloc (Nat.le_refl _) _
 have F0 : PmS p m l w W0 := by
  have hb := bnext b1 b0
  refine ⟨keep_row b0 ?_, keep_row b0 ?_, ?_, h.below hb, WFr.of_below hb (by omega)⟩
  ·rw [← hW1]; exact step_row (heap_alloc_new _ _)
  ·rw [← hW1]
   have := heap_alloc_new (w.alloc (.cells #[.pointer (some ⟨p, 0, none⟩)] 75)) (.cells (mC m) 25)
   rw [World.size_alloc] at this
   exact this
  ·rw [← hW0, ← z1]
   exact heap_alloc_new W1 _
 have HF0 : Hid (PmI p m l w 0 W0) := Lib.hid (by unfold PmI; rw [List.take_zero]; simpa [fNums] using F0)
 have HS0 : Hid (W0.heap.size = w.heap.size + 1 + 1 + 1) := Lib.hid (by rw [← hW0, World.size_alloc, z1])
 have HZ1 := Lib.hid z1
 have HW1 := Lib.hid hW1
 have HW0 := Lib.hid hW0
 have HM := Lib.hid hm
 have HLL := Lib.hid hl
 have HP := Lib.hid hlt
 clear F0 b0 b1 z1 hW0 hW1 hm hl hlt h
 refine (callsIn_wide (n := 5)).1 ?_
 refine callsIn_of_wp_marks Tryz.func62 rfl trivial ?_ rfl
 simp only [Tryz.ntmps62, List.size_toArray, List.length_cons, List.length_nil, Nat.reduceAdd, Nat.reduceSub, Array.replicate_succ, Array.replicate_zero, List.push_toArray, List.append_toArray, List.nil_append, List.cons_append]
 refine wpIn_wide.2 ?_
 go_wp2_with (rw [HW1.out])
 refine (nums_w _ _).mono ?_
 rintro e w' ⟨rfl, rfl⟩
 rw [HZ1.out, HW0.out]
 go_wp2_with fail
 refine wpIn_wide.1 (wpIn_range_jump (F := Fence.wide) (n := 5) rfl (by omega) (gf := 131) (lb := #[.pointer (some ⟨w.heap.size + 1 + 1, 0, none⟩)]) rfl trivial (enters_of Tryz.func131 (by kernel_rfl) rfl)
  (nums_hands (w.heap.size + 1 + 1) (w.heap.size + 1)) (fun _ => rfl) .ret (PmI p m l w) (fun _ => False) (fun j a' W => PmA p m w j a' ∧ PmI p m l w j W)
  ?i1 ?i2 ?i3 ?i4 ?i5 HF0.out ?assign ?body ?done ?stop)
 case i1 => rintro j W X h1 hk; exact PmS.kept (by have := HS0.out; omega) (by have := HP.out; omega) hk h1
 case i2 => rintro W X h; exact h.elim
 case i3 => rintro j a W X ⟨h0, h1⟩ hk; exact ⟨h0, PmS.kept (by have := HS0.out; omega) (by have := HP.out; omega) hk h1⟩
 case i4 => rintro j W h1; unfold NuM; rw [cell_of_row _ _ _ _ _ _ (PmS.it h1)]; rfl
 case i5 => rintro W h; exact h.elim
 case assign =>
  intro l1 j W C hk hI hC
  simp only [nElem]
  gi_wp2
  exact hC _ _ (KeepsFrom.refl _ _) ⟨rfl, hI⟩
 case body =>
  rintro l1 j a' W hk ⟨ha, fs⟩
  unfold PmA at ha
  subst ha
  unfold PmI at fs
  have hkm : j < m.length := by rw [HM.out.1]; exact hk
  have c0 : W.cell? ⟨w.heap.size, 0, none⟩ = some (.pointer (some ⟨p, 0, none⟩)) := by rw [cell_of_row _ _ _ _ _ _ fs.box]; rfl
  have c1 := fs.num hkm
  have HSN := Lib.hid (fNums_snoc hkm)
  have hzn : Num (m.getD j 0) := HM.out.2 _ (by rw [List.getD_eq_getElem?_getD, List.getElem?_eq_getElem hkm]; exact List.getElem_mem hkm)
  have hll : (l ++ fNums (m.take j)).length ≤ 100000000 := by
   have := fNums_len (m.take j)
   have h2 := HLL.out
   have h3 : (m.take j).length ≤ 16 := by rw [List.length_take, HM.out.1]; omega
   rw [List.length_append]
   omega
  generalize m.getD j 0 = z at c1 hzn HSN
  have HI : Hid (∀ X, WSt p (l ++ fNums (m.take j)) X → Calls Tryz.prog 103 #[.pointer (some ⟨p, 0, none⟩), .int .i64 z] X (WPost p (l ++ fNums (m.take j) ++ fI z) X)) := Lib.hid (fun X hX => wint_any p z _ X hzn hll hX)
  have HS := Lib.hid fs
  clear fs hzn hll hk hkm
  gi_wp2
  refine heldz_region (S := fun X => X.cell? ⟨w.heap.size, 0, none⟩ = some (.pointer (some ⟨p, 0, none⟩)) ∧ X.cell? ⟨w.heap.size + 1, j, none⟩ = some (.int .i64 z)) (Z := [4]) (by kernel_rfl) ?_
  refine heldz_take (fun _ => trivial) [4] 0 (.pointer (some ⟨p, 0, none⟩)) (by kernel_rfl) rfl (by kernel_rfl) (fun _ _ _ h => h) ⟨c0, c1⟩ (by kernel_rfl) ?_ ?_
  ·intro wz hSw; obtain ⟨q1, q2⟩ := hSw; (first | (go_simp; done) | (go_simp; with_reducible rfl))
  (try simp only [Act.put, List.getElem_toArray, List.getElem_cons_zero, List.getElem_cons_succ, List.setIfInBounds_toArray, List.set_cons_zero, List.set_cons_succ])
  refine heldz_take (fun _ => trivial) [2, 3, 4] 1 (?_) (by kernel_rfl) rfl (by kernel_rfl) (fun _ _ _ h => h) ⟨c0, c1⟩ (by kernel_rfl) ?_ ?_
  rotate_left
  ·intro wz hSw; (first | (go_simp; done) | (go_simp; with_reducible rfl))
  (try simp only [Act.put, List.getElem_toArray, List.getElem_cons_zero, List.getElem_cons_succ, List.setIfInBounds_toArray, List.set_cons_zero, List.set_cons_succ])
  refine heldz_take (fun _ => trivial) [3, 4] 2 (?_) (by kernel_rfl) rfl (by kernel_rfl) (fun _ _ _ h => h) ⟨c0, c1⟩ (by kernel_rfl) ?_ ?_
  rotate_left
  ·intro wz hSw; (first | (go_simp; done) | (go_simp; with_reducible rfl))
  (try simp only [Act.put, List.getElem_toArray, List.getElem_cons_zero, List.getElem_cons_succ, List.setIfInBounds_toArray, List.set_cons_zero, List.set_cons_succ])
  refine heldz_take (fun _ => trivial) [4] 3 (.int .i64 z) (by kernel_rfl) rfl (by kernel_rfl) (fun _ _ _ h => h) ⟨c0, c1⟩ (by kernel_rfl) ?_ ?_
  ·intro wz hSw; obtain ⟨q1, q2⟩ := hSw; (first | (go_simp; done) | (go_simp; with_reducible rfl))
  (try simp only [Act.put, List.getElem_toArray, List.getElem_cons_zero, List.getElem_cons_succ, List.setIfInBounds_toArray, List.set_cons_zero, List.set_cons_succ])
  refine heldz_step (fun _ => trivial) 4 (by kernel_rfl) rfl (fun K hK => ?_)
  rw [if_pos (by kernel_rfl)]
  have hD : Below W.heap.size W W.drew := bdrew0 _ W 1
  refine wpIn_call_round 103 #[.pointer (some ⟨p, 0, none⟩), .int .i64 z] (by first | (go_simp; done) | (go_simp; with_reducible rfl)) _ _ _ rfl (HI.out _ (HS.out.wr.below hD)) (fun e w2 hp => ?_)
  obtain ⟨rfl, hw2, hf2⟩ := hp
  have hf3 := (WFr.of_below hD (by have := HS.out.wr.lt; omega)).trans hf2
  have HS2 := Lib.hid (HS.out.step hw2 hf3)
  have HKF : Hid (KeepsFrom W0.heap.size W w2) := Lib.hid (by obtain ⟨cs, hr⟩ := HS.out.wr.row; exact (hf3.keeps hr).from _)
  refine ⟨_, rfl, hK.out _ _ (fun h => by cases h) ?_⟩
  clear hK K hD hw2 hf2 hf3
  (try simp only [Act.put, List.getElem_toArray, List.getElem_cons_zero, List.getElem_cons_succ, List.setIfInBounds_toArray, List.set_cons_zero, List.set_cons_succ])
  refine heldz_done (by kernel_rfl) ?_ _
  clear c0 c1
  gi_wp2
  exact ⟨HKF.out, by unfold PmI; rw [HSN.out, ← List.append_assoc]; exact HS2.out⟩
 case done =>
  rintro D W hD fs hdef
  unfold PmI at fs
  rw [List.take_of_length_le (by rw [HM.out.1]; omega)] at fs
  have hk : Kept w.heap.size W (W.putObj D (.deferred none)) := Kept.putObj _ (by have := HS0.out; omega) hdef rfl
  have HE : Hid (WPost p (l ++ fNums m) w (.returned undef) (W.putObj D (.deferred none))) := Lib.hid ⟨rfl, fs.wr.kept hk, fs.fr.kept (Nat.le_refl _) (by have := HP.out; omega) hk⟩
  have HDF := Lib.hid hdef
  clear fs hD hdef hk
  go_wp2_with fail
  refine ⟨by simp, .inl ⟨_, _, rfl, run_takeDeferred HDF.out, ?_⟩⟩
  exact ⟨_, results_none rfl _ _ _, HE.out⟩
 case stop =>
  rintro D W hD h hdef
  exact h.elim
end Go.Proofs.YtbbhmhihpdmoiaaGreat.Fx
