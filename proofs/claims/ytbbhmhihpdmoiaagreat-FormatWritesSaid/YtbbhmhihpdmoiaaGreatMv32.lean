import Derived.Laws.Rows
import Derived.Test.YtbbhmhihpdmoiaaGreatProg
import Derived.RangeFuncCalls
import Derived.Test.YtbbhmhihpdmoiaaGreatMv17
import Derived.Test.YtbbhmhihpdmoiaaGreatMv23
import Derived.Test.YtbbhmhihpdmoiaaGreatMv28
import Derived.Test.YtbbhmhihpdmoiaaGreatMv29
import Derived.Test.YtbbhmhihpdmoiaaGreatMv30
import Derived.Test.YtbbhmhihpdmoiaaGreatMv31
set_option linter.unusedVariables false
set_option linter.unusedSimpArgs false
namespace Go.Proofs.YtbbhmhihpdmoiaaGreat.Fx
open Go Go.RowKit Go.Shelf
open Go.Proofs.YtbbhmhihpdmoiaaGreat.Pk (PW PCall Turn form fold By)
attribute [local go_sem] Oper.semAt_some
structure WFr (p : Nat) (W X : World) : Prop where
 os : X.os = W.os
 tape : X.tape = W.tape
 output : X.output = W.output
 size : W.heap.size ≤ X.heap.size
 low : ∀ k, k < p → X.heap[k]? = W.heap[k]?
 block : ∀ (k : Nat) (o : Obj), W.heap[k]? = some o → k ≠ p → (∀ c f, o ≠ .cells c 5 f) → X.heap[k]? = some o
theorem WFr.refl (p : Nat) (W : World) : WFr p W W := ⟨rfl, rfl, rfl, Nat.le_refl _, fun _ _ => rfl, fun _ _ h _ _ => h⟩
theorem WFr.trans {p : Nat} {W X Y : World} (h : WFr p W X) (k : WFr p X Y) : WFr p W Y :=
 ⟨k.os.trans h.os, k.tape.trans h.tape, k.output.trans h.output, Nat.le_trans h.size k.size, fun i hi => (k.low i hi).trans (h.low i hi), fun i o hi h1 h2 => k.block i o (h.block i o hi h1 h2) h1 h2⟩
theorem WFr.of_below {p : Nat} {W X : World} (h : Below W.heap.size W X) (hp : p ≤ W.heap.size) : WFr p W X :=
 ⟨h.os, h.tape, h.output, h.size, fun k hk => h.block k (by omega), fun k o hk _ _ => by rw [h.block k (Array.getElem?_eq_some_iff.1 hk).1]; exact hk⟩
theorem WFr.below {p : Nat} {W X : World} (h : WFr p W X) : Below p W X := ⟨h.os, h.tape, h.output, h.size, h.low⟩
theorem WFr.rows {p : Nat} {W X : World} (h : WFr p W X) {t : TypeId} (ht : t ≠ 5) {pw : Array Value} {u : TypeId} (hp : W.heap[p]? = some (.cells pw u (0, 0))) (hu : t ≠ u) : Rows t W X := fun g cur hg => h.block g _ hg (fun e => by
 subst e
 rw [hp] at hg
 cases hg
 exact hu rfl) (fun c f e => by cases e; exact ht rfl)
theorem WFr.keeps {p : Nat} {W X : World} (h : WFr p W X) {pw : Array Value} {u : TypeId} (hp : W.heap[p]? = some (.cells pw u (0, 0))) : KeepsOthers W X :=
 ⟨h.size, fun k o hk ho => h.block k o hk (fun e => by
  subst e
  rw [hp] at hk
  cases hk
  cases ho) (fun c f e => by subst e; cases ho)⟩
theorem WFr.kept {p B : Nat} {w W X : World} (hB : w.heap.size ≤ B) (hp : p ≤ w.heap.size) (h : WFr p w W) (k : Kept B W X) : WFr p w X := by
 refine ⟨k.os.trans h.os, k.tape.trans h.tape, k.output.trans h.output, Nat.le_trans h.size k.size, fun i hi => ?_, fun i o hi h1 h2 => k.block i o (h.block i o hi h1 h2) (.inl (by have := (Array.getElem?_eq_some_iff.1 hi).1; omega))⟩
 have hlt : i < w.heap.size := by omega
 have h1 := h.low i hi
 rw [Array.getElem?_eq_getElem hlt] at h1 ⊢
 exact k.block i _ h1 (.inl (by omega))
def WSt (p : Nat) (l : List Nat) (W : World) : Prop := ∃ v, PW (p + 1) p v l false W
theorem WSt.row {p : Nat} {l : List Nat} {W : World} (h : WSt p l W) : ∃ cs, W.heap[p]? = some (.cells cs 120 (0, 0)) := by
 obtain ⟨v, h⟩ := h
 exact ⟨_, h.row⟩
theorem WSt.lt {p : Nat} {l : List Nat} {W : World} (h : WSt p l W) : p < W.heap.size := by
 obtain ⟨v, h⟩ := h
 exact h.lt
theorem WSt.below {p : Nat} {l : List Nat} {W X : World} (h : WSt p l W) (hb : Below W.heap.size W X) : WSt p l X := by
 obtain ⟨v, h⟩ := h
 exact ⟨v, h.below hb⟩
theorem WSt.kept {p B : Nat} {l : List Nat} {W X : World} (h : WSt p l W) (k : Kept B W X) : WSt p l X := by
 obtain ⟨v, h⟩ := h
 exact ⟨v, ⟨k.cells h.row, h.own.kept k⟩⟩
theorem WSt.set {p m j : Nat} {l : List Nat} {W : World} {c : Array Value} {t : TypeId} {u : Value} (h : WSt p l W) (hm : W.heap[m]? = some (.cells c t (0, 0))) (h1 : t ≠ 120) (h2 : t ≠ 5) : WSt p l (W.setCell ⟨m, j, none⟩ u) := by
 obtain ⟨v, h⟩ := h
 have hn : p ≠ m := fun e => by
  subst e
  have := h.row
  rw [hm] at this
  cases this
  exact h1 rfl
 refine ⟨v, ⟨by rw [heap_setCell_other _ _ _ _ hn]; exact h.row, ?_⟩⟩
 obtain ⟨o1, o2⟩ := h.own
 refine ⟨o1, ?_⟩
 rcases o2 with o2 | ⟨g, cap, cur, e, hb, hg, h3⟩
 ·exact Or.inl o2
 ·refine Or.inr ⟨g, cap, cur, e, hb, ?_, h3⟩
  rw [heap_setCell_other _ _ _ _ (by
   show g ≠ m
   intro e
   subst e
   rw [hm] at hg
   cases hg
   exact h2 rfl)]
  exact hg
theorem own_row {W : World} {B : Nat} {v : Value} {l : List Nat} (s : Pk.Own W B v l) : ∀ k, v.ownBlock = some k → B ≤ k ∧ ∃ cur, W.heap[k]? = some (.cells cur 5 (0, 0)) := by
 intro k hk
 obtain ⟨h1, h2⟩ := s
 rcases h2 with ⟨rfl, _⟩ | ⟨g, cap, cur, rfl, hb, hg, _⟩
 ·cases hk
 ·cases hk
  exact ⟨hb, cur, hg⟩
theorem WFr.of_turn {p : Nat} {v v' : Value} {l : List Nat} {W X : World} (h : PW (p + 1) p v l false W) (t : Turn p v v' W X) : WFr p W X := by
 have hp := h.lt
 refine ⟨t.os, t.tape, t.output, t.size, fun k hk => t.block k (by omega) (by omega) (fun e => by have := (own_row h.own k e).1; omega), fun k o hk h1 h2 => ?_⟩
 rw [t.block k (Array.getElem?_eq_some_iff.1 hk).1 h1 (fun e => by
  obtain ⟨_, cur, hc⟩ := own_row h.own k e
  rw [hk] at hc
  cases hc
  exact h2 _ _ rfl)]
 exact hk
def WPost (p : Nat) (l : List Nat) (w : World) (e : Ending) (w' : World) : Prop := e = .returned undef ∧ WSt p l w' ∧ WFr p w w'
theorem WPost.of {p : Nat} {v : Value} {l l' : List Nat} {w w' : World} {e : Ending} (h : PW (p + 1) p v l false w) (hc : PCall (p + 1) p v l' false w e w') : WPost p l' w e w' := by
 obtain ⟨he, v', h1, h2⟩ := hc
 exact ⟨he, ⟨v', h1⟩, WFr.of_turn h h2⟩
theorem wint_any (p : Nat) (z : Int) (l : List Nat) (w : World) (hz : Num z) (hl : l.length ≤ 100000000) (h : WSt p l w) : Calls Tryz.prog 103 #[.pointer (some ⟨p, 0, none⟩), .int .i64 z] w (WPost p (l ++ fI z) w) := by
 obtain ⟨v, h⟩ := h
 exact (Pk.pint_any (p + 1) p z v l false w h.lt hz.1 hz.2 hl h).mono fun e w' hc => WPost.of h hc
theorem wuint_any (p n : Nat) (l : List Nat) (w : World) (hz : n < 18446744073709551616) (hl : l.length ≤ 100000000) (h : WSt p l w) : Calls Tryz.prog 93 #[.pointer (some ⟨p, 0, none⟩), .int .u64 (n : Int)] w (WPost p (l ++ form n) w) := by
 obtain ⟨v, h⟩ := h
 exact (Pk.puint_any (p + 1) p n v l false w h.lt hz hl h).mono fun e w' hc => WPost.of h hc
theorem wsmall_any (p : Nat) (n most : Int) (l : List Nat) (w : World) (h0 : 0 ≤ n) (h1 : n ≤ most) (hm : most ≤ 9223372036854775807) (hl : l.length ≤ 100000000) (h : WSt p l w) : Calls Tryz.prog 52 #[.pointer (some ⟨p, 0, none⟩), .int .i64 n, .int .i64 most] w (WPost p (l ++ fU n) w) := by
 obtain ⟨v, h⟩ := h
 have := Pk.psmall_any (p + 1) p n most v l false w h.lt (by omega) (by omega) hl h
 have e : Pk.mayB n most = true := decide_eq_true ⟨h0, h1⟩
 rw [e] at this
 exact this.mono fun e w' hc => WPost.of h hc
theorem nums_w (a : Addr) (w : World) : Calls Tryz.prog 102 #[.pointer (some a)] w fun e w' =>
  e = .returned (.func (.func 131) #[] #[.pointer (some ⟨w.heap.size, 0, none⟩)]) ∧ w' = w.alloc (.cells #[.pointer (some a)] 158) := by
 go_enter Tryz.func102, Tryz.ntmps102
 go_wp2
 go_ret
 exact ⟨rfl, rfl⟩
def nElem (M k : Nat) : Array Value := #[.pointer (some ⟨M, k, none⟩)]
def NuM (A M : Nat) (X : World) : Prop := X.cell? ⟨A, 0, none⟩ = some (.pointer (some ⟨M, 0, none⟩))
set_option maxRecDepth 100000 in
set_option maxHeartbeats 1000000 in
theorem nums_hands (A M : Nat) :
  Hands Fence.wide 4 Tryz.prog 131 #[.pointer (some ⟨A, 0, none⟩)] (nElem M) 16 (NuM A M) := by
 intro l J Jx W hJ1 hJ2 hJB hJxB hY h0
 have HY := Lib.hid hY; clear hY
 have HJ1 := Lib.hid hJ1; clear hJ1
 have HJ2 := Lib.hid hJ2; clear hJ2
 have HJB := Lib.hid hJB; clear hJB
 have HJxB := Lib.hid hJxB; clear hJxB
 refine callsIn_of_wp Tryz.func131 rfl trivial ?_ rfl
 simp only [Tryz.ntmps131, List.size_toArray, List.length_cons, List.length_nil, Nat.reduceAdd, Nat.reduceSub, Array.replicate_succ, Array.replicate_zero, List.push_toArray, List.append_toArray, List.nil_append, List.cons_append]
 gi_wp2
 gi_loopw [5] (fun v9 wr => ∃ r : Nat, v9 = .int .i64 (r : Int) ∧ r ≤ 4 ∧ J (r * 4) wr) (fun v9 _ => 4 - (intOf v9).toNat)
 case atStart => exact ⟨0, rfl, by omega, h0⟩
 case round =>
  obtain ⟨r, rfl, hrn, hJ⟩ := hrel
  by_cases hr : r < 4
  ·have r0 : (0 : Int) ≤ (r : Int) := by omega
   have r1 : (r : Int) < 4 := by omega
   gi_wp2
   gi_loopw [8] (fun v15 wx => ∃ c : Nat, v15 = .int .i64 (c : Int) ∧ c ≤ 4 ∧ J (r * 4 + c) wx) (fun v15 _ => 4 - (intOf v15).toNat)
   case atStart => exact ⟨0, rfl, by omega, hJ⟩
   case round =>
    obtain ⟨c, rfl, hc4, hJc⟩ := hrel
    by_cases hc : c < 4
    ·have cA := HJB.out _ wr hJc
     unfold NuM at cA
     obtain ⟨fn, tmps, assign, body, hy, hR⟩ := HY.out (r * 4 + c) _ (by omega) hJc
     simp only [nElem] at hy
     have c0 : (0 : Int) ≤ (c : Int) := by omega
     have c1 : (c : Int) < 4 := by omega
     gi_wp2
     refine hR.mono ?_
     rintro e W3 (⟨rfl, hJ3⟩ | ⟨rfl, hJx3⟩)
     ·gi_wp2
      go_roundw
      case rel => exact ⟨c + 1, by go_num, by omega, hJ3⟩
      case measure => simp [intOf]; omega
     ·gi_wp2
      refine bodyPost_ret (results_none rfl _ _ _) rfl ?_
      exact ⟨⟨_, rfl⟩, .inr hJx3⟩
    ·have hce : c = 4 := by omega
     subst hce
     have hJ4 : J ((r + 1) * 4) wr := by rw [show (r + 1) * 4 = r * 4 + 4 from by omega]; exact hJc
     have HJ4 := Lib.hid hJ4
     clear hJ4
     gi_wp2
     go_roundw
     case rel => exact ⟨r + 1, by go_num, by omega, HJ4.out⟩
     case measure => simp [intOf]; omega
  ·have hrm : r = 4 := by omega
   subst hrm
   have HJN : Hid (J 16 wr) := Lib.hid hJ
   gi_wp2
   go_end0
   exact ⟨⟨_, rfl⟩, .inl HJN.out⟩
end Go.Proofs.YtbbhmhihpdmoiaaGreat.Fx

set_option linter.unusedVariables false
set_option linter.unusedSimpArgs false
namespace Go.Proofs.YtbbhmhihpdmoiaaGreat.Fx
open Go Go.RowKit
open Go.Proofs.YtbbhmhihpdmoiaaGreat.Pk (PR RdOk Bs)
def runP {κ : Type} (lost : Bool) (P : Prs κ) (l : List Nat) (a : Nat) : Option (κ × Nat) := if lost = true then none else P l a
def ElOk {α : Type} (t tS : TypeId) (El : α → World → Prop) : Prop := ∀ z W X, El z W → (∀ u, u ≠ t → u ≠ 144 → u ≠ tS → Rows u W X) → El z X
structure MSG {α : Type} (t tS : TypeId) (n : Nat) (f : α → List Value) (El : α → World → Prop) (o : Option Addr) (c : Nat) (l : List Nat) (p a : Nat) (lost : Bool) (v : Value) (zs : List α) (w W : World) : Prop where
 box : W.heap[w.heap.size]? = some (.cells #[.pointer (some ⟨p, 0, none⟩)] 90 (0, 0))
 res : W.heap[w.heap.size + 1]? = some (.cells #[v] tS (0, 0))
 rd : PR o c l p a lost W
 own : OwnG t n f W (w.heap.size + 2) v zs
 el : ∀ z ∈ zs, El z W
 grow : w.grownBy W (some p)
section
variable {α : Type} {t tS : TypeId} {n : Nat} {f : α → List Value} {El : α → World → Prop} {o : Option Addr} {c : Nat} {l : List Nat} {p a : Nat} {lost : Bool} {v : Value} {zs : List α} {w W : World}
theorem MSG.facts (s : MSG t tS n f El o c l p a lost v zs w W) :
  W.cell? ⟨w.heap.size, 0, none⟩ = some (.pointer (some ⟨p, 0, none⟩)) ∧ W.cell? ⟨w.heap.size + 1, 0, none⟩ = some v ∧ W.frozen? ⟨w.heap.size + 1, 0, none⟩ = false :=
 ⟨(cell_of_row _ _ 0 _ _ _ s.box).trans rfl, (cell_of_row _ _ 0 _ _ _ s.res).trans rfl, frozen_row s.res⟩
theorem MSG.lt (s : MSG t tS n f El o c l p a lost v zs w W) : w.heap.size + 2 ≤ W.heap.size := by
 have := (Array.getElem?_eq_some_iff.1 s.res).1
 omega
theorem MSG.read {a2 : Nat} {lost2 : Bool} {X : World} (hel : ElOk t tS El) (ht : t ≠ 144) (s : MSG t tS n f El o c l p a lost v zs w W) (hp : p < w.heap.size) (hr : PR o c l p a2 lost2 X) (hg : W.grownBy X (some p)) : MSG t tS n f El o c l p a2 lost2 v zs w X := by
 refine ⟨?_, ?_, hr, s.own.grown hg (fun k hk e => ?_), fun z hz => hel z W X (s.el z hz) (fun u _ hu _ => Rows.of_grown hg (fun k hk => by cases hk; exact ⟨_, s.rd.row⟩) hu), s.grow.trans hg⟩
 ·rw [hg.block _ (Array.getElem?_eq_some_iff.1 s.box).1 (fun e => by have := Option.some.inj e; omega)]
  exact s.box
 ·rw [hg.block _ (Array.getElem?_eq_some_iff.1 s.res).1 (fun e => by have := Option.some.inj e; omega)]
  exact s.res
 ·cases hk
  obtain ⟨cur, hc⟩ := s.own.row p e
  rw [s.rd.row] at hc
  cases hc
  exact ht rfl
theorem MSG.up {X : World} (hel : ElOk t tS El) (s : MSG t tS n f El o c l p a lost v zs w W) (hb : Below W.heap.size W X) : MSG t tS n f El o c l p a lost v zs w X :=
 ⟨keep_row hb s.box, keep_row hb s.res, s.rd.below hb, s.own.below hb, fun z hz => hel z W X (s.el z hz) (fun u _ _ _ => Rows.of_below hb), s.grow.trans (Pk.below_grown hb (some p))⟩
theorem grown_cell1 (W : World) (b j : Nat) (v : Value) : W.grownBy (W.setCell ⟨b, j, none⟩ v) (some b) :=
 ⟨rfl, rfl, rfl, by simp, fun k _ hk => heap_setCell_other _ _ _ _ (by intro e; exact hk (by rw [show k = b from e]))⟩
theorem MSG.app {v' : Value} {zs' : List α} {X : World} (hel : ElOk t tS El) (hts : t ≠ tS) (s : MSG t tS n f El o c l p a lost v zs w W) (hp : p < w.heap.size) (hob : ∀ b off, o = some ⟨b, off, none⟩ → 0 < l.length → b < w.heap.size) (ho : OwnG t n f X (w.heap.size + 2) v' zs') (hg : W.grownBy X v.ownBlock) (he : ∀ z ∈ zs', El z W) :
  X.heap[w.heap.size + 1]? = some (.cells #[v] tS (0, 0)) ∧ MSG t tS n f El o c l p a lost v' zs' w (X.setCell ⟨w.heap.size + 1, 0, none⟩ v') := by
 have hv := s.own.blk
 have hres : X.heap[w.heap.size + 1]? = some (.cells #[v] tS (0, 0)) := by
  rw [hg.block _ (Array.getElem?_eq_some_iff.1 s.res).1 (fun e => by have := hv _ e.symm; omega)]
  exact s.res
 have hbox : X.heap[w.heap.size]? = some (.cells #[.pointer (some ⟨p, 0, none⟩)] 90 (0, 0)) := by
  rw [hg.block _ (Array.getElem?_eq_some_iff.1 s.box).1 (fun e => by have := hv _ e.symm; omega)]
  exact s.box
 have hrd : PR o c l p a lost X := s.rd.grown hg (fun e => by have := hv _ e.symm; omega) (fun b off e hm h => by have := hv b h.symm; have := hob b off e hm; omega)
 have hgx : w.grownBy X (some p) := ⟨hg.os.trans s.grow.os, hg.tape.trans s.grow.tape, hg.output.trans s.grow.output, Nat.le_trans s.grow.size hg.size, fun q hq hqp => by
  rw [hg.block q (Nat.lt_of_lt_of_le hq s.grow.size) (fun e => by have := hv q e.symm; omega)]
  exact s.grow.block q hq hqp⟩
 have hc := grown_cell1 X (w.heap.size + 1) 0 v'
 refine ⟨hres, by rw [heap_setCell_other _ _ _ _ (by show _ ≠ w.heap.size + 1; omega)]; exact hbox, heap_setCell_same _ _ 0 _ _ v' hres, hrd.grown hc (fun e => by have := Option.some.inj e; omega) (fun b off e hm h => by have := Option.some.inj h; have := hob b off e hm; omega),
  ho.cellset (fun e => by have := ho.blk _ e; omega), fun z hz => hel z W _ (he z hz) (fun u h1 _ h3 => (Rows.of_grown hg (fun k hk => s.own.row k hk) h1).trans (Rows.of_set hres h3)), ?_⟩
 exact ⟨hc.os.trans hgx.os, hc.tape.trans hgx.tape, hc.output.trans hgx.output, Nat.le_trans hgx.size hc.size, fun q hq hqp => by
  rw [hc.block q (Nat.lt_of_lt_of_le hq hgx.size) (fun e => by have := Option.some.inj e; omega)]
  exact hgx.block q hq hqp⟩
end
def OneG {α κ : Type} (P : Prs κ) (key : α → κ) (El : α → World → Prop) (val : α → Value) (o : Option Addr) (c : Nat) (l : List Nat) (p a : Nat) (lost : Bool) (w : World) (e : Ending) (w' : World) : Prop :=
 w.grownBy w' (some p) ∧ ∃ x, e = .returned (val x) ∧ El x w' ∧ match runP lost P l a with
  | some (k, b) => key x = k ∧ b ≤ l.length ∧ PR o c l p b false w'
  | none => ∃ b, b ≤ l.length ∧ PR o c l p b true w'
end Go.Proofs.YtbbhmhihpdmoiaaGreat.Fx

set_option linter.unusedVariables false
set_option linter.unusedSimpArgs false
namespace Go.Proofs.YtbbhmhihpdmoiaaGreat.Fx
open Go Go.RowKit
open Go.Proofs.YtbbhmhihpdmoiaaGreat.Pk (PR RdOk Bs upV upA upB rq)
end Go.Proofs.YtbbhmhihpdmoiaaGreat.Fx

set_option linter.unusedVariables false
set_option linter.unusedSimpArgs false
namespace Go.Proofs.YtbbhmhihpdmoiaaGreat.Fx
open Go Go.RowKit Go.Shelf
attribute [local go_sem] Oper.semAt_some
theorem wpIn_call_round {l n : Nat} {P : Program} {o : Oper} {a : Act} {w : World} {K : Act → World → Prop} {Q : Exit → Act → World → Prop} (f : FuncId) (args : Array Value) (hrun : (execOp a.eval o).run P w = .ok (.enter f args) w) (c : Callee) (ps : Array Operand) (ts : Array TypeId) (ho : o.op = .call { callee := c, args := ps, argTypes := ts })
  {post : Ending → World → Prop} (hc : Calls P f args w post) (h : ∀ e w', post e w' → ∃ v, e = .returned v ∧ K (a.put o.dst v) w') : Oper.wpIn (Fence.wide.inRound l) n P o a w K Q := by
 unfold Oper.wpIn
 refine ⟨fun f _ => trivial, ?_⟩
 rw [Oper.semAt_plain _ _ _ (by rw [ho]; intro c hc'; cases hc'), hrun]
 refine ⟨fun h => (by cases h), CallsIn.inRound l (callsIn_wide.2 (hc.mono ?_))⟩
 intro e w' hp
 obtain ⟨v, rfl, hk⟩ := h e w' hp
 exact hk
structure PmS (p : Nat) (m : List Int) (l : List Nat) (w W : World) : Prop where
 box : W.heap[w.heap.size]? = some (.cells #[.pointer (some ⟨p, 0, none⟩)] 75 (0, 0))
 mat : W.heap[w.heap.size + 1]? = some (.cells (mC m) 25 (0, 0))
 it : W.heap[w.heap.size + 1 + 1]? = some (.cells #[.pointer (some ⟨w.heap.size + 1, 0, none⟩)] 158 (0, 0))
 wr : WSt p l W
 fr : WFr p w W
theorem PmS.kept {p : Nat} {m : List Int} {l : List Nat} {B : Nat} {w W X : World} (hB : w.heap.size ≤ B) (hp : p ≤ w.heap.size) (k : Kept B W X) (i : PmS p m l w W) : PmS p m l w X :=
 ⟨k.cells i.box, k.cells i.mat, k.cells i.it, i.wr.kept k, i.fr.kept hB hp k⟩
theorem PmS.step {p : Nat} {m : List Int} {l l' : List Nat} {w W X : World} (i : PmS p m l w W) (h : WSt p l' X) (hf : WFr p W X) : PmS p m l' w X := by
 obtain ⟨cs, hr⟩ := i.wr.row
 exact ⟨hf.rows (by decide) hr (by decide) _ _ i.box, hf.rows (by decide) hr (by decide) _ _ i.mat, hf.rows (by decide) hr (by decide) _ _ i.it, h, i.fr.trans hf⟩
theorem mC_get0 {m : List Int} {k : Nat} (hk : k < m.length) : (mC m)[k]? = some (.int .i64 (m.getD k 0)) := by
 simp [mC, hk, encI]
theorem PmS.num {p : Nat} {m : List Int} {l : List Nat} {w W : World} (i : PmS p m l w W) {k : Nat} (hk : k < m.length) : W.cell? ⟨w.heap.size + 1, k, none⟩ = some (.int .i64 (m.getD k 0)) := by
 rw [cell_of_row _ _ _ _ _ _ i.mat]
 exact mC_get0 hk
def PmI (p : Nat) (m : List Int) (l : List Nat) (w : World) (k : Nat) (W : World) : Prop := PmS p m (l ++ fNums (m.take k)) w W
def PmA (p : Nat) (m : List Int) (w : World) (k : Nat) (a : Act) : Prop :=
 a = { tmps := #[.pointer (some ⟨p, 0, none⟩), .agg (mC m), .pointer (some ⟨w.heap.size, 0, none⟩), .pointer (some ⟨w.heap.size + 1, 0, none⟩), .pointer (some ⟨w.heap.size + 1, k, none⟩), .func (.func 131) #[] #[.pointer (some ⟨w.heap.size + 1 + 1, 0, none⟩)], .pointer (some ⟨w.heap.size + 1, k, none⟩), undef, undef, undef, undef, undef], defers := [] }
theorem fNums_len (m : List Int) : (fNums m).length ≤ 11 * m.length := by
 unfold fNums
 induction m with
 | nil => simp
 | cons a t ih =>
  rw [List.flatMap_cons, List.length_append, List.length_cons]
  have : (fI a).length ≤ 11 := (Pk.form_len _).2
  omega
theorem fNums_snoc {m : List Int} {k : Nat} (hk : k < m.length) : fNums (m.take (k + 1)) = fNums (m.take k) ++ fI (m.getD k 0) := by
 unfold fNums
 rw [List.take_add_one, List.flatMap_append, List.getElem?_eq_getElem hk]
 simp [hk]
set_option maxRecDepth 100000 in
set_option maxHeartbeats 4000000 in
theorem pputm_any (p : Nat) (m : List Int) (l : List Nat) (w : World) (hm : dNums 16 m) (hl : l.length ≤ 90000000) (h : WSt p l w) : Calls Tryz.prog 62 #[.pointer (some ⟨p, 0, none⟩), .agg (mC m)] w (WPost p (l ++ fNums m) w) := by
 have hlt := h.lt
 obtain ⟨W1, hW1⟩ : ∃ V, (w.alloc (.cells #[.pointer (some ⟨p, 0, none⟩)] 75)).alloc (.cells (mC m) 25) = V := ⟨_, rfl⟩
 obtain ⟨W0, hW0⟩ : ∃ V, W1.alloc (.cells #[.pointer (some ⟨w.heap.size + 1, 0, none⟩)] 158) = V := ⟨_, rfl⟩
 have z1 : W1.heap.size = w.heap.size + 1 + 1 := by rw [← hW1]; simp
 have b1 : Below w.heap.size w W1 := by rw [← hW1]; exact ((Below.refl _ w).alloc (Nat.le_refl _) _).alloc (by simp) _
 have b0 : Below W1.heap.size W1 W0 := by rw [← hW0]; exact (Below.refl _ W1).alloc (Nat.le_refl _) _
 have F0 : PmS p m l w W0 := by
  have hb := bnext b1 b0
  refine ⟨keep_row b0 ?_, keep_row b0 ?_, ?_, h.below hb, WFr.of_below hb (by omega)⟩
  ·rw [← hW1]; exact step_row (heap_alloc_new _ _)
  ·rw [← hW1]
   have := heap_alloc_new (w.alloc (.cells #[.pointer (some ⟨p, 0, none⟩)] 75)) (.cells (mC m) 25)
   rw [World.size_alloc] at this
   exact this
  ·rw [← hW0, ← z1]
   exact heap_alloc_new W1 _
 have HF0 : Hid (PmI p m l w 0 W0) := Lib.hid (by unfold PmI; rw [List.take_zero]; simpa [fNums] using F0)
 have HS0 : Hid (W0.heap.size = w.heap.size + 1 + 1 + 1) := Lib.hid (by rw [← hW0, World.size_alloc, z1])
 have HZ1 := Lib.hid z1
 have HW1 := Lib.hid hW1
 have HW0 := Lib.hid hW0
 have HM := Lib.hid hm
 have HLL := Lib.hid hl
 have HP := Lib.hid hlt
 clear F0 b0 b1 z1 hW0 hW1 hm hl hlt h
 refine (callsIn_wide (n := 5)).1 ?_
 refine callsIn_of_wp_marks Tryz.func62 rfl trivial ?_ rfl
 simp only [Tryz.ntmps62, List.size_toArray, List.length_cons, List.length_nil, Nat.reduceAdd, Nat.reduceSub, Array.replicate_succ, Array.replicate_zero, List.push_toArray, List.append_toArray, List.nil_append, List.cons_append]
 refine wpIn_wide.2 ?_
 go_wp2_with (rw [HW1.out])
 refine (nums_w _ _).mono ?_
 rintro e w' ⟨rfl, rfl⟩
 rw [HZ1.out, HW0.out]
 go_wp2_with fail
 refine wpIn_wide.1 (wpIn_range_jump (F := Fence.wide) (n := 5) rfl (by omega) (gf := 131) (lb := #[.pointer (some ⟨w.heap.size + 1 + 1, 0, none⟩)]) rfl trivial (enters_of Tryz.func131 (by kernel_rfl) rfl)
  (nums_hands (w.heap.size + 1 + 1) (w.heap.size + 1)) (fun _ => rfl) .ret (PmI p m l w) (fun _ => False) (fun j a' W => PmA p m w j a' ∧ PmI p m l w j W)
  ?i1 ?i2 ?i3 ?i4 ?i5 HF0.out ?assign ?body ?done ?stop)
 case i1 => rintro j W X h1 hk; exact PmS.kept (by have := HS0.out; omega) (by have := HP.out; omega) hk h1
 case i2 => rintro W X h; exact h.elim
 case i3 => rintro j a W X ⟨h0, h1⟩ hk; exact ⟨h0, PmS.kept (by have := HS0.out; omega) (by have := HP.out; omega) hk h1⟩
 case i4 => rintro j W h1; unfold NuM; rw [cell_of_row _ _ _ _ _ _ (PmS.it h1)]; rfl
 case i5 => rintro W h; exact h.elim
 case assign =>
  intro l1 j W C hk hI hC
  simp only [nElem]
  gi_wp2
  exact hC _ _ (KeepsFrom.refl _ _) ⟨rfl, hI⟩
 case body =>
  rintro l1 j a' W hk ⟨ha, fs⟩
  unfold PmA at ha
  subst ha
  unfold PmI at fs
  have hkm : j < m.length := by rw [HM.out.1]; exact hk
  have c0 : W.cell? ⟨w.heap.size, 0, none⟩ = some (.pointer (some ⟨p, 0, none⟩)) := by rw [cell_of_row _ _ _ _ _ _ fs.box]; rfl
  have c1 := fs.num hkm
  have HSN := Lib.hid (fNums_snoc hkm)
  have hzn : Num (m.getD j 0) := HM.out.2 _ (by rw [List.getD_eq_getElem?_getD, List.getElem?_eq_getElem hkm]; exact List.getElem_mem hkm)
  have hll : (l ++ fNums (m.take j)).length ≤ 100000000 := by
   have := fNums_len (m.take j)
   have h2 := HLL.out
   have h3 : (m.take j).length ≤ 16 := by rw [List.length_take, HM.out.1]; omega
   rw [List.length_append]
   omega
  generalize m.getD j 0 = z at c1 hzn HSN
  have HI : Hid (∀ X, WSt p (l ++ fNums (m.take j)) X → Calls Tryz.prog 103 #[.pointer (some ⟨p, 0, none⟩), .int .i64 z] X (WPost p (l ++ fNums (m.take j) ++ fI z) X)) := Lib.hid (fun X hX => wint_any p z _ X hzn hll hX)
  have HS := Lib.hid fs
  clear fs hzn hll hk hkm
  gi_wp2
  refine heldz_region (S := fun X => X.cell? ⟨w.heap.size, 0, none⟩ = some (.pointer (some ⟨p, 0, none⟩)) ∧ X.cell? ⟨w.heap.size + 1, j, none⟩ = some (.int .i64 z)) (Z := [4]) (by kernel_rfl) ?_
  refine heldz_take (fun _ => trivial) [4] 0 (.pointer (some ⟨p, 0, none⟩)) (by kernel_rfl) rfl (by kernel_rfl) (fun _ _ _ h => h) ⟨c0, c1⟩ (by kernel_rfl) ?_ ?_
  ·intro wz hSw; obtain ⟨q1, q2⟩ := hSw; (first | (go_simp; done) | (go_simp; with_reducible rfl))
  (try simp only [Act.put, List.getElem_toArray, List.getElem_cons_zero, List.getElem_cons_succ, List.setIfInBounds_toArray, List.set_cons_zero, List.set_cons_succ])
  refine heldz_take (fun _ => trivial) [2, 3, 4] 1 (?_) (by kernel_rfl) rfl (by kernel_rfl) (fun _ _ _ h => h) ⟨c0, c1⟩ (by kernel_rfl) ?_ ?_
  rotate_left
  ·intro wz hSw; (first | (go_simp; done) | (go_simp; with_reducible rfl))
  (try simp only [Act.put, List.getElem_toArray, List.getElem_cons_zero, List.getElem_cons_succ, List.setIfInBounds_toArray, List.set_cons_zero, List.set_cons_succ])
  refine heldz_take (fun _ => trivial) [3, 4] 2 (?_) (by kernel_rfl) rfl (by kernel_rfl) (fun _ _ _ h => h) ⟨c0, c1⟩ (by kernel_rfl) ?_ ?_
  rotate_left
  ·intro wz hSw; (first | (go_simp; done) | (go_simp; with_reducible rfl))
  (try simp only [Act.put, List.getElem_toArray, List.getElem_cons_zero, List.getElem_cons_succ, List.setIfInBounds_toArray, List.set_cons_zero, List.set_cons_succ])
  refine heldz_take (fun _ => trivial) [4] 3 (.int .i64 z) (by kernel_rfl) rfl (by kernel_rfl) (fun _ _ _ h => h) ⟨c0, c1⟩ (by kernel_rfl) ?_ ?_
  ·intro wz hSw; obtain ⟨q1, q2⟩ := hSw; (first | (go_simp; done) | (go_simp; with_reducible rfl))
  (try simp only [Act.put, List.getElem_toArray, List.getElem_cons_zero, List.getElem_cons_succ, List.setIfInBounds_toArray, List.set_cons_zero, List.set_cons_succ])
  refine heldz_step (fun _ => trivial) 4 (by kernel_rfl) rfl (fun K hK => ?_)
  rw [if_pos (by kernel_rfl)]
  have hD : Below W.heap.size W W.drew := bdrew0 _ W 1
  refine wpIn_call_round 103 #[.pointer (some ⟨p, 0, none⟩), .int .i64 z] (by first | (go_simp; done) | (go_simp; with_reducible rfl)) _ _ _ rfl (HI.out _ (HS.out.wr.below hD)) (fun e w2 hp => ?_)
  obtain ⟨rfl, hw2, hf2⟩ := hp
  have hf3 := (WFr.of_below hD (by have := HS.out.wr.lt; omega)).trans hf2
  have HS2 := Lib.hid (HS.out.step hw2 hf3)
  have HKF : Hid (KeepsFrom W0.heap.size W w2) := Lib.hid (by obtain ⟨cs, hr⟩ := HS.out.wr.row; exact (hf3.keeps hr).from _)
  refine ⟨_, rfl, hK.out _ _ (fun h => by cases h) ?_⟩
  clear hK K hD hw2 hf2 hf3
  (try simp only [Act.put, List.getElem_toArray, List.getElem_cons_zero, List.getElem_cons_succ, List.setIfInBounds_toArray, List.set_cons_zero, List.set_cons_succ])
  refine heldz_done (by kernel_rfl) ?_ _
  clear c0 c1
  gi_wp2
  exact ⟨HKF.out, by unfold PmI; rw [HSN.out, ← List.append_assoc]; exact HS2.out⟩
 case done =>
  rintro D W hD fs hdef
  unfold PmI at fs
  rw [List.take_of_length_le (by rw [HM.out.1]; omega)] at fs
  have hk : Kept w.heap.size W (W.putObj D (.deferred none)) := Kept.putObj _ (by have := HS0.out; omega) hdef rfl
  have HE : Hid (WPost p (l ++ fNums m) w (.returned undef) (W.putObj D (.deferred none))) := Lib.hid ⟨rfl, fs.wr.kept hk, fs.fr.kept (Nat.le_refl _) (by have := HP.out; omega) hk⟩
  have HDF := Lib.hid hdef
  clear fs hD hdef hk
  go_wp2_with fail
  refine ⟨by simp, .inl ⟨_, _, rfl, run_takeDeferred HDF.out, ?_⟩⟩
  exact ⟨_, results_none rfl _ _ _, HE.out⟩
 case stop =>
  rintro D W hD h hdef
  exact h.elim
end Go.Proofs.YtbbhmhihpdmoiaaGreat.Fx
