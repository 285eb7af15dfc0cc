import Derived.Laws.Rows
import Derived.Test.YtbbhmhihpdmoiaaGreatProg
import Derived.Defers
import Derived.Recover
import Derived.Laws.Externs
import Derived.Shelf.Spec.BitsCarry
import Derived.WalkKit
import Derived.Handy
import Derived.Lib.Hide
import Derived.Deep.QuietTactic
import Derived.Outline
import Derived.Shelf.Small.Bits
import Derived.Shelf.Strconv.Itoa0
import Derived.Shelf.Bits.Mul64
import Derived.Test.YtbbhmhihpdmoiaaGreatMw04
import Derived.Test.YtbbhmhihpdmoiaaGreatMw08
set_option linter.unusedVariables false
set_option linter.unusedSimpArgs false
namespace Go.Proofs.YtbbhmhihpdmoiaaGreat.Pk
open Go.Proofs.YtbbhmhihpdmoiaaGreat.Fx (below_mono give_done give_pure give_region)
open Go Go.RowKit
theorem PW.grown {B p : Nat} {v : Value} {l : List Nat} {lost : Bool} {W X : World} {row : Option Nat} (h : PW B p v l lost W) (hg : W.grownBy X row) (hp : some p ≠ row) (hr : ∀ k, v.ownBlock = some k → some k ≠ row) : PW B p v l lost X :=
 ⟨by rw [hg.block p h.lt hp]; exact h.row, h.own.grown hg hr⟩
theorem PR.turn {o : Option Addr} {c : Nat} {l : List Nat} {pr at0 p : Nat} {lost : Bool} {v v' : Value} {W X : World} (h : PR o c l pr at0 lost W) (t : Turn p v v' W X) (hp : pr ≠ p) (hv : v.ownBlock ≠ some pr) (hb : ∀ b off, o = some ⟨b, off, none⟩ → 0 < l.length → b ≠ p ∧ v.ownBlock ≠ some b) : PR o c l pr at0 lost X :=
 ⟨by rw [t.block pr h.lt hp hv]; exact h.row, h.bs.turn t hb, h.ok⟩
def AW (o2 : Option Addr) (n p : Nat) (l : List Nat) (B : Nat) (W : World) : Prop := ∃ v, PW B p v l false W ∧ ∀ b off, o2 = some ⟨b, off, none⟩ → 0 < n → v.ownBlock ≠ some b
theorem AW.below {o2 : Option Addr} {n p B : Nat} {l : List Nat} {W X : World} (h : AW o2 n p l B W) (hb : Below W.heap.size W X) : AW o2 n p l B X := by
 obtain ⟨v, h1, h2⟩ := h
 exact ⟨v, h1.below hb, h2⟩
theorem AW.read {o2 : Option Addr} {c2 n p B pr at0 : Nat} {l a0 : List Nat} {lost : Bool} {W X : World} (h : AW o2 n p l B W) (hr : PR o2 c2 a0 pr at0 lost W) (hg : W.grownBy X (some pr)) (hne : pr ≠ p) : AW o2 n p l B X := by
 obtain ⟨v, h1, h2⟩ := h
 exact ⟨v, h1.grown hg (fun e => hne (Option.some.inj e).symm) (fun k hk e => h1.own.apart hr.row (by decide) k hk (Option.some.inj e)), h2⟩
end Go.Proofs.YtbbhmhihpdmoiaaGreat.Pk

set_option linter.unusedVariables false
set_option linter.unusedSimpArgs false
namespace Go.Proofs.YtbbhmhihpdmoiaaGreat.Pk
open Go Go.RowKit
def ZNew (p : Nat) (w w' : World) : Prop := ∀ v x, w.heap[p]? = some (.cells #[v, x] 81 (0, 0)) → ∃ v' x', w'.heap[p]? = some (.cells #[v', x'] 81 (0, 0)) ∧ (v' = v ∨ ∀ k, v'.ownBlock = some k → w.heap.size ≤ k)
theorem ZNew.below {p : Nat} {w w1 w2 : World} (h : ZNew p w1 w2) (hb : Below w.heap.size w w1) (hp : p < w.heap.size) : ZNew p w w2 := fun v x hx => by
 obtain ⟨v', x', h1, h2⟩ := h v x (keep_row hb hx)
 exact ⟨v', x', h1, h2.imp id (fun g k hk => Nat.le_trans hb.size (g k hk))⟩
def ZCallN (B p : Nat) (l : List Nat) (lost : Bool) (w : World) (e : Ending) (w' : World) : Prop := e = .returned undef ∧ ZW B p l lost w' ∧ w.grownBy w' (some p) ∧ ZNew p w w'
end Go.Proofs.YtbbhmhihpdmoiaaGreat.Pk

set_option linter.unusedVariables false
set_option linter.unusedSimpArgs false
namespace Go.Proofs.YtbbhmhihpdmoiaaGreat.Pk
open Go Go.RowKit
theorem Own.lt {W : World} {B : Nat} {v : Value} {l : List Nat} (s : Own W B v l) : ∀ k, v.ownBlock = some k → k < W.heap.size := by
 intro k hk
 obtain ⟨_, h2⟩ := s
 rcases h2 with ⟨rfl, _⟩ | ⟨g, cap, cur, rfl, hb, hg, _⟩
 ·cases hk
 ·cases hk
  exact (Array.getElem?_eq_some_iff.1 hg).1
theorem Own.turn {W X : World} {B p : Nat} {u v v' : Value} {l : List Nat} (s : Own W B u l) (t : Turn p v v' W X) (hp : ∀ k, u.ownBlock = some k → k ≠ p ∧ v.ownBlock ≠ some k) : Own X B u l := by
 obtain ⟨h1, h2⟩ := s
 refine ⟨h1, ?_⟩
 rcases h2 with h2 | ⟨g, cap, cur, rfl, hb, hg, h3⟩
 ·exact .inl h2
 ·obtain ⟨a, b⟩ := hp g rfl
  exact .inr ⟨g, cap, cur, rfl, hb, by rw [t.block g (Array.getElem?_eq_some_iff.1 hg).1 a b]; exact hg, h3⟩
structure TW (B p z : Nat) (v vz vo : Value) (l l2 m : List Nat) (lost lost2 : Bool) (W : World) : Prop where
 pw : PW B p v l lost W
 zrow : W.heap[z]? = some (.cells #[vz, .bool lost2] 81 (0, 0))
 zown : Own W B vz l2
 own : Own W B vo m
 d1 : ∀ k, v.ownBlock = some k → vz.ownBlock ≠ some k
 d2 : ∀ k, vo.ownBlock = some k → v.ownBlock ≠ some k ∧ vz.ownBlock ≠ some k
 ne : p ≠ z
def WI (B p z : Nat) (vo : Value) (l m : List Nat) (lost : Bool) (W : World) : Prop := ∃ v vz, TW B p z v vz vo l l m lost lost W
def WM (B p z : Nat) (vo : Value) (l l2 m : List Nat) (lost lost2 : Bool) (W : World) : Prop := ∃ v vz, TW B p z v vz vo l l2 m lost lost2 W
theorem TW.below {B p z : Nat} {v vz vo : Value} {l l2 m : List Nat} {lost lost2 : Bool} {W X : World} (s : TW B p z v vz vo l l2 m lost lost2 W) (h : Below W.heap.size W X) : TW B p z v vz vo l l2 m lost lost2 X :=
 ⟨s.pw.below h, keep_row h s.zrow, s.zown.below h, s.own.below h, s.d1, s.d2, s.ne⟩
theorem WI.below {B p z : Nat} {vo : Value} {l m : List Nat} {lost : Bool} {W X : World} (s : WI B p z vo l m lost W) (h : Below W.heap.size W X) : WI B p z vo l m lost X := by
 obtain ⟨v, vz, s⟩ := s
 exact ⟨v, vz, s.below h⟩
theorem TW.one {B p z : Nat} {v vz vo : Value} {l l2 l3 m : List Nat} {lost lost2 lost3 : Bool} {W X : World} {e : Ending} (s : TW B p z v vz vo l l2 m lost lost2 W) (h : PCall B p v l3 lost3 W e X) : WM B p z vo l3 l2 m lost3 lost2 X := by
 obtain ⟨_, v', hp, t⟩ := h
 have a1 := s.zown.apart s.pw.row (by decide)
 have hown := s.own
 have a2 := hown.apart s.pw.row (by decide)
 have a3 := s.pw.own.apart s.zrow (by decide)
 refine ⟨v', vz, hp, ?_, s.zown.turn t (fun k hk => ⟨a1 k hk, fun h => s.d1 k h hk⟩), hown.turn t (fun k hk => ⟨a2 k hk, (s.d2 k hk).1⟩), fun k hk => ?_, fun k hk => ⟨fun h => ?_, (s.d2 k hk).2⟩, s.ne⟩
 ·rw [t.block z (Array.getElem?_eq_some_iff.1 s.zrow).1 (Ne.symm s.ne) (fun h => a3 z h rfl)]
  exact s.zrow
 ·rcases t.own k hk with h | h
  ·exact s.d1 k h
  ·intro h2
   have := s.zown.lt k h2
   omega
 ·rcases t.own k h with h | h
  ·exact (s.d2 k hk).1 h
  ·have := hown.lt k hk
   omega
theorem TW.two {B p z : Nat} {v vz vo : Value} {l l2 l3 m : List Nat} {lost lost2 lost3 : Bool} {W X : World} {e : Ending} (s : TW B p z v vz vo l l2 m lost lost2 W) (h : ZCallN B z l3 lost3 W e X) : WM B p z vo l l3 m lost lost3 X := by
 obtain ⟨_, ⟨v1, hr, ho⟩, hg, hn⟩ := h
 obtain ⟨v2, x2, hr2, hv⟩ := hn _ _ s.zrow
 rw [hr] at hr2
 obtain rfl : v1 = v2 := by
  simp at hr2
  exact hr2.1
 have a1 := s.pw.own.apart s.zrow (by decide)
 have hown := s.own
 have a2 := hown.apart s.zrow (by decide)
 refine ⟨v, v1, s.pw.grown hg (fun e => s.ne (Option.some.inj e)) (fun k hk e => a1 k hk (Option.some.inj e)), hr, ho, hown.grown hg (fun k hk e => a2 k hk (Option.some.inj e)), fun k hk => ?_, fun k hk => ⟨(s.d2 k hk).1, ?_⟩, s.ne⟩
 ·rcases hv with rfl | hv
  ·exact s.d1 k hk
  ·intro h
   have h1 := hv k h
   have h2 := s.pw.own.lt k hk
   omega
 ·rcases hv with rfl | hv
  ·exact (s.d2 k hk).2
  ·intro h
   have h1 := hv k h
   have h2 := hown.lt k hk
   omega
theorem WI.both {B p z : Nat} {vo : Value} {l l3 m : List Nat} {lost lost3 : Bool} {w W : World} {f g : FuncId} {xs ys : Array Value} (s : WI B p z vo l m lost W) (hb : Below w.heap.size w W) (hB : B = w.heap.size) (hp : w.heap.size ≤ p) (hz : w.heap.size ≤ z)
  (h1 : ∀ v, PW B p v l lost W → (∀ k, vo.ownBlock = some k → k ≠ p ∧ v.ownBlock ≠ some k) → Own W B vo m → Calls Tryz.prog f xs W (PCall B p v l3 lost3 W))
  (h2 : ∀ X, Below w.heap.size w X → ZW B z l lost X → Calls Tryz.prog g ys X (ZCallN B z l3 lost3 X)) :
  Calls Tryz.prog f xs W fun e X => e = .returned undef ∧ Below w.heap.size w X ∧ (∀ q cs t fr, W.heap[q]? = some (.cells cs t fr) → t ≠ 5 → q ≠ p → X.heap[q]? = some (.cells cs t fr)) ∧
   Calls Tryz.prog g ys X fun e Y => e = .returned undef ∧ WI B p z vo l3 m lost3 Y ∧ Below w.heap.size w Y ∧ (∀ q cs t fr, W.heap[q]? = some (.cells cs t fr) → t ≠ 5 → q ≠ p → q ≠ z → Y.heap[q]? = some (.cells cs t fr)) := by
 obtain ⟨v, vz, s⟩ := s
 have hown := s.own
 have a2 := hown.apart s.pw.row (by decide)
 refine (h1 v s.pw (fun k hk => ⟨a2 k hk, (s.d2 k hk).1⟩) s.own).mono ?_
 intro e X hX
 have s2 := s.one hX
 obtain ⟨he, v', hp', t⟩ := hX
 have hbX : Below w.heap.size w X := t.below hb hp (hB ▸ s.pw)
 obtain ⟨v2, vz2, s2⟩ := s2
 have kx : ∀ q cs t fr, W.heap[q]? = some (.cells cs t fr) → t ≠ 5 → q ≠ p → X.heap[q]? = some (.cells cs t fr) := fun q cs ty fr hq ht hqp => by
  rw [t.block q (Array.getElem?_eq_some_iff.1 hq).1 hqp (fun h => s.pw.own.apart hq ht q h rfl)]
  exact hq
 refine ⟨he, hbX, kx, (h2 X hbX ⟨vz2, s2.zrow, s2.zown⟩).mono ?_⟩
 intro e Y hY
 have s3 := s2.two hY
 obtain ⟨he, _, hg, _⟩ := hY
 refine ⟨he, s3, hbX.grown hg hbX.size (fun k hk => by cases hk; exact hz), fun q cs ty fr hq ht hqp hqz => ?_⟩
 have hx := kx q cs ty fr hq ht hqp
 rw [hg.block q (Array.getElem?_eq_some_iff.1 hx).1 (fun e => hqz (Option.some.inj e))]
 exact hx
def Row8 (W : World) (o : Option Addr) (n : Nat) : Prop := ∀ i, i < n → ∃ g, o = some ⟨g, 0, none⟩ ∧ (∃ y : Int, W.cell? ⟨g, i, none⟩ = some (.int .u8 y)) ∧ W.frozen? ⟨g, i, none⟩ = false
theorem Row8.set {W : World} {g n j : Nat} (y : Int) (h : Row8 W (some ⟨g, 0, none⟩) n) : Row8 (W.setCell ⟨g, j, none⟩ (.int .u8 y)) (some ⟨g, 0, none⟩) n := by
 intro i hi
 obtain ⟨g2, e, ⟨x, hx⟩, hf⟩ := h i hi
 cases e
 refine ⟨g, rfl, ?_, by rw [World.frozen?_setCell]; exact hf⟩
 by_cases hij : i = j
 ·subst hij
  exact ⟨y, World.cell?_setCell_same' _ _ _ (by rw [hx]; rfl)⟩
 ·refine ⟨x, ?_⟩
  rw [World.cell?_setCell_other]
  ·exact hx
  ·intro e
   cases e
   exact hij rfl
theorem TW.take {B p z : Nat} {v vz vo : Value} {l m : List Nat} {lost : Bool} {W X : World} (s : TW B p z v vz (.slice none 0 0) l l [] lost lost W) (hB : B ≤ W.heap.size) (hb : Below W.heap.size W X) (ho : Own X W.heap.size vo m) : TW B p z v vz vo l l m lost lost X :=
 ⟨s.pw.below hb, keep_row hb s.zrow, s.zown.below hb, ho.mono hB, s.d1, fun k hk => ⟨fun h => by have h1 := s.pw.own.lt k h; have h2 := ho.blk k hk; omega, fun h => by have h1 := s.zown.lt k h; have h2 := ho.blk k hk; omega⟩, s.ne⟩
theorem Row8.grown {W X : World} {o : Option Addr} {n : Nat} {row : Option Nat} (h : Row8 W o n) (hg : W.grownBy X row) (hr : ∀ g, o = some ⟨g, 0, none⟩ → 0 < n → some g ≠ row) : Row8 X o n := by
 intro i hi
 obtain ⟨g, e, ⟨y, hy⟩, hf⟩ := h i hi
 have hne := hr g e (by omega)
 refine ⟨g, e, ⟨y, hg.cell hy hne⟩, ?_⟩
 have hlt := block_lt_of_cell hy
 have hb := hg.block g hlt hne
 simp only [World.frozen?, hb] at hf ⊢
 exact hf
theorem Row8.below {W X : World} {o : Option Addr} {n : Nat} (h : Row8 W o n) (hb : Below W.heap.size W X) : Row8 X o n := h.grown (below_grown hb none) (fun g _ _ h => by cases h)
theorem grown_trans {w w1 w2 : World} {g : Option Nat} (h : w.grownBy w1 g) (k : w1.grownBy w2 g) : w.grownBy w2 g := h.trans k
end Go.Proofs.YtbbhmhihpdmoiaaGreat.Pk

set_option linter.unusedVariables false
set_option linter.unusedSimpArgs false
namespace Go.Proofs.YtbbhmhihpdmoiaaGreat.Pk
open Go Go.RowKit
theorem OwnI.open {W : World} {B : Nat} {v : Value} {l : List Int} (s : OwnI W B v l) : ∃ o cap, v = .slice o l.length cap := by
 obtain ⟨h1, h2⟩ := s
 rcases h2 with ⟨rfl, h0⟩ | ⟨g, cap, cur, rfl, hb, hg, hc, hm, hs, ht⟩
 ·exact ⟨none, 0, by rw [h0]⟩
 ·exact ⟨_, cap, rfl⟩
structure MS (o : Option Addr) (c : Nat) (l : List Nat) (p a : Nat) (lost : Bool) (v : Value) (zs : List Int) (w W : World) : Prop where
 box : W.heap[w.heap.size]? = some (.cells #[.pointer (some ⟨p, 0, none⟩)] 90 (0, 0))
 res : W.heap[w.heap.size + 1]? = some (.cells #[v] 196 (0, 0))
 rd : PR o c l p a lost W
 own : OwnI W (w.heap.size + 2) v zs
 grow : w.grownBy W (some p)
theorem MS.facts {o : Option Addr} {c : Nat} {l : List Nat} {p a : Nat} {lost : Bool} {v : Value} {zs : List Int} {w W : World} (s : MS o c l p a lost v zs w W) :
  W.cell? ⟨w.heap.size, 0, none⟩ = some (.pointer (some ⟨p, 0, none⟩)) ∧ W.cell? ⟨w.heap.size + 1, 0, none⟩ = some v ∧ W.frozen? ⟨w.heap.size + 1, 0, none⟩ = false :=
 ⟨(cell_of_row _ _ 0 _ _ _ s.box).trans rfl, (cell_of_row _ _ 0 _ _ _ s.res).trans rfl, frozen_row s.res⟩
theorem MS.read {o : Option Addr} {c : Nat} {l : List Nat} {p a a2 : Nat} {lost lost2 : Bool} {v : Value} {zs : List Int} {w W X : World} (s : MS o c l p a lost v zs w W) (hp : p < w.heap.size) (hr : PR o c l p a2 lost2 X) (hg : W.grownBy X (some p)) : MS o c l p a2 lost2 v zs w X := by
 refine ⟨?_, ?_, hr, s.own.grown hg (fun k hk e => s.own.apart s.rd.row (by decide) k hk (Option.some.inj e)), s.grow.trans hg⟩
 ·rw [hg.block _ (Array.getElem?_eq_some_iff.1 s.box).1 (fun e => by have := Option.some.inj e; omega)]
  exact s.box
 ·rw [hg.block _ (Array.getElem?_eq_some_iff.1 s.res).1 (fun e => by have := Option.some.inj e; omega)]
  exact s.res
theorem MS.alloc {o : Option Addr} {c : Nat} {l : List Nat} {p a : Nat} {lost : Bool} {v : Value} {zs : List Int} {w W : World} (s : MS o c l p a lost v zs w W) (ob : Obj) : MS o c l p a lost v zs w (W.alloc ob) :=
 ⟨step_row s.box, step_row s.res, s.rd.below ((Below.refl _ _).alloc (Nat.le_refl _) _), s.own.alloc _, s.grow.trans (below_grown ((Below.refl _ _).alloc (Nat.le_refl _) _) (some p))⟩
theorem MS.app {o : Option Addr} {c : Nat} {l : List Nat} {p a : Nat} {lost : Bool} {v v' : Value} {zs zs' : List Int} {w W X : World} (s : MS o c l p a lost v zs w W) (hp : p < w.heap.size) (hob : ∀ b off, o = some ⟨b, off, none⟩ → 0 < l.length → b < w.heap.size) (ho : OwnI X (w.heap.size + 2) v' zs') (hg : W.grownBy X v.ownBlock) :
  X.heap[w.heap.size + 1]? = some (.cells #[v] 196 (0, 0)) ∧ MS o c l p a lost v' zs' w (X.setCell ⟨w.heap.size + 1, 0, none⟩ v') := by
 have hv := s.own.blk
 have hres : X.heap[w.heap.size + 1]? = some (.cells #[v] 196 (0, 0)) := by
  rw [hg.block _ (Array.getElem?_eq_some_iff.1 s.res).1 (fun e => by have := hv _ e.symm; omega)]
  exact s.res
 have hbox : X.heap[w.heap.size]? = some (.cells #[.pointer (some ⟨p, 0, none⟩)] 90 (0, 0)) := by
  rw [hg.block _ (Array.getElem?_eq_some_iff.1 s.box).1 (fun e => by have := hv _ e.symm; omega)]
  exact s.box
 have hrd : PR o c l p a lost X := s.rd.grown hg (fun e => by have := hv _ e.symm; omega) (fun b off e hm h => by have := hv b h.symm; have := hob b off e hm; omega)
 have hgx : w.grownBy X (some p) := ⟨hg.os.trans s.grow.os, hg.tape.trans s.grow.tape, hg.output.trans s.grow.output, Nat.le_trans s.grow.size hg.size, fun q hq hqp => by
  rw [hg.block q (Nat.lt_of_lt_of_le hq s.grow.size) (fun e => by have := hv q e.symm; omega)]
  exact s.grow.block q hq hqp⟩
 have hc := grown_cell X (w.heap.size + 1) 0 v'
 refine ⟨hres, by rw [heap_setCell_other _ _ _ _ (by show _ ≠ w.heap.size + 1; omega)]; exact hbox, heap_setCell_same _ _ 0 _ _ v' hres, hrd.grown hc (fun e => by have := Option.some.inj e; omega) (fun b off e hm h => by have := Option.some.inj h; have := hob b off e hm; omega),
  ho.grown hc (fun k hk e => by have := ho.blk k hk; have := Option.some.inj e; omega), ?_⟩
 exact ⟨hc.os.trans hgx.os, hc.tape.trans hgx.tape, hc.output.trans hgx.output, Nat.le_trans hgx.size hc.size, fun q hq hqp => by
  rw [hc.block q (Nat.lt_of_lt_of_le hq hgx.size) (fun e => by have := Option.some.inj e; omega)]
  exact hgx.block q hq hqp⟩
theorem MS.strike {o : Option Addr} {c : Nat} {l : List Nat} {p a : Nat} {lost : Bool} {v : Value} {zs : List Int} {w W : World} (s : MS o c l p a lost v zs w W) (hp : p < w.heap.size) (hob : ∀ b off, o = some ⟨b, off, none⟩ → 0 < l.length → b < w.heap.size) : MS o c l p a lost (.slice none 0 0) [] w (W.setCell ⟨w.heap.size + 1, 0, none⟩ (.slice none 0 0)) :=
 (s.app (v' := .slice none 0 0) (zs' := []) hp hob (World.ownsRow_nil _ _ _ _) (World.grownBy.refl _ _)).2
theorem OwnI.mono {W : World} {B C : Nat} {v : Value} {l : List Int} (hB : B ≤ C) (s : OwnI W C v l) : OwnI W B v l := by
 obtain ⟨h1, h2⟩ := s
 refine ⟨h1, ?_⟩
 rcases h2 with h2 | ⟨g, cap, cur, e, hb, h3⟩
 ·exact Or.inl h2
 ·exact Or.inr ⟨g, cap, cur, e, Nat.le_trans hB hb, h3⟩
end Go.Proofs.YtbbhmhihpdmoiaaGreat.Pk

set_option linter.unusedVariables false
set_option linter.unusedSimpArgs false
namespace Go.Proofs.YtbbhmhihpdmoiaaGreat.Wm
def At (z h : Int) (l : Nat) : Prop := z = h * 18446744073709551616 + (l : Int) ∧ l < 18446744073709551616 ∧ -9223372036854775808 ≤ h ∧ h < 9223372036854775808
def Na (n h l : Nat) : Prop := n = h * 18446744073709551616 + l ∧ l < 18446744073709551616 ∧ h < 18446744073709551616
def w128 (z : Int) : Int := (z + 170141183460469231731687303715884105728) % 340282366920938463463374607431768211456 - 170141183460469231731687303715884105728
def In (z : Int) : Prop := -170141183460469231731687303715884105728 ≤ z ∧ z < 170141183460469231731687303715884105728
instance (z : Int) : Decidable (In z) := by unfold In; infer_instance
theorem w128_in {z : Int} (h : In z) : w128 z = z := by unfold w128 In at *; omega
theorem At.inn {z h : Int} {l : Nat} (a : At z h l) : In z := by unfold At In at *; omega
theorem At.neg {z h : Int} {l : Nat} (a : At z h l) : h < 0 ↔ z < 0 := by unfold At at *; omega
def uw (h : Int) : Nat := (h % 18446744073709551616).toNat
theorem uw_eq (h : Int) : (uw h : Int) = h % 18446744073709551616 := by unfold uw; omega
theorem uw_lt (h : Int) : uw h < 18446744073709551616 := by unfold uw; omega
theorem less_at {x y xh yh : Int} {xl yl : Nat} (hx : At x xh xl) (hy : At y yh yl) :
  At (w128 (x - y)) (((((uw xh + 18446744073709551616 - uw yh - (if xl < yl then 1 else 0)) % 18446744073709551616 : Nat) : Int) + 9223372036854775808) % 18446744073709551616 - 9223372036854775808) ((xl + 18446744073709551616 - yl) % 18446744073709551616) := by
 have a := uw_eq xh
 have b := uw_eq yh
 have a' := uw_lt xh
 have b' := uw_lt yh
 generalize uw xh = p at *
 generalize uw yh = q at *
 unfold At w128 at *
 split <;> omega
end Go.Proofs.YtbbhmhihpdmoiaaGreat.Wm
namespace Go.Proofs.YtbbhmhihpdmoiaaGreat.Fx
open Go Go.RowKit Wm
theorem ret_int {k : IntKind} {a b : Int} (h : a = b) : Ending.returned (.int k a) = .returned (.int k b) := by rw [h]
theorem bcell {W w1 : World} (hb : Below W.heap.size W w1) : (∀ b o, b < W.heap.size → w1.cell? ⟨b, o, none⟩ = W.cell? ⟨b, o, none⟩) ∧ (∀ b o, b < W.heap.size → w1.frozen? ⟨b, o, none⟩ = W.frozen? ⟨b, o, none⟩) :=
 ⟨fun b o h => hb.cell (p := ⟨b, o, none⟩) h, fun b o h => hb.frozen (p := ⟨b, o, none⟩) h⟩
theorem bdrew {B : Nat} {w w' : World} (n : Nat) (h : Below B (w.drewN n) w') : Below B w w' := ⟨h.os, h.tape, h.output, h.size, h.block⟩
theorem bdrew0 (B : Nat) (w : World) (n : Nat) : Below B w (w.drewN n) := bdrew n (Below.refl _ _)
theorem bnext {w W1 W2 : World} (h : Below w.heap.size w W1) (k : Below W1.heap.size W1 W2) : Below w.heap.size w W2 := h.trans (k.mono h.size)
theorem run_add64 (x y c : Nat) (hc : c ≤ 1) (w : World) :
  (callFunc 182 #[.int .u64 x, .int .u64 y, .int .u64 c]).run Tryz.prog w =
   .ok (.value (.tuple #[.int .u64 (((x + y + c) % 18446744073709551616 : Nat) : Int), .int .u64 (((x + y + c) / 18446744073709551616 : Nat) : Int)])) w := by
 rw [run_callFunc_extern Tryz.func182 (by kernel_rfl) (by kernel_rfl) (by kernel_rfl) (e := add64Entry) (by kernel_rfl), _root_.Go.run_add64 x y c (by omega) (by omega) (by omega) (by omega)]
 simp only [Result.andThen]
 congr 5 <;> omega
theorem run_sub64 (x y b : Nat) (hb : b ≤ 1) (w : World) :
  (callFunc 186 #[.int .u64 x, .int .u64 y, .int .u64 b]).run Tryz.prog w =
   .ok (.value (.tuple #[.int .u64 (((x + 18446744073709551616 - y - b) % 18446744073709551616 : Nat) : Int), .int .u64 ((if x < y + b then 1 else 0 : Nat) : Int)])) w := by
 rw [run_callFunc_extern Tryz.func186 (by kernel_rfl) (by kernel_rfl) (by kernel_rfl) (e := sub64Entry) (by kernel_rfl), Go.Proofs.run_sub64 x y b hb]
 rfl
theorem run_add64z (x y : Nat) (w : World) :
  (callFunc 182 #[.int .u64 x, .int .u64 y, .int .u64 0]).run Tryz.prog w =
   .ok (.value (.tuple #[.int .u64 (((x + y) % 18446744073709551616 : Nat) : Int), .int .u64 (((x + y) / 18446744073709551616 : Nat) : Int)])) w := run_add64 x y 0 (by omega) w
theorem run_sub64z (x y : Nat) (w : World) :
  (callFunc 186 #[.int .u64 x, .int .u64 y, .int .u64 0]).run Tryz.prog w =
   .ok (.value (.tuple #[.int .u64 (((x + 18446744073709551616 - y) % 18446744073709551616 : Nat) : Int), .int .u64 ((if x < y then 1 else 0 : Nat) : Int)])) w := run_sub64 x y 0 (by omega) w
theorem below_any (h l : Int) (w : World) :
  Calls Tryz.prog 177 #[.agg #[.int .i64 h, .int .u64 l]] w fun e w' => e = .returned (.bool (decide (h < 0))) ∧ Below w.heap.size w w' := by
 go_enter Tryz.func177, Tryz.ntmps177
 go_wp2
 go_ret
 exact ⟨rfl, by go_grown⟩
theorem keep_cell {w w' : World} {a : Addr} {v : Value} (hb : Below w.heap.size w w') (h : w.cell? a = some v) : w'.cell? a = some v := by
 rw [hb.cell]
 ·exact h
 ·exact block_lt_of_cell h
theorem keep_free {w w' : World} {b o : Nat} (hb : Below w.heap.size w w') (hs : b < w.heap.size) (h : w.frozen? ⟨b, o, none⟩ = false) : w'.frozen? ⟨b, o, none⟩ = false := by
 rw [hb.frozen (p := ⟨b, o, none⟩) hs]
 exact h
theorem below_val (h : Int) (l : Nat) (b : Bool) (w : World) (H : Hid (decide (h < 0) = b)) :
  Calls Tryz.prog 177 #[.agg #[.int .i64 h, .int .u64 l]] w fun e w' => e = .returned (.bool b) ∧ Below w.heap.size w w' := by
 rw [← H.out]
 exact below_any h l w
theorem size_neg (a : Int) (h0 : -9223372036854775808 ≤ a) (h1 : a < 0) : IntKind.u64.wrap (-IntKind.u64.wrap a) = (a.natAbs : Int) := by
 rw [IntKind.wrap_u64, IntKind.wrap_u64]
 omega
theorem size_any (a : Int) (w : World) (hn0 : -9223372036854775808 ≤ a) (hn1 : a ≤ 9223372036854775807) :
  Calls Tryz.prog 176 #[.int .i64 a] w fun e w' => e = .returned (.int .u64 (a.natAbs : Int)) ∧ w = w' := by
 by_cases h1 : a < 0
 ·go_enter Tryz.func176, Tryz.ntmps176
  go_wp2
  go_ret
  exact ⟨ret_int (size_neg a hn0 h1), rfl⟩
 ·go_enter Tryz.func176, Tryz.ntmps176
  go_wp2
  go_ret
  exact ⟨ret_int (by omega), rfl⟩
def RetW (z : Int) (w : World) (e : Ending) (w' : World) : Prop := ∃ h : Int, ∃ l : Nat, e = .returned (.agg #[.int .i64 h, .int .u64 l]) ∧ At z h l ∧ Below w.heap.size w w'
set_option maxHeartbeats 400000 in
theorem less_any (x y xh yh : Int) (xl yl : Nat) (w : World) (hx : At x xh xl) (hy : At y yh yl) :
  Calls Tryz.prog 184 #[.agg #[.int .i64 xh, .int .u64 xl], .agg #[.int .i64 yh, .int .u64 yl]] w (RetW (w128 (x - y)) w) := by
 have r1 := fun w => run_sub64z xl yl w
 have L := less_at hx hy
 have e1 : IntKind.u64.wrap xh = (uw xh : Int) := by rw [IntKind.wrap_u64, uw_eq]
 have e2 : IntKind.u64.wrap yh = (uw yh : Int) := by rw [IntKind.wrap_u64, uw_eq]
 obtain ⟨b, hb, hb1⟩ : ∃ b, (if xl < yl then 1 else 0) = b ∧ b ≤ 1 := ⟨_, rfl, by split <;> omega⟩
 rw [hb] at r1 L
 have r2 := fun w => run_sub64 (uw xh) (uw yh) b hb1 w
 generalize uw xh = p at *
 generalize uw yh = q at *
 obtain ⟨m, hm⟩ : ∃ m, (p + 18446744073709551616 - q - b) % 18446744073709551616 = m := ⟨_, rfl⟩
 obtain ⟨n, hn⟩ : ∃ n, (xl + 18446744073709551616 - yl) % 18446744073709551616 = n := ⟨_, rfl⟩
 rw [hm] at r2 L
 rw [hn] at r1 L
 generalize (if p < q + b then 1 else 0) = b2 at r2
 have L := Lib.hid L
 have e3 : IntKind.i64.wrap (m : Int) = ((m : Int) + 9223372036854775808) % 18446744073709551616 - 9223372036854775808 := IntKind.wrap_i64 _
 generalize ((m : Int) + 9223372036854775808) % 18446744073709551616 - 9223372036854775808 = H at *
 clear hm hn hb hx hy
 go_enter Tryz.func184, Tryz.ntmps184
 go_wp2
 refine bodyPost_ret (v := .agg #[.int .i64 H, .int .u64 n]) (by simp [results, Tryz.results184, go_sem]) rfl ⟨_, _, rfl, L.out, by go_grown⟩
end Go.Proofs.YtbbhmhihpdmoiaaGreat.Fx

namespace Go.Proofs
open Go.Shelf
def Tryz.lays134_ren : Go.Shelf.Ren := ⟨fun | 134 => 187 | 129 => 188 | n => n, fun | 53 => 89 | 3 => 3 | 4 => 4 | 46 => 68 | 5 => 5 | 9 => 9 | n => n, fun | n => n⟩
theorem Tryz.lays134 : Go.Proofs.Lays.n134 Tryz.prog Tryz.lays134_ren := {
 mixed := by kernel_rfl
 f129 := Tryz.func188.trans (congrArg some (by kernel_rfl))
 f134 := Tryz.func187.trans (congrArg some (by kernel_rfl))
 t3 := Tryz.underlying3
 a3 := Tryz.isAgg3
 z3 := Tryz.sizeOf3
 v3 := Tryz.zeroValue3
 t4 := Tryz.underlying4
 a4 := Tryz.isAgg4
 z4 := Tryz.sizeOf4
 v4 := Tryz.zeroValue4
 t5 := Tryz.underlying5
 a5 := Tryz.isAgg5
 z5 := Tryz.sizeOf5
 v5 := Tryz.zeroValue5
 t9 := Tryz.underlying9
 a9 := Tryz.isAgg9
 z9 := Tryz.sizeOf9
 v9 := Tryz.zeroValue9
 t46 := Tryz.underlying68
 a46 := Tryz.isAgg68
 z46 := Tryz.sizeOf68
 v46 := Tryz.zeroValue68
 t53 := Tryz.underlying89
 a53 := Tryz.isAgg89
 z53 := Tryz.sizeOf89
 v53 := Tryz.zeroValue89 }
theorem Tryz.bits_LeadingZeros64 (x : Int) (w : World) (h0 : 0 ≤ x) (h1 : x ≤ 18446744073709551615) :
  Calls Tryz.prog 187 #[.int .u64 x] w fun e w' => e = .returned (.int .i64 (64 - (Lib.bitLen x.toNat : Int))) ∧ w' = w := Any.bits_LeadingZeros64 Tryz.lays134 x w h0 h1
def Tryz.lays264_ren : Go.Shelf.Ren := ⟨fun | 264 => 183 | n => n, fun | 53 => 89 | 46 => 68 | n => n, fun | n => n⟩
theorem Tryz.lays264 : Go.Proofs.Lays.n264 Tryz.prog Tryz.lays264_ren := {
 mixed := by kernel_rfl
 f264 := Tryz.func183.trans (congrArg some (by kernel_rfl))
 t46 := Tryz.underlying68
 a46 := Tryz.isAgg68
 z46 := Tryz.sizeOf68
 v46 := Tryz.zeroValue68
 t53 := Tryz.underlying89
 a53 := Tryz.isAgg89
 z53 := Tryz.sizeOf89
 v53 := Tryz.zeroValue89 }
open Go.RowKit Go.Lib in
theorem Tryz.bits_Mul64 (x y : Nat) (hx : x < 18446744073709551616) (hy : y < 18446744073709551616) (w : World) :
  Calls Tryz.prog 183 #[.int .u64 x, .int .u64 y] w fun e w' => e = .returned (.tuple #[.int .u64 ((x * y / 18446744073709551616 : Nat) : Int), .int .u64 ((x * y % 18446744073709551616 : Nat) : Int)]) ∧ w' = w := Any.bits_Mul64 Tryz.lays264 x y hx hy w
end Go.Proofs
