import Derived.Laws.Rows
import Derived.Test.YtbbhmhihpdmoiaaGreatProg
import Derived.Defers
import Derived.Recover
import Derived.Test.YtbbhmhihpdmoiaaGreatMv25
import Derived.Test.YtbbhmhihpdmoiaaGreatMv30
set_option linter.unusedVariables false
set_option linter.unusedSimpArgs false
namespace Go.Proofs.YtbbhmhihpdmoiaaGreat.Pk
open Go Go.RowKit
theorem Own.lt {W : World} {B : Nat} {v : Value} {l : List Nat} (s : Own W B v l) : ∀ k, v.ownBlock = some k → k < W.heap.size := by
 intro k hk
 obtain ⟨_, h2⟩ := s
 rcases h2 with ⟨rfl, _⟩ | ⟨g, cap, cur, rfl, hb, hg, _⟩
 ·cases hk
 ·cases hk
  exact (Array.getElem?_eq_some_iff.1 hg).1
theorem Own.turn {W X : World} {B p : Nat} {u v v' : Value} {l : List Nat} (s : Own W B u l) (t : Turn p v v' W X) (hp : ∀ k, u.ownBlock = some k → k ≠ p ∧ v.ownBlock ≠ some k) : Own X B u l := by
 obtain ⟨h1, h2⟩ := s
 refine ⟨h1, ?_⟩
 rcases h2 with h2 | ⟨g, cap, cur, rfl, hb, hg, h3⟩
 ·exact .inl h2
 ·obtain ⟨a, b⟩ := hp g rfl
  exact .inr ⟨g, cap, cur, rfl, hb, by rw [t.block g (Array.getElem?_eq_some_iff.1 hg).1 a b]; exact hg, h3⟩
structure TW (B p z : Nat) (v vz vo : Value) (l l2 m : List Nat) (lost lost2 : Bool) (W : World) : Prop where
 pw : PW B p v l lost W
 zrow : W.heap[z]? = some (.cells #[vz, .bool lost2] 81 (0, 0))
 zown : Own W B vz l2
 own : Own W B vo m
 d1 : ∀ k, v.ownBlock = some k → vz.ownBlock ≠ some k
 d2 : ∀ k, vo.ownBlock = some k → v.ownBlock ≠ some k ∧ vz.ownBlock ≠ some k
 ne : p ≠ z
def WI (B p z : Nat) (vo : Value) (l m : List Nat) (lost : Bool) (W : World) : Prop := ∃ v vz, TW B p z v vz vo l l m lost lost W
def WM (B p z : Nat) (vo : Value) (l l2 m : List Nat) (lost lost2 : Bool) (W : World) : Prop := ∃ v vz, TW B p z v vz vo l l2 m lost lost2 W
theorem TW.below {B p z : Nat} {v vz vo : Value} {l l2 m : List Nat} {lost lost2 : Bool} {W X : World} (s : TW B p z v vz vo l l2 m lost lost2 W) (h : Below W.heap.size W X) : TW B p z v vz vo l l2 m lost lost2 X :=
 ⟨s.pw.below h, keep_row h s.zrow, s.zown.below h, s.own.below h, s.d1, s.d2, s.ne⟩
theorem WI.below {B p z : Nat} {vo : Value} {l m : List Nat} {lost : Bool} {W X : World} (s : WI B p z vo l m lost W) (h : Below W.heap.size W X) : WI B p z vo l m lost X := by
 obtain ⟨v, vz, s⟩ := s
 exact ⟨v, vz, s.below h⟩
theorem TW.one {B p z : Nat} {v vz vo : Value} {l l2 l3 m : List Nat} {lost lost2 lost3 : Bool} {W X : World} {e : Ending} (s : TW B p z v vz vo l l2 m lost lost2 W) (h : PCall B p v l3 lost3 W e X) : WM B p z vo l3 l2 m lost3 lost2 X := by
 obtain ⟨_, v', hp, t⟩ := h
 have a1 := s.zown.apart s.pw.row (by decide)
 have hown := s.own
 have a2 := hown.apart s.pw.row (by decide)
 have a3 := s.pw.own.apart s.zrow (by decide)
 refine ⟨v', vz, hp, ?_, s.zown.turn t (fun k hk => ⟨a1 k hk, fun h => s.d1 k h hk⟩), hown.turn t (fun k hk => ⟨a2 k hk, (s.d2 k hk).1⟩), fun k hk => ?_, fun k hk => ⟨fun h => ?_, (s.d2 k hk).2⟩, s.ne⟩
 ·rw [t.block z (Array.getElem?_eq_some_iff.1 s.zrow).1 (Ne.symm s.ne) (fun h => a3 z h rfl)]
  exact s.zrow
 ·rcases t.own k hk with h | h
  ·exact s.d1 k h
  ·intro h2
   have := s.zown.lt k h2
   omega
 ·rcases t.own k h with h | h
  ·exact (s.d2 k hk).1 h
  ·have := hown.lt k hk
   omega
theorem TW.two {B p z : Nat} {v vz vo : Value} {l l2 l3 m : List Nat} {lost lost2 lost3 : Bool} {W X : World} {e : Ending} (s : TW B p z v vz vo l l2 m lost lost2 W) (h : ZCallN B z l3 lost3 W e X) : WM B p z vo l l3 m lost lost3 X := by
 obtain ⟨_, ⟨v1, hr, ho⟩, hg, hn⟩ := h
 obtain ⟨v2, x2, hr2, hv⟩ := hn _ _ s.zrow
 rw [hr] at hr2
 obtain rfl : v1 = v2 := by
  simp at hr2
  exact hr2.1
 have a1 := s.pw.own.apart s.zrow (by decide)
 have hown := s.own
 have a2 := hown.apart s.zrow (by decide)
 refine ⟨v, v1, s.pw.grown hg (fun e => s.ne (Option.some.inj e)) (fun k hk e => a1 k hk (Option.some.inj e)), hr, ho, hown.grown hg (fun k hk e => a2 k hk (Option.some.inj e)), fun k hk => ?_, fun k hk => ⟨(s.d2 k hk).1, ?_⟩, s.ne⟩
 ·rcases hv with rfl | hv
  ·exact s.d1 k hk
  ·intro h
   have h1 := hv k h
   have h2 := s.pw.own.lt k hk
   omega
 ·rcases hv with rfl | hv
  ·exact (s.d2 k hk).2
  ·intro h
   have h1 := hv k h
   have h2 := hown.lt k hk
   omega
theorem WI.both {B p z : Nat} {vo : Value} {l l3 m : List Nat} {lost lost3 : Bool} {w W : World} {f g : FuncId} {xs ys : Array Value} (s : WI B p z vo l m lost W) (hb : Below w.heap.size w W) (hB : B = w.heap.size) (hp : w.heap.size ≤ p) (hz : w.heap.size ≤ z)
  (h1 : ∀ v, PW B p v l lost W → (∀ k, vo.ownBlock = some k → k ≠ p ∧ v.ownBlock ≠ some k) → Own W B vo m → Calls Tryz.prog f xs W (PCall B p v l3 lost3 W))
  (h2 : ∀ X, Below w.heap.size w X → ZW B z l lost X → Calls Tryz.prog g ys X (ZCallN B z l3 lost3 X)) :
  Calls Tryz.prog f xs W fun e X => e = .returned undef ∧ Below w.heap.size w X ∧ (∀ q cs t fr, W.heap[q]? = some (.cells cs t fr) → t ≠ 5 → q ≠ p → X.heap[q]? = some (.cells cs t fr)) ∧
   Calls Tryz.prog g ys X fun e Y => e = .returned undef ∧ WI B p z vo l3 m lost3 Y ∧ Below w.heap.size w Y ∧ (∀ q cs t fr, W.heap[q]? = some (.cells cs t fr) → t ≠ 5 → q ≠ p → q ≠ z → Y.heap[q]? = some (.cells cs t fr)) := by
 obtain ⟨v, vz, s⟩ := s
 have hown := s.own
 have a2 := hown.apart s.pw.row (by decide)
 refine (h1 v s.pw (fun k hk => ⟨a2 k hk, (s.d2 k hk).1⟩) s.own).mono ?_
 intro e X hX
 have s2 := s.one hX
 obtain ⟨he, v', hp', t⟩ := hX
 have hbX : Below w.heap.size w X := t.below hb hp (hB ▸ s.pw)
 obtain ⟨v2, vz2, s2⟩ := s2
 have kx : ∀ q cs t fr, W.heap[q]? = some (.cells cs t fr) → t ≠ 5 → q ≠ p → X.heap[q]? = some (.cells cs t fr) := fun q cs ty fr hq ht hqp => by
  rw [t.block q (Array.getElem?_eq_some_iff.1 hq).1 hqp (fun h => s.pw.own.apart hq ht q h rfl)]
  exact hq
 refine ⟨he, hbX, kx, (h2 X hbX ⟨vz2, s2.zrow, s2.zown⟩).mono ?_⟩
 intro e Y hY
 have s3 := s2.two hY
 obtain ⟨he, _, hg, _⟩ := hY
 refine ⟨he, s3, hbX.grown hg hbX.size (fun k hk => by cases hk; exact hz), fun q cs ty fr hq ht hqp hqz => ?_⟩
 have hx := kx q cs ty fr hq ht hqp
 rw [hg.block q (Array.getElem?_eq_some_iff.1 hx).1 (fun e => hqz (Option.some.inj e))]
 exact hx
def Row8 (W : World) (o : Option Addr) (n : Nat) : Prop := ∀ i, i < n → ∃ g, o = some ⟨g, 0, none⟩ ∧ (∃ y : Int, W.cell? ⟨g, i, none⟩ = some (.int .u8 y)) ∧ W.frozen? ⟨g, i, none⟩ = false
theorem Row8.set {W : World} {g n j : Nat} (y : Int) (h : Row8 W (some ⟨g, 0, none⟩) n) : Row8 (W.setCell ⟨g, j, none⟩ (.int .u8 y)) (some ⟨g, 0, none⟩) n := by
 intro i hi
 obtain ⟨g2, e, ⟨x, hx⟩, hf⟩ := h i hi
 cases e
 refine ⟨g, rfl, ?_, by rw [World.frozen?_setCell]; exact hf⟩
 by_cases hij : i = j
 ·subst hij
  exact ⟨y, World.cell?_setCell_same' _ _ _ (by rw [hx]; rfl)⟩
 ·refine ⟨x, ?_⟩
  rw [World.cell?_setCell_other]
  ·exact hx
  ·intro e
   cases e
   exact hij rfl
theorem TW.take {B p z : Nat} {v vz vo : Value} {l m : List Nat} {lost : Bool} {W X : World} (s : TW B p z v vz (.slice none 0 0) l l [] lost lost W) (hB : B ≤ W.heap.size) (hb : Below W.heap.size W X) (ho : Own X W.heap.size vo m) : TW B p z v vz vo l l m lost lost X :=
 ⟨s.pw.below hb, keep_row hb s.zrow, s.zown.below hb, ho.mono hB, s.d1, fun k hk => ⟨fun h => by have h1 := s.pw.own.lt k h; have h2 := ho.blk k hk; omega, fun h => by have h1 := s.zown.lt k h; have h2 := ho.blk k hk; omega⟩, s.ne⟩
theorem Row8.grown {W X : World} {o : Option Addr} {n : Nat} {row : Option Nat} (h : Row8 W o n) (hg : W.grownBy X row) (hr : ∀ g, o = some ⟨g, 0, none⟩ → 0 < n → some g ≠ row) : Row8 X o n := by
 intro i hi
 obtain ⟨g, e, ⟨y, hy⟩, hf⟩ := h i hi
 have hne := hr g e (by omega)
 refine ⟨g, e, ⟨y, hg.cell hy hne⟩, ?_⟩
 have hlt := block_lt_of_cell hy
 have hb := hg.block g hlt hne
 simp only [World.frozen?, hb] at hf ⊢
 exact hf
theorem Row8.below {W X : World} {o : Option Addr} {n : Nat} (h : Row8 W o n) (hb : Below W.heap.size W X) : Row8 X o n := h.grown (below_grown hb none) (fun g _ _ h => by cases h)
theorem grown_trans {w w1 w2 : World} {g : Option Nat} (h : w.grownBy w1 g) (k : w1.grownBy w2 g) : w.grownBy w2 g := h.trans k
end Go.Proofs.YtbbhmhihpdmoiaaGreat.Pk

set_option linter.unusedVariables false
set_option linter.unusedSimpArgs false
namespace Go.Proofs.YtbbhmhihpdmoiaaGreat.Pk
open Go Go.RowKit
theorem OwnI.open {W : World} {B : Nat} {v : Value} {l : List Int} (s : OwnI W B v l) : ∃ o cap, v = .slice o l.length cap := by
 obtain ⟨h1, h2⟩ := s
 rcases h2 with ⟨rfl, h0⟩ | ⟨g, cap, cur, rfl, hb, hg, hc, hm, hs, ht⟩
 ·exact ⟨none, 0, by rw [h0]⟩
 ·exact ⟨_, cap, rfl⟩
structure MS (o : Option Addr) (c : Nat) (l : List Nat) (p a : Nat) (lost : Bool) (v : Value) (zs : List Int) (w W : World) : Prop where
 box : W.heap[w.heap.size]? = some (.cells #[.pointer (some ⟨p, 0, none⟩)] 90 (0, 0))
 res : W.heap[w.heap.size + 1]? = some (.cells #[v] 196 (0, 0))
 rd : PR o c l p a lost W
 own : OwnI W (w.heap.size + 2) v zs
 grow : w.grownBy W (some p)
theorem MS.facts {o : Option Addr} {c : Nat} {l : List Nat} {p a : Nat} {lost : Bool} {v : Value} {zs : List Int} {w W : World} (s : MS o c l p a lost v zs w W) :
  W.cell? ⟨w.heap.size, 0, none⟩ = some (.pointer (some ⟨p, 0, none⟩)) ∧ W.cell? ⟨w.heap.size + 1, 0, none⟩ = some v ∧ W.frozen? ⟨w.heap.size + 1, 0, none⟩ = false :=
 ⟨(cell_of_row _ _ 0 _ _ _ s.box).trans rfl, (cell_of_row _ _ 0 _ _ _ s.res).trans rfl, frozen_row s.res⟩
theorem MS.read {o : Option Addr} {c : Nat} {l : List Nat} {p a a2 : Nat} {lost lost2 : Bool} {v : Value} {zs : List Int} {w W X : World} (s : MS o c l p a lost v zs w W) (hp : p < w.heap.size) (hr : PR o c l p a2 lost2 X) (hg : W.grownBy X (some p)) : MS o c l p a2 lost2 v zs w X := by
 refine ⟨?_, ?_, hr, s.own.grown hg (fun k hk e => s.own.apart s.rd.row (by decide) k hk (Option.some.inj e)), s.grow.trans hg⟩
 ·rw [hg.block _ (Array.getElem?_eq_some_iff.1 s.box).1 (fun e => by have := Option.some.inj e; omega)]
  exact s.box
 ·rw [hg.block _ (Array.getElem?_eq_some_iff.1 s.res).1 (fun e => by have := Option.some.inj e; omega)]
  exact s.res
theorem MS.alloc {o : Option Addr} {c : Nat} {l : List Nat} {p a : Nat} {lost : Bool} {v : Value} {zs : List Int} {w W : World} (s : MS o c l p a lost v zs w W) (ob : Obj) : MS o c l p a lost v zs w (W.alloc ob) :=
 ⟨step_row s.box, step_row s.res, s.rd.below ((Below.refl _ _).alloc (Nat.le_refl _) _), s.own.alloc _, s.grow.trans (below_grown ((Below.refl _ _).alloc (Nat.le_refl _) _) (some p))⟩
theorem MS.app {o : Option Addr} {c : Nat} {l : List Nat} {p a : Nat} {lost : Bool} {v v' : Value} {zs zs' : List Int} {w W X : World} (s : MS o c l p a lost v zs w W) (hp : p < w.heap.size) (hob : ∀ b off, o = some ⟨b, off, none⟩ → 0 < l.length → b < w.heap.size) (ho : OwnI X (w.heap.size + 2) v' zs') (hg : W.grownBy X v.ownBlock) :
  X.heap[w.heap.size + 1]? = some (.cells #[v] 196 (0, 0)) ∧ MS o c l p a lost v' zs' w (X.setCell ⟨w.heap.size + 1, 0, none⟩ v') := by
 have hv := s.own.blk
 have hres : X.heap[w.heap.size + 1]? = some (.cells #[v] 196 (0, 0)) := by
  rw [hg.block _ (Array.getElem?_eq_some_iff.1 s.res).1 (fun e => by have := hv _ e.symm; omega)]
  exact s.res
 have hbox : X.heap[w.heap.size]? = some (.cells #[.pointer (some ⟨p, 0, none⟩)] 90 (0, 0)) := by
  rw [hg.block _ (Array.getElem?_eq_some_iff.1 s.box).1 (fun e => by have := hv _ e.symm; omega)]
  exact s.box
 have hrd : PR o c l p a lost X := s.rd.grown hg (fun e => by have := hv _ e.symm; omega) (fun b off e hm h => by have := hv b h.symm; have := hob b off e hm; omega)
 have hgx : w.grownBy X (some p) := ⟨hg.os.trans s.grow.os, hg.tape.trans s.grow.tape, hg.output.trans s.grow.output, Nat.le_trans s.grow.size hg.size, fun q hq hqp => by
  rw [hg.block q (Nat.lt_of_lt_of_le hq s.grow.size) (fun e => by have := hv q e.symm; omega)]
  exact s.grow.block q hq hqp⟩
 have hc := grown_cell X (w.heap.size + 1) 0 v'
 refine ⟨hres, by rw [heap_setCell_other _ _ _ _ (by show _ ≠ w.heap.size + 1; omega)]; exact hbox, heap_setCell_same _ _ 0 _ _ v' hres, hrd.grown hc (fun e => by have := Option.some.inj e; omega) (fun b off e hm h => by have := Option.some.inj h; have := hob b off e hm; omega),
  ho.grown hc (fun k hk e => by have := ho.blk k hk; have := Option.some.inj e; omega), ?_⟩
 exact ⟨hc.os.trans hgx.os, hc.tape.trans hgx.tape, hc.output.trans hgx.output, Nat.le_trans hgx.size hc.size, fun q hq hqp => by
  rw [hc.block q (Nat.lt_of_lt_of_le hq hgx.size) (fun e => by have := Option.some.inj e; omega)]
  exact hgx.block q hq hqp⟩
theorem OwnI.mono {W : World} {B C : Nat} {v : Value} {l : List Int} (hB : B ≤ C) (s : OwnI W C v l) : OwnI W B v l := by
 obtain ⟨h1, h2⟩ := s
 refine ⟨h1, ?_⟩
 rcases h2 with h2 | ⟨g, cap, cur, e, hb, h3⟩
 ·exact Or.inl h2
 ·exact Or.inr ⟨g, cap, cur, e, Nat.le_trans hB hb, h3⟩
end Go.Proofs.YtbbhmhihpdmoiaaGreat.Pk

set_option linter.unusedVariables false
set_option linter.unusedSimpArgs false
namespace Go.Proofs.YtbbhmhihpdmoiaaGreat.Fx
open Go Go.RowKit
open Go.Proofs.YtbbhmhihpdmoiaaGreat.Pk (form fold unf rd rd_form rd_has rd_most unf_fold fold_unf M64 By form_bytes form_len)
abbrev Prs (κ : Type) := List Nat → Nat → Option (κ × Nat)
structure Good {κ : Type} (P : Prs κ) (F : κ → List Nat) (D : κ → Prop) : Prop where
 put : ∀ k, D k → ∀ l a t, a ≤ l.length → l.drop a = F k ++ t → P l a = some (k, a + (F k).length)
 get : ∀ l a k b, By l → a ≤ l.length → P l a = some (k, b) → D k ∧ l.drop a = F k ++ l.drop b ∧ b = a + (F k).length ∧ b ≤ l.length
 bytes : ∀ k, D k → By (F k)
def pU (most : Nat) : Prs Int := fun l a => (rd most (l.drop a)).map fun q => ((q.1 : Int), a + q.2)
def pI : Prs Int := fun l a => (rd M64 (l.drop a)).map fun q => (unf q.1, a + q.2)
def fU (z : Int) : List Nat := form z.toNat
def fI (z : Int) : List Nat := form (fold z)
theorem drop_part {l : List Nat} {a j : Nat} {m : List Nat} (ha : a ≤ l.length) (h : (l.drop a).take j = m) (hj : j = m.length) : l.drop a = m ++ l.drop (a + j) ∧ a + j ≤ l.length := by
 have h1 : l.drop a = (l.drop a).take j ++ (l.drop a).drop j := (List.take_append_drop j _).symm
 rw [h, List.drop_drop] at h1
 refine ⟨h1, ?_⟩
 have h2 := congrArg List.length h
 rw [List.length_take, List.length_drop] at h2
 omega
theorem goodU {most : Nat} (hm : most < 18446744073709551616) : Good (pU most) fU (fun z => 0 ≤ z ∧ z ≤ (most : Int)) where
 put k hk l a t ha h := by
  unfold pU fU
  rw [h]
  unfold fU
  rw [rd_form k.toNat most t (by omega) (by omega)]
  simp
  omega
 get l a k b hb ha h := by
  unfold pU at h
  rw [Option.map_eq_some_iff] at h
  obtain ⟨⟨n, j⟩, hr, e⟩ := h
  simp only [Prod.mk.injEq] at e
  obtain ⟨rfl, rfl⟩ := e
  obtain ⟨h1, h2, h3⟩ := rd_has (fun c hc => hb c (List.mem_of_mem_drop hc)) hr
  have hle : n ≤ most := by
   rw [rd_most _ (by unfold M64; omega)] at hr
   cases h0 : rd M64 (l.drop a) with
   | none => rw [h0] at hr; simp at hr
   | some q =>
    rw [h0] at hr
    simp at hr
    obtain ⟨hq, e1, _⟩ := hr
    rw [← e1]
    exact hq
  obtain ⟨h4, h5⟩ := drop_part ha h1 h3
  refine ⟨by omega, ?_, ?_, h5⟩
  ·unfold fU
   simpa using h4
  ·unfold fU
   simpa using h3
 bytes k hk := form_bytes (by omega)
theorem fold_lt {z : Int} (h : Num z) : fold z < 18446744073709551616 := by
 obtain ⟨h0, h1⟩ := h
 unfold fold
 split <;> omega
theorem unf_num {n : Nat} (h : n < 18446744073709551616) : Num (unf n) := by
 unfold unf Num
 split <;> omega
theorem goodI : Good pI fI Num where
 put k hk l a t ha h := by
  unfold pI fI
  rw [h]
  unfold fI
  rw [rd_form (fold k) M64 t (fold_lt hk) (by have := fold_lt hk; unfold M64; omega)]
  simp only [Option.map_some]
  rw [unf_fold hk.1 hk.2]
 get l a k b hb ha h := by
  unfold pI at h
  rw [Option.map_eq_some_iff] at h
  obtain ⟨⟨n, j⟩, hr, e⟩ := h
  simp only [Prod.mk.injEq] at e
  obtain ⟨rfl, rfl⟩ := e
  obtain ⟨h1, h2, h3⟩ := rd_has (fun c hc => hb c (List.mem_of_mem_drop hc)) hr
  obtain ⟨h4, h5⟩ := drop_part ha h1 h3
  refine ⟨unf_num h2, ?_, ?_, h5⟩
  ·unfold fI
   rw [fold_unf h2]
   exact h4
  ·unfold fI
   rw [fold_unf h2, h3]
 bytes k hk := form_bytes (fold_lt hk)
def pSeq {κ μ : Type} (P : Prs κ) (Q : Prs μ) : Prs (κ × μ) := fun l a => match P l a with
 | none => none
 | some (k, b) => match Q l b with
  | none => none
  | some (m, c) => some ((k, m), c)
theorem drop_of {l m t : List Nat} {a : Nat} (ha : a ≤ l.length) (h : l.drop a = m ++ t) : l.drop (a + m.length) = t ∧ a + m.length ≤ l.length := by
 refine ⟨by rw [← List.drop_drop, h]; simp, ?_⟩
 have := congrArg List.length h
 rw [List.length_drop, List.length_append] at this
 omega
theorem By.app {a b : List Nat} (h : By a) (k : By b) : By (a ++ b) := fun c hc => by
 rcases List.mem_append.1 hc with hc | hc
 ·exact h c hc
 ·exact k c hc
theorem Good.seq {κ μ : Type} {P : Prs κ} {Q : Prs μ} {F : κ → List Nat} {G : μ → List Nat} {D : κ → Prop} {E : μ → Prop} (h : Good P F D) (k : Good Q G E) : Good (pSeq P Q) (fun x => F x.1 ++ G x.2) (fun x => D x.1 ∧ E x.2) where
 put x hx l a t ha hd := by
  rw [List.append_assoc] at hd
  have h1 := h.put x.1 hx.1 l a _ ha hd
  obtain ⟨h2, h3⟩ := drop_of ha hd
  have h4 := k.put x.2 hx.2 l _ t h3 h2
  unfold pSeq
  rw [h1]
  dsimp only
  rw [h4]
  simp [Nat.add_assoc]
 get l a x b hb ha hd := by
  unfold pSeq at hd
  cases h1 : P l a with
  | none => rw [h1] at hd; cases hd
  | some q =>
   obtain ⟨k1, b1⟩ := q
   rw [h1] at hd
   dsimp only at hd
   cases h2 : Q l b1 with
   | none => rw [h2] at hd; cases hd
   | some q2 =>
    obtain ⟨k2, b2⟩ := q2
    rw [h2] at hd
    cases hd
    obtain ⟨d1, e1, f1, g1⟩ := h.get l a k1 b1 hb ha h1
    obtain ⟨d2, e2, f2, g2⟩ := k.get l b1 k2 b hb g1 h2
    exact ⟨⟨d1, d2⟩, by rw [e1, e2, List.append_assoc], by simp only [List.length_append]; omega, g2⟩
 bytes x hx := By.app (h.bytes _ hx.1) (k.bytes _ hx.2)
def pList {κ : Type} (P : Prs κ) : Nat → Prs (List κ)
 | 0 => fun _ a => some ([], a)
 | n + 1 => fun l a => match P l a with
  | none => none
  | some (k, b) => match pList P n l b with
   | none => none
   | some (ks, c) => some (k :: ks, c)
theorem Good.list {κ : Type} {P : Prs κ} {F : κ → List Nat} {D : κ → Prop} (h : Good P F D) : ∀ n, Good (pList P n) (fun ks => ks.flatMap F) (fun ks => ks.length = n ∧ ∀ k ∈ ks, D k)
 | 0 =>
  { put := fun ks hk l a t ha hd => by
      have : ks = [] := List.length_eq_zero_iff.1 hk.1
      subst this
      rfl
    get := fun l a ks b hb ha hd => by
      unfold pList at hd
      cases hd
      exact ⟨⟨rfl, fun k hk => by simp at hk⟩, by simp, by simp, ha⟩
    bytes := fun ks hk => by
      have : ks = [] := List.length_eq_zero_iff.1 hk.1
      subst this
      intro c hc
      simp at hc }
 | n + 1 =>
  { put := fun ks hk l a t ha hd => by
      cases ks with
      | nil => simp at hk
      | cons x xs =>
        rw [List.flatMap_cons, List.append_assoc] at hd
        have h1 := h.put x (hk.2 x (by simp)) l a _ ha hd
        obtain ⟨h2, h3⟩ := drop_of ha hd
        have h4 := (Good.list h n).put xs ⟨by simpa using hk.1, fun k hk' => hk.2 k (by simp [hk'])⟩ l _ t h3 h2
        unfold pList
        rw [h1]
        dsimp only
        rw [h4]
        simp [Nat.add_assoc]
    get := fun l a ks b hb ha hd => by
      unfold pList at hd
      cases h1 : P l a with
      | none => rw [h1] at hd; cases hd
      | some q =>
        obtain ⟨k1, b1⟩ := q
        rw [h1] at hd
        dsimp only at hd
        cases h2 : pList P n l b1 with
        | none => rw [h2] at hd; cases hd
        | some q2 =>
          obtain ⟨k2, b2⟩ := q2
          rw [h2] at hd
          cases hd
          obtain ⟨d1, e1, f1, g1⟩ := h.get l a k1 b1 hb ha h1
          obtain ⟨d2, e2, f2, g2⟩ := (Good.list h n).get l b1 k2 b hb g1 h2
          refine ⟨⟨by simpa using d2.1, fun k hk => ?_⟩, by rw [List.flatMap_cons, e1, e2, List.append_assoc], by simp only [List.flatMap_cons, List.length_append]; omega, g2⟩
          rcases List.mem_cons.1 hk with rfl | hk
          · exact d1
          · exact d2.2 k hk
    bytes := fun ks hk => by
      intro c hc
      obtain ⟨x, hx, hc⟩ := List.mem_flatMap.1 hc
      exact h.bytes x (hk.2 x hx) c hc }
def pMany {κ : Type} (most : Nat) (P : Prs κ) : Prs (List κ) := fun l a => match pU most l a with
 | none => none
 | some (n, b) => pList P n.toNat l b
def fMany {κ : Type} (F : κ → List Nat) (ks : List κ) : List Nat := fU ks.length ++ ks.flatMap F
theorem Good.many {κ : Type} {P : Prs κ} {F : κ → List Nat} {D : κ → Prop} (h : Good P F D) {most : Nat} (hm : most < 18446744073709551616) : Good (pMany most P) (fMany F) (fun ks => ks.length ≤ most ∧ ∀ k ∈ ks, D k) where
 put ks hk l a t ha hd := by
  unfold fMany at hd ⊢
  rw [List.append_assoc] at hd
  have h1 := (goodU hm).put (ks.length : Int) (by omega) l a _ ha hd
  obtain ⟨h2, h3⟩ := drop_of ha hd
  have h4 := (h.list ks.length).put ks ⟨rfl, hk.2⟩ l _ t h3 h2
  unfold pMany
  rw [h1]
  dsimp only
  rw [Int.toNat_natCast, h4]
  simp [Nat.add_assoc]
 get l a ks b hb ha hd := by
  unfold pMany at hd
  cases h1 : pU most l a with
  | none => rw [h1] at hd; cases hd
  | some q =>
   obtain ⟨k1, b1⟩ := q
   rw [h1] at hd
   dsimp only at hd
   obtain ⟨d1, e1, f1, g1⟩ := (goodU hm).get l a k1 b1 hb ha h1
   obtain ⟨d2, e2, f2, g2⟩ := (h.list k1.toNat).get l b1 ks b hb g1 hd
   have hk : k1 = (ks.length : Int) := by rw [d2.1]; omega
   subst hk
   exact ⟨⟨by omega, d2.2⟩, by unfold fMany; rw [e1, e2, List.append_assoc], by unfold fMany; rw [List.length_append]; omega, g2⟩
 bytes ks hk := By.app ((goodU hm).bytes _ (by omega)) ((h.list ks.length).bytes ks ⟨rfl, hk.2⟩)
def pMap {κ μ : Type} (f : κ → μ) (P : Prs κ) : Prs μ := fun l a => (P l a).map fun q => (f q.1, q.2)
theorem Good.map {κ μ : Type} {P : Prs κ} {F : κ → List Nat} {D : κ → Prop} (h : Good P F D) (f : κ → μ) (g : μ → κ) (hf : ∀ y, f (g y) = y) (hg : ∀ x, g (f x) = x) : Good (pMap f P) (fun y => F (g y)) (fun y => D (g y)) where
 put y hy l a t ha hd := by
  unfold pMap
  rw [h.put (g y) hy l a t ha hd]
  simp [hf]
 get l a y b hb ha hd := by
  unfold pMap at hd
  rw [Option.map_eq_some_iff] at hd
  obtain ⟨⟨k, c⟩, h1, e⟩ := hd
  simp only [Prod.mk.injEq] at e
  obtain ⟨rfl, rfl⟩ := e
  rw [hg]
  exact h.get l a k c hb ha h1
 bytes y hy := h.bytes _ hy
def triOf (q : Int × Int × Int × Int) : TriR := ⟨q.1, q.2.1, q.2.2.1, q.2.2.2⟩
def ofTri (t : TriR) : Int × Int × Int × Int := (t.a, t.b, t.c, t.col)
def pMat : Prs (List Int) := pList pI 16
def pVert : Prs (List Int) := pList pI 3
def pTri : Prs TriR := pMap triOf (pSeq (pU 63) (pSeq (pU 63) (pSeq (pU 63) (pU 4294967295))))
def pObj : Prs (Int × List Int × List (List Int) × List TriR) := pSeq (pU 65535) (pSeq pMat (pSeq (pMany 64 pVert) (pMany 64 pTri)))
abbrev KeyS := Int × Int × List Int × List (Int × List Int × List (List Int) × List TriR)
def pSc : Prs KeyS := pSeq (pU 64) (pSeq (pU 64) (pSeq pMat (pMany 16 pObj)))
def keyS (s : ScR) : KeyS := (s.w, s.h, s.cam, s.os.map keyO)
theorem keyS_same (a b : ScR) : sameS a b ↔ keyS a = keyS b := by
 unfold sameS keyS
 simp [Prod.mk.injEq]
def fNums (m : List Int) : List Nat := m.flatMap fI
def fTri (t : TriR) : List Nat := fU t.a ++ (fU t.b ++ (fU t.c ++ fU t.col))
def fObj (x : Int × List Int × List (List Int) × List TriR) : List Nat := fU x.1 ++ (fNums x.2.1 ++ (fMany fNums x.2.2.1 ++ fMany fTri x.2.2.2))
def fSc (s : KeyS) : List Nat := fU s.1 ++ (fU s.2.1 ++ (fNums s.2.2.1 ++ fMany fObj s.2.2.2))
def dNums (n : Nat) (m : List Int) : Prop := m.length = n ∧ ∀ z ∈ m, Num z
def dTri (t : TriR) : Prop := (0 ≤ t.a ∧ t.a ≤ 63) ∧ (0 ≤ t.b ∧ t.b ≤ 63) ∧ (0 ≤ t.c ∧ t.c ≤ 63) ∧ (0 ≤ t.col ∧ t.col ≤ 4294967295)
def dObj (x : Int × List Int × List (List Int) × List TriR) : Prop := (0 ≤ x.1 ∧ x.1 ≤ 65535) ∧ dNums 16 x.2.1 ∧ (x.2.2.1.length ≤ 64 ∧ ∀ v ∈ x.2.2.1, dNums 3 v) ∧ (x.2.2.2.length ≤ 64 ∧ ∀ t ∈ x.2.2.2, dTri t)
def dSc (s : KeyS) : Prop := (0 ≤ s.1 ∧ s.1 ≤ 64) ∧ (0 ≤ s.2.1 ∧ s.2.1 ≤ 64) ∧ dNums 16 s.2.2.1 ∧ (s.2.2.2.length ≤ 16 ∧ ∀ x ∈ s.2.2.2, dObj x)
theorem good64 : Good (pU 64) fU (fun z => 0 ≤ z ∧ z ≤ 64) := goodU (by omega)
theorem good63 : Good (pU 63) fU (fun z => 0 ≤ z ∧ z ≤ 63) := goodU (by omega)
theorem good32 : Good (pU 4294967295) fU (fun z => 0 ≤ z ∧ z ≤ 4294967295) := goodU (by omega)
theorem good16 : Good (pU 65535) fU (fun z => 0 ≤ z ∧ z ≤ 65535) := goodU (by omega)
theorem goodTri : Good pTri fTri dTri := (good63.seq (good63.seq (good63.seq good32))).map triOf ofTri (fun _ => rfl) (fun _ => rfl)
theorem goodObj : Good pObj fObj dObj := good16.seq ((goodI.list 16).seq (((goodI.list 3).many (by omega)).seq (goodTri.many (by omega))))
theorem goodSc : Good pSc fSc dSc := good64.seq (good64.seq ((goodI.list 16).seq (goodObj.many (by omega))))
end Go.Proofs.YtbbhmhihpdmoiaaGreat.Fx
