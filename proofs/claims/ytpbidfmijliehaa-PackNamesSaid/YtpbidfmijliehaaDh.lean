/- Two readers beside one another. -/
import Derived.Test.YtpbidfmijliehaaProg
import Derived.Test.YtpbidfmijliehaaDg
import Derived.Test.YtpbidfmijliehaaAv
set_option linter.unusedVariables false
set_option linter.unusedSimpArgs false
namespace Go.Proofs.Ytpbidfmijliehaa.Fx
open Go Go.RowKit
/-- neither reader is, or has, what the other one is -/
structure AP (o oz : Option Addr) (n p z : Nat) : Prop where
  ne : p ≠ z
  pb : ∀ b off, o = some ⟨b, off, none⟩ → 0 < n → b ≠ z
  zb : ∀ b off, oz = some ⟨b, off, none⟩ → 0 < n → b ≠ p
/-- the program's reader and the document's, of the same bytes -/
structure RB (o : Option Addr) (c : Nat) (oz : Option Addr) (cz : Nat) (l : List Nat) (p z a0 a1 : Nat) (lost : Bool) (W : World) : Prop where
  pr : PR o c l p a0 lost W
  zr : ZR oz cz l z a1 lost W
  eq : lost = false → a0 = a1
  h0 : a0 ≤ l.length
  h1 : a1 ≤ l.length
def RE (o : Option Addr) (c : Nat) (oz : Option Addr) (cz : Nat) (l : List Nat) (p z : Nat) (W : World) : Prop := ∃ a0 a1 lost, RB o c oz cz l p z a0 a1 lost W
theorem RB.below {o : Option Addr} {c : Nat} {oz : Option Addr} {cz : Nat} {l : List Nat} {p z a0 a1 : Nat} {lost : Bool} {W X : World} (s : RB o c oz cz l p z a0 a1 lost W) (h : Below W.heap.size W X) : RB o c oz cz l p z a0 a1 lost X :=
  ⟨s.pr.below h, s.zr.below h, s.eq, s.h0, s.h1⟩
/-- two blocks may have turned -/
structure Touch (p z : Nat) (W X : World) : Prop where
  os : X.os = W.os
  tape : X.tape = W.tape
  output : X.output = W.output
  size : W.heap.size ≤ X.heap.size
  block : ∀ k, k < W.heap.size → k ≠ p → k ≠ z → X.heap[k]? = W.heap[k]?
theorem Touch.of_below {p z : Nat} {W X : World} (h : Below W.heap.size W X) : Touch p z W X := ⟨h.os, h.tape, h.output, h.size, fun k hk _ _ => h.block k hk⟩
theorem Touch.one {p z : Nat} {W X : World} (h : W.grownBy X (some p)) : Touch p z W X := ⟨h.os, h.tape, h.output, h.size, fun k hk hp _ => h.block k hk (fun e => hp (Option.some.inj e))⟩
theorem Touch.two {p z : Nat} {W X : World} (h : W.grownBy X (some z)) : Touch p z W X := ⟨h.os, h.tape, h.output, h.size, fun k hk _ hz => h.block k hk (fun e => hz (Option.some.inj e))⟩
theorem Touch.trans {p z : Nat} {W X Y : World} (s : Touch p z W X) (t : Touch p z X Y) : Touch p z W Y :=
  ⟨t.os.trans s.os, t.tape.trans s.tape, t.output.trans s.output, Nat.le_trans s.size t.size, fun k hk hp hz => by rw [t.block k (Nat.lt_of_lt_of_le hk s.size) hp hz, s.block k hk hp hz]⟩
theorem Touch.row {p z b : Nat} {W X : World} {ob : Obj} (s : Touch p z W X) (h : W.heap[b]? = some ob) (hp : b ≠ p) (hz : b ≠ z) : X.heap[b]? = some ob := by
  rw [s.block b (Array.getElem?_eq_some_iff.1 h).1 hp hz]
  exact h
theorem Touch.below {p z : Nat} {w W X : World} (s : Touch p z W X) (hb : Below w.heap.size w W) (hp : w.heap.size ≤ p) (hz : w.heap.size ≤ z) : Below w.heap.size w X :=
  ⟨s.os.trans hb.os, s.tape.trans hb.tape, s.output.trans hb.output, Nat.le_trans hb.size s.size, fun k hk => (s.block k (Nat.lt_of_lt_of_le hk hb.size) (by omega) (by omega)).trans (hb.block k hk)⟩
theorem RB.left {o : Option Addr} {c : Nat} {oz : Option Addr} {cz : Nat} {l : List Nat} {p z a0 a1 : Nat} {lost : Bool} {W X : World} (s : RB o c oz cz l p z a0 a1 lost W) (A : AP o oz l.length p z) (hg : W.grownBy X (some p)) : ZR oz cz l z a1 lost X :=
  s.zr.grown hg (fun e => A.ne (Option.some.inj e).symm) (fun b off e hm h => A.zb b off e hm (Option.some.inj h))
theorem PR.right {o : Option Addr} {c : Nat} {oz : Option Addr} {l : List Nat} {p z a0 : Nat} {lost : Bool} {W X : World} (s : PR o c l p a0 lost W) (A : AP o oz l.length p z) (hg : W.grownBy X (some z)) : PR o c l p a0 lost X :=
  s.grown hg (fun e => A.ne (Option.some.inj e)) (fun b off e hm h => A.pb b off e hm (Option.some.inj h))
/-- what is taken may be: of the bytes -/
def InR (lost : Bool) (l : List Nat) (a : Nat) (r : Option (Nat × Nat)) : Prop := (lost = true → r = none) ∧ ∀ q, r = some q → a + q.2 ≤ l.length
theorem in_rq {lost : Bool} {most : Nat} {l : List Nat} {a : Nat} (ha : a ≤ l.length) : InR lost l a (rq lost most (l.drop a)) := by
  refine ⟨fun h => by subst h; rfl, fun q h => ?_⟩
  unfold rq at h
  split at h
  · cases h
  · have h1 := (rd_le h).2.2
    simp at h1
    omega
theorem in_rz {lost : Bool} {most : Int} {l : List Nat} {a : Nat} (ha : a ≤ l.length) : InR lost l a (rz lost most (l.drop a)) := by
  refine ⟨fun h => by subst h; unfold rz; simp, fun q h => ?_⟩
  unfold rz at h
  split at h
  · cases h
  · have h1 := (rd_le h).2.2
    simp at h1
    omega
/-- a number's call of both -/
theorem RB.num {o : Option Addr} {c : Nat} {oz : Option Addr} {cz : Nat} {l : List Nat} {p z a0 a1 : Nat} {lost : Bool} {W : World} {f g : FuncId} {xs ys : Array Value} {r : Option (Nat × Nat)} {v : Value} (s : RB o c oz cz l p z a0 a1 lost W) (A : AP o oz l.length p z) (hi : InR lost l a0 r)
    (h1 : Calls Try.prog f xs W (PNum o c l p a0 r v W)) (h2 : ∀ X, ZR oz cz l z a1 lost X → Calls Try.prog g ys X (NumPost oz cz l z a1 r v X)) :
    Calls Try.prog f xs W fun e X => e = .returned v ∧ Touch p z W X ∧ Calls Try.prog g ys X fun e Y => e = .returned v ∧ RE o c oz cz l p z Y ∧ Touch p z W Y := by
  refine h1.mono ?_
  rintro e X ⟨rfl, hp, hg⟩
  refine ⟨rfl, Touch.one hg, (h2 X (s.left A hg)).mono ?_⟩
  rintro e Y ⟨rfl, hz, hg2⟩
  refine ⟨rfl, ⟨_, _, _, hp.right A hg2, hz, fun hl => ?_, ?_, ?_⟩, (Touch.one hg).trans (Touch.two hg2)⟩
  · cases r with
    | none => cases hl
    | some q =>
      cases lost with
      | true => have := hi.1 rfl; cases this
      | false =>
        show a0 + q.2 = a1 + q.2
        rw [s.eq rfl]
  · cases r with
    | none => exact s.h0
    | some q => exact hi.2 q rfl
  · cases r with
    | none => exact s.h1
    | some q =>
      cases lost with
      | true => have := hi.1 rfl; cases this
      | false =>
        show a1 + q.2 ≤ l.length
        rw [← s.eq rfl]
        exact hi.2 q rfl
theorem rq_same {lost : Bool} {most : Nat} {l : List Nat} {a b : Nat} (h : lost = false → a = b) : rq lost most (l.drop b) = rq lost most (l.drop a) := by
  cases lost with
  | true => rfl
  | false => rw [h rfl]
theorem rz_same {lost : Bool} {most : Int} {l : List Nat} {a b : Nat} (h : lost = false → a = b) : rz lost most (l.drop b) = rz lost most (l.drop a) := by
  cases lost with
  | true => unfold rz; simp
  | false => rw [h rfl]
theorem tx_same {lost : Bool} {most : Int} {l : List Nat} {a b : Nat} (h : lost = false → a = b) : txR lost most l b = txR lost most l a := by
  cases lost with
  | true => unfold txR rz; simp
  | false => rw [h rfl]
theorem mn_same {lost : Bool} {most : Int} {l : List Nat} {a b : Nat} (h : lost = false → a = b) : manyR lost most l b = manyR lost most l a := by
  cases lost with
  | true => unfold manyR rz; simp
  | false => rw [h rfl]
theorem left_same {lost : Bool} {l : List Nat} {a b : Nat} (h : lost = false → a = b) : leftV lost l.length b = leftV lost l.length a := by
  cases lost with
  | true => rfl
  | false => rw [h rfl]
theorem end_same {lost : Bool} {l : List Nat} {a b : Nat} (h : lost = false → a = b) : endV lost l.length b = endV lost l.length a := by
  cases lost with
  | true => unfold endV; simp
  | false => rw [h rfl]
theorem tx_in {lost : Bool} {most : Int} {l : List Nat} {a : Nat} (ha : a ≤ l.length) : (lost = true → txR lost most l a = none) ∧ ∀ q, txR lost most l a = some q → a + q.2 ≤ l.length := by
  refine ⟨fun h => by subst h; unfold txR rz; simp, fun q h => ?_⟩
  unfold txR at h
  cases hr : rz lost most (l.drop a) with
  | none => rw [hr] at h; cases h
  | some r =>
    obtain ⟨n, j⟩ := r
    have h2 := (in_rz (lost := lost) (most := most) ha).2 _ hr
    rw [hr] at h
    dsimp only at h h2
    split at h
    · cases h
      dsimp only
      omega
    · cases h
end Go.Proofs.Ytpbidfmijliehaa.Fx
