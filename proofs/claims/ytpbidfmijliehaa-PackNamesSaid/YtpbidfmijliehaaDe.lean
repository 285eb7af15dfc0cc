/- Two writers beside one another, and bytes of the statement's own. -/
import Derived.Test.YtpbidfmijliehaaProg
import Derived.Test.YtpbidfmijliehaaDd
import Derived.Test.YtpbidfmijliehaaAq
set_option linter.unusedVariables false
set_option linter.unusedSimpArgs false
namespace Go.Proofs.Ytpbidfmijliehaa.Fx
open Go Go.RowKit
theorem Own.lt {W : World} {B : Nat} {v : Value} {l : List Nat} (s : Own W B v l) : ∀ k, v.ownBlock = some k → k < W.heap.size := by
  intro k hk
  obtain ⟨_, h2⟩ := s
  rcases h2 with ⟨rfl, _⟩ | ⟨g, cap, cur, rfl, hb, hg, _⟩
  · cases hk
  · cases hk
    exact (Array.getElem?_eq_some_iff.1 hg).1
theorem Own.turn {W X : World} {B p : Nat} {u v v' : Value} {l : List Nat} (s : Own W B u l) (t : Turn p v v' W X) (hp : ∀ k, u.ownBlock = some k → k ≠ p ∧ v.ownBlock ≠ some k) : Own X B u l := by
  obtain ⟨h1, h2⟩ := s
  refine ⟨h1, ?_⟩
  rcases h2 with h2 | ⟨g, cap, cur, rfl, hb, hg, h3⟩
  · exact .inl h2
  · obtain ⟨a, b⟩ := hp g rfl
    exact .inr ⟨g, cap, cur, rfl, hb, by rw [t.block g (Array.getElem?_eq_some_iff.1 hg).1 a b]; exact hg, h3⟩
/-- the program's writer, the document's, and bytes vo: none of them is where another one is -/
structure TW (B p z : Nat) (v vz vo : Value) (l l2 m : List Nat) (lost lost2 : Bool) (W : World) : Prop where
  pw : PW B p v l lost W
  zrow : W.heap[z]? = some (.cells #[vz, .bool lost2] 29 (0, 0))
  zown : Own W B vz l2
  own : Own W B vo m
  d1 : ∀ k, v.ownBlock = some k → vz.ownBlock ≠ some k
  d2 : ∀ k, vo.ownBlock = some k → v.ownBlock ≠ some k ∧ vz.ownBlock ≠ some k
  ne : p ≠ z
def WI (B p z : Nat) (vo : Value) (l m : List Nat) (lost : Bool) (W : World) : Prop := ∃ v vz, TW B p z v vz vo l l m lost lost W
def WM (B p z : Nat) (vo : Value) (l l2 m : List Nat) (lost lost2 : Bool) (W : World) : Prop := ∃ v vz, TW B p z v vz vo l l2 m lost lost2 W
theorem TW.below {B p z : Nat} {v vz vo : Value} {l l2 m : List Nat} {lost lost2 : Bool} {W X : World} (s : TW B p z v vz vo l l2 m lost lost2 W) (h : Below W.heap.size W X) : TW B p z v vz vo l l2 m lost lost2 X :=
  ⟨s.pw.below h, keep_row h s.zrow, s.zown.below h, s.own.below h, s.d1, s.d2, s.ne⟩
theorem WI.below {B p z : Nat} {vo : Value} {l m : List Nat} {lost : Bool} {W X : World} (s : WI B p z vo l m lost W) (h : Below W.heap.size W X) : WI B p z vo l m lost X := by
  obtain ⟨v, vz, s⟩ := s
  exact ⟨v, vz, s.below h⟩
/-- behind a call of the program's writer -/
theorem TW.one {B p z : Nat} {v vz vo : Value} {l l2 l3 m : List Nat} {lost lost2 lost3 : Bool} {W X : World} {e : Ending} (s : TW B p z v vz vo l l2 m lost lost2 W) (h : PCall B p v l3 lost3 W e X) : WM B p z vo l3 l2 m lost3 lost2 X := by
  obtain ⟨_, v', hp, t⟩ := h
  have a1 := s.zown.apart s.pw.row (by decide)
  have hown := s.own
  have a2 := hown.apart s.pw.row (by decide)
  have a3 := s.pw.own.apart s.zrow (by decide)
  refine ⟨v', vz, hp, ?_, s.zown.turn t (fun k hk => ⟨a1 k hk, fun h => s.d1 k h hk⟩), hown.turn t (fun k hk => ⟨a2 k hk, (s.d2 k hk).1⟩), fun k hk => ?_, fun k hk => ⟨fun h => ?_, (s.d2 k hk).2⟩, s.ne⟩
  · rw [t.block z (Array.getElem?_eq_some_iff.1 s.zrow).1 (Ne.symm s.ne) (fun h => a3 z h rfl)]
    exact s.zrow
  · rcases t.own k hk with h | h
    · exact s.d1 k h
    · intro h2
      have := s.zown.lt k h2
      omega
  · rcases t.own k h with h | h
    · exact (s.d2 k hk).1 h
    · have := hown.lt k hk
      omega
/-- behind a call of the document's writer -/
theorem TW.two {B p z : Nat} {v vz vo : Value} {l l2 l3 m : List Nat} {lost lost2 lost3 : Bool} {W X : World} {e : Ending} (s : TW B p z v vz vo l l2 m lost lost2 W) (h : ZCallN B z l3 lost3 W e X) : WM B p z vo l l3 m lost lost3 X := by
  obtain ⟨_, ⟨v1, hr, ho⟩, hg, hn⟩ := h
  obtain ⟨v2, x2, hr2, hv⟩ := hn _ _ s.zrow
  rw [hr] at hr2
  obtain rfl : v1 = v2 := by
    simp at hr2
    exact hr2.1
  have a1 := s.pw.own.apart s.zrow (by decide)
  have hown := s.own
  have a2 := hown.apart s.zrow (by decide)
  refine ⟨v, v1, s.pw.grown hg (fun e => s.ne (Option.some.inj e)) (fun k hk e => a1 k hk (Option.some.inj e)), hr, ho, hown.grown hg (fun k hk e => a2 k hk (Option.some.inj e)), fun k hk => ?_, fun k hk => ⟨(s.d2 k hk).1, ?_⟩, s.ne⟩
  · rcases hv with rfl | hv
    · exact s.d1 k hk
    · intro h
      have h1 := hv k h
      have h2 := s.pw.own.lt k hk
      omega
  · rcases hv with rfl | hv
    · exact (s.d2 k hk).2
    · intro h
      have h1 := hv k h
      have h2 := hown.lt k hk
      omega
/-- a call of both -/
theorem WI.both {B p z : Nat} {vo : Value} {l l3 m : List Nat} {lost lost3 : Bool} {w W : World} {f g : FuncId} {xs ys : Array Value} (s : WI B p z vo l m lost W) (hb : Below w.heap.size w W) (hB : B = w.heap.size) (hp : w.heap.size ≤ p) (hz : w.heap.size ≤ z)
    (h1 : ∀ v, PW B p v l lost W → (∀ k, vo.ownBlock = some k → k ≠ p ∧ v.ownBlock ≠ some k) → Own W B vo m → Calls Try.prog f xs W (PCall B p v l3 lost3 W))
    (h2 : ∀ X, Below w.heap.size w X → ZW B z l lost X → Calls Try.prog g ys X (ZCallN B z l3 lost3 X)) :
    Calls Try.prog f xs W fun e X => e = .returned undef ∧ Below w.heap.size w X ∧ (∀ q cs t fr, W.heap[q]? = some (.cells cs t fr) → t ≠ 5 → q ≠ p → X.heap[q]? = some (.cells cs t fr)) ∧
      Calls Try.prog g ys X fun e Y => e = .returned undef ∧ WI B p z vo l3 m lost3 Y ∧ Below w.heap.size w Y ∧ (∀ q cs t fr, W.heap[q]? = some (.cells cs t fr) → t ≠ 5 → q ≠ p → q ≠ z → Y.heap[q]? = some (.cells cs t fr)) := by
  obtain ⟨v, vz, s⟩ := s
  have hown := s.own
  have a2 := hown.apart s.pw.row (by decide)
  refine (h1 v s.pw (fun k hk => ⟨a2 k hk, (s.d2 k hk).1⟩) s.own).mono ?_
  intro e X hX
  have s2 := s.one hX
  obtain ⟨he, v', hp', t⟩ := hX
  have hbX : Below w.heap.size w X := t.below hb hp (hB ▸ s.pw)
  obtain ⟨v2, vz2, s2⟩ := s2
  have kx : ∀ q cs t fr, W.heap[q]? = some (.cells cs t fr) → t ≠ 5 → q ≠ p → X.heap[q]? = some (.cells cs t fr) := fun q cs ty fr hq ht hqp => by
    rw [t.block q (Array.getElem?_eq_some_iff.1 hq).1 hqp (fun h => s.pw.own.apart hq ht q h rfl)]
    exact hq
  refine ⟨he, hbX, kx, (h2 X hbX ⟨vz2, s2.zrow, s2.zown⟩).mono ?_⟩
  intro e Y hY
  have s3 := s2.two hY
  obtain ⟨he, _, hg, _⟩ := hY
  refine ⟨he, s3, hbX.grown hg hbX.size (fun k hk => by cases hk; exact hz), fun q cs ty fr hq ht hqp hqz => ?_⟩
  have hx := kx q cs ty fr hq ht hqp
  rw [hg.block q (Array.getElem?_eq_some_iff.1 hx).1 (fun e => hqz (Option.some.inj e))]
  exact hx
/-- bytes that may be written -/
def Row8 (W : World) (o : Option Addr) (n : Nat) : Prop := ∀ i, i < n → ∃ g, o = some ⟨g, 0, none⟩ ∧ (∃ y : Int, W.cell? ⟨g, i, none⟩ = some (.int .u8 y)) ∧ W.frozen? ⟨g, i, none⟩ = false
theorem Own.row8 {W : World} {B : Nat} {o : Option Addr} {n cap : Nat} {l : List Nat} (hn : l.length = n) (s : Own W B (.slice o n cap) l) : Row8 W o n := by
  intro i hi
  obtain ⟨o2, cap2, e, hb, _, _, _, hf⟩ := s.open
  cases e
  obtain ⟨b, off, e2, hc⟩ := hb i (by omega)
  obtain ⟨g, e3, _, _, hf2⟩ := hf _ e2
  cases e3
  rw [Nat.zero_add] at hc
  exact ⟨b, e2, ⟨_, hc⟩, hf2 i⟩
theorem Row8.set {W : World} {g n j : Nat} (y : Int) (h : Row8 W (some ⟨g, 0, none⟩) n) : Row8 (W.setCell ⟨g, j, none⟩ (.int .u8 y)) (some ⟨g, 0, none⟩) n := by
  intro i hi
  obtain ⟨g2, e, ⟨x, hx⟩, hf⟩ := h i hi
  cases e
  refine ⟨g, rfl, ?_, by rw [World.frozen?_setCell]; exact hf⟩
  by_cases hij : i = j
  · subst hij
    exact ⟨y, World.cell?_setCell_same' _ _ _ (by rw [hx]; rfl)⟩
  · refine ⟨x, ?_⟩
    rw [World.cell?_setCell_other]
    · exact hx
    · intro e
      cases e
      exact hij rfl
theorem TW.away {B p z : Nat} {v vz vo : Value} {l m : List Nat} {lost : Bool} {W X : World} {g : Option Nat} (s : TW B p z v vz vo l l m lost lost W) (hg : W.grownBy X g) (h : ∀ k, g = some k → k ≠ p ∧ k ≠ z ∧ v.ownBlock ≠ some k ∧ vz.ownBlock ≠ some k) : TW B p z v vz (.slice none 0 0) l l [] lost lost X := by
  refine ⟨s.pw.grown hg (fun e => (h p e.symm).1 rfl) (fun k hk e => (h k e.symm).2.2.1 hk), ?_, s.zown.grown hg (fun k hk e => (h k e.symm).2.2.2 hk), World.ownsRow_nil _ _ _ _, s.d1, (fun k hk => by cases hk), s.ne⟩
  rw [hg.block z (Array.getElem?_eq_some_iff.1 s.zrow).1 (fun e => (h z e.symm).2.1 rfl)]
  exact s.zrow
/-- bytes made meanwhile -/
theorem TW.take {B p z : Nat} {v vz vo : Value} {l m : List Nat} {lost : Bool} {W X : World} (s : TW B p z v vz (.slice none 0 0) l l [] lost lost W) (hB : B ≤ W.heap.size) (hb : Below W.heap.size W X) (ho : Own X W.heap.size vo m) : TW B p z v vz vo l l m lost lost X :=
  ⟨s.pw.below hb, keep_row hb s.zrow, s.zown.below hb, ho.mono hB, s.d1, fun k hk => ⟨fun h => by have h1 := s.pw.own.lt k h; have h2 := ho.blk k hk; omega, fun h => by have h1 := s.zown.lt k h; have h2 := ho.blk k hk; omega⟩, s.ne⟩
theorem Row8.grown {W X : World} {o : Option Addr} {n : Nat} {row : Option Nat} (h : Row8 W o n) (hg : W.grownBy X row) (hr : ∀ g, o = some ⟨g, 0, none⟩ → 0 < n → some g ≠ row) : Row8 X o n := by
  intro i hi
  obtain ⟨g, e, ⟨y, hy⟩, hf⟩ := h i hi
  have hne := hr g e (by omega)
  refine ⟨g, e, ⟨y, hg.cell hy hne⟩, ?_⟩
  have hlt := block_lt_of_cell hy
  have hb := hg.block g hlt hne
  simp only [World.frozen?, hb] at hf ⊢
  exact hf
theorem Row8.below {W X : World} {o : Option Addr} {n : Nat} (h : Row8 W o n) (hb : Below W.heap.size W X) : Row8 X o n := h.grown (below_grown hb none) (fun g _ _ h => by cases h)
theorem grown_trans {w w1 w2 : World} {g : Option Nat} (h : w.grownBy w1 g) (k : w1.grownBy w2 g) : w.grownBy w2 g := h.trans k
end Go.Proofs.Ytpbidfmijliehaa.Fx
