import Derived.Laws.Rows
import Derived.RangeFuncNested
import Derived.RangeFuncBound
import Derived.RangeFuncCalls
import Derived.RangeFuncLeaves
import Derived.WalkKit
import Derived.Test.YtbbhmhihpdmoiaaGreatProg
import Derived.Lib.Hide
import Derived.Outline
import Derived.Deep.LoopGhost
import Derived.Deep.QuietTactic
import Derived.BigQuiet
import Derived.Deep.WholeRow
import Derived.Laws.ResultCell
import Derived.Laws.Cover3
import Derived.Laws.OwnMore
import Derived.Laws.BytesString
import Derived.Lib.ConvBytes
import Derived.Lib.SmallJoins
import Derived.ProofKit
set_option linter.unusedVariables false
namespace Go.Proofs.YtbbhmhihpdmoiaaGreat.Fx
open Go Go.RowKit
variable {F : Fence} {n : Nat} {P : Program}
structure Kept (B : Nat) (W W' : World) : Prop where
 os : W'.os = W.os
 tape : W'.tape = W.tape
 output : W'.output = W.output
 size : W.heap.size ≤ W'.heap.size
 block : ∀ k o, W.heap[k]? = some o → (k < B ∨ o.isCells = true) → W'.heap[k]? = some o
theorem Kept.of_below {B : Nat} {W W' : World} (h : Below W.heap.size W W') : Kept B W W' :=
 ⟨h.os, h.tape, h.output, h.size, fun k o hk _ => by rw [h.block k (Array.getElem?_eq_some_iff.1 hk).1]; exact hk⟩
theorem Kept.putObj {B l : Nat} {W : World} {o : Obj} (o' : Obj) (hB : B ≤ l) (hl : W.heap[l]? = some o) (ho : o.isCells = false) : Kept B W (W.putObj l o') :=
 ⟨rfl, rfl, rfl, by simp, fun k o1 hk hc => by
  by_cases e : k = l
  ·subst e
   rw [hl] at hk
   cases hk
   rcases hc with hc | hc
   ·omega
   ·rw [ho] at hc; cases hc
  ·exact (World.putObj_heap_other e).trans hk⟩
theorem Kept.below {B : Nat} {w W W' : World} (k : Kept B W W') (hB : w.heap.size ≤ B) (h : Below w.heap.size w W) : Below w.heap.size w W' :=
 ⟨k.os.trans h.os, k.tape.trans h.tape, k.output.trans h.output, Nat.le_trans h.size k.size, fun i hi => by
  have h1 := h.block i hi
  rw [Array.getElem?_eq_getElem hi] at h1 ⊢
  exact k.block i _ h1 (.inl (by omega))⟩
theorem Kept.cells {B : Nat} {W W' : World} (k : Kept B W W') {g : Nat} {c : Array Value} {t : TypeId} {f : Nat × Nat} (h : W.heap[g]? = some (.cells c t f)) : W'.heap[g]? = some (.cells c t f) := k.block g _ h (.inr rfl)
def Hands (F : Fence) (n : Nat) (P : Program) (gf : Nat) (lb : Array Value) (elem : Nat → Array Value) (N : Nat) (M : World → Prop) : Prop :=
 ∀ (l : Nat) (J : Nat → World → Prop) (Jx : World → Prop) (W : World),
  (∀ k W W', J k W → Below W.heap.size W W' → J k W') → (∀ W W', Jx W → Below W.heap.size W W' → Jx W') → (∀ k W, J k W → M W) → (∀ W, Jx W → M W) →
  (∀ k W1, k < N → J k W1 → YieldAt F (n - 1) P l (elem k) W1 fun e W' => (e = .returned (.bool true) ∧ J (k + 1) W') ∨ (e = .returned (.bool false) ∧ Jx W')) →
  J 0 W → CallsIn F n P gf (#[.func (.yield l) #[] #[]] ++ lb) W fun e W' => (∃ v, e = .returned v) ∧ (J N W' ∨ Jx W')
def upPost (B c0 : Nat) (I' Ix : World → Prop) (W : World) : Exit → Act → World → Prop
 | .normal, _, W' => KeepsFrom B W W' ∧ I' W'
 | .exit c, _, W' => c = c0 ∧ KeepsFrom B W W' ∧ Ix W'
 | _, _, _ => False
theorem wpIn_range_num {g : Operand} {ps : Array Tmp} {assign body : Code} {Q : Exit → Act → World → Prop} {a : Act} {w : World}
  (hro : F.round = none) (h1 : 1 ≤ n) {gf : Nat} {lb : Array Value} (hg : a.eval g = .func (.func gf) #[] lb) (hFg : F.fn gf) (eg : ∀ args w, (callFunc gf args).run P w = .ok (.enter gf args) w)
  {elem : Nat → Array Value} {N : Nat} {M : World → Prop} (hseq : Hands F (n - 1) P gf lb elem N M) (hps : ∀ k, (elem k).size = ps.size)
  (c0 : Nat) (I : Nat → World → Prop) (Ix : World → Prop) (Ax : Nat → Act → World → Prop)
  (hI : ∀ k W W', I k W → Kept w.heap.size W W' → I k W') (hIx : ∀ W W', Ix W → Kept w.heap.size W W' → Ix W') (hAx : ∀ k a W W', Ax k a W → Kept w.heap.size W W' → Ax k a W')
  (hIM : ∀ k W, I k W → M W) (hIxM : ∀ W, Ix W → M W) (h0 : I 0 w)
  (hassign : ∀ (l k : Nat) (W : World) (C : Act → World → Prop), k < N → I k W → (∀ a' W', KeepsFrom w.heap.size W W' → Ax k a' W' → C a' W') →
   assign.wpIn (F.inRound l) (n - 1 - 1) P (Exit.then C (fun _ _ _ => False)) { tmps := (ps.zip (elem k)).foldl (fun t (p, v) => t.setIfInBounds p v) a.tmps, defers := [] } W)
  (hbody : ∀ (l k : Nat) (a' : Act) (W : World), k < N → Ax k a' W → body.wpIn (F.inRound l) (n - 1 - 1) P (upPost w.heap.size c0 (I (k + 1)) Ix W) a' W)
  (hdone : ∀ (D : Nat) (W : World), w.heap.size ≤ D → I N W → W.heap[D]? = some (.deferred (some [])) → Q .normal { a with defers := { target := .collected D, args := #[] } :: a.defers } W)
  (hstop : ∀ (D : Nat) (W : World), w.heap.size ≤ D → Ix W → W.heap[D]? = some (.deferred (some [])) → (Code.exit c0).wpIn F n P Q { a with defers := { target := .collected D, args := #[] } :: a.defers } W) :
  (Code.rangeFunc g ps assign body).wpIn F n P Q a w := by
 refine wpIn_rangeFunc fun fn hfn => ?_
 rw [hro]
 obtain ⟨rc, hrc⟩ : ∃ rc : LoopState → Option Code → Loop, rc = fun st pe => { state := st, pending := pe, fn, tmps := a.tmps, params := ps, assign, body, defers := w.heap.size } := ⟨_, rfl⟩
 obtain ⟨V, hV⟩ : ∃ V, (w.alloc (.deferred (some []))).alloc (.loop (rc .ready none)) = V := ⟨_, rfl⟩
 have vL : V.heap[w.heap.size + 1]? = some (.loop (rc .ready none)) := by
  have := World.alloc_heap_new (w.alloc (.deferred (some []))) (.loop (rc .ready none))
  rw [World.size_alloc, hV] at this
  exact this
 have vD : V.heap[w.heap.size]? = some (.deferred (some [])) := by
  rw [← hV]
  exact (Below.heap_alloc _ _ _ (by simp)).trans (World.alloc_heap_new w _)
 have vB : Below w.heap.size w V := by rw [← hV]; exact ((Below.refl _ w).alloc (Nat.le_refl _) _).alloc (by simp) _
 have vI : I 0 V := hI _ _ _ h0 (Kept.of_below vB)
 refine ⟨w.heap.size + 1, [{ target := .collected w.heap.size, args := #[] }], V, { target := .fn (.func gf) lb, args := #[.func (.yield (w.heap.size + 1)) #[] #[]] }, V, gf, #[.func (.yield (w.heap.size + 1)) #[] #[]] ++ lb, V, ?_, ?_, ?_, ?_, fun _ => h1, ?_⟩
 ·rw [← hV, hrc]; exact run_enterLoop_outer _ _ _ _ _
 ·simp only [resolve, hg]
  simp [go_sem]
 ·intro f' hf'
  simp [Target.leads] at hf'
  subst hf'
  exact hFg
 ·simp [invoke, go_sem, eg]
 have stay : ∀ {X : World} {W W' : World} {k : Nat} {o : Obj}, W.heap[k]? = some o → Below W.heap.size W W' → W'.heap[k]? = some o := fun hk hb => by
  rw [hb.block _ (Array.getElem?_eq_some_iff.1 hk).1]; exact hk
 refine (hseq (w.heap.size + 1)
  (fun k W => I k W ∧ W.heap[w.heap.size + 1]? = some (.loop (rc .ready none)) ∧ W.heap[w.heap.size]? = some (.deferred (some [])))
  (fun W => Ix W ∧ W.heap[w.heap.size + 1]? = some (.loop (rc .done (some (.exit c0)))) ∧ W.heap[w.heap.size]? = some (.deferred (some [])))
  V (fun k W W' h hb => ⟨hI _ _ _ h.1 (Kept.of_below hb), stay (X := W) h.2.1 hb, stay (X := W) h.2.2 hb⟩) (fun W W' h hb => ⟨hIx _ _ h.1 (Kept.of_below hb), stay (X := W) h.2.1 hb, stay (X := W) h.2.2 hb⟩)
  (fun k W h => hIM k W h.1) (fun W h => hIxM W h.1) ?round ⟨vI, vL, vD⟩).mono ?behind
 case round =>
  rintro k W hkN ⟨hi, hl, hd⟩
  have hlt : w.heap.size + 1 < W.heap.size := (Array.getElem?_eq_some_iff.1 hl).1
  have hy := run_yield (P := P) (args := elem k) hl (by rw [hrc]; exact hps k)
  rw [hrc] at hy
  refine ⟨fn, _, assign, body, hy, roundIn_of_wpIn hfn (hassign _ k W _ hkN hi ?_)⟩
  intro a' W' hkf hax
  have wL := hkf.same _ _ (by omega) hl rfl
  have wD := hkf.same _ _ (Nat.le_refl _) hd rfl
  refine ⟨_, run_beginRound wL (by rw [hrc]), ?_⟩
  obtain ⟨U, hU⟩ : ∃ U, W'.putObj (w.heap.size + 1) (.loop { rc .ready none with state := .busy }) = U := ⟨_, rfl⟩
  have hlt' : w.heap.size + 1 < W'.heap.size := (Array.getElem?_eq_some_iff.1 wL).1
  have uL : U.heap[w.heap.size + 1]? = some (.loop { rc .ready none with state := .busy }) := by rw [← hU]; exact World.putObj_heap_same hlt'
  have uD : U.heap[w.heap.size]? = some (.deferred (some [])) := by rw [← hU]; exact (World.putObj_heap_other (by omega)).trans wD
  have uA : Ax k a' U := by rw [← hU]; exact hAx _ _ _ _ hax (Kept.putObj _ (by omega) wL rfl)
  rw [hU]
  refine wpIn_mono (hbody _ k a' U hkN uA) ?_
  have ends : ∀ (jump : Option Code) (X : World), KeepsFrom w.heap.size U X → X.heap[w.heap.size + 1]? = some (.loop { rc .ready none with state := .busy }) ∧
    (Instr.endRound (w.heap.size + 1) jump).run P X = .ok (.bool jump.isNone) (X.putObj (w.heap.size + 1) (.loop (rc (if jump.isNone then .ready else .done) jump))) ∧
    (X.putObj (w.heap.size + 1) (.loop (rc (if jump.isNone then .ready else .done) jump))).heap[w.heap.size + 1]? = some (.loop (rc (if jump.isNone then .ready else .done) jump)) ∧
    (X.putObj (w.heap.size + 1) (.loop (rc (if jump.isNone then .ready else .done) jump))).heap[w.heap.size]? = some (.deferred (some [])) := by
   intro jump X hX
   have xL := hX.same _ _ (by omega) uL rfl
   have xr := run_endRound (P := P) jump xL
   have xs := World.putObj_heap_same (o := .loop (rc (if jump.isNone then .ready else .done) jump)) (Array.getElem?_eq_some_iff.1 xL).1
   have xd := (World.putObj_heap_other (o := .loop (rc (if jump.isNone then .ready else .done) jump)) (show w.heap.size ≠ w.heap.size + 1 by omega)).trans (hX.same _ _ (Nat.le_refl _) uD rfl)
   refine ⟨xL, ?_, xs, xd⟩
   rw [hrc] at xr ⊢
   exact xr
  intro e b X hp
  match e, hp with
  | .normal, hp =>
   obtain ⟨hk, hi2⟩ := hp
   obtain ⟨xL, r, s, d⟩ := ends none X hk
   exact ⟨_, _, r, .inl ⟨rfl, hI _ _ _ hi2 (Kept.putObj _ (by omega) xL rfl), s, d⟩⟩
  | .exit c, hp =>
   obtain ⟨rfl, hk, hx⟩ := hp
   obtain ⟨xL, r, s, d⟩ := ends (some (.exit c)) X hk
   exact ⟨_, _, r, .inr ⟨rfl, hIx _ _ hx (Kept.putObj _ (by omega) xL rfl), s, d⟩⟩
 case behind =>
  rintro e X ⟨⟨v, rfl⟩, ⟨hi, hl, hd⟩ | ⟨hx, hl, hd⟩⟩
  ·have h := run_endLoop (P := P) hl (by rw [hrc]; simp)
   rw [hrc] at h
   exact ⟨none, _, h, hdone _ _ (Nat.le_refl _) (hI _ _ _ hi (Kept.putObj _ (by omega) hl rfl)) ((World.putObj_heap_other (by omega)).trans hd)⟩
  ·have h := run_endLoop (P := P) hl (by rw [hrc]; simp)
   rw [hrc] at h
   exact ⟨some (.exit c0), _, h, hstop _ _ (Nat.le_refl _) (hIx _ _ hx (Kept.putObj _ (by omega) hl rfl)) ((World.putObj_heap_other (by omega)).trans hd)⟩
end Go.Proofs.YtbbhmhihpdmoiaaGreat.Fx
set_option linter.unusedVariables false
namespace Go.Proofs.YtbbhmhihpdmoiaaGreat.Fx
open Go Go.RowKit
variable {F : Fence} {n : Nat} {P : Program}
def upPostJ (B : Nat) (cj : Code) (I' Ix : World → Prop) (W : World) : Exit → Act → World → Prop
 | .normal, _, W' => KeepsFrom B W W' ∧ I' W'
 | .exit c, _, W' => cj = .exit c ∧ KeepsFrom B W W' ∧ Ix W'
 | .ret, _, W' => cj = .ret ∧ KeepsFrom B W W' ∧ Ix W'
 | _, _, _ => False
theorem wpIn_range_jump {g : Operand} {ps : Array Tmp} {assign body : Code} {Q : Exit → Act → World → Prop} {a : Act} {w : World}
  (hro : F.round = none) (h1 : 1 ≤ n) {gf : Nat} {lb : Array Value} (hg : a.eval g = .func (.func gf) #[] lb) (hFg : F.fn gf) (eg : ∀ args w, (callFunc gf args).run P w = .ok (.enter gf args) w)
  {elem : Nat → Array Value} {N : Nat} {M : World → Prop} (hseq : Hands F (n - 1) P gf lb elem N M) (hps : ∀ k, (elem k).size = ps.size)
  (cj : Code) (I : Nat → World → Prop) (Ix : World → Prop) (Ax : Nat → Act → World → Prop)
  (hI : ∀ k W W', I k W → Kept w.heap.size W W' → I k W') (hIx : ∀ W W', Ix W → Kept w.heap.size W W' → Ix W') (hAx : ∀ k a W W', Ax k a W → Kept w.heap.size W W' → Ax k a W')
  (hIM : ∀ k W, I k W → M W) (hIxM : ∀ W, Ix W → M W) (h0 : I 0 w)
  (hassign : ∀ (l k : Nat) (W : World) (C : Act → World → Prop), k < N → I k W → (∀ a' W', KeepsFrom w.heap.size W W' → Ax k a' W' → C a' W') →
   assign.wpIn (F.inRound l) (n - 1 - 1) P (Exit.then C (fun _ _ _ => False)) { tmps := (ps.zip (elem k)).foldl (fun t (p, v) => t.setIfInBounds p v) a.tmps, defers := [] } W)
  (hbody : ∀ (l k : Nat) (a' : Act) (W : World), k < N → Ax k a' W → body.wpIn (F.inRound l) (n - 1 - 1) P (upPostJ w.heap.size cj (I (k + 1)) Ix W) a' W)
  (hdone : ∀ (D : Nat) (W : World), w.heap.size ≤ D → I N W → W.heap[D]? = some (.deferred (some [])) → Q .normal { a with defers := { target := .collected D, args := #[] } :: a.defers } W)
  (hstop : ∀ (D : Nat) (W : World), w.heap.size ≤ D → Ix W → W.heap[D]? = some (.deferred (some [])) → cj.wpIn F n P Q { a with defers := { target := .collected D, args := #[] } :: a.defers } W) :
  (Code.rangeFunc g ps assign body).wpIn F n P Q a w := by
 refine wpIn_rangeFunc fun fn hfn => ?_
 rw [hro]
 obtain ⟨rc, hrc⟩ : ∃ rc : LoopState → Option Code → Loop, rc = fun st pe => { state := st, pending := pe, fn, tmps := a.tmps, params := ps, assign, body, defers := w.heap.size } := ⟨_, rfl⟩
 obtain ⟨V, hV⟩ : ∃ V, (w.alloc (.deferred (some []))).alloc (.loop (rc .ready none)) = V := ⟨_, rfl⟩
 have vL : V.heap[w.heap.size + 1]? = some (.loop (rc .ready none)) := by
  have := World.alloc_heap_new (w.alloc (.deferred (some []))) (.loop (rc .ready none))
  rw [World.size_alloc, hV] at this
  exact this
 have vD : V.heap[w.heap.size]? = some (.deferred (some [])) := by
  rw [← hV]
  exact (Below.heap_alloc _ _ _ (by simp)).trans (World.alloc_heap_new w _)
 have vB : Below w.heap.size w V := by rw [← hV]; exact ((Below.refl _ w).alloc (Nat.le_refl _) _).alloc (by simp) _
 have vI : I 0 V := hI _ _ _ h0 (Kept.of_below vB)
 refine ⟨w.heap.size + 1, [{ target := .collected w.heap.size, args := #[] }], V, { target := .fn (.func gf) lb, args := #[.func (.yield (w.heap.size + 1)) #[] #[]] }, V, gf, #[.func (.yield (w.heap.size + 1)) #[] #[]] ++ lb, V, ?_, ?_, ?_, ?_, fun _ => h1, ?_⟩
 ·rw [← hV, hrc]; exact run_enterLoop_outer _ _ _ _ _
 ·simp only [resolve, hg]
  simp [go_sem]
 ·intro f' hf'
  simp [Target.leads] at hf'
  subst hf'
  exact hFg
 ·simp [invoke, go_sem, eg]
 have stay : ∀ {X : World} {W W' : World} {k : Nat} {o : Obj}, W.heap[k]? = some o → Below W.heap.size W W' → W'.heap[k]? = some o := fun hk hb => by
  rw [hb.block _ (Array.getElem?_eq_some_iff.1 hk).1]; exact hk
 refine (hseq (w.heap.size + 1)
  (fun k W => I k W ∧ W.heap[w.heap.size + 1]? = some (.loop (rc .ready none)) ∧ W.heap[w.heap.size]? = some (.deferred (some [])))
  (fun W => Ix W ∧ W.heap[w.heap.size + 1]? = some (.loop (rc .done (some cj))) ∧ W.heap[w.heap.size]? = some (.deferred (some [])))
  V (fun k W W' h hb => ⟨hI _ _ _ h.1 (Kept.of_below hb), stay (X := W) h.2.1 hb, stay (X := W) h.2.2 hb⟩) (fun W W' h hb => ⟨hIx _ _ h.1 (Kept.of_below hb), stay (X := W) h.2.1 hb, stay (X := W) h.2.2 hb⟩)
  (fun k W h => hIM k W h.1) (fun W h => hIxM W h.1) ?round ⟨vI, vL, vD⟩).mono ?behind
 case round =>
  rintro k W hkN ⟨hi, hl, hd⟩
  have hlt : w.heap.size + 1 < W.heap.size := (Array.getElem?_eq_some_iff.1 hl).1
  have hy := run_yield (P := P) (args := elem k) hl (by rw [hrc]; exact hps k)
  rw [hrc] at hy
  refine ⟨fn, _, assign, body, hy, roundIn_of_wpIn hfn (hassign _ k W _ hkN hi ?_)⟩
  intro a' W' hkf hax
  have wL := hkf.same _ _ (by omega) hl rfl
  have wD := hkf.same _ _ (Nat.le_refl _) hd rfl
  refine ⟨_, run_beginRound wL (by rw [hrc]), ?_⟩
  obtain ⟨U, hU⟩ : ∃ U, W'.putObj (w.heap.size + 1) (.loop { rc .ready none with state := .busy }) = U := ⟨_, rfl⟩
  have hlt' : w.heap.size + 1 < W'.heap.size := (Array.getElem?_eq_some_iff.1 wL).1
  have uL : U.heap[w.heap.size + 1]? = some (.loop { rc .ready none with state := .busy }) := by rw [← hU]; exact World.putObj_heap_same hlt'
  have uD : U.heap[w.heap.size]? = some (.deferred (some [])) := by rw [← hU]; exact (World.putObj_heap_other (by omega)).trans wD
  have uA : Ax k a' U := by rw [← hU]; exact hAx _ _ _ _ hax (Kept.putObj _ (by omega) wL rfl)
  rw [hU]
  refine wpIn_mono (hbody _ k a' U hkN uA) ?_
  have ends : ∀ (jump : Option Code) (X : World), KeepsFrom w.heap.size U X → X.heap[w.heap.size + 1]? = some (.loop { rc .ready none with state := .busy }) ∧
    (Instr.endRound (w.heap.size + 1) jump).run P X = .ok (.bool jump.isNone) (X.putObj (w.heap.size + 1) (.loop (rc (if jump.isNone then .ready else .done) jump))) ∧
    (X.putObj (w.heap.size + 1) (.loop (rc (if jump.isNone then .ready else .done) jump))).heap[w.heap.size + 1]? = some (.loop (rc (if jump.isNone then .ready else .done) jump)) ∧
    (X.putObj (w.heap.size + 1) (.loop (rc (if jump.isNone then .ready else .done) jump))).heap[w.heap.size]? = some (.deferred (some [])) := by
   intro jump X hX
   have xL := hX.same _ _ (by omega) uL rfl
   have xr := run_endRound (P := P) jump xL
   have xs := World.putObj_heap_same (o := .loop (rc (if jump.isNone then .ready else .done) jump)) (Array.getElem?_eq_some_iff.1 xL).1
   have xd := (World.putObj_heap_other (o := .loop (rc (if jump.isNone then .ready else .done) jump)) (show w.heap.size ≠ w.heap.size + 1 by omega)).trans (hX.same _ _ (Nat.le_refl _) uD rfl)
   refine ⟨xL, ?_, xs, xd⟩
   rw [hrc] at xr ⊢
   exact xr
  intro e b X hp
  match e, hp with
  | .normal, hp =>
   obtain ⟨hk, hi2⟩ := hp
   obtain ⟨xL, r, s, d⟩ := ends none X hk
   exact ⟨_, _, r, .inl ⟨rfl, hI _ _ _ hi2 (Kept.putObj _ (by omega) xL rfl), s, d⟩⟩
  | .exit c, hp =>
   obtain ⟨rfl, hk, hx⟩ := hp
   obtain ⟨xL, r, s, d⟩ := ends (some (.exit c)) X hk
   exact ⟨_, _, r, .inr ⟨rfl, hIx _ _ hx (Kept.putObj _ (by omega) xL rfl), s, d⟩⟩
  | .ret, hp =>
   obtain ⟨rfl, hk, hx⟩ := hp
   obtain ⟨xL, r, s, d⟩ := ends (some .ret) X hk
   exact ⟨_, _, r, .inr ⟨rfl, hIx _ _ hx (Kept.putObj _ (by omega) xL rfl), s, d⟩⟩
 case behind =>
  rintro e X ⟨⟨v, rfl⟩, ⟨hi, hl, hd⟩ | ⟨hx, hl, hd⟩⟩
  ·have h := run_endLoop (P := P) hl (by rw [hrc]; simp)
   rw [hrc] at h
   exact ⟨none, _, h, hdone _ _ (Nat.le_refl _) (hI _ _ _ hi (Kept.putObj _ (by omega) hl rfl)) ((World.putObj_heap_other (by omega)).trans hd)⟩
  ·have h := run_endLoop (P := P) hl (by rw [hrc]; simp)
   rw [hrc] at h
   exact ⟨some cj, _, h, hstop _ _ (Nat.le_refl _) (hIx _ _ hx (Kept.putObj _ (by omega) hl rfl)) ((World.putObj_heap_other (by omega)).trans hd)⟩
end Go.Proofs.YtbbhmhihpdmoiaaGreat.Fx

set_option linter.unusedVariables false
set_option linter.unusedSimpArgs false
namespace Go.Proofs.YtbbhmhihpdmoiaaGreat.Pk
open Go Go.RowKit
theorem bdrew {B : Nat} {w w' : World} (n : Nat) (h : Below B (w.drewN n) w') : Below B w w' := ⟨h.os, h.tape, h.output, h.size, h.block⟩
theorem bdrew0 (B : Nat) (w : World) (n : Nat) : Below B w (w.drewN n) := bdrew n (Below.refl _ _)
theorem bdrewN {B : Nat} {a w : World} (n : Nat) (h : Below B a w) : Below B a (w.drewN n) := ⟨h.os, h.tape, h.output, h.size, h.block⟩
theorem bnext {w W1 W2 : World} (h : Below w.heap.size w W1) (k : Below W1.heap.size W1 W2) : Below w.heap.size w W2 := h.trans (k.mono h.size)
theorem keep_cell {w w' : World} {a : Addr} {v : Value} (hb : Below w.heap.size w w') (h : w.cell? a = some v) : w'.cell? a = some v := by
 rw [hb.cell]
 ·exact h
 ·exact block_lt_of_cell h
theorem keep_free {w w' : World} {b o : Nat} (hb : Below w.heap.size w w') (hs : b < w.heap.size) (h : w.frozen? ⟨b, o, none⟩ = false) : w'.frozen? ⟨b, o, none⟩ = false := by
 rw [hb.frozen (p := ⟨b, o, none⟩) hs]
 exact h
theorem keep_row {w w' : World} {b : Nat} {o : Obj} (hb : Below w.heap.size w w') (h : w.heap[b]? = some o) : w'.heap[b]? = some o := by
 rw [hb.block _ (Array.getElem?_eq_some_iff.1 h).1]; exact h
theorem frozen_row {w : World} {g j : Nat} {cs : Array Value} {t : TypeId} (hg : w.heap[g]? = some (.cells cs t (0, 0))) : w.frozen? ⟨g, j, none⟩ = false := by
 simp [World.frozen?, hg]
theorem step_row {w : World} {o : Obj} {b : Nat} {x : Obj} (h : w.heap[b]? = some x) : (w.alloc o).heap[b]? = some x := by
 rw [heap_alloc_old _ _ (Array.getElem?_eq_some_iff.1 h).1]
 exact h
theorem block3s (w : World) (A B C : Obj) : (((w.alloc A).alloc B).alloc C).heap[w.heap.size]? = some A ∧ (((w.alloc A).alloc B).alloc C).heap[w.heap.size + 1]? = some B ∧ (((w.alloc A).alloc B).alloc C).heap[w.heap.size + 1 + 1]? = some C := by
 have h0 := heap_alloc_new w A
 have h1 := heap_alloc_new (w.alloc A) B
 have h2 := heap_alloc_new ((w.alloc A).alloc B) C
 simp only [World.size_alloc] at h1 h2
 exact ⟨step_row (step_row h0), step_row h1, h2⟩
def Bs (W : World) (o : Option Addr) (l : List Nat) : Prop :=
 ∀ j, j < l.length → ∃ b off, o = some ⟨b, off, none⟩ ∧ W.cell? ⟨b, off + j, none⟩ = some (.int .u8 ((l.getD j 0 : Nat) : Int))
theorem Bs.below {w W : World} (h : Below w.heap.size w W) {o : Option Addr} {l : List Nat} (s : Bs w o l) : Bs W o l := fun j hj => by
 obtain ⟨b, off, e, hc⟩ := s j hj
 exact ⟨b, off, e, keep_cell h hc⟩
def By (l : List Nat) : Prop := ∀ c ∈ l, c < 256
theorem By.get {l : List Nat} (h : By l) (k : Nat) : l.getD k 0 < 256 := by
 by_cases hk : k < l.length
 ·have : l.getD k 0 = l[k] := by simp [List.getD, hk]
  rw [this]
  exact h _ (List.getElem_mem hk)
 ·simp [List.getD, hk]
theorem By.take {l : List Nat} (h : By l) (k : Nat) : By (l.take k) := fun c hc => h c (List.mem_of_mem_take hc)
theorem By.drop {l : List Nat} (h : By l) (k : Nat) : By (l.drop k) := fun c hc => h c (List.mem_of_mem_drop hc)
theorem By.append {l m : List Nat} (h : By l) (h2 : By m) : By (l ++ m) := fun c hc => (List.mem_append.1 hc).elim (h c) (h2 c)
theorem Bs.take {W : World} {o : Option Addr} {l : List Nat} (h : Bs W o l) (k : Nat) : Bs W o (l.take k) := fun j hj => by
 have hj2 : j < k ∧ j < l.length := by rw [List.length_take] at hj; omega
 obtain ⟨b, off, e, hc⟩ := h j hj2.2
 refine ⟨b, off, e, hc.trans ?_⟩
 simp [List.getD, List.getElem?_take, hj2.1]
theorem Bs.drop {W : World} {b off cap k : Nat} {l : List Nat} (hcap : l.length ≤ cap) (h : Bs W (some ⟨b, off, none⟩) l) : Bs W (if cap = k then some ⟨b, off, none⟩ else some ⟨b, off + k, none⟩) (l.drop k) := fun j hj => by
 rw [List.length_drop] at hj
 rw [if_neg (by omega)]
 obtain ⟨b', off', e, hc⟩ := h (k + j) (by omega)
 cases e
 refine ⟨b, off + k, rfl, ?_⟩
 rw [show off + k + j = off + (k + j) by omega, hc]
 simp [List.getD]
theorem Bs.nought {W : World} {o : Option Addr} : Bs W o [] := fun j hj => absurd hj (by simp)
def bR (l : List Nat) : Array Value := (l.map fun x : Nat => Value.int .u8 (x : Int)).toArray
theorem bR_size (l : List Nat) : (bR l).size = l.length := by simp [bR]
theorem bR_get (l : List Nat) {j : Nat} (h : j < l.length) : (bR l)[j]? = some (.int .u8 ((l.getD j 0 : Nat) : Int)) := by simp [bR, h, List.getD]
theorem Bs.row {W : World} {b : Nat} {l : List Nat} {t : TypeId} {fr : Nat × Nat} (h : W.heap[b]? = some (.cells (bR l) t fr)) : Bs W (some ⟨b, 0, none⟩) l := fun j hj =>
 ⟨b, 0, rfl, by rw [Nat.zero_add, cell_of_row _ _ _ _ _ _ h, bR_get l hj]⟩
theorem By.of {l : List Nat} (h : l.all (fun c => decide (c < 256)) = true) : By l := fun c hc => by
 have := List.all_eq_true.1 h c hc
 simpa using this
def encB (x : Nat) : Value := .int .u8 (x : Int)
def Own (W : World) (B : Nat) (v : Value) (l : List Nat) : Prop := W.ownsRow B 5 1 v l.length (l.map encB)
theorem Own.below {w W : World} {B : Nat} {v : Value} {l : List Nat} (h : Below w.heap.size w W) (s : Own w B v l) : Own W B v l := by
 obtain ⟨h1, h2⟩ := s
 refine ⟨h1, ?_⟩
 rcases h2 with h2 | ⟨g, cap, cur, e, hb, hg, h3⟩
 ·exact Or.inl h2
 ·exact Or.inr ⟨g, cap, cur, e, hb, keep_row h hg, h3⟩
theorem Own.mono {W : World} {B C : Nat} {v : Value} {l : List Nat} (hB : B ≤ C) (s : Own W C v l) : Own W B v l := by
 obtain ⟨h1, h2⟩ := s
 refine ⟨h1, ?_⟩
 rcases h2 with h2 | ⟨g, cap, cur, e, hb, h3⟩
 ·exact Or.inl h2
 ·exact Or.inr ⟨g, cap, cur, e, Nat.le_trans hB hb, h3⟩
theorem Own.open {W : World} {B : Nat} {v : Value} {l : List Nat} (s : Own W B v l) : ∃ o cap, v = .slice o l.length cap ∧ Bs W o l ∧ l.length ≤ cap ∧ cap ≤ 9223372036854775807 ∧ (o = none → cap = 0) ∧ (∀ a, o = some a → ∃ g, a = ⟨g, 0, none⟩ ∧ B ≤ g ∧ g < W.heap.size ∧ ∀ j, W.frozen? ⟨g, j, none⟩ = false) := by
 obtain ⟨h1, h2⟩ := s
 rcases h2 with ⟨rfl, h0⟩ | ⟨g, cap, cur, rfl, hb, hg, hc, hm, hs, ht⟩
 ·have : l = [] := List.length_eq_zero_iff.1 h0
  subst this
  exact ⟨none, 0, rfl, Bs.nought, by simp, by omega, fun _ => rfl, fun a h => by cases h⟩
 ·refine ⟨some ⟨g, 0, none⟩, cap, rfl, fun j hj => ⟨g, 0, rfl, ?_⟩, hc, by unfold maxLen at hm; omega, (fun h => by cases h), fun a h => ⟨g, (Option.some.inj h).symm, hb, (Array.getElem?_eq_some_iff.1 hg).1, fun j => frozen_row hg⟩⟩
  rw [Nat.zero_add, cell_of_row _ _ _ _ _ _ hg]
  have h3 : (cur.toList.take (l.length * 1))[j]? = some (encB (l.getD j 0)) := by rw [ht]; simp [hj, List.getD]
  rw [List.getElem?_take, if_pos (by omega)] at h3
  simpa [encB] using h3
theorem news_of {W : World} {b off : Nat} {l : List Nat} (h : Bs W (some ⟨b, off, none⟩) l) : ∀ j u, (l.map encB)[j]? = some u → W.cell? ((⟨b, off, none⟩ : Addr).add j) = some u := by
 intro j u hu
 have hj : j < l.length := by
  have := (List.getElem?_eq_some_iff.1 hu).1
  simpa using this
 obtain ⟨b', off', e, hc⟩ := h j hj
 cases e
 rw [Addr.add_lit, hc, ← hu]
 simp [hj, encB, List.getD]
theorem news_one (l : List Nat) : ∀ u ∈ l.map encB, u.oneCell' = true := by
 intro u hu
 obtain ⟨x, _, rfl⟩ := List.mem_map.1 hu
 rfl
theorem info5 : (Tryz.prog.info? 5).map (fun i => (i.zero, i.size, i.bytes)) = some (some (.int .u8 0), 1, 1) := by kernel_rfl
theorem run_eql_nil (w : World) (t e : TypeId) (a : Option Addr) (l c : Nat) (h : Tryz.prog.underlying t = some (.slice e)) : (binOp .eql t (.slice a l c) (.slice none 0 0)).run Tryz.prog w = .ok (.bool a.isNone) w := by
 show ((do pure (.bool (← Op.equal t (.slice a l c) (.slice none 0 0)))) : Sem Value).run Tryz.prog w = _
 simp [run_equal_slice_nil w t e a l c h]
theorem bR_one (l : List Nat) : (bR l).all (·.oneCell') = true := by
 simp only [bR, List.all_toArray, List.all_map, List.all_eq_true]
 intro i _
 rfl
def bstr (l : List Nat) : ByteArray := ⟨(l.map UInt8.ofNat).toArray⟩
theorem push_all (l : List Nat) : ∀ (b : ByteArray), (l.map fun x : Nat => (x : Int)).foldl (fun r n => r.push (UInt8.ofNat n.toNat)) b = ⟨b.data ++ (l.map UInt8.ofNat).toArray⟩ := by
 induction l with
 | nil => intro b; simp
 | cons x l ih =>
  intro b
  simp only [List.map_cons, List.foldl_cons]
  rw [ih]
  simp [ByteArray.push]
theorem news_any {W : World} {o : Option Addr} {l : List Nat} (h : Bs W o l) : ∀ ad, o = some ad → ∀ j u, (l.map encB)[j]? = some u → W.cell? (ad.add j) = some u := by
 intro ad e j u hu
 have hj : j < l.length := by
  have := (List.getElem?_eq_some_iff.1 hu).1
  simpa using this
 obtain ⟨b, off, e2, hc⟩ := h j hj
 rw [e] at e2
 cases e2
 rw [Addr.add_lit, hc, ← hu]
 simp [hj, encB, List.getD]
theorem nil_of {W : World} {l : List Nat} (h : Bs W none l) : l = [] := by
 cases l with
 | nil => rfl
 | cons x l => obtain ⟨_, _, e, _⟩ := h 0 (by simp); cases e
theorem conv_bs {W : World} {o : Option Addr} {l : List Nat} {n : Nat} (cap : Nat) (hn : l.length = n) (h : Bs W o l) : (convert 31 9 (.slice o n cap)).run Tryz.prog W = .ok (.string (bstr l)) W := by
 subst hn
 rw [run_convert_bytes_string W _ _ _ _ _ _ Tryz.underlying31 Tryz.underlying5 Tryz.underlying9]
 cases o with
 | none =>
  have : l = [] := by
   cases l with
   | nil => rfl
   | cons x l => obtain ⟨_, _, e, _⟩ := h 0 (by simp); cases e
  subst this
  rfl
 | some a =>
  have hl := run_loadCells_list (P := Tryz.prog) (w := W) a (l.map encB) (news_any h a rfl)
  rw [List.length_map] at hl
  have hm : l.map encB = (l.map fun x : Nat => (x : Int)).map (Value.int .u8) := by simp [encB]
  rw [hm] at hl
  rw [run_bytesToString W _ _ _ _ hl, push_all]
  simp [bstr, ByteArray.empty, ByteArray.emptyWithCapacity]
  rfl
theorem bs_part {W : World} {b off : Nat} {l m : List Nat} (h : Bs W (some ⟨b, off, none⟩) (l ++ m)) : Bs W (some ⟨b, off, none⟩) l := by
 have := h.take l.length
 rwa [List.take_left] at this
theorem bs_at {W : World} {b off : Nat} {l : List Nat} (h : Bs W (some ⟨b, off, none⟩) l) {j : Nat} (hj : j < l.length) : W.cell? ⟨b, off + j, none⟩ = some (.int .u8 ((l.getD j 0 : Nat) : Int)) := by
 obtain ⟨_, _, e, hc⟩ := h j hj
 cases e
 exact hc
theorem lit_row (w : World) (l : List Nat) (C : Array Value) (hC : C = bR l) (fr : Nat × Nat) : Bs (w.alloc (.cells C 5 fr)) (some ⟨w.heap.size, 0, none⟩) l := by
 subst hC
 exact Bs.row (heap_alloc_new w _)
end Go.Proofs.YtbbhmhihpdmoiaaGreat.Pk

set_option linter.unusedVariables false
set_option linter.unusedSimpArgs false
namespace Go.Proofs.YtbbhmhihpdmoiaaGreat.Pk
open Go Go.RowKit
def formF : Nat → Nat → List Nat
 | 0, n => [n]
 | f + 1, n => if n < 128 then [n] else (128 + n % 128) :: formF f (n / 128)
def form (n : Nat) : List Nat := formF 10 n
theorem formF_more : ∀ (f m : Nat), 1 ≤ f → m < 128 ^ f → formF f m = formF (f + 1) m
 | 0, _, h, _ => by omega
 | f + 1, m, _, h => by
  by_cases h1 : m < 128
  ·simp only [formF, if_pos h1]
  ·have e : ∀ g, formF (g + 1) m = (128 + m % 128) :: formF g (m / 128) := fun g => by simp only [formF, if_neg h1]
   rw [e, e]
   congr 1
   have hf : 1 ≤ f := by
    rcases Nat.eq_zero_or_pos f with rfl | h0
    ·simp at h; omega
    ·exact h0
   exact formF_more f (m / 128) hf (by rw [Nat.pow_succ] at h; omega)
theorem form_small {n : Nat} (h : n < 128) : form n = [n] := by unfold form; simp only [formF, if_pos h]
theorem form_big {n : Nat} (h : ¬ n < 128) (hn : n < 18446744073709551616) : form n = (128 + n % 128) :: form (n / 128) := by
 unfold form
 have e : formF 10 n = (128 + n % 128) :: formF 9 (n / 128) := by rw [formF, if_neg h]
 rw [e, formF_more 9 _ (by omega) (by have : (128 : Nat) ^ 9 = 9223372036854775808 := by decide
                                      omega)]
theorem formF_len : ∀ (f n : Nat), 1 ≤ (formF f n).length ∧ (formF f n).length ≤ f + 1
 | 0, n => by simp [formF]
 | f + 1, n => by
  simp only [formF]
  split
  ·simp
  ·have := formF_len f (n / 128)
   simp
   omega
theorem form_len (n : Nat) : 1 ≤ (form n).length ∧ (form n).length ≤ 11 := formF_len 10 n
theorem form_by : ∀ (f n : Nat), n < 128 ^ (f + 1) → By (formF f n)
 | 0, n, h => by
  intro c hc
  simp [formF] at hc
  subst hc
  simp at h
  omega
 | f + 1, n, h => by
  simp only [formF]
  split
  ·intro c hc
   simp at hc
   subst hc
   omega
  ·intro c hc
   rcases List.mem_cons.1 hc with rfl | hc
   ·omega
   ·exact form_by f (n / 128) (by rw [Nat.pow_succ] at h; omega) c hc
theorem form_bytes {n : Nat} (hn : n < 18446744073709551616) : By (form n) := form_by 10 n (by
 have h : (128 : Nat) ^ (10 + 1) = 151115727451828646838272 := by decide
 rw [h]
 omega)
theorem Own.alloc {w : World} {B : Nat} {v : Value} {l : List Nat} (s : Own w B v l) (o : Obj) : Own (w.alloc o) B v l := by
 obtain ⟨h1, h2⟩ := s
 refine ⟨h1, ?_⟩
 rcases h2 with h2 | ⟨g, cap, cur, e, hb, hg, h3⟩
 ·exact Or.inl h2
 ·exact Or.inr ⟨g, cap, cur, e, hb, step_row hg, h3⟩
theorem Own.more {w : World} {B : Nat} {v : Value} {l m : List Nat} (h : w.ownsRow B 5 1 v (l.length + m.length) (l.map encB ++ m.map encB)) : Own w B v (l ++ m) := by
 unfold Own
 rw [List.length_append, List.map_append]
 exact h
theorem Own.blk {w : World} {B : Nat} {v : Value} {l : List Nat} (s : Own w B v l) : ∀ k, v.ownBlock = some k → B ≤ k := by
 intro k hk
 obtain ⟨h1, h2⟩ := s
 rcases h2 with ⟨rfl, _⟩ | ⟨g, cap, cur, rfl, hb, _⟩
 ·cases hk
 ·cases hk
  exact hb
theorem pow_cut (k : Nat) (hk : k < 9) : (2 : Nat) ^ (64 - 7 * k) = 128 * 2 ^ (64 - 7 * (k + 1)) := by
 rw [show 64 - 7 * k = 7 + (64 - 7 * (k + 1)) by omega, Nat.pow_add]
end Go.Proofs.YtbbhmhihpdmoiaaGreat.Pk
