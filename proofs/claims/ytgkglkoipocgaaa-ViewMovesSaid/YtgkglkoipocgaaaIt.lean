/- A loop over an iterator that hands on N things by number: it ends behind the last, or is left by one exit. 
  A loop over an iterator that hands on N things by number, left by any one jump. -/
import Derived.RangeFuncNested
import Derived.RangeFuncBound
import Derived.RangeFuncCalls
import Derived.RangeFuncLeaves
import Derived.WalkKit
set_option linter.unusedVariables false
namespace Go.Proofs.Ytgkglkoipocgaaa.Fx
open Go Go.RowKit
variable {F : Fence} {n : Nat} {P : Program}

/-- all cells lie as they lay, and all that lay below block B -/
structure Kept (B : Nat) (W W' : World) : Prop where
  os : W'.os = W.os
  tape : W'.tape = W.tape
  output : W'.output = W.output
  size : W.heap.size ≤ W'.heap.size
  block : ∀ k o, W.heap[k]? = some o → (k < B ∨ o.isCells = true) → W'.heap[k]? = some o
theorem Kept.of_below {B : Nat} {W W' : World} (h : Below W.heap.size W W') : Kept B W W' :=
  ⟨h.os, h.tape, h.output, h.size, fun k o hk _ => by rw [h.block k (Array.getElem?_eq_some_iff.1 hk).1]; exact hk⟩
theorem Kept.putObj {B l : Nat} {W : World} {o : Obj} (o' : Obj) (hB : B ≤ l) (hl : W.heap[l]? = some o) (ho : o.isCells = false) : Kept B W (W.putObj l o') :=
  ⟨rfl, rfl, rfl, by simp, fun k o1 hk hc => by
    by_cases e : k = l
    · subst e
      rw [hl] at hk
      cases hk
      rcases hc with hc | hc
      · omega
      · rw [ho] at hc; cases hc
    · exact (World.putObj_heap_other e).trans hk⟩
theorem Kept.below {B : Nat} {w W W' : World} (k : Kept B W W') (hB : w.heap.size ≤ B) (h : Below w.heap.size w W) : Below w.heap.size w W' :=
  ⟨k.os.trans h.os, k.tape.trans h.tape, k.output.trans h.output, Nat.le_trans h.size k.size, fun i hi => by
    have h1 := h.block i hi
    rw [Array.getElem?_eq_getElem hi] at h1 ⊢
    exact k.block i _ h1 (.inl (by omega))⟩
theorem Kept.cells {B : Nat} {W W' : World} (k : Kept B W W') {g : Nat} {c : Array Value} {t : TypeId} {f : Nat × Nat} (h : W.heap[g]? = some (.cells c t f)) : W'.heap[g]? = some (.cells c t f) := k.block g _ h (.inr rfl)

/-- the iterator's contract, M being what it reads of memory: called at yield l, it asks for round after round, by number, and returns behind the last, or behind the first that says no -/
def Hands (F : Fence) (n : Nat) (P : Program) (gf : Nat) (lb : Array Value) (elem : Nat → Array Value) (N : Nat) (M : World → Prop) : Prop :=
  ∀ (l : Nat) (J : Nat → World → Prop) (Jx : World → Prop) (W : World),
    (∀ k W W', J k W → Below W.heap.size W W' → J k W') → (∀ W W', Jx W → Below W.heap.size W W' → Jx W') → (∀ k W, J k W → M W) → (∀ W, Jx W → M W) →
    (∀ k W1, k < N → J k W1 → YieldAt F (n - 1) P l (elem k) W1 fun e W' => (e = .returned (.bool true) ∧ J (k + 1) W') ∨ (e = .returned (.bool false) ∧ Jx W')) →
    J 0 W → CallsIn F n P gf (#[.func (.yield l) #[] #[]] ++ lb) W fun e W' => (∃ v, e = .returned v) ∧ (J N W' ∨ Jx W')

/-- how a round's body may end: it goes on, or leaves by the one exit -/
def upPost (B c0 : Nat) (I' Ix : World → Prop) (W : World) : Exit → Act → World → Prop
  | .normal, _, W' => KeepsFrom B W W' ∧ I' W'
  | .exit c, _, W' => c = c0 ∧ KeepsFrom B W W' ∧ Ix W'
  | _, _, _ => False

theorem wpIn_range_num {g : Operand} {ps : Array Tmp} {assign body : Code} {Q : Exit → Act → World → Prop} {a : Act} {w : World}
    (hro : F.round = none) (h1 : 1 ≤ n) {gf : Nat} {lb : Array Value} (hg : a.eval g = .func (.func gf) #[] lb) (hFg : F.fn gf) (eg : ∀ args w, (callFunc gf args).run P w = .ok (.enter gf args) w)
    {elem : Nat → Array Value} {N : Nat} {M : World → Prop} (hseq : Hands F (n - 1) P gf lb elem N M) (hps : ∀ k, (elem k).size = ps.size)
    (c0 : Nat) (I : Nat → World → Prop) (Ix : World → Prop) (Ax : Nat → Act → World → Prop)
    (hI : ∀ k W W', I k W → Kept w.heap.size W W' → I k W') (hIx : ∀ W W', Ix W → Kept w.heap.size W W' → Ix W') (hAx : ∀ k a W W', Ax k a W → Kept w.heap.size W W' → Ax k a W')
    (hIM : ∀ k W, I k W → M W) (hIxM : ∀ W, Ix W → M W) (h0 : I 0 w)
    (hassign : ∀ (l k : Nat) (W : World) (C : Act → World → Prop), k < N → I k W → (∀ a' W', KeepsFrom w.heap.size W W' → Ax k a' W' → C a' W') →
      assign.wpIn (F.inRound l) (n - 1 - 1) P (Exit.then C (fun _ _ _ => False)) { tmps := (ps.zip (elem k)).foldl (fun t (p, v) => t.setIfInBounds p v) a.tmps, defers := [] } W)
    (hbody : ∀ (l k : Nat) (a' : Act) (W : World), k < N → Ax k a' W → body.wpIn (F.inRound l) (n - 1 - 1) P (upPost w.heap.size c0 (I (k + 1)) Ix W) a' W)
    (hdone : ∀ (D : Nat) (W : World), w.heap.size ≤ D → I N W → W.heap[D]? = some (.deferred (some [])) → Q .normal { a with defers := { target := .collected D, args := #[] } :: a.defers } W)
    (hstop : ∀ (D : Nat) (W : World), w.heap.size ≤ D → Ix W → W.heap[D]? = some (.deferred (some [])) → (Code.exit c0).wpIn F n P Q { a with defers := { target := .collected D, args := #[] } :: a.defers } W) :
    (Code.rangeFunc g ps assign body).wpIn F n P Q a w := by
  refine wpIn_rangeFunc fun fn hfn => ?_
  rw [hro]
  obtain ⟨rc, hrc⟩ : ∃ rc : LoopState → Option Code → Loop, rc = fun st pe => { state := st, pending := pe, fn, tmps := a.tmps, params := ps, assign, body, defers := w.heap.size } := ⟨_, rfl⟩
  obtain ⟨V, hV⟩ : ∃ V, (w.alloc (.deferred (some []))).alloc (.loop (rc .ready none)) = V := ⟨_, rfl⟩
  have vL : V.heap[w.heap.size + 1]? = some (.loop (rc .ready none)) := by
    have := World.alloc_heap_new (w.alloc (.deferred (some []))) (.loop (rc .ready none))
    rw [World.size_alloc, hV] at this
    exact this
  have vD : V.heap[w.heap.size]? = some (.deferred (some [])) := by
    rw [← hV]
    exact (Below.heap_alloc _ _ _ (by simp)).trans (World.alloc_heap_new w _)
  have vB : Below w.heap.size w V := by rw [← hV]; exact ((Below.refl _ w).alloc (Nat.le_refl _) _).alloc (by simp) _
  have vI : I 0 V := hI _ _ _ h0 (Kept.of_below vB)
  refine ⟨w.heap.size + 1, [{ target := .collected w.heap.size, args := #[] }], V, { target := .fn (.func gf) lb, args := #[.func (.yield (w.heap.size + 1)) #[] #[]] }, V, gf, #[.func (.yield (w.heap.size + 1)) #[] #[]] ++ lb, V, ?_, ?_, ?_, ?_, fun _ => h1, ?_⟩
  · rw [← hV, hrc]; exact run_enterLoop_outer _ _ _ _ _
  · simp only [resolve, hg]
    simp [go_sem]
  · intro f' hf'
    simp [Target.leads] at hf'
    subst hf'
    exact hFg
  · simp [invoke, go_sem, eg]
  have stay : ∀ {X : World} {W W' : World} {k : Nat} {o : Obj}, W.heap[k]? = some o → Below W.heap.size W W' → W'.heap[k]? = some o := fun hk hb => by
    rw [hb.block _ (Array.getElem?_eq_some_iff.1 hk).1]; exact hk
  refine (hseq (w.heap.size + 1)
    (fun k W => I k W ∧ W.heap[w.heap.size + 1]? = some (.loop (rc .ready none)) ∧ W.heap[w.heap.size]? = some (.deferred (some [])))
    (fun W => Ix W ∧ W.heap[w.heap.size + 1]? = some (.loop (rc .done (some (.exit c0)))) ∧ W.heap[w.heap.size]? = some (.deferred (some [])))
    V (fun k W W' h hb => ⟨hI _ _ _ h.1 (Kept.of_below hb), stay (X := W) h.2.1 hb, stay (X := W) h.2.2 hb⟩) (fun W W' h hb => ⟨hIx _ _ h.1 (Kept.of_below hb), stay (X := W) h.2.1 hb, stay (X := W) h.2.2 hb⟩)
    (fun k W h => hIM k W h.1) (fun W h => hIxM W h.1) ?round ⟨vI, vL, vD⟩).mono ?behind
  case round =>
    rintro k W hkN ⟨hi, hl, hd⟩
    have hlt : w.heap.size + 1 < W.heap.size := (Array.getElem?_eq_some_iff.1 hl).1
    have hy := run_yield (P := P) (args := elem k) hl (by rw [hrc]; exact hps k)
    rw [hrc] at hy
    refine ⟨fn, _, assign, body, hy, roundIn_of_wpIn hfn (hassign _ k W _ hkN hi ?_)⟩
    intro a' W' hkf hax
    have wL := hkf.same _ _ (by omega) hl rfl
    have wD := hkf.same _ _ (Nat.le_refl _) hd rfl
    refine ⟨_, run_beginRound wL (by rw [hrc]), ?_⟩
    obtain ⟨U, hU⟩ : ∃ U, W'.putObj (w.heap.size + 1) (.loop { rc .ready none with state := .busy }) = U := ⟨_, rfl⟩
    have hlt' : w.heap.size + 1 < W'.heap.size := (Array.getElem?_eq_some_iff.1 wL).1
    have uL : U.heap[w.heap.size + 1]? = some (.loop { rc .ready none with state := .busy }) := by rw [← hU]; exact World.putObj_heap_same hlt'
    have uD : U.heap[w.heap.size]? = some (.deferred (some [])) := by rw [← hU]; exact (World.putObj_heap_other (by omega)).trans wD
    have uA : Ax k a' U := by rw [← hU]; exact hAx _ _ _ _ hax (Kept.putObj _ (by omega) wL rfl)
    rw [hU]
    refine wpIn_mono (hbody _ k a' U hkN uA) ?_
    have ends : ∀ (jump : Option Code) (X : World), KeepsFrom w.heap.size U X → X.heap[w.heap.size + 1]? = some (.loop { rc .ready none with state := .busy }) ∧
        (Instr.endRound (w.heap.size + 1) jump).run P X = .ok (.bool jump.isNone) (X.putObj (w.heap.size + 1) (.loop (rc (if jump.isNone then .ready else .done) jump))) ∧
        (X.putObj (w.heap.size + 1) (.loop (rc (if jump.isNone then .ready else .done) jump))).heap[w.heap.size + 1]? = some (.loop (rc (if jump.isNone then .ready else .done) jump)) ∧
        (X.putObj (w.heap.size + 1) (.loop (rc (if jump.isNone then .ready else .done) jump))).heap[w.heap.size]? = some (.deferred (some [])) := by
      intro jump X hX
      have xL := hX.same _ _ (by omega) uL rfl
      have xr := run_endRound (P := P) jump xL
      have xs := World.putObj_heap_same (o := .loop (rc (if jump.isNone then .ready else .done) jump)) (Array.getElem?_eq_some_iff.1 xL).1
      have xd := (World.putObj_heap_other (o := .loop (rc (if jump.isNone then .ready else .done) jump)) (show w.heap.size ≠ w.heap.size + 1 by omega)).trans (hX.same _ _ (Nat.le_refl _) uD rfl)
      refine ⟨xL, ?_, xs, xd⟩
      rw [hrc] at xr ⊢
      exact xr
    intro e b X hp
    match e, hp with
    | .normal, hp =>
      obtain ⟨hk, hi2⟩ := hp
      obtain ⟨xL, r, s, d⟩ := ends none X hk
      exact ⟨_, _, r, .inl ⟨rfl, hI _ _ _ hi2 (Kept.putObj _ (by omega) xL rfl), s, d⟩⟩
    | .exit c, hp =>
      obtain ⟨rfl, hk, hx⟩ := hp
      obtain ⟨xL, r, s, d⟩ := ends (some (.exit c)) X hk
      exact ⟨_, _, r, .inr ⟨rfl, hIx _ _ hx (Kept.putObj _ (by omega) xL rfl), s, d⟩⟩
  case behind =>
    rintro e X ⟨⟨v, rfl⟩, ⟨hi, hl, hd⟩ | ⟨hx, hl, hd⟩⟩
    · have h := run_endLoop (P := P) hl (by rw [hrc]; simp)
      rw [hrc] at h
      exact ⟨none, _, h, hdone _ _ (Nat.le_refl _) (hI _ _ _ hi (Kept.putObj _ (by omega) hl rfl)) ((World.putObj_heap_other (by omega)).trans hd)⟩
    · have h := run_endLoop (P := P) hl (by rw [hrc]; simp)
      rw [hrc] at h
      exact ⟨some (.exit c0), _, h, hstop _ _ (Nat.le_refl _) (hIx _ _ hx (Kept.putObj _ (by omega) hl rfl)) ((World.putObj_heap_other (by omega)).trans hd)⟩
end Go.Proofs.Ytgkglkoipocgaaa.Fx
set_option linter.unusedVariables false
namespace Go.Proofs.Ytgkglkoipocgaaa.Fx
open Go Go.RowKit
variable {F : Fence} {n : Nat} {P : Program}

/-- how a round's body may end: it goes on, or leaves by the one exit -/
def upPostJ (B : Nat) (cj : Code) (I' Ix : World → Prop) (W : World) : Exit → Act → World → Prop
  | .normal, _, W' => KeepsFrom B W W' ∧ I' W'
  | .exit c, _, W' => cj = .exit c ∧ KeepsFrom B W W' ∧ Ix W'
  | .ret, _, W' => cj = .ret ∧ KeepsFrom B W W' ∧ Ix W'
  | _, _, _ => False

theorem wpIn_range_jump {g : Operand} {ps : Array Tmp} {assign body : Code} {Q : Exit → Act → World → Prop} {a : Act} {w : World}
    (hro : F.round = none) (h1 : 1 ≤ n) {gf : Nat} {lb : Array Value} (hg : a.eval g = .func (.func gf) #[] lb) (hFg : F.fn gf) (eg : ∀ args w, (callFunc gf args).run P w = .ok (.enter gf args) w)
    {elem : Nat → Array Value} {N : Nat} {M : World → Prop} (hseq : Hands F (n - 1) P gf lb elem N M) (hps : ∀ k, (elem k).size = ps.size)
    (cj : Code) (I : Nat → World → Prop) (Ix : World → Prop) (Ax : Nat → Act → World → Prop)
    (hI : ∀ k W W', I k W → Kept w.heap.size W W' → I k W') (hIx : ∀ W W', Ix W → Kept w.heap.size W W' → Ix W') (hAx : ∀ k a W W', Ax k a W → Kept w.heap.size W W' → Ax k a W')
    (hIM : ∀ k W, I k W → M W) (hIxM : ∀ W, Ix W → M W) (h0 : I 0 w)
    (hassign : ∀ (l k : Nat) (W : World) (C : Act → World → Prop), k < N → I k W → (∀ a' W', KeepsFrom w.heap.size W W' → Ax k a' W' → C a' W') →
      assign.wpIn (F.inRound l) (n - 1 - 1) P (Exit.then C (fun _ _ _ => False)) { tmps := (ps.zip (elem k)).foldl (fun t (p, v) => t.setIfInBounds p v) a.tmps, defers := [] } W)
    (hbody : ∀ (l k : Nat) (a' : Act) (W : World), k < N → Ax k a' W → body.wpIn (F.inRound l) (n - 1 - 1) P (upPostJ w.heap.size cj (I (k + 1)) Ix W) a' W)
    (hdone : ∀ (D : Nat) (W : World), w.heap.size ≤ D → I N W → W.heap[D]? = some (.deferred (some [])) → Q .normal { a with defers := { target := .collected D, args := #[] } :: a.defers } W)
    (hstop : ∀ (D : Nat) (W : World), w.heap.size ≤ D → Ix W → W.heap[D]? = some (.deferred (some [])) → cj.wpIn F n P Q { a with defers := { target := .collected D, args := #[] } :: a.defers } W) :
    (Code.rangeFunc g ps assign body).wpIn F n P Q a w := by
  refine wpIn_rangeFunc fun fn hfn => ?_
  rw [hro]
  obtain ⟨rc, hrc⟩ : ∃ rc : LoopState → Option Code → Loop, rc = fun st pe => { state := st, pending := pe, fn, tmps := a.tmps, params := ps, assign, body, defers := w.heap.size } := ⟨_, rfl⟩
  obtain ⟨V, hV⟩ : ∃ V, (w.alloc (.deferred (some []))).alloc (.loop (rc .ready none)) = V := ⟨_, rfl⟩
  have vL : V.heap[w.heap.size + 1]? = some (.loop (rc .ready none)) := by
    have := World.alloc_heap_new (w.alloc (.deferred (some []))) (.loop (rc .ready none))
    rw [World.size_alloc, hV] at this
    exact this
  have vD : V.heap[w.heap.size]? = some (.deferred (some [])) := by
    rw [← hV]
    exact (Below.heap_alloc _ _ _ (by simp)).trans (World.alloc_heap_new w _)
  have vB : Below w.heap.size w V := by rw [← hV]; exact ((Below.refl _ w).alloc (Nat.le_refl _) _).alloc (by simp) _
  have vI : I 0 V := hI _ _ _ h0 (Kept.of_below vB)
  refine ⟨w.heap.size + 1, [{ target := .collected w.heap.size, args := #[] }], V, { target := .fn (.func gf) lb, args := #[.func (.yield (w.heap.size + 1)) #[] #[]] }, V, gf, #[.func (.yield (w.heap.size + 1)) #[] #[]] ++ lb, V, ?_, ?_, ?_, ?_, fun _ => h1, ?_⟩
  · rw [← hV, hrc]; exact run_enterLoop_outer _ _ _ _ _
  · simp only [resolve, hg]
    simp [go_sem]
  · intro f' hf'
    simp [Target.leads] at hf'
    subst hf'
    exact hFg
  · simp [invoke, go_sem, eg]
  have stay : ∀ {X : World} {W W' : World} {k : Nat} {o : Obj}, W.heap[k]? = some o → Below W.heap.size W W' → W'.heap[k]? = some o := fun hk hb => by
    rw [hb.block _ (Array.getElem?_eq_some_iff.1 hk).1]; exact hk
  refine (hseq (w.heap.size + 1)
    (fun k W => I k W ∧ W.heap[w.heap.size + 1]? = some (.loop (rc .ready none)) ∧ W.heap[w.heap.size]? = some (.deferred (some [])))
    (fun W => Ix W ∧ W.heap[w.heap.size + 1]? = some (.loop (rc .done (some cj))) ∧ W.heap[w.heap.size]? = some (.deferred (some [])))
    V (fun k W W' h hb => ⟨hI _ _ _ h.1 (Kept.of_below hb), stay (X := W) h.2.1 hb, stay (X := W) h.2.2 hb⟩) (fun W W' h hb => ⟨hIx _ _ h.1 (Kept.of_below hb), stay (X := W) h.2.1 hb, stay (X := W) h.2.2 hb⟩)
    (fun k W h => hIM k W h.1) (fun W h => hIxM W h.1) ?round ⟨vI, vL, vD⟩).mono ?behind
  case round =>
    rintro k W hkN ⟨hi, hl, hd⟩
    have hlt : w.heap.size + 1 < W.heap.size := (Array.getElem?_eq_some_iff.1 hl).1
    have hy := run_yield (P := P) (args := elem k) hl (by rw [hrc]; exact hps k)
    rw [hrc] at hy
    refine ⟨fn, _, assign, body, hy, roundIn_of_wpIn hfn (hassign _ k W _ hkN hi ?_)⟩
    intro a' W' hkf hax
    have wL := hkf.same _ _ (by omega) hl rfl
    have wD := hkf.same _ _ (Nat.le_refl _) hd rfl
    refine ⟨_, run_beginRound wL (by rw [hrc]), ?_⟩
    obtain ⟨U, hU⟩ : ∃ U, W'.putObj (w.heap.size + 1) (.loop { rc .ready none with state := .busy }) = U := ⟨_, rfl⟩
    have hlt' : w.heap.size + 1 < W'.heap.size := (Array.getElem?_eq_some_iff.1 wL).1
    have uL : U.heap[w.heap.size + 1]? = some (.loop { rc .ready none with state := .busy }) := by rw [← hU]; exact World.putObj_heap_same hlt'
    have uD : U.heap[w.heap.size]? = some (.deferred (some [])) := by rw [← hU]; exact (World.putObj_heap_other (by omega)).trans wD
    have uA : Ax k a' U := by rw [← hU]; exact hAx _ _ _ _ hax (Kept.putObj _ (by omega) wL rfl)
    rw [hU]
    refine wpIn_mono (hbody _ k a' U hkN uA) ?_
    have ends : ∀ (jump : Option Code) (X : World), KeepsFrom w.heap.size U X → X.heap[w.heap.size + 1]? = some (.loop { rc .ready none with state := .busy }) ∧
        (Instr.endRound (w.heap.size + 1) jump).run P X = .ok (.bool jump.isNone) (X.putObj (w.heap.size + 1) (.loop (rc (if jump.isNone then .ready else .done) jump))) ∧
        (X.putObj (w.heap.size + 1) (.loop (rc (if jump.isNone then .ready else .done) jump))).heap[w.heap.size + 1]? = some (.loop (rc (if jump.isNone then .ready else .done) jump)) ∧
        (X.putObj (w.heap.size + 1) (.loop (rc (if jump.isNone then .ready else .done) jump))).heap[w.heap.size]? = some (.deferred (some [])) := by
      intro jump X hX
      have xL := hX.same _ _ (by omega) uL rfl
      have xr := run_endRound (P := P) jump xL
      have xs := World.putObj_heap_same (o := .loop (rc (if jump.isNone then .ready else .done) jump)) (Array.getElem?_eq_some_iff.1 xL).1
      have xd := (World.putObj_heap_other (o := .loop (rc (if jump.isNone then .ready else .done) jump)) (show w.heap.size ≠ w.heap.size + 1 by omega)).trans (hX.same _ _ (Nat.le_refl _) uD rfl)
      refine ⟨xL, ?_, xs, xd⟩
      rw [hrc] at xr ⊢
      exact xr
    intro e b X hp
    match e, hp with
    | .normal, hp =>
      obtain ⟨hk, hi2⟩ := hp
      obtain ⟨xL, r, s, d⟩ := ends none X hk
      exact ⟨_, _, r, .inl ⟨rfl, hI _ _ _ hi2 (Kept.putObj _ (by omega) xL rfl), s, d⟩⟩
    | .exit c, hp =>
      obtain ⟨rfl, hk, hx⟩ := hp
      obtain ⟨xL, r, s, d⟩ := ends (some (.exit c)) X hk
      exact ⟨_, _, r, .inr ⟨rfl, hIx _ _ hx (Kept.putObj _ (by omega) xL rfl), s, d⟩⟩
    | .ret, hp =>
      obtain ⟨rfl, hk, hx⟩ := hp
      obtain ⟨xL, r, s, d⟩ := ends (some .ret) X hk
      exact ⟨_, _, r, .inr ⟨rfl, hIx _ _ hx (Kept.putObj _ (by omega) xL rfl), s, d⟩⟩
  case behind =>
    rintro e X ⟨⟨v, rfl⟩, ⟨hi, hl, hd⟩ | ⟨hx, hl, hd⟩⟩
    · have h := run_endLoop (P := P) hl (by rw [hrc]; simp)
      rw [hrc] at h
      exact ⟨none, _, h, hdone _ _ (Nat.le_refl _) (hI _ _ _ hi (Kept.putObj _ (by omega) hl rfl)) ((World.putObj_heap_other (by omega)).trans hd)⟩
    · have h := run_endLoop (P := P) hl (by rw [hrc]; simp)
      rw [hrc] at h
      exact ⟨some cj, _, h, hstop _ _ (Nat.le_refl _) (hIx _ _ hx (Kept.putObj _ (by omega) hl rfl)) ((World.putObj_heap_other (by omega)).trans hd)⟩
end Go.Proofs.Ytgkglkoipocgaaa.Fx
