/- A region that draws its order, walked in one order alone: what gives a known value in every world that meets S, be it an operation or a call that only makes memory, is taken whenever it is due; S need not hold behind the operations of Z, to which all that is still to be taken leads. 
  A region that draws its order, in a round of a loop over an iterator too: what yields its value in every world that meets S is taken when it is due; S need not hold behind the operations of Z, to which all that is still to be taken leads. The worlds stay known. -/
import Derived.OrdersHeld
import Derived.OrdersIn
import Derived.OwnWalkIn
import Derived.RangeFuncCalls
import Derived.Deep.RegionHeld
import Derived.Test.YtgkglkoipocgaaaProg
import Derived.Test.YtgkglkoipocgaaaHd
set_option linter.unusedVariables false
namespace Go.Proofs.Ytgkglkoipocgaaa.Fx
open Go Go.RowKit
section
variable {n : Nat} {P : Program} {ops : Array Oper} {Q : Exit → Act → World → Prop} {md : Region.Mode} {S : World → Prop} {Z : List Nat}

def Gives (P : Program) (ops : Array Oper) (S : World → Prop) (o : Oper) (v : Value) (a : Act) : Prop :=
  (Region.wanted o (yielded ops a.tmps) = true ∧ ∀ w, S w → (execOp a.eval o).run P w = .ok (.value v) w ∨
    ∃ f args, (execOp a.eval o).run P w = .ok (.enter f args) w ∧ Calls P f args w fun e w' => e = .returned v ∧ Below w.heap.size w w') ∨
  (Region.wanted o (yielded ops a.tmps) = false ∧ v = undef)
theorem Gives.of_same {o : Oper} {v : Value} {a a' : Act} (hy : Gives P ops S o v a) (he : execOp a'.eval o = execOp a.eval o)
    (hw : Region.wanted o (yielded ops a'.tmps) = Region.wanted o (yielded ops a.tmps)) : Gives P ops S o v a' := by
  unfold Gives at *
  rw [he, hw]
  exact hy

theorem putY {F : Fence} (hF : ∀ f, F.fn f) (hd : Calm ops = true) {j : Nat} {oi oj : Oper} {v : Value} (hj : ops[j]? = some oj) (hap : oi.apart ops oj = true)
    (hsj : ∀ cs b, oj.op ≠ .select cs b)
    (hQ : ∀ c a w, Q (.panic c) (a.put oi.dst v) w → Q (.panic c) a w) {Y : Act → Prop} (keep : ∀ a, Y a → ∀ u, Y (a.put oj.dst u)) (keepD : ∀ a d, Y a → Y { a with defers := d }) {K : Act → World → Prop} {a : Act} {w : World}
    (hy : Y a) (h : wpOpIn F n P ops Q j K (a.put oi.dst v) w) :
    wpOpIn F n P ops Q j (fun a' w' => Y a' ∧ K (a'.put oi.dst v) w') a w := by
  obtain ⟨h1, h2, h3⟩ := Oper.apart_spec hap
  have hcj := calm_at hd hj
  unfold wpOpIn at *
  simp only [hj] at *
  rw [wanted_put oj a oi.dst v h1] at h
  split
  · rename_i hw
    simp only [hw, if_true] at h
    unfold Oper.wpIn at *
    rw [Oper.semAt_plain F _ _ hcj] at h ⊢
    rw [execOp_put oj hsj a oi.dst v h1] at h
    refine ⟨fun f _ => hF f, ?_⟩
    obtain ⟨_, h⟩ := h
    generalize (execOp a.eval oj).run P w = r at *
    cases r with
    | ok x w' =>
      cases x <;> simp only [Oper.uponIn] at h ⊢
      case value u => exact ⟨keep a hy u, by rw [← Act.put_comm a v u h2]; exact h⟩
      case skip => exact ⟨keep a hy _, by rw [← Act.put_comm a v undef h2]; exact h⟩
      case defer d =>
        refine ⟨keep _ (keepD _ _ hy) _, ?_⟩
        rw [← Act.put_comm _ v undef h2, ← Act.put_defers]
        exact h
      case enter f args =>
        refine ⟨h.1, CallsIn.mono h.2 fun e w'' he => ?_⟩
        cases e with
        | returned u => exact ⟨keep a hy u, by rw [← Act.put_comm a v u h2]; exact he⟩
        | panicked c => exact hQ _ _ _ he
        | outgrown => exact he
      case row row args => exact ⟨h.1, RowsIn.mono h.2 fun u w'' he => ⟨keep a hy u, by rw [← Act.put_comm a v u h2]; exact he⟩⟩
      case round l f tmps assign body =>
        refine ⟨h.1, RoundIn.mono h.2 fun e w'' he => ?_⟩
        cases e with
        | returned u => exact ⟨keep a hy u, by rw [← Act.put_comm a v u h2]; exact he⟩
        | panicked c => exact hQ _ _ _ he
        | outgrown => exact he
    | halt x w' =>
      cases x <;> simp only [Oper.uponIn] at h ⊢
      case panic u => exact hQ _ _ _ h
  · rename_i hw
    simp only [hw] at h
    exact ⟨fun f _ => hF f, keep a hy _, by rw [← Act.put_comm a v undef h2]; exact h.2⟩

theorem give_op (hd : Calm ops = true) {i : Nat} {o : Oper} {v : Value} {a : Act} (hi : ops[i]? = some o) (hy : Gives P ops S o v a)
    {K : Act → World → Prop} {w : World} (hS : S w) (h : ∀ w', Below w.heap.size w w' → K (a.put o.dst v) w') : wpOpIn Fence.wide n P ops Q i K a w := by
  unfold Go.wpOpIn
  simp only [hi]
  rcases hy with ⟨hw, hv⟩ | ⟨hw, rfl⟩
  · simp only [hw, if_true, Oper.wpIn, Oper.semAt_plain _ _ _ (calm_at hd hi)]
    rcases hv w hS with hv | ⟨f, args, hr, hc⟩
    · rw [hv]
      exact ⟨fun f _ => trivial, h w (Below.refl _ _)⟩
    · rw [hr]
      refine ⟨fun f _ => trivial, fun h => (by cases h), callsIn_wide.2 (hc.mono ?_)⟩
      rintro e w' ⟨rfl, hb⟩
      exact h w' hb
  · simp only [hw, Bool.false_eq_true, if_false]
    exact ⟨fun f _ => trivial, h w (Below.refl _ _)⟩

/-- whatever order is picked, S holding behind each operation but those of Z, and whatever was made meanwhile -/
def HeldG (n : Nat) (P : Program) (md : Region.Mode) (ops : Array Oper) (Q : Exit → Act → World → Prop) (S : World → Prop) (Z : List Nat) : Nat → Array Bool → Act → World → Prop
  | 0, listed, a, w => Region.ready md ops listed = [] ∧ Q .normal a w
  | fuel + 1, listed, a, w =>
    (Region.ready md ops listed = [] → Q .normal a w) ∧
    ∀ i ∈ Region.ready md ops listed, wpOpIn Fence.wide n P ops Q i (fun a' w' => (Z.contains i = false → S w') ∧ ∀ w3, Below w'.heap.size w' w3 → HeldG n P md ops Q S Z fuel (listed.setIfInBounds i true) a' w3) a w

theorem HeldG.any : ∀ (fuel : Nat) (listed : Array Bool) (a : Act) (w : World), HeldG n P md ops Q S Z fuel listed a w → wpAnyIn Fence.wide n P md ops Q fuel listed a w
  | 0, _, _, _, h => h
  | fuel + 1, _, _, _, h => ⟨h.1, fun i hi => wpOpIn_mono (fun a' w' h' => HeldG.any fuel _ a' w' (h'.2 w' (Below.refl _ _))) (h.2 i hi)⟩

/-- all of D wait for i -/
def Chain (md : Region.Mode) (ops : Array Oper) (L : Array Bool) (i : Nat) (D : List Nat) : Bool :=
  D.all fun d => !L.getD d true && (match ops[d]? with
    | some o => o.after.any fun e => Region.binds md e && (e.on == i || D.contains e.on)
    | none => false)
def ChainP (md : Region.Mode) (ops : Array Oper) (L : Array Bool) (i : Nat) (D : List Nat) : Prop :=
  ∀ d ∈ D, L.getD d true = false ∧ ∃ o, ops[d]? = some o ∧ ∃ e ∈ o.after, Region.binds md e = true ∧ (e.on = i ∨ e.on ∈ D)
theorem chain_spec {L : Array Bool} {i : Nat} {D : List Nat} (h : Chain md ops L i D = true) : ChainP md ops L i D := by
  intro d hd
  unfold Chain at h
  rw [List.all_eq_true] at h
  have := h d hd
  rw [Bool.and_eq_true] at this
  obtain ⟨h1, h2⟩ := this
  refine ⟨by simpa using h1, ?_⟩
  cases ho : ops[d]? with
  | none => rw [ho] at h2; cases h2
  | some o =>
    rw [ho] at h2
    refine ⟨o, rfl, ?_⟩
    dsimp only at h2
    rw [Array.any_eq_true] at h2
    obtain ⟨x, hx, h2⟩ := h2
    simp only [Bool.and_eq_true, Bool.or_eq_true, beq_iff_eq, List.contains_iff_mem] at h2
    exact ⟨o.after[x], Array.getElem_mem hx, h2.1, h2.2⟩
theorem unlisted {L : Array Bool} {k : Nat} (h0 : L.getD k true = false) (h1 : L.getD k false = true) : False := by
  rcases Nat.lt_or_ge k L.size with h' | h'
  · simp [h'] at h0 h1; rw [h0] at h1; cases h1
  · simp [Array.getElem?_eq_none h'] at h1
theorem ChainP.wait {L : Array Bool} {i j : Nat} {D : List Nat} (h : ChainP md ops L i D) (hi : L.getD i true = false) (hj : j ∈ Region.ready md ops L) : j ∉ D := by
  intro hD
  obtain ⟨_, o, ho, e, he, hb, hc⟩ := h j hD
  obtain ⟨_, o', ho', hall⟩ := mem_ready.1 hj
  rw [ho] at ho'
  cases ho'
  have h1 := hall e he hb
  rcases hc with hc | hc
  · rw [hc] at h1; exact unlisted hi h1
  · exact unlisted (h _ hc).1 h1

theorem give_first (hd : Calm ops = true) {i : Nat} {oi : Oper} {v : Value} (hi : ops[i]? = some oi) (hsel : ∀ (j : Nat) (o : Oper) cs b, ops[j]? = some o → o.op ≠ .select cs b)
    (hQ : ∀ c a w, Q (.panic c) (a.put oi.dst v) w → Q (.panic c) a w) (D : List Nat) (hZ : ∀ z ∈ Z, z ∈ D) (hm : ∀ w w', S w → Below w.heap.size w w' → S w') (fuel : Nat) :
    ∀ (listed : Array Bool) (a : Act) (w : World),
      (∀ j oj, ops[j]? = some oj → j ≠ i → listed.getD j true = false → (∀ e ∈ oj.after, Region.binds md e = true → e.on ≠ i) → oi.apart ops oj = true) →
      i ∈ Region.ready md ops listed → ChainP md ops listed i D → Gives P ops S oi v a → S w →
      (∀ w3, Below w.heap.size w w3 → HeldG n P md ops Q S Z fuel (listed.setIfInBounds i true) (a.put oi.dst v) w3) → HeldG n P md ops Q S Z (fuel + 1) listed a w := by
  induction fuel with
  | zero =>
    intro listed a w _ hr hch hy hS H
    refine ⟨fun h => (by rw [h] at hr; cases hr), fun j hj => ?_⟩
    by_cases hji : j = i
    · subst hji; exact give_op hd hi hy hS fun w' hb => ⟨fun _ => hm _ _ hS hb, fun w3 hb3 => H w3 (hb.trans (hb3.mono hb.size))⟩
    · have := ready_mono hj hji
      rw [(H w (Below.refl _ _)).1] at this
      cases this
  | succ fuel ih =>
    intro listed a w hfree hr hch hy hS H
    refine ⟨fun h => (by rw [h] at hr; cases hr), fun j hj => ?_⟩
    by_cases hji : j = i
    · subst hji; exact give_op hd hi hy hS fun w' hb => ⟨fun _ => hm _ _ hS hb, fun w3 hb3 => H w3 (hb.trans (hb3.mono hb.size))⟩
    · have h1 := (H w (Below.refl _ _)).2 j (ready_mono hj hji)
      obtain ⟨hjun, oj, hoj, hall⟩ := mem_ready.1 hj
      have hiun := (mem_ready.1 hr).1
      have hnot : ∀ e ∈ oj.after, Region.binds md e = true → e.on ≠ i := fun e he hb heq => by
        have h1 := hall e he hb
        rw [heq] at h1
        exact unlisted hiun h1
      have hap := hfree j oj hoj hji hjun hnot
      obtain ⟨_, _, h3'⟩ := Oper.apart_spec hap
      have h2 := putY (Y := Gives P ops S oi v) (fun _ => trivial) hd hoj hap (fun cs b => hsel j oj cs b hoj) hQ
        (fun a hy u => hy.of_same (execOp_put oi (fun cs b => hsel i oi cs b hi) a oj.dst u h3') (wanted_put oi a oj.dst u h3')) (fun a d hy => hy.of_same rfl rfl) hy h1
      have hjD := hch.wait hiun hj
      have hjZ : Z.contains j = false := by
        rw [Bool.eq_false_iff]
        intro hc
        exact hjD (hZ j (List.contains_iff_mem.1 hc))
      refine wpOpIn_mono (fun a' w' h3 => ⟨h3.2.1, fun w4 hb4 => ih (listed.setIfInBounds j true) a' w4 (fun k ok hk hki hun hno => hfree k ok hk hki ?_ hno) (ready_mono hr (Ne.symm hji)) ?_ h3.1 (hm _ _ (h3.2.1 hjZ) hb4) ?_⟩) h2
      · by_cases hjk : j = k
        · subst hjk; exact hjun
        · rw [getD_set_ne true hjk] at hun; exact hun
      · intro d hdD
        obtain ⟨e1, e2⟩ := hch d hdD
        have hjd : j ≠ d := by rintro rfl; exact hjD hdD
        exact ⟨by rw [getD_set_ne true hjd]; exact e1, e2⟩
      · intro w3 hb3
        rw [Array.setIfInBounds_comm _ _ hji]
        exact h3.2.2 w3 (hb4.trans (hb3.mono hb4.size))

structure Sound (P : Program) (ops : Array Oper) (Q : Exit → Act → World → Prop) (S : World → Prop) : Prop where
  calm : Calm ops = true
  nosel : Region.noSelect ops = true
  mono : ∀ w w', S w → Below w.heap.size w w' → S w'
  pan : ∀ d v c a w, Q (.panic c) (Act.put a d v) w → Q (.panic c) a w
def okTake (md : Region.Mode) (ops : Array Oper) (Z : List Nat) (L : Array Bool) (i : Nat) (D : List Nat) : Bool :=
  Region.free md ops L i && (Region.ready md ops L).contains i && Z.all (D.contains ·) && Chain md ops L i D
/-- number i, which gives v wherever S holds, is taken -/
theorem give_take (D : List Nat) (i : Nat) (v : Value) (s : Sound P ops Q S) {oi : Oper} {fuel : Nat} {listed : Array Bool} {a : Act} {w : World} (hi : ops[i]? = some oi)
    (hk : okTake md ops Z listed i D = true) (hS : S w) (hy : Gives P ops S oi v a)
    (h : ∀ w3, S w3 → HeldG n P md ops Q S Z fuel (listed.setIfInBounds i true) (a.put oi.dst v) w3) : HeldG n P md ops Q S Z (fuel + 1) listed a w := by
  unfold okTake at hk
  simp only [Bool.and_eq_true] at hk
  obtain ⟨⟨⟨hf, hr⟩, hz⟩, hc⟩ := hk
  refine give_first s.calm hi (Region.noSelect_spec s.nosel) (fun c a w => s.pan _ _ _ _ _) D (fun z hz' => ?_) s.mono fuel listed a w (Region.free_spec hi hf) (by simpa using hr) (chain_spec hc) hy hS fun w3 hb => h w3 (s.mono _ _ hS hb)
  have := List.all_eq_true.1 hz z hz'
  exact List.contains_iff_mem.1 this
theorem give_pure (D : List Nat) (i : Nat) (v : Value) (s : Sound P ops Q S) {oi : Oper} {fuel : Nat} {listed : Array Bool} {a : Act} {w : World} (hi : ops[i]? = some oi)
    (hk : okTake md ops Z listed i D = true) (hS : S w) (hw : Region.wanted oi (yielded ops a.tmps) = true) (hv : ∀ w, S w → (execOp a.eval oi).run P w = .ok (.value v) w)
    (h : ∀ w3, S w3 → HeldG n P md ops Q S Z fuel (listed.setIfInBounds i true) (a.put oi.dst v) w3) : HeldG n P md ops Q S Z (fuel + 1) listed a w :=
  give_take D i v s hi hk hS (Or.inl ⟨hw, fun w hS => Or.inl (hv w hS)⟩) h
theorem give_call (D : List Nat) (i : Nat) (f : FuncId) (args : Array Value) (v : Value) (s : Sound P ops Q S) {oi : Oper} {fuel : Nat} {listed : Array Bool} {a : Act} {w : World} (hi : ops[i]? = some oi)
    (hk : okTake md ops Z listed i D = true) (hS : S w) (hw : Region.wanted oi (yielded ops a.tmps) = true) (hv : ∀ w, (execOp a.eval oi).run P w = .ok (.enter f args) w)
    (hc : ∀ w, Calls P f args w fun e w' => e = .returned v ∧ Below w.heap.size w w')
    (h : ∀ w3, S w3 → HeldG n P md ops Q S Z fuel (listed.setIfInBounds i true) (a.put oi.dst v) w3) : HeldG n P md ops Q S Z (fuel + 1) listed a w :=
  give_take D i v s hi hk hS (Or.inl ⟨hw, fun w _ => Or.inr ⟨f, args, hv w, hc w⟩⟩) h
theorem give_no (D : List Nat) (i : Nat) (s : Sound P ops Q S) {oi : Oper} {fuel : Nat} {listed : Array Bool} {a : Act} {w : World} (hi : ops[i]? = some oi)
    (hk : okTake md ops Z listed i D = true) (hS : S w) (hw : Region.wanted oi (yielded ops a.tmps) = false)
    (h : ∀ w3, S w3 → HeldG n P md ops Q S Z fuel (listed.setIfInBounds i true) (a.put oi.dst undef) w3) : HeldG n P md ops Q S Z (fuel + 1) listed a w :=
  give_take D i undef s hi hk hS (Or.inr ⟨hw, rfl⟩) h

/-- one alone may come up: it is carried out -/
theorem give_step (i : Nat) {o : Oper} {fuel : Nat} {listed : Array Bool} {a : Act} {w : World} (hr : Region.ready md ops listed = [i]) (ho : ops[i]? = some o)
    (h : ∀ K' : Act → World → Prop, Shut (∀ a w, (Z.contains i = false → S w) → (∀ w3, Below w.heap.size w w3 → HeldG n P md ops Q S Z fuel (listed.setIfInBounds i true) a w3) → K' a w) → if Region.wanted o (yielded ops a.tmps) = true then Oper.wpIn Fence.wide n P o a w K' Q else K' (a.put o.dst undef) w) :
    HeldG n P md ops Q S Z (fuel + 1) listed a w := by
  refine ⟨fun h0 => (by rw [hr] at h0; cases h0), fun j hj => ?_⟩
  rw [hr, List.mem_singleton] at hj
  subst hj
  unfold wpOpIn
  simp only [ho]
  have h' := h (fun a' w' => (Z.contains j = false → S w') ∧ ∀ w3, Below w'.heap.size w' w3 → HeldG n P md ops Q S Z fuel (listed.setIfInBounds j true) a' w3) (fun a w hS hW => ⟨hS, hW⟩)
  split
  · rename_i hw
    rw [if_pos hw] at h'
    exact h'
  · rename_i hw
    rw [if_neg hw] at h'
    exact ⟨fun f _ => trivial, h'⟩

theorem give_done {listed : Array Bool} {a : Act} {w : World} (hr : Region.ready md ops listed = []) (h : Q .normal a w) : ∀ fuel, HeldG n P md ops Q S Z fuel listed a w
  | 0 => ⟨hr, h⟩
  | _ + 1 => ⟨fun _ => h, by rw [hr]; simp⟩

theorem give_region (S : World → Prop) (Z : List Nat) {id : Nat} {a : Act} {w : World} (hmx : P.follows .mixedOrders = true) (hok : (Calm ops && Region.noSelect ops) = true) (hm : ∀ w w', S w → Below w.heap.size w w' → S w')
    (pan : ∀ d v c a w, Q (.panic c) (Act.put a d v) w → Q (.panic c) a w) (hS : S w.drew)
    (h : Sound P ops Q S → ∀ w1, S w1 → HeldG n P .any ops Q S Z ops.size (Array.replicate ops.size false) a w1) : (Code.region id ops true).wpIn Fence.wide n P Q a w :=
  wpIn_region_any hmx (HeldG.any _ _ _ _ (h ⟨(Bool.and_eq_true _ _ ▸ hok).1, (Bool.and_eq_true _ _ ▸ hok).2, hm, pan⟩ _ hS))
theorem below_mono {V : World} (w w' : World) (h : Below V.heap.size V w) (k : Below w.heap.size w w') : Below V.heap.size V w' := h.trans (k.mono h.size)
end
end Go.Proofs.Ytgkglkoipocgaaa.Fx
set_option linter.unusedVariables false
namespace Go.Proofs.Ytgkglkoipocgaaa.Fx
open Go Go.RowKit
section
variable {F : Fence} {n : Nat} {P : Program} {ops : Array Oper} {Q : Exit → Act → World → Prop} {md : Region.Mode} {S : World → Prop} {Z : List Nat}
def HeldZ (F : Fence) (n : Nat) (P : Program) (md : Region.Mode) (ops : Array Oper) (Q : Exit → Act → World → Prop) (S : World → Prop) (Z : List Nat) : Nat → Array Bool → Act → World → Prop
  | 0, listed, a, w => Region.ready md ops listed = [] ∧ Q .normal a w
  | fuel + 1, listed, a, w =>
    (Region.ready md ops listed = [] → Q .normal a w) ∧
    ∀ i ∈ Region.ready md ops listed, wpOpIn F n P ops Q i (fun a' w' => (Z.contains i = false → S w') ∧ HeldZ F n P md ops Q S Z fuel (listed.setIfInBounds i true) a' w') a w
theorem HeldZ.any : ∀ (fuel : Nat) (listed : Array Bool) (a : Act) (w : World), HeldZ F n P md ops Q S Z fuel listed a w → wpAnyIn F n P md ops Q fuel listed a w
  | 0, _, _, _, h => h
  | fuel + 1, _, _, _, h => ⟨h.1, fun i hi => wpOpIn_mono (fun a' w' h' => HeldZ.any fuel _ a' w' h'.2) (h.2 i hi)⟩
theorem heldz_first (hF : ∀ f, F.fn f) (hd : Calm ops = true) {i : Nat} {oi : Oper} {v : Value} (hi : ops[i]? = some oi) (hsel : ∀ (j : Nat) (o : Oper) cs b, ops[j]? = some o → o.op ≠ .select cs b)
    (hQ : ∀ c a w, Q (.panic c) (a.put oi.dst v) w → Q (.panic c) a w) (D : List Nat) (hZ : ∀ z ∈ Z, z ∈ D) (fuel : Nat) :
    ∀ (listed : Array Bool) (a : Act) (w : World),
      (∀ j oj, ops[j]? = some oj → j ≠ i → listed.getD j true = false → (∀ e ∈ oj.after, Region.binds md e = true → e.on ≠ i) → oi.apart ops oj = true) →
      i ∈ Region.ready md ops listed → ChainP md ops listed i D → YieldsIf P ops S oi v a → S w →
      HeldZ F n P md ops Q S Z fuel (listed.setIfInBounds i true) (a.put oi.dst v) w → HeldZ F n P md ops Q S Z (fuel + 1) listed a w := by
  induction fuel with
  | zero =>
    intro listed a w _ hr hch hy hS H
    refine ⟨fun h => (by rw [h] at hr; cases hr), fun j hj => ?_⟩
    by_cases hji : j = i
    · subst hji; exact held_op hF hd hi hy hS ⟨fun _ => hS, H⟩
    · have := ready_mono hj hji
      rw [H.1] at this
      cases this
  | succ fuel ih =>
    intro listed a w hfree hr hch hy hS H
    refine ⟨fun h => (by rw [h] at hr; cases hr), fun j hj => ?_⟩
    by_cases hji : j = i
    · subst hji; exact held_op hF hd hi hy hS ⟨fun _ => hS, H⟩
    · have h1 := H.2 j (ready_mono hj hji)
      obtain ⟨hjun, oj, hoj, hall⟩ := mem_ready.1 hj
      have hiun := (mem_ready.1 hr).1
      have hnot : ∀ e ∈ oj.after, Region.binds md e = true → e.on ≠ i := fun e he hb heq => by
        have h1 := hall e he hb
        rw [heq] at h1
        exact unlisted hiun h1
      have h2 := held_put hF hd hoj (hfree j oj hoj hji hjun hnot) (fun cs b => hsel i oi cs b hi) (fun cs b => hsel j oj cs b hoj) hQ hy h1
      have hjD := hch.wait hiun hj
      have hjZ : Z.contains j = false := by
        rw [Bool.eq_false_iff]
        intro hc
        exact hjD (hZ j (List.contains_iff_mem.1 hc))
      refine wpOpIn_mono (fun a' w' h3 => ⟨h3.2.1, ih (listed.setIfInBounds j true) a' w' (fun k ok hk hki hun hno => hfree k ok hk hki ?_ hno) (ready_mono hr (Ne.symm hji)) ?_ h3.1 (h3.2.1 hjZ) ?_⟩) h2
      · by_cases hjk : j = k
        · subst hjk; exact hjun
        · rw [getD_set_ne true hjk] at hun; exact hun
      · intro d hdD
        obtain ⟨e1, e2⟩ := hch d hdD
        have hjd : j ≠ d := by rintro rfl; exact hjD hdD
        exact ⟨by rw [getD_set_ne true hjd]; exact e1, e2⟩
      · rw [Array.setIfInBounds_comm _ _ hji]
        exact h3.2.2
/-- number i, which yields v wherever S holds, is taken first -/
theorem heldz_take (hF : ∀ f, F.fn f) (D : List Nat) (i : Nat) (v : Value) (hok : (Calm ops && Region.noSelect ops) = true) {oi : Oper} {fuel : Nat} {listed : Array Bool} {a : Act} {w : World} (hi : ops[i]? = some oi)
    (hk : okTake md ops Z listed i D = true) (hQ : ∀ c a w, Q (.panic c) (a.put oi.dst v) w → Q (.panic c) a w) (hS : S w) (hw : Region.wanted oi (yielded ops a.tmps) = true) (hv : ∀ w, S w → (execOp a.eval oi).run P w = .ok (.value v) w)
    (h : HeldZ F n P md ops Q S Z fuel (listed.setIfInBounds i true) (a.put oi.dst v) w) : HeldZ F n P md ops Q S Z (fuel + 1) listed a w := by
  unfold okTake at hk
  simp only [Bool.and_eq_true] at hk hok
  obtain ⟨⟨⟨hf, hr⟩, hz⟩, hc⟩ := hk
  refine heldz_first hF hok.1 hi (Region.noSelect_spec hok.2) hQ D (fun z hz' => ?_) fuel listed a w (Region.free_spec hi hf) (by simpa using hr) (chain_spec hc) (Or.inl ⟨hw, hv⟩) hS h
  have := List.all_eq_true.1 hz z hz'
  exact List.contains_iff_mem.1 this
/-- number i is not carried out -/
theorem heldz_no (hF : ∀ f, F.fn f) (D : List Nat) (i : Nat) (hok : (Calm ops && Region.noSelect ops) = true) {oi : Oper} {fuel : Nat} {listed : Array Bool} {a : Act} {w : World} (hi : ops[i]? = some oi)
    (hk : okTake md ops Z listed i D = true) (hQ : ∀ c a w, Q (.panic c) (a.put oi.dst undef) w → Q (.panic c) a w) (hS : S w) (hw : Region.wanted oi (yielded ops a.tmps) = false)
    (h : HeldZ F n P md ops Q S Z fuel (listed.setIfInBounds i true) (a.put oi.dst undef) w) : HeldZ F n P md ops Q S Z (fuel + 1) listed a w := by
  unfold okTake at hk
  simp only [Bool.and_eq_true] at hk hok
  obtain ⟨⟨⟨hf, hr⟩, hz⟩, hc⟩ := hk
  refine heldz_first hF hok.1 hi (Region.noSelect_spec hok.2) hQ D (fun z hz' => ?_) fuel listed a w (Region.free_spec hi hf) (by simpa using hr) (chain_spec hc) (Or.inr ⟨hw, rfl⟩) hS h
  have := List.all_eq_true.1 hz z hz'
  exact List.contains_iff_mem.1 this
/-- one alone may come up: it is carried out -/
theorem heldz_step (hF : ∀ f, F.fn f) (i : Nat) {o : Oper} {fuel : Nat} {listed : Array Bool} {a : Act} {w : World} (hr : Region.ready md ops listed = [i]) (ho : ops[i]? = some o)
    (h : ∀ K' : Act → World → Prop, Shut (∀ a w, (Z.contains i = false → S w) → HeldZ F n P md ops Q S Z fuel (listed.setIfInBounds i true) a w → K' a w) → if Region.wanted o (yielded ops a.tmps) = true then Oper.wpIn F n P o a w K' Q else K' (a.put o.dst undef) w) :
    HeldZ F n P md ops Q S Z (fuel + 1) listed a w := by
  refine ⟨fun h0 => (by rw [hr] at h0; cases h0), fun j hj => ?_⟩
  rw [hr, List.mem_singleton] at hj
  subst hj
  unfold wpOpIn
  simp only [ho]
  have h' := h (fun a' w' => (Z.contains j = false → S w') ∧ HeldZ F n P md ops Q S Z fuel (listed.setIfInBounds j true) a' w') (fun a w hS hW => ⟨hS, hW⟩)
  split
  · rename_i hw
    rw [if_pos hw] at h'
    exact h'
  · rename_i hw
    rw [if_neg hw] at h'
    exact ⟨fun f _ => hF f, h'⟩
theorem heldz_done {listed : Array Bool} {a : Act} {w : World} (hr : Region.ready md ops listed = []) (h : Q .normal a w) : ∀ fuel, HeldZ F n P md ops Q S Z fuel listed a w
  | 0 => ⟨hr, h⟩
  | _ + 1 => ⟨fun _ => h, by rw [hr]; simp⟩
theorem heldz_region (S : World → Prop) (Z : List Nat) {id : Nat} {a : Act} {w : World} (hmx : P.follows .mixedOrders = true)
    (h : HeldZ F n P .any ops Q S Z ops.size (Array.replicate ops.size false) a w.drew) : (Code.region id ops true).wpIn F n P Q a w :=
  wpIn_region_any hmx (HeldZ.any _ _ _ _ h)
end
end Go.Proofs.Ytgkglkoipocgaaa.Fx
