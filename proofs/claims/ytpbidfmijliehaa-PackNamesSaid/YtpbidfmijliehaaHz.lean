/- A region that draws its order, in a round of a loop over an iterator too: what yields its value in every world that meets S is taken when it is due; S need not hold behind the operations of Z, to which all that is still to be taken leads. The worlds stay known. -/
import Derived.Test.YtpbidfmijliehaaProg
import Derived.Test.YtpbidfmijliehaaHd
import Derived.Test.YtpbidfmijliehaaHg
set_option linter.unusedVariables false
namespace Go.Proofs.Ytpbidfmijliehaa.Fx
open Go Go.RowKit
section
variable {F : Fence} {n : Nat} {P : Program} {ops : Array Oper} {Q : Exit → Act → World → Prop} {md : Region.Mode} {S : World → Prop} {Z : List Nat}
def HeldZ (F : Fence) (n : Nat) (P : Program) (md : Region.Mode) (ops : Array Oper) (Q : Exit → Act → World → Prop) (S : World → Prop) (Z : List Nat) : Nat → Array Bool → Act → World → Prop
  | 0, listed, a, w => Region.ready md ops listed = [] ∧ Q .normal a w
  | fuel + 1, listed, a, w =>
    (Region.ready md ops listed = [] → Q .normal a w) ∧
    ∀ i ∈ Region.ready md ops listed, wpOpIn F n P ops Q i (fun a' w' => (Z.contains i = false → S w') ∧ HeldZ F n P md ops Q S Z fuel (listed.setIfInBounds i true) a' w') a w
theorem HeldZ.any : ∀ (fuel : Nat) (listed : Array Bool) (a : Act) (w : World), HeldZ F n P md ops Q S Z fuel listed a w → wpAnyIn F n P md ops Q fuel listed a w
  | 0, _, _, _, h => h
  | fuel + 1, _, _, _, h => ⟨h.1, fun i hi => wpOpIn_mono (fun a' w' h' => HeldZ.any fuel _ a' w' h'.2) (h.2 i hi)⟩
theorem heldz_first (hF : ∀ f, F.fn f) (hd : Calm ops = true) {i : Nat} {oi : Oper} {v : Value} (hi : ops[i]? = some oi) (hsel : ∀ (j : Nat) (o : Oper) cs b, ops[j]? = some o → o.op ≠ .select cs b)
    (hQ : ∀ c a w, Q (.panic c) (a.put oi.dst v) w → Q (.panic c) a w) (D : List Nat) (hZ : ∀ z ∈ Z, z ∈ D) (fuel : Nat) :
    ∀ (listed : Array Bool) (a : Act) (w : World),
      (∀ j oj, ops[j]? = some oj → j ≠ i → listed.getD j true = false → (∀ e ∈ oj.after, Region.binds md e = true → e.on ≠ i) → oi.apart ops oj = true) →
      i ∈ Region.ready md ops listed → ChainP md ops listed i D → YieldsIf P ops S oi v a → S w →
      HeldZ F n P md ops Q S Z fuel (listed.setIfInBounds i true) (a.put oi.dst v) w → HeldZ F n P md ops Q S Z (fuel + 1) listed a w := by
  induction fuel with
  | zero =>
    intro listed a w _ hr hch hy hS H
    refine ⟨fun h => (by rw [h] at hr; cases hr), fun j hj => ?_⟩
    by_cases hji : j = i
    · subst hji; exact held_op hF hd hi hy hS ⟨fun _ => hS, H⟩
    · have := ready_mono hj hji
      rw [H.1] at this
      cases this
  | succ fuel ih =>
    intro listed a w hfree hr hch hy hS H
    refine ⟨fun h => (by rw [h] at hr; cases hr), fun j hj => ?_⟩
    by_cases hji : j = i
    · subst hji; exact held_op hF hd hi hy hS ⟨fun _ => hS, H⟩
    · have h1 := H.2 j (ready_mono hj hji)
      obtain ⟨hjun, oj, hoj, hall⟩ := mem_ready.1 hj
      have hiun := (mem_ready.1 hr).1
      have hnot : ∀ e ∈ oj.after, Region.binds md e = true → e.on ≠ i := fun e he hb heq => by
        have h1 := hall e he hb
        rw [heq] at h1
        exact unlisted hiun h1
      have h2 := held_put hF hd hoj (hfree j oj hoj hji hjun hnot) (fun cs b => hsel i oi cs b hi) (fun cs b => hsel j oj cs b hoj) hQ hy h1
      have hjD := hch.wait hiun hj
      have hjZ : Z.contains j = false := by
        rw [Bool.eq_false_iff]
        intro hc
        exact hjD (hZ j (List.contains_iff_mem.1 hc))
      refine wpOpIn_mono (fun a' w' h3 => ⟨h3.2.1, ih (listed.setIfInBounds j true) a' w' (fun k ok hk hki hun hno => hfree k ok hk hki ?_ hno) (ready_mono hr (Ne.symm hji)) ?_ h3.1 (h3.2.1 hjZ) ?_⟩) h2
      · by_cases hjk : j = k
        · subst hjk; exact hjun
        · rw [getD_set_ne true hjk] at hun; exact hun
      · intro d hdD
        obtain ⟨e1, e2⟩ := hch d hdD
        have hjd : j ≠ d := by rintro rfl; exact hjD hdD
        exact ⟨by rw [getD_set_ne true hjd]; exact e1, e2⟩
      · rw [Array.setIfInBounds_comm _ _ hji]
        exact h3.2.2
/-- number i, which yields v wherever S holds, is taken first -/
theorem heldz_take (hF : ∀ f, F.fn f) (D : List Nat) (i : Nat) (v : Value) (hok : (Calm ops && Region.noSelect ops) = true) {oi : Oper} {fuel : Nat} {listed : Array Bool} {a : Act} {w : World} (hi : ops[i]? = some oi)
    (hk : okTake md ops Z listed i D = true) (hQ : ∀ c a w, Q (.panic c) (a.put oi.dst v) w → Q (.panic c) a w) (hS : S w) (hw : Region.wanted oi (yielded ops a.tmps) = true) (hv : ∀ w, S w → (execOp a.eval oi).run P w = .ok (.value v) w)
    (h : HeldZ F n P md ops Q S Z fuel (listed.setIfInBounds i true) (a.put oi.dst v) w) : HeldZ F n P md ops Q S Z (fuel + 1) listed a w := by
  unfold okTake at hk
  simp only [Bool.and_eq_true] at hk hok
  obtain ⟨⟨⟨hf, hr⟩, hz⟩, hc⟩ := hk
  refine heldz_first hF hok.1 hi (Region.noSelect_spec hok.2) hQ D (fun z hz' => ?_) fuel listed a w (Region.free_spec hi hf) (by simpa using hr) (chain_spec hc) (Or.inl ⟨hw, hv⟩) hS h
  have := List.all_eq_true.1 hz z hz'
  exact List.contains_iff_mem.1 this
/-- number i is not carried out -/
theorem heldz_no (hF : ∀ f, F.fn f) (D : List Nat) (i : Nat) (hok : (Calm ops && Region.noSelect ops) = true) {oi : Oper} {fuel : Nat} {listed : Array Bool} {a : Act} {w : World} (hi : ops[i]? = some oi)
    (hk : okTake md ops Z listed i D = true) (hQ : ∀ c a w, Q (.panic c) (a.put oi.dst undef) w → Q (.panic c) a w) (hS : S w) (hw : Region.wanted oi (yielded ops a.tmps) = false)
    (h : HeldZ F n P md ops Q S Z fuel (listed.setIfInBounds i true) (a.put oi.dst undef) w) : HeldZ F n P md ops Q S Z (fuel + 1) listed a w := by
  unfold okTake at hk
  simp only [Bool.and_eq_true] at hk hok
  obtain ⟨⟨⟨hf, hr⟩, hz⟩, hc⟩ := hk
  refine heldz_first hF hok.1 hi (Region.noSelect_spec hok.2) hQ D (fun z hz' => ?_) fuel listed a w (Region.free_spec hi hf) (by simpa using hr) (chain_spec hc) (Or.inr ⟨hw, rfl⟩) hS h
  have := List.all_eq_true.1 hz z hz'
  exact List.contains_iff_mem.1 this
/-- one alone may come up: it is carried out -/
theorem heldz_step (hF : ∀ f, F.fn f) (i : Nat) {o : Oper} {fuel : Nat} {listed : Array Bool} {a : Act} {w : World} (hr : Region.ready md ops listed = [i]) (ho : ops[i]? = some o)
    (h : ∀ K' : Act → World → Prop, Shut (∀ a w, (Z.contains i = false → S w) → HeldZ F n P md ops Q S Z fuel (listed.setIfInBounds i true) a w → K' a w) → if Region.wanted o (yielded ops a.tmps) = true then Oper.wpIn F n P o a w K' Q else K' (a.put o.dst undef) w) :
    HeldZ F n P md ops Q S Z (fuel + 1) listed a w := by
  refine ⟨fun h0 => (by rw [hr] at h0; cases h0), fun j hj => ?_⟩
  rw [hr, List.mem_singleton] at hj
  subst hj
  unfold wpOpIn
  simp only [ho]
  have h' := h (fun a' w' => (Z.contains j = false → S w') ∧ HeldZ F n P md ops Q S Z fuel (listed.setIfInBounds j true) a' w') (fun a w hS hW => ⟨hS, hW⟩)
  split
  · rename_i hw
    rw [if_pos hw] at h'
    exact h'
  · rename_i hw
    rw [if_neg hw] at h'
    exact ⟨fun f _ => hF f, h'⟩
theorem heldz_done {listed : Array Bool} {a : Act} {w : World} (hr : Region.ready md ops listed = []) (h : Q .normal a w) : ∀ fuel, HeldZ F n P md ops Q S Z fuel listed a w
  | 0 => ⟨hr, h⟩
  | _ + 1 => ⟨fun _ => h, by rw [hr]; simp⟩
theorem heldz_region (S : World → Prop) (Z : List Nat) {id : Nat} {a : Act} {w : World} (hmx : P.follows .mixedOrders = true)
    (h : HeldZ F n P .any ops Q S Z ops.size (Array.replicate ops.size false) a w.drew) : (Code.region id ops true).wpIn F n P Q a w :=
  wpIn_region_any hmx (HeldZ.any _ _ _ _ h)
end
end Go.Proofs.Ytpbidfmijliehaa.Fx
