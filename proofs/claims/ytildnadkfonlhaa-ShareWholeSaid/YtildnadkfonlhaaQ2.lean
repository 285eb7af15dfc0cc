/- Rows by their block, and two that may come up in a region that draws its order. 
  The document's Within, walked. 
  The document's Sum of products, walked. -/
import Derived.Test.YtildnadkfonlhaaProg
import Derived.Test.YtildnadkfonlhaaHg
import Derived.Test.YtildnadkfonlhaaLd
import Derived.Test.YtildnadkfonlhaaBt
import Derived.Test.YtildnadkfonlhaaMu
import Derived.Test.YtildnadkfonlhaaD2
set_option linter.unusedVariables false
namespace Go.Proofs.Ytildnadkfonlhaa.Fx
open Go Go.RowKit Wm
section
variable {n : Nat} {P : Program} {ops : Array Oper} {Q : Exit → Act → World → Prop} {md : Region.Mode} {S : World → Prop} {Z : List Nat}
def RowAt (t : TypeId) (g : Nat) (cs : Array Value) (W : World) : Prop := W.heap[g]? = some (.cells cs t (0, 0))
theorem RowAt.below {t : TypeId} {g : Nat} {cs : Array Value} {W X : World} (hb : Below W.heap.size W X) (h : RowAt t g cs W) : RowAt t g cs X := keep_row hb h
theorem RowAt.row {t : TypeId} {g : Nat} {cs : Array Value} {W : World} (h : RowAt t g cs W) (c : Array Value) : RowAt t g c (W.setRow g c) := setRow_heap _ _ _ _ _ _ h
theorem RowAt.other {t : TypeId} {g k : Nat} {cs : Array Value} {W : World} (h : RowAt t g cs W) (hk : g ≠ k) (c : Array Value) : RowAt t g cs (W.setRow k c) := by unfold RowAt; rw [setRow_other _ _ _ _ hk]; exact h
theorem RowAt.lt {t : TypeId} {g : Nat} {cs : Array Value} {W : World} (h : RowAt t g cs W) : g < W.heap.size := (Array.getElem?_eq_some_iff.1 h).1
theorem RowAt.new (W : World) (t : TypeId) (cs : Array Value) : RowAt t W.heap.size cs (W.alloc (.cells cs t)) := heap_alloc_new _ _
theorem RowAt.alloc {t : TypeId} {g : Nat} {cs : Array Value} {W : World} (h : RowAt t g cs W) (o : Obj) : RowAt t g cs (W.alloc o) := step_row h
theorem RowAt.cell {t : TypeId} {g j : Nat} {cs : Array Value} {W : World} (h : RowAt t g cs W) : W.cell? ⟨g, j, none⟩ = cs[j]? := cell_of_row _ _ _ _ _ _ h
theorem RowAt.free {t : TypeId} {g j : Nat} {cs : Array Value} {W : World} (h : RowAt t g cs W) : W.frozen? ⟨g, j, none⟩ = false := frozen_row h
/-- two may come up -/
theorem give_step2 (i j : Nat) {o o2 : Oper} {fuel : Nat} {listed : Array Bool} {a : Act} {w : World} (hr : Region.ready md ops listed = [i, j]) (ho : ops[i]? = some o) (ho2 : ops[j]? = some o2)
    (h : ∀ K' : Act → World → Prop, Shut (∀ a w, (Z.contains i = false → S w) → (∀ w3, Below w.heap.size w w3 → HeldG n P md ops Q S Z fuel (listed.setIfInBounds i true) a w3) → K' a w) → if Region.wanted o (yielded ops a.tmps) = true then Oper.wpIn Fence.wide n P o a w K' Q else K' (a.put o.dst undef) w)
    (h2 : ∀ K' : Act → World → Prop, Shut (∀ a w, (Z.contains j = false → S w) → (∀ w3, Below w.heap.size w w3 → HeldG n P md ops Q S Z fuel (listed.setIfInBounds j true) a w3) → K' a w) → if Region.wanted o2 (yielded ops a.tmps) = true then Oper.wpIn Fence.wide n P o2 a w K' Q else K' (a.put o2.dst undef) w) :
    HeldG n P md ops Q S Z (fuel + 1) listed a w := by
  refine ⟨fun h0 => (by rw [hr] at h0; cases h0), fun k hk => ?_⟩
  rw [hr] at hk
  simp only [List.mem_cons, List.not_mem_nil, or_false] at hk
  rcases hk with rfl | rfl
  · unfold wpOpIn
    simp only [ho]
    have h' := h (fun a' w' => (Z.contains k = false → S w') ∧ ∀ w3, Below w'.heap.size w' w3 → HeldG n P md ops Q S Z fuel (listed.setIfInBounds k true) a' w3) (fun a w hS hW => ⟨hS, hW⟩)
    split
    · rename_i hw
      rw [if_pos hw] at h'
      exact h'
    · rename_i hw
      rw [if_neg hw] at h'
      exact ⟨fun f _ => trivial, h'⟩
  · unfold wpOpIn
    simp only [ho2]
    have h' := h2 (fun a' w' => (Z.contains k = false → S w') ∧ ∀ w3, Below w'.heap.size w' w3 → HeldG n P md ops Q S Z fuel (listed.setIfInBounds k true) a' w3) (fun a w hS hW => ⟨hS, hW⟩)
    split
    · rename_i hw
      rw [if_pos hw] at h'
      exact h'
    · rename_i hw
      rw [if_neg hw] at h'
      exact ⟨fun f _ => trivial, h'⟩
/-- as give_take, and nothing that was is touched -/
theorem grow_take (D : List Nat) (i : Nat) (v : Value) (s : Sound P ops Q S) {oi : Oper} {fuel : Nat} {listed : Array Bool} {a : Act} {w : World} (hi : ops[i]? = some oi)
    (hk : okTake md ops Z listed i D = true) (hS : S w) (hy : Gives P ops S oi v a)
    (h : ∀ w3, S w3 → Below w.heap.size w w3 → HeldG n P md ops Q S Z fuel (listed.setIfInBounds i true) (a.put oi.dst v) w3) : HeldG n P md ops Q S Z (fuel + 1) listed a w := by
  unfold okTake at hk
  simp only [Bool.and_eq_true] at hk
  obtain ⟨⟨⟨hf, hr⟩, hz⟩, hc⟩ := hk
  refine give_first s.calm hi (Region.noSelect_spec s.nosel) (fun c a w => s.pan _ _ _ _ _) D (fun z hz' => ?_) s.mono fuel listed a w (Region.free_spec hi hf) (by simpa using hr) (chain_spec hc) hy hS fun w3 hb => h w3 (s.mono _ _ hS hb) hb
  have := List.all_eq_true.1 hz z hz'
  exact List.contains_iff_mem.1 this
theorem grow_pure (D : List Nat) (i : Nat) (v : Value) (s : Sound P ops Q S) {oi : Oper} {fuel : Nat} {listed : Array Bool} {a : Act} {w : World} (hi : ops[i]? = some oi)
    (hk : okTake md ops Z listed i D = true) (hS : S w) (hw : Region.wanted oi (yielded ops a.tmps) = true) (hv : ∀ w, S w → (execOp a.eval oi).run P w = .ok (.value v) w)
    (h : ∀ w3, S w3 → Below w.heap.size w w3 → HeldG n P md ops Q S Z fuel (listed.setIfInBounds i true) (a.put oi.dst v) w3) : HeldG n P md ops Q S Z (fuel + 1) listed a w :=
  grow_take D i v s hi hk hS (Or.inl ⟨hw, fun w hS => Or.inl (hv w hS)⟩) h
theorem grow_call (D : List Nat) (i : Nat) (f : FuncId) (args : Array Value) (v : Value) (s : Sound P ops Q S) {oi : Oper} {fuel : Nat} {listed : Array Bool} {a : Act} {w : World} (hi : ops[i]? = some oi)
    (hk : okTake md ops Z listed i D = true) (hS : S w) (hw : Region.wanted oi (yielded ops a.tmps) = true) (hv : ∀ w, (execOp a.eval oi).run P w = .ok (.enter f args) w)
    (hc : ∀ w, Calls P f args w fun e w' => e = .returned v ∧ Below w.heap.size w w')
    (h : ∀ w3, S w3 → Below w.heap.size w w3 → HeldG n P md ops Q S Z fuel (listed.setIfInBounds i true) (a.put oi.dst v) w3) : HeldG n P md ops Q S Z (fuel + 1) listed a w :=
  grow_take D i v s hi hk hS (Or.inl ⟨hw, fun w _ => Or.inr ⟨f, args, hv w, hc w⟩⟩) h
theorem grow_no (D : List Nat) (i : Nat) (s : Sound P ops Q S) {oi : Oper} {fuel : Nat} {listed : Array Bool} {a : Act} {w : World} (hi : ops[i]? = some oi)
    (hk : okTake md ops Z listed i D = true) (hS : S w) (hw : Region.wanted oi (yielded ops a.tmps) = false)
    (h : ∀ w3, S w3 → Below w.heap.size w w3 → HeldG n P md ops Q S Z fuel (listed.setIfInBounds i true) (a.put oi.dst undef) w3) : HeldG n P md ops Q S Z (fuel + 1) listed a w :=
  grow_take D i undef s hi hk hS (Or.inr ⟨hw, rfl⟩) h
end
end Go.Proofs.Ytildnadkfonlhaa.Fx
set_option linter.unusedVariables false
set_option linter.unusedSimpArgs false
namespace Go.Proofs.Ytildnadkfonlhaa.Fx
open Go Go.RowKit Wm
theorem wB_mono {bound : Int} {m : List Int} {k n : Nat} (h : wB bound m n = true) (hk : k ≤ n) : wB bound m k = true := by
  unfold wB at *
  rw [List.all_eq_true] at *
  intro j hj
  exact h j (List.mem_range.2 (Nat.lt_of_lt_of_le (List.mem_range.1 hj) hk))
theorem okB_no {bound x : Int} (h : bound < 0 ∨ bound < x ∨ x < -bound) : okB bound x = false := by
  unfold okB
  exact decide_eq_false (by omega)
theorem okB_yes {bound x : Int} (h : 0 ≤ bound) (h1 : x ≤ bound) (h2 : -bound ≤ x) : okB bound x = true := by
  unfold okB
  exact decide_eq_true ⟨h, h2, h1⟩
end Go.Proofs.Ytildnadkfonlhaa.Fx
set_option linter.unusedVariables false
set_option linter.unusedSimpArgs false
namespace Go.Proofs.Ytildnadkfonlhaa.Fx
open Go Go.RowKit Wm
def suV (q : Int) : Int := if okB 4611686018427387904 q = true then q else 0
def dsum (a v : List Int) : Nat → Int
  | 0 => 0
  | k + 1 => dsum a v k + a.getD k 0 * v.getD k 0
theorem dsum_4 (a v : List Int) : dsum a v 4 = dot a v := by
  simp only [dsum, dot]
  omega
theorem dsum_lt {a v : List Int} (ha : ∀ j, -9223372036854775808 ≤ a.getD j 0 ∧ a.getD j 0 ≤ 9223372036854775807) (hv : ∀ j, -9223372036854775808 ≤ v.getD j 0 ∧ v.getD j 0 ≤ 9223372036854775807) : ∀ k, (dsum a v k).natAbs ≤ k * 85070591730234615865843651857942052864
  | 0 => by simp [dsum]
  | k + 1 => by
    have h1 := dsum_lt ha hv k
    have h2 : (a.getD k 0 * v.getD k 0).natAbs ≤ 85070591730234615865843651857942052864 := by
      rw [Int.natAbs_mul]
      have h3 := ha k
      have h4 := hv k
      exact Nat.mul_le_mul (show (a.getD k 0).natAbs ≤ 9223372036854775808 by omega) (show (v.getD k 0).natAbs ≤ 9223372036854775808 by omega)
    rw [dsum]
    omega
theorem prod_lt2 {x y : Int} (hx : -9223372036854775808 ≤ x ∧ x ≤ 9223372036854775807) (hy : -9223372036854775808 ≤ y ∧ y ≤ 9223372036854775807) : (x * y).natAbs ≤ 85070591730234615865843651857942052864 := by
  rw [Int.natAbs_mul]
  exact Nat.mul_le_mul (show x.natAbs ≤ 9223372036854775808 by omega) (show y.natAbs ≤ 9223372036854775808 by omega)
theorem mC_cell {m : List Int} {k : Nat} (hk : k < m.length) : (mC m)[k]? = some (.int .i64 (m.getD k 0)) := mC_at m k hk
end Go.Proofs.Ytildnadkfonlhaa.Fx
