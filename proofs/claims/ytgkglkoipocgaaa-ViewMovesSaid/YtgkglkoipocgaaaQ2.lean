/- Rows by their block, and two that may come up in a region that draws its order. 
  The document's Within, walked. 
  The document's Sum of products, walked. -/
import Derived.Test.YtgkglkoipocgaaaProg
import Derived.Test.YtgkglkoipocgaaaHg
import Derived.Test.YtgkglkoipocgaaaLd
import Derived.Test.YtgkglkoipocgaaaBt
import Derived.Test.YtgkglkoipocgaaaMu
import Derived.Test.YtgkglkoipocgaaaD2
set_option linter.unusedVariables false
namespace Go.Proofs.Ytgkglkoipocgaaa.Fx
open Go Go.RowKit Wm
section
variable {n : Nat} {P : Program} {ops : Array Oper} {Q : Exit → Act → World → Prop} {md : Region.Mode} {S : World → Prop} {Z : List Nat}
def RowAt (t : TypeId) (g : Nat) (cs : Array Value) (W : World) : Prop := W.heap[g]? = some (.cells cs t (0, 0))
theorem RowAt.below {t : TypeId} {g : Nat} {cs : Array Value} {W X : World} (hb : Below W.heap.size W X) (h : RowAt t g cs W) : RowAt t g cs X := keep_row hb h
theorem RowAt.row {t : TypeId} {g : Nat} {cs : Array Value} {W : World} (h : RowAt t g cs W) (c : Array Value) : RowAt t g c (W.setRow g c) := setRow_heap _ _ _ _ _ _ h
theorem RowAt.other {t : TypeId} {g k : Nat} {cs : Array Value} {W : World} (h : RowAt t g cs W) (hk : g ≠ k) (c : Array Value) : RowAt t g cs (W.setRow k c) := by unfold RowAt; rw [setRow_other _ _ _ _ hk]; exact h
theorem RowAt.lt {t : TypeId} {g : Nat} {cs : Array Value} {W : World} (h : RowAt t g cs W) : g < W.heap.size := (Array.getElem?_eq_some_iff.1 h).1
theorem RowAt.new (W : World) (t : TypeId) (cs : Array Value) : RowAt t W.heap.size cs (W.alloc (.cells cs t)) := heap_alloc_new _ _
theorem RowAt.alloc {t : TypeId} {g : Nat} {cs : Array Value} {W : World} (h : RowAt t g cs W) (o : Obj) : RowAt t g cs (W.alloc o) := step_row h
theorem RowAt.cell {t : TypeId} {g j : Nat} {cs : Array Value} {W : World} (h : RowAt t g cs W) : W.cell? ⟨g, j, none⟩ = cs[j]? := cell_of_row _ _ _ _ _ _ h
theorem RowAt.free {t : TypeId} {g j : Nat} {cs : Array Value} {W : World} (h : RowAt t g cs W) : W.frozen? ⟨g, j, none⟩ = false := frozen_row h
/-- two may come up -/
theorem give_step2 (i j : Nat) {o o2 : Oper} {fuel : Nat} {listed : Array Bool} {a : Act} {w : World} (hr : Region.ready md ops listed = [i, j]) (ho : ops[i]? = some o) (ho2 : ops[j]? = some o2)
    (h : ∀ K' : Act → World → Prop, Shut (∀ a w, (Z.contains i = false → S w) → (∀ w3, Below w.heap.size w w3 → HeldG n P md ops Q S Z fuel (listed.setIfInBounds i true) a w3) → K' a w) → if Region.wanted o (yielded ops a.tmps) = true then Oper.wpIn Fence.wide n P o a w K' Q else K' (a.put o.dst undef) w)
    (h2 : ∀ K' : Act → World → Prop, Shut (∀ a w, (Z.contains j = false → S w) → (∀ w3, Below w.heap.size w w3 → HeldG n P md ops Q S Z fuel (listed.setIfInBounds j true) a w3) → K' a w) → if Region.wanted o2 (yielded ops a.tmps) = true then Oper.wpIn Fence.wide n P o2 a w K' Q else K' (a.put o2.dst undef) w) :
    HeldG n P md ops Q S Z (fuel + 1) listed a w := by
  refine ⟨fun h0 => (by rw [hr] at h0; cases h0), fun k hk => ?_⟩
  rw [hr] at hk
  simp only [List.mem_cons, List.not_mem_nil, or_false] at hk
  rcases hk with rfl | rfl
  · unfold wpOpIn
    simp only [ho]
    have h' := h (fun a' w' => (Z.contains k = false → S w') ∧ ∀ w3, Below w'.heap.size w' w3 → HeldG n P md ops Q S Z fuel (listed.setIfInBounds k true) a' w3) (fun a w hS hW => ⟨hS, hW⟩)
    split
    · rename_i hw
      rw [if_pos hw] at h'
      exact h'
    · rename_i hw
      rw [if_neg hw] at h'
      exact ⟨fun f _ => trivial, h'⟩
  · unfold wpOpIn
    simp only [ho2]
    have h' := h2 (fun a' w' => (Z.contains k = false → S w') ∧ ∀ w3, Below w'.heap.size w' w3 → HeldG n P md ops Q S Z fuel (listed.setIfInBounds k true) a' w3) (fun a w hS hW => ⟨hS, hW⟩)
    split
    · rename_i hw
      rw [if_pos hw] at h'
      exact h'
    · rename_i hw
      rw [if_neg hw] at h'
      exact ⟨fun f _ => trivial, h'⟩
/-- as give_take, and nothing that was is touched -/
theorem grow_take (D : List Nat) (i : Nat) (v : Value) (s : Sound P ops Q S) {oi : Oper} {fuel : Nat} {listed : Array Bool} {a : Act} {w : World} (hi : ops[i]? = some oi)
    (hk : okTake md ops Z listed i D = true) (hS : S w) (hy : Gives P ops S oi v a)
    (h : ∀ w3, S w3 → Below w.heap.size w w3 → HeldG n P md ops Q S Z fuel (listed.setIfInBounds i true) (a.put oi.dst v) w3) : HeldG n P md ops Q S Z (fuel + 1) listed a w := by
  unfold okTake at hk
  simp only [Bool.and_eq_true] at hk
  obtain ⟨⟨⟨hf, hr⟩, hz⟩, hc⟩ := hk
  refine give_first s.calm hi (Region.noSelect_spec s.nosel) (fun c a w => s.pan _ _ _ _ _) D (fun z hz' => ?_) s.mono fuel listed a w (Region.free_spec hi hf) (by simpa using hr) (chain_spec hc) hy hS fun w3 hb => h w3 (s.mono _ _ hS hb) hb
  have := List.all_eq_true.1 hz z hz'
  exact List.contains_iff_mem.1 this
theorem grow_pure (D : List Nat) (i : Nat) (v : Value) (s : Sound P ops Q S) {oi : Oper} {fuel : Nat} {listed : Array Bool} {a : Act} {w : World} (hi : ops[i]? = some oi)
    (hk : okTake md ops Z listed i D = true) (hS : S w) (hw : Region.wanted oi (yielded ops a.tmps) = true) (hv : ∀ w, S w → (execOp a.eval oi).run P w = .ok (.value v) w)
    (h : ∀ w3, S w3 → Below w.heap.size w w3 → HeldG n P md ops Q S Z fuel (listed.setIfInBounds i true) (a.put oi.dst v) w3) : HeldG n P md ops Q S Z (fuel + 1) listed a w :=
  grow_take D i v s hi hk hS (Or.inl ⟨hw, fun w hS => Or.inl (hv w hS)⟩) h
theorem grow_call (D : List Nat) (i : Nat) (f : FuncId) (args : Array Value) (v : Value) (s : Sound P ops Q S) {oi : Oper} {fuel : Nat} {listed : Array Bool} {a : Act} {w : World} (hi : ops[i]? = some oi)
    (hk : okTake md ops Z listed i D = true) (hS : S w) (hw : Region.wanted oi (yielded ops a.tmps) = true) (hv : ∀ w, (execOp a.eval oi).run P w = .ok (.enter f args) w)
    (hc : ∀ w, Calls P f args w fun e w' => e = .returned v ∧ Below w.heap.size w w')
    (h : ∀ w3, S w3 → Below w.heap.size w w3 → HeldG n P md ops Q S Z fuel (listed.setIfInBounds i true) (a.put oi.dst v) w3) : HeldG n P md ops Q S Z (fuel + 1) listed a w :=
  grow_take D i v s hi hk hS (Or.inl ⟨hw, fun w _ => Or.inr ⟨f, args, hv w, hc w⟩⟩) h
theorem grow_no (D : List Nat) (i : Nat) (s : Sound P ops Q S) {oi : Oper} {fuel : Nat} {listed : Array Bool} {a : Act} {w : World} (hi : ops[i]? = some oi)
    (hk : okTake md ops Z listed i D = true) (hS : S w) (hw : Region.wanted oi (yielded ops a.tmps) = false)
    (h : ∀ w3, S w3 → Below w.heap.size w w3 → HeldG n P md ops Q S Z fuel (listed.setIfInBounds i true) (a.put oi.dst undef) w3) : HeldG n P md ops Q S Z (fuel + 1) listed a w :=
  grow_take D i undef s hi hk hS (Or.inr ⟨hw, rfl⟩) h
end
end Go.Proofs.Ytgkglkoipocgaaa.Fx
set_option linter.unusedVariables false
set_option linter.unusedSimpArgs false
namespace Go.Proofs.Ytgkglkoipocgaaa.Fx
open Go Go.RowKit Wm
theorem wB_mono {bound : Int} {m : List Int} {k n : Nat} (h : wB bound m n = true) (hk : k ≤ n) : wB bound m k = true := by
  unfold wB at *
  rw [List.all_eq_true] at *
  intro j hj
  exact h j (List.mem_range.2 (Nat.lt_of_lt_of_le (List.mem_range.1 hj) hk))
theorem okB_no {bound x : Int} (h : bound < 0 ∨ bound < x ∨ x < -bound) : okB bound x = false := by
  unfold okB
  exact decide_eq_false (by omega)
theorem okB_yes {bound x : Int} (h : 0 ≤ bound) (h1 : x ≤ bound) (h2 : -bound ≤ x) : okB bound x = true := by
  unfold okB
  exact decide_eq_true ⟨h, h2, h1⟩
set_option maxRecDepth 100000 in
set_option maxHeartbeats 2000000 in
theorem zwithin_any (m : List Int) (bound : Int) (w : World) (hm : m.length = 16) (b0 : -9223372036854775808 ≤ bound) (b1 : bound ≤ 9223372036854775807) :
    Calls Try.prog 49 #[.agg (mC m), .int .i64 bound] w (RetBool (wB bound m 16) w) := by
  have HM : Hid (MatAt w.heap.size m (w.alloc (.cells (mC m) 44))) := Lib.hid (heap_alloc_new _ _)
  have HB : Hid (Below w.heap.size w (w.alloc (.cells (mC m) 44))) := Lib.hid (by go_grown)
  have HL := Lib.hid hm
  clear hm
  go_enter Try.func49, Try.ntmps49
  go_wp2_with fail
  generalize (w.alloc (.cells (mC m) 44)) = V at HM HB ⊢
  go_loop [5] (fun s => ∃ r : Nat, s = .int .i64 (r : Int) ∧ r ≤ 4 ∧ wB bound m (4 * r) = true) (fun s => 4 - (intOf s).toNat)
  case atStart => exact ⟨0, rfl, by omega, rfl⟩
  case round =>
    obtain ⟨r, rfl, hr, hw⟩ := hrel
    have HW := Lib.hid hw
    clear hw
    by_cases hr4 : r < 4
    · have r1 : (r : Int) < 4 := by omega
      go_wp2_with fail
      go_loop [6] (fun s => ∃ c : Nat, s = .int .i64 (c : Int) ∧ c ≤ 4 ∧ wB bound m (4 * r + c) = true) (fun s => 4 - (intOf s).toNat)
      case atStart => exact ⟨0, rfl, by omega, HW.out⟩
      case round =>
        obtain ⟨c, rfl, hc, hw2⟩ := hrel
        have HW2 := Lib.hid hw2
        clear hw2
        by_cases hc4 : c < 4
        · have c1 : (c : Int) < 4 := by omega
          obtain ⟨x, hx⟩ : ∃ x, m.getD (4 * r + c) 0 = x := ⟨_, rfl⟩
          have hcell : V.cell? ⟨w.heap.size, 4 * r + c, none⟩ = some (.int .i64 x) := by rw [← hx]; exact HM.out.cell (by rw [HL.out]; omega)
          have HS : Hid (wB bound m (4 * r + c + 1) = okB bound x) := Lib.hid (by rw [wB_succ, HW2.out, hx]; rfl)
          clear hx
          have hno : ∀ (h : bound < 0 ∨ bound < x ∨ x < -bound), wB bound m 16 = false := fun h => by
            by_cases hh : wB bound m 16 = true
            · have := wB_mono hh (k := 4 * r + c + 1) (by omega)
              rw [HS.out, okB_no h] at this
              cases this
            · simpa using hh
          have hyes : ∀ (h : 0 ≤ bound) (h1 : x ≤ bound) (h2 : -bound ≤ x), wB bound m (4 * r + (c + 1)) = true := fun h h1 h2 => HS.out.trans (okB_yes h h1 h2)
          have HNO := Lib.hid hno
          have HYES := Lib.hid hyes
          clear hno hyes
          have hcell2 : V.cell? ⟨w.heap.size, r * 4 + c, none⟩ = some (.int .i64 x) := by rw [Nat.mul_comm]; exact hcell
          by_cases hb : bound < 0
          · go_wp2_with fail
            go_ret
            exact ⟨by rw [HNO.out (Or.inl hb)]; rfl, HB.out⟩
          · have hb0 : 0 ≤ bound := by omega
            have hneg : IntKind.i64.wrap (-bound) = -bound := by rw [IntKind.wrap_i64]; omega
            by_cases h1 : bound < x
            · go_wp2_with fail
              go_ret
              exact ⟨by rw [HNO.out (Or.inr (Or.inl h1))]; rfl, HB.out⟩
            · have h1' : x ≤ bound := by omega
              by_cases h2 : x < -bound
              · go_wp2_with fail
                go_ret
                exact ⟨by rw [HNO.out (Or.inr (Or.inr h2))]; rfl, HB.out⟩
              · have h2' : -bound ≤ x := by omega
                go_wp2_with fail
                go_round
                case rel => exact ⟨c + 1, by go_num, by omega, HYES.out hb0 h1' h2'⟩
                case measure => simp [intOf]; omega
        · obtain rfl : c = 4 := by omega
          have c1 : ¬ ((4 : Nat) : Int) < 4 := by omega
          go_wp2_with fail
          go_round
          case rel => exact ⟨r + 1, by go_num, by omega, HW2.out⟩
          case measure => simp [intOf]; omega
    · obtain rfl : r = 4 := by omega
      have r1 : ¬ ((4 : Nat) : Int) < 4 := by omega
      go_wp2_with fail
      go_ret
      exact ⟨by have := HW.out; rw [this]; rfl, HB.out⟩
end Go.Proofs.Ytgkglkoipocgaaa.Fx
set_option linter.unusedVariables false
set_option linter.unusedSimpArgs false
namespace Go.Proofs.Ytgkglkoipocgaaa.Fx
open Go Go.RowKit Wm
def suV (q : Int) : Int := if okB 4611686018427387904 q = true then q else 0
def dsum (a v : List Int) : Nat → Int
  | 0 => 0
  | k + 1 => dsum a v k + a.getD k 0 * v.getD k 0
theorem dsum_4 (a v : List Int) : dsum a v 4 = dot a v := by
  simp only [dsum, dot]
  omega
theorem dsum_lt {a v : List Int} (ha : ∀ j, -9223372036854775808 ≤ a.getD j 0 ∧ a.getD j 0 ≤ 9223372036854775807) (hv : ∀ j, -9223372036854775808 ≤ v.getD j 0 ∧ v.getD j 0 ≤ 9223372036854775807) : ∀ k, (dsum a v k).natAbs ≤ k * 85070591730234615865843651857942052864
  | 0 => by simp [dsum]
  | k + 1 => by
    have h1 := dsum_lt ha hv k
    have h2 : (a.getD k 0 * v.getD k 0).natAbs ≤ 85070591730234615865843651857942052864 := by
      rw [Int.natAbs_mul]
      have h3 := ha k
      have h4 := hv k
      exact Nat.mul_le_mul (show (a.getD k 0).natAbs ≤ 9223372036854775808 by omega) (show (v.getD k 0).natAbs ≤ 9223372036854775808 by omega)
    rw [dsum]
    omega
theorem prod_lt2 {x y : Int} (hx : -9223372036854775808 ≤ x ∧ x ≤ 9223372036854775807) (hy : -9223372036854775808 ≤ y ∧ y ≤ 9223372036854775807) : (x * y).natAbs ≤ 85070591730234615865843651857942052864 := by
  rw [Int.natAbs_mul]
  exact Nat.mul_le_mul (show x.natAbs ≤ 9223372036854775808 by omega) (show y.natAbs ≤ 9223372036854775808 by omega)
structure SuI (a v : List Int) (B k : Nat) (w W : World) : Prop where
  ra : RowAt 23 w.heap.size (mC a) W
  rv : RowAt 23 (w.heap.size + 1) (mC v) W
  rs : RowAt 79 B (bv (dsum a v k)) W
  below : Below w.heap.size w W
  lt : w.heap.size + 1 < B
theorem SuI.up {a v : List Int} {B k : Nat} {w W V : World} (i : SuI a v B k w W) (hb : Below W.heap.size W V) : SuI a v B k w V := ⟨i.ra.below hb, i.rv.below hb, i.rs.below hb, bnext i.below hb, i.lt⟩
theorem SuI.put {a v : List Int} {B k : Nat} {w W : World} (i : SuI a v B k w W) : SuI a v B (k + 1) w (W.setRow B (bv (dsum a v (k + 1)))) :=
  ⟨i.ra.other (by have := i.lt; omega) _, i.rv.other (by have := i.lt; omega) _, i.rs.row _, Below.row i.below (by have := i.lt; omega) _, i.lt⟩
def SuRel (a v : List Int) (B : Nat) (w : World) (g : Nat) (s : Value) (W : World) : Prop := ∃ k, g = 4 - k ∧ s = .int .i64 (k : Int) ∧ k ≤ 4 ∧ SuI a v B k w W
theorem mC_cell {m : List Int} {k : Nat} (hk : k < m.length) : (mC m)[k]? = some (.int .i64 (m.getD k 0)) := mC_at m k hk
set_option maxRecDepth 100000 in
set_option maxHeartbeats 8000000 in
theorem zsum_any (a v : List Int) (w : World) (la : a.length = 4) (lv : v.length = 4) (ba : ∀ j, -9223372036854775808 ≤ a.getD j 0 ∧ a.getD j 0 ≤ 9223372036854775807) (bv0 : ∀ j, -9223372036854775808 ≤ v.getD j 0 ∧ v.getD j 0 ≤ 9223372036854775807) :
    Calls Try.prog 50 #[.agg (mC a), .agg (mC v)] w fun e w' => e = .returned (.tuple #[.int .i64 (suV (pq a v)), .bool (okB 4611686018427387904 (pq a v))]) ∧ Below w.heap.size w w' := by
  have LA := Lib.hid la
  have LV := Lib.hid lv
  have HDS := Lib.hid (dsum_lt ba bv0)
  have BA := Lib.hid ba
  have BV := Lib.hid bv0
  have cO0 : Hid (Ans 42 #[.int .i64 0] (.agg (bv 0))) := Lib.hid fun w => of_z 0 w (by omega) (by omega)
  have RA0 : Hid (RowAt 23 w.heap.size (mC a) ((w.alloc (.cells (mC a) 23)).alloc (.cells (mC v) 23))) := Lib.hid (RowAt.alloc (RowAt.new _ _ _) _)
  have RV0 : Hid (RowAt 23 (w.heap.size + 1) (mC v) ((w.alloc (.cells (mC a) 23)).alloc (.cells (mC v) 23))) := Lib.hid (heap_alloc2_new _ _ _)
  have HB0 : Hid (Below w.heap.size w ((w.alloc (.cells (mC a) 23)).alloc (.cells (mC v) 23))) := Lib.hid (by go_grown)
  clear la lv ba bv0
  go_enter Try.func50, Try.ntmps50
  go_wp2_with fail
  refine (cO0.out _).mono ?_
  rintro e w1 ⟨rfl, hb1⟩
  have Bn := bnext HB0.out hb1
  have hz1 : w.heap.size + 1 < w1.heap.size := by have := hb1.size; simp at this; omega
  have Z1 : Hid (BigAt w1.heap.size 0 (w1.alloc (.cells #[.bool false, .int .u64 0, .int .u64 0, .int .u64 0, .int .u64 0, .int .u64 0, .int .u64 0, .int .u64 0, .int .u64 0, .int .u64 0, .int .u64 0, .int .u64 0, .int .u64 0, .int .u64 0, .int .u64 0, .int .u64 0, .int .u64 0, .int .u64 0, .int .u64 0, .int .u64 0, .int .u64 0] 79))) := Lib.hid (heap_alloc_new _ _)
  have I0 : Hid (SuI a v w1.heap.size 0 w ((w1.alloc (.cells #[.bool false, .int .u64 0, .int .u64 0, .int .u64 0, .int .u64 0, .int .u64 0, .int .u64 0, .int .u64 0, .int .u64 0, .int .u64 0, .int .u64 0, .int .u64 0, .int .u64 0, .int .u64 0, .int .u64 0, .int .u64 0, .int .u64 0, .int .u64 0, .int .u64 0, .int .u64 0, .int .u64 0] 79)).setRow w1.heap.size (bv 0))) := Lib.hid ⟨((RA0.out.below hb1).alloc _).other (by omega) _, ((RV0.out.below hb1).alloc _).other (by omega) _, BigAt.row Z1.out 0, Below.row (Bn.alloc Bn.size _) (by have := Bn.size; omega) _, hz1⟩
  clear RA0 RV0 HB0 hb1 Bn
  go_wp2_with (refine wpList_store_big rfl 79 (.tmp 6) (.tmp 14) rfl (w1.heap.size) _ _ (bv 0) rfl rfl Z1.out (bv_info _) (bv_same 0 _) (bv_one _) ?_)
  generalize ((w1.alloc (.cells #[.bool false, .int .u64 0, .int .u64 0, .int .u64 0, .int .u64 0, .int .u64 0, .int .u64 0, .int .u64 0, .int .u64 0, .int .u64 0, .int .u64 0, .int .u64 0, .int .u64 0, .int .u64 0, .int .u64 0, .int .u64 0, .int .u64 0, .int .u64 0, .int .u64 0, .int .u64 0, .int .u64 0] 79)).setRow w1.heap.size (bv 0)) = V at I0 ⊢
  clear Z1
  generalize w1.heap.size = B at hz1 I0 ⊢
  go_loopg [7] 4 (SuRel a v B w)
  case atStart => exact ⟨0, rfl, rfl, by omega, I0.out⟩
  case round =>
    clear I0
    obtain ⟨k, hg, rfl, hk4, I⟩ := hrel
    have HI := Lib.hid I
    clear I
    subst hg
    by_cases hk : k < 4
    · have k1 : (k : Int) < 4 := by omega
      obtain ⟨x, hx⟩ : ∃ x, a.getD k 0 = x := ⟨_, rfl⟩
      obtain ⟨y, hy⟩ : ∃ y, v.getD k 0 = y := ⟨_, rfl⟩
      obtain ⟨p, hp⟩ : ∃ p, x * y = p := ⟨_, rfl⟩
      obtain ⟨z, hz⟩ : ∃ z, dsum a v k = z := ⟨_, rfl⟩
      obtain ⟨z2, hz2⟩ : ∃ z2, dsum a v (k + 1) = z2 := ⟨_, rfl⟩
      have hzz : z2 = z + p := by rw [← hz2, ← hz, ← hp, ← hx, ← hy]; rfl
      have bx := BA.out k
      have by1 := BV.out k
      rw [hx] at bx
      rw [hy] at by1
      have hpl := prod_lt2 bx by1
      rw [hp] at hpl
      have hzl := HDS.out k
      rw [hz] at hzl
      have cOx : Hid (Ans 42 #[.int .i64 x] (.agg (bv x))) := Lib.hid fun w => of_z x w (by omega) (by omega)
      have cOy : Hid (Ans 42 #[.int .i64 y] (.agg (bv y))) := Lib.hid fun w => of_z y w (by omega) (by omega)
      have h9 : (65536 : Nat) ^ 9 = 22300745198530623141535718272648361505980416 := by decide
      have cM : Hid (Ans 41 #[.agg (bv x), .agg (bv y)] (.agg (bv p))) := Lib.hid fun w => by
        have := mul_z x y w (by rw [h9]; omega) (by rw [h9]; omega)
        rw [hp] at this
        exact this
      have cA : Hid (Ans 58 #[.agg (bv z), .agg (bv p)] (.agg (bv z2))) := Lib.hid fun w => by
        have eB : BB = 2135987035920910082395021706169552114602704522356652769947041607822219725780640550022962086936576 := by decide
        have := add_z z p w (by rw [eB]; omega)
        rw [← hzz] at this
        exact this
      have hca : Hid (∀ W, RowAt 23 w.heap.size (mC a) W → W.cell? ⟨w.heap.size, k, none⟩ = some (.int .i64 x)) := Lib.hid (fun W h => by rw [h.cell, mC_cell (by rw [LA.out]; exact hk), hx])
      have hcv : Hid (∀ W, RowAt 23 (w.heap.size + 1) (mC v) W → W.cell? ⟨w.heap.size + 1, k, none⟩ = some (.int .i64 y)) := Lib.hid (fun W h => by rw [h.cell, mC_cell (by rw [LV.out]; exact hk), hy])
      have HZ := Lib.hid hz
      have HZ2 := Lib.hid hz2
      clear hx hy hp hz hz2 hzz bx by1 hpl hzl h9 BA BV HDS
      go_wp2_with fail
      rename_i K5 hK5
      have hs0 : SuI a v B k w wr.drew := HI.out.up (bdrew0 _ _ 1)
      refine (wpIn_wide (n := 5)).1 (give_region (S := fun X => Below wr.heap.size wr X) (Z := []) (by kernel_rfl) (by kernel_rfl) below_mono (fun d _ _ _ _ h => by cases d <;> exact h) (bdrew0 _ _ 1) (fun hG v0 h0 => ?_))
      refine grow_pure [] 0 (?_) hG rfl (by kernel_rfl) h0 (by kernel_rfl) ?_ ?_
      rotate_left
      · intro wz hSw; (first | (go_simp; done) | (go_simp; with_reducible rfl))
      intro v1 h1 hbn
      clear hbn h0 v0
      (try simp only [Act.put, List.getElem_toArray, List.getElem_cons_zero, List.getElem_cons_succ, List.setIfInBounds_toArray, List.set_cons_zero, List.set_cons_succ])
      refine grow_pure [] 1 (.pointer (some ⟨w.heap.size, k, none⟩)) hG rfl (by kernel_rfl) h1 (by kernel_rfl) ?_ ?_
      · intro wz hSw; (first | (go_simp; done) | (go_simp; with_reducible rfl))
      intro v2 h2 hbn
      clear hbn h1 v1
      (try simp only [Act.put, List.getElem_toArray, List.getElem_cons_zero, List.getElem_cons_succ, List.setIfInBounds_toArray, List.set_cons_zero, List.set_cons_succ])
      refine grow_pure [] 2 (.int .i64 x) hG rfl (by kernel_rfl) h2 (by kernel_rfl) ?_ ?_
      · intro wz hSw; have hcc := hca.out wz (HI.out.ra.below hSw); (first | (go_simp; done) | (go_simp; with_reducible rfl))
      intro v3 h3 hbn
      clear hbn h2 v2
      (try simp only [Act.put, List.getElem_toArray, List.getElem_cons_zero, List.getElem_cons_succ, List.setIfInBounds_toArray, List.set_cons_zero, List.set_cons_succ])
      refine grow_pure [] 4 (?_) hG rfl (by kernel_rfl) h3 (by kernel_rfl) ?_ ?_
      rotate_left
      · intro wz hSw; (first | (go_simp; done) | (go_simp; with_reducible rfl))
      intro v4 h4 hbn
      clear hbn h3 v3
      (try simp only [Act.put, List.getElem_toArray, List.getElem_cons_zero, List.getElem_cons_succ, List.setIfInBounds_toArray, List.set_cons_zero, List.set_cons_succ])
      refine grow_pure [] 5 (.pointer (some ⟨w.heap.size + 1, k, none⟩)) hG rfl (by kernel_rfl) h4 (by kernel_rfl) ?_ ?_
      · intro wz hSw; (first | (go_simp; done) | (go_simp; with_reducible rfl))
      intro v5 h5 hbn
      clear hbn h4 v4
      (try simp only [Act.put, List.getElem_toArray, List.getElem_cons_zero, List.getElem_cons_succ, List.setIfInBounds_toArray, List.set_cons_zero, List.set_cons_succ])
      refine grow_pure [] 6 (.int .i64 y) hG rfl (by kernel_rfl) h5 (by kernel_rfl) ?_ ?_
      · intro wz hSw; have hcc := hcv.out wz (HI.out.rv.below hSw); (first | (go_simp; done) | (go_simp; with_reducible rfl))
      intro v6 h6 hbn
      clear hbn h5 v5
      (try simp only [Act.put, List.getElem_toArray, List.getElem_cons_zero, List.getElem_cons_succ, List.setIfInBounds_toArray, List.set_cons_zero, List.set_cons_succ])
      refine grow_call [] 3 42 #[.int .i64 x] (.agg (bv x)) hG rfl (by kernel_rfl) h6 (by kernel_rfl) ?_ (cOx.out) ?_
      · intro wz; (first | (go_simp; done) | (go_simp; with_reducible rfl))
      intro v7 h7 hbn
      clear hbn h6 v6
      (try simp only [Act.put, List.getElem_toArray, List.getElem_cons_zero, List.getElem_cons_succ, List.setIfInBounds_toArray, List.set_cons_zero, List.set_cons_succ])
      refine grow_call [] 7 42 #[.int .i64 y] (.agg (bv y)) hG rfl (by kernel_rfl) h7 (by kernel_rfl) ?_ (cOy.out) ?_
      · intro wz; (first | (go_simp; done) | (go_simp; with_reducible rfl))
      intro v8 h8 hbn
      clear hbn h7 v7
      (try simp only [Act.put, List.getElem_toArray, List.getElem_cons_zero, List.getElem_cons_succ, List.setIfInBounds_toArray, List.set_cons_zero, List.set_cons_succ])
      refine grow_call [] 8 41 #[.agg (bv x), .agg (bv y)] (.agg (bv p)) hG rfl (by kernel_rfl) h8 (by kernel_rfl) ?_ (cM.out) ?_
      · intro wz; (first | (go_simp; done) | (go_simp; with_reducible rfl))
      intro v9 h9 hbn
      clear hbn h8 v8
      (try simp only [Act.put, List.getElem_toArray, List.getElem_cons_zero, List.getElem_cons_succ, List.setIfInBounds_toArray, List.set_cons_zero, List.set_cons_succ])
      refine give_step 9 (by kernel_rfl) rfl (fun K hK => ?_)
      go_simp
      obtain ⟨bP, hbP⟩ : ∃ b, v9.heap.size = b := ⟨_, rfl⟩
      have gbP : wr.heap.size ≤ bP := by rw [← hbP]; exact h9.size
      rw [hbP]
      have h100 : Below wr.heap.size wr (v9.alloc (.cells #[.bool false, .int .u64 0, .int .u64 0, .int .u64 0, .int .u64 0, .int .u64 0, .int .u64 0, .int .u64 0, .int .u64 0, .int .u64 0, .int .u64 0, .int .u64 0, .int .u64 0, .int .u64 0, .int .u64 0, .int .u64 0, .int .u64 0, .int .u64 0, .int .u64 0, .int .u64 0, .int .u64 0] 79)) := Below.alloc h9 (by have := h9.size; omega) _
      have TP := (show RowAt 79 bP #[.bool false, .int .u64 0, .int .u64 0, .int .u64 0, .int .u64 0, .int .u64 0, .int .u64 0, .int .u64 0, .int .u64 0, .int .u64 0, .int .u64 0, .int .u64 0, .int .u64 0, .int .u64 0, .int .u64 0, .int .u64 0, .int .u64 0, .int .u64 0, .int .u64 0, .int .u64 0, .int .u64 0] (v9.alloc (.cells #[.bool false, .int .u64 0, .int .u64 0, .int .u64 0, .int .u64 0, .int .u64 0, .int .u64 0, .int .u64 0, .int .u64 0, .int .u64 0, .int .u64 0, .int .u64 0, .int .u64 0, .int .u64 0, .int .u64 0, .int .u64 0, .int .u64 0, .int .u64 0, .int .u64 0, .int .u64 0, .int .u64 0] 79)) by rw [← hbP]; exact RowAt.new _ _ _)
      refine hK.out _ _ (fun _ => h100) (fun v10 hbn => ?_)
      have h10 := below_mono _ _ h100 hbn
      have RP := RowAt.below hbn TP
      clear TP
      clear hbn hK K h9 h100
      (try simp only [Act.put, List.getElem_toArray, List.getElem_cons_zero, List.getElem_cons_succ, List.setIfInBounds_toArray, List.set_cons_zero, List.set_cons_succ])
      clear hbP
      refine give_step 10 (by kernel_rfl) rfl (fun K hK => ?_)
      rw [if_pos (by kernel_rfl)]
      refine wpIn_store_row (fun _ => trivial) 79 (.tmp 8) (.tmp 27) (by kernel_rfl) (bP) _ _ (bv p) (by kernel_rfl) (by kernel_rfl) RP (bv_info _) (bv_same 0 _) (bv_one _) ?_
      have h110 : Below wr.heap.size wr (v10.setRow bP (bv p)) := Below.row h10 (by omega) _
      have TP := RowAt.row RP (bv p)
      refine hK.out _ _ (fun _ => h110) (fun v11 hbn => ?_)
      have h11 := below_mono _ _ h110 hbn
      replace RP := RowAt.below hbn TP
      clear TP
      clear hbn hK K h10 h110
      (try simp only [Act.put, List.getElem_toArray, List.getElem_cons_zero, List.getElem_cons_succ, List.setIfInBounds_toArray, List.set_cons_zero, List.set_cons_succ])
      refine give_done (by kernel_rfl) (?_) _
      refine hK5 _ _ ?_
      have RPH := Lib.hid RP
      have I1 := Lib.hid (HI.out.up h11)
      clear RP hK5 hG HI hs0 gbP cOx cOy cM hca hcv h11
      have RSH : Hid (BigAt B z v11) := Lib.hid (by have := I1.out.rs; rw [HZ.out] at this; exact this)
      go_wp2_with (first | (refine wpList_load_row rfl 79 (.tmp 6) rfl (B) rfl _ _ _ _ RSH.out Try.underlying79 rfl (bv_info _) ?_) | (refine wpList_load_row rfl 79 (.tmp 8) rfl (bP) rfl _ _ _ _ RPH.out Try.underlying79 rfl (bv_info _) ?_))
      refine (cA.out _).mono ?_
      rintro e w9 ⟨rfl, hb9⟩
      have I2 : Hid (SuI a v B (k + 1) w (w9.setRow B (bv z2))) := Lib.hid (by rw [← HZ2.out]; exact (I1.out.up hb9).put)
      have RS9 : Hid (BigAt B z w9) := Lib.hid (BigAt.below hb9 RSH.out)
      clear hb9 I1 RSH RPH
      go_wp2_with (refine wpList_store_big rfl 79 (.tmp 6) (.tmp 30) rfl (B) _ _ (bv z2) rfl rfl RS9.out (bv_info _) (bv_same z _) (bv_one _) ?_)
      go_roundg (4 - (k + 1))
      case measure => omega
      case rel => exact ⟨k + 1, rfl, by go_num, by omega, I2.out⟩
    · obtain rfl : k = 4 := by omega
      have k1 : ¬ ((4 : Nat) : Int) < 4 := by omega
      obtain ⟨s, hs⟩ : ∃ s, dsum a v 4 = s := ⟨_, rfl⟩
      have hds : s = dot a v := by rw [← hs, dsum_4]
      have hsl := HDS.out 4
      rw [hs] at hsl
      obtain ⟨q, hq⟩ : ∃ q, pq a v = q := ⟨_, rfl⟩
      have hqd : dv s 65536 = q := by unfold dv; rw [if_pos (by omega), ← hq, hds]; rfl
      have hqs : q = s / 65536 := by rw [← hq, hds]; rfl
      have hin : In q := by unfold In; omega
      have cO6 : Hid (Ans 42 #[.int .i64 65536] (.agg (bv 65536))) := Lib.hid fun w => of_z 65536 w (by omega) (by omega)
      obtain ⟨r, hr⟩ : ∃ r, rs s 65536 = r := ⟨_, rfl⟩
      have cD : Hid (Ans 43 #[.agg (bv s), .agg (bv 65536)] (.tuple #[.agg (bv q), .agg (bv r), .int .i64 0])) := Lib.hid fun w => by
        have h9 : (65536 : Nat) ^ 9 = 22300745198530623141535718272648361505980416 := by decide
        have := zdiv_z s 65536 w (by rw [h9]; omega) (by omega) (by rw [h9]; omega)
        rw [hqd, hr] at this
        exact this
      obtain ⟨h, l, hat⟩ := At.ex hin
      have cT : Hid (Ans 44 #[.agg (bv q)] (.tuple #[.agg #[.int .i64 h, .int .u64 l], .bool true])) := Lib.hid fun w => by
        have e18 : (65536 : Nat) ^ 18 = 497323236409786642155382248146820840100456150797347717440463976893159497012533375533056 := by decide
        refine (to_z q w (by rw [e18]; omega) hin).mono ?_
        rintro e w' ⟨h', l', rfl, ha, hb⟩
        rw [show valE q = q from if_pos hin] at ha
        obtain ⟨rfl, rfl⟩ := At.uniq hat ha
        exact ⟨by rw [decide_eq_true hin], hb⟩
      have RSH : Hid (BigAt B s wr) := Lib.hid (by have := HI.out.rs; rw [hs] at this; exact this)
      have HBL := Lib.hid HI.out.below
      have HQ := Lib.hid hq
      have HAT := Lib.hid hat
      clear hs hds hsl hq hqd hqs hin hr hat HI BA BV HDS cO0 LA LV
      go_wp2_with fail
      rename_i K7 hK7
      refine (wpIn_wide (n := 5)).1 (give_region (S := fun X => Below wr.heap.size wr X) (Z := []) (by kernel_rfl) (by kernel_rfl) below_mono (fun d _ _ _ _ h => by cases d <;> exact h) (bdrew0 _ _ 1) (fun hG v0 h0 => ?_))
      refine grow_pure [] 0 (.agg (bv s)) hG rfl (by kernel_rfl) h0 (by kernel_rfl) ?_ ?_
      · intro wz hSw; exact exec_load_row 79 (.tmp 6) (by kernel_rfl) B (by kernel_rfl) _ _ _ _ (BigAt.below hSw RSH.out) Try.underlying79 (by kernel_rfl) (bv_info _)
      intro v1 h1 hbn
      clear hbn h0 v0
      (try simp only [Act.put, List.getElem_toArray, List.getElem_cons_zero, List.getElem_cons_succ, List.setIfInBounds_toArray, List.set_cons_zero, List.set_cons_succ])
      refine grow_call [] 1 42 #[.int .i64 65536] (.agg (bv 65536)) hG rfl (by kernel_rfl) h1 (by kernel_rfl) ?_ (cO6.out) ?_
      · intro wz; (first | (go_simp; done) | (go_simp; with_reducible rfl))
      intro v2 h2 hbn
      clear hbn h1 v1
      (try simp only [Act.put, List.getElem_toArray, List.getElem_cons_zero, List.getElem_cons_succ, List.setIfInBounds_toArray, List.set_cons_zero, List.set_cons_succ])
      refine grow_call [] 2 43 #[.agg (bv s), .agg (bv 65536)] (.tuple #[.agg (bv q), .agg (bv r), .int .i64 0]) hG rfl (by kernel_rfl) h2 (by kernel_rfl) ?_ (cD.out) ?_
      · intro wz; (first | (go_simp; done) | (go_simp; with_reducible rfl))
      intro v3 h3 hbn
      clear hbn h2 v2
      (try simp only [Act.put, List.getElem_toArray, List.getElem_cons_zero, List.getElem_cons_succ, List.setIfInBounds_toArray, List.set_cons_zero, List.set_cons_succ])
      refine grow_pure [] 3 (?_) hG rfl (by kernel_rfl) h3 (by kernel_rfl) ?_ ?_
      rotate_left
      · intro wz hSw; (first | (go_simp; done) | (go_simp; with_reducible rfl))
      intro v4 h4 hbn
      clear hbn h3 v3
      (try simp only [Act.put, List.getElem_toArray, List.getElem_cons_zero, List.getElem_cons_succ, List.setIfInBounds_toArray, List.set_cons_zero, List.set_cons_succ])
      refine grow_pure [] 4 (?_) hG rfl (by kernel_rfl) h4 (by kernel_rfl) ?_ ?_
      rotate_left
      · intro wz hSw; (first | (go_simp; done) | (go_simp; with_reducible rfl))
      intro v5 h5 hbn
      clear hbn h4 v4
      (try simp only [Act.put, List.getElem_toArray, List.getElem_cons_zero, List.getElem_cons_succ, List.setIfInBounds_toArray, List.set_cons_zero, List.set_cons_succ])
      refine grow_pure [] 5 (?_) hG rfl (by kernel_rfl) h5 (by kernel_rfl) ?_ ?_
      rotate_left
      · intro wz hSw; (first | (go_simp; done) | (go_simp; with_reducible rfl))
      intro v6 h6 hbn
      clear hbn h5 v5
      (try simp only [Act.put, List.getElem_toArray, List.getElem_cons_zero, List.getElem_cons_succ, List.setIfInBounds_toArray, List.set_cons_zero, List.set_cons_succ])
      refine grow_pure [] 6 (?_) hG rfl (by kernel_rfl) h6 (by kernel_rfl) ?_ ?_
      rotate_left
      · intro wz hSw; (first | (go_simp; done) | (go_simp; with_reducible rfl))
      intro v7 h7 hbn
      clear hbn h6 v6
      (try simp only [Act.put, List.getElem_toArray, List.getElem_cons_zero, List.getElem_cons_succ, List.setIfInBounds_toArray, List.set_cons_zero, List.set_cons_succ])
      refine give_step2 7 8 (by kernel_rfl) rfl rfl (fun K hK => ?_) (fun K hK => ?_)
      · go_simp
        obtain ⟨bQ, hbQ⟩ : ∃ b, v7.heap.size = b := ⟨_, rfl⟩
        have gbQ : wr.heap.size ≤ bQ := by rw [← hbQ]; exact h7.size
        rw [hbQ]
        have h80 : Below wr.heap.size wr (v7.alloc (.cells #[.bool false, .int .u64 0, .int .u64 0, .int .u64 0, .int .u64 0, .int .u64 0, .int .u64 0, .int .u64 0, .int .u64 0, .int .u64 0, .int .u64 0, .int .u64 0, .int .u64 0, .int .u64 0, .int .u64 0, .int .u64 0, .int .u64 0, .int .u64 0, .int .u64 0, .int .u64 0, .int .u64 0] 79)) := Below.alloc h7 (by have := h7.size; omega) _
        have TQ := (show RowAt 79 bQ #[.bool false, .int .u64 0, .int .u64 0, .int .u64 0, .int .u64 0, .int .u64 0, .int .u64 0, .int .u64 0, .int .u64 0, .int .u64 0, .int .u64 0, .int .u64 0, .int .u64 0, .int .u64 0, .int .u64 0, .int .u64 0, .int .u64 0, .int .u64 0, .int .u64 0, .int .u64 0, .int .u64 0] (v7.alloc (.cells #[.bool false, .int .u64 0, .int .u64 0, .int .u64 0, .int .u64 0, .int .u64 0, .int .u64 0, .int .u64 0, .int .u64 0, .int .u64 0, .int .u64 0, .int .u64 0, .int .u64 0, .int .u64 0, .int .u64 0, .int .u64 0, .int .u64 0, .int .u64 0, .int .u64 0, .int .u64 0, .int .u64 0] 79)) by rw [← hbQ]; exact RowAt.new _ _ _)
        refine hK.out _ _ (fun _ => h80) (fun v8 hbn => ?_)
        have h8 := below_mono _ _ h80 hbn
        have RQ := RowAt.below hbn TQ
        clear TQ
        clear hbn hK K h7 h80
        (try simp only [Act.put, List.getElem_toArray, List.getElem_cons_zero, List.getElem_cons_succ, List.setIfInBounds_toArray, List.set_cons_zero, List.set_cons_succ])
        clear hbQ
        refine give_step 8 (by kernel_rfl) rfl (fun K hK => ?_)
        go_simp
        obtain ⟨bR, hbR⟩ : ∃ b, v8.heap.size = b := ⟨_, rfl⟩
        have gbR : wr.heap.size ≤ bR := by rw [← hbR]; exact h8.size
        have nR_Q : bQ ≠ bR := by have := RQ.lt; omega
        rw [hbR]
        have h90 : Below wr.heap.size wr (v8.alloc (.cells #[.bool false, .int .u64 0, .int .u64 0, .int .u64 0, .int .u64 0, .int .u64 0, .int .u64 0, .int .u64 0, .int .u64 0, .int .u64 0, .int .u64 0, .int .u64 0, .int .u64 0, .int .u64 0, .int .u64 0, .int .u64 0, .int .u64 0, .int .u64 0, .int .u64 0, .int .u64 0, .int .u64 0] 79)) := Below.alloc h8 (by have := h8.size; omega) _
        have TQ := RowAt.alloc RQ (.cells #[.bool false, .int .u64 0, .int .u64 0, .int .u64 0, .int .u64 0, .int .u64 0, .int .u64 0, .int .u64 0, .int .u64 0, .int .u64 0, .int .u64 0, .int .u64 0, .int .u64 0, .int .u64 0, .int .u64 0, .int .u64 0, .int .u64 0, .int .u64 0, .int .u64 0, .int .u64 0, .int .u64 0] 79)
        have TR := (show RowAt 79 bR #[.bool false, .int .u64 0, .int .u64 0, .int .u64 0, .int .u64 0, .int .u64 0, .int .u64 0, .int .u64 0, .int .u64 0, .int .u64 0, .int .u64 0, .int .u64 0, .int .u64 0, .int .u64 0, .int .u64 0, .int .u64 0, .int .u64 0, .int .u64 0, .int .u64 0, .int .u64 0, .int .u64 0] (v8.alloc (.cells #[.bool false, .int .u64 0, .int .u64 0, .int .u64 0, .int .u64 0, .int .u64 0, .int .u64 0, .int .u64 0, .int .u64 0, .int .u64 0, .int .u64 0, .int .u64 0, .int .u64 0, .int .u64 0, .int .u64 0, .int .u64 0, .int .u64 0, .int .u64 0, .int .u64 0, .int .u64 0, .int .u64 0] 79)) by rw [← hbR]; exact RowAt.new _ _ _)
        refine hK.out _ _ (fun _ => h90) (fun v9 hbn => ?_)
        have h9 := below_mono _ _ h90 hbn
        replace RQ := RowAt.below hbn TQ
        have RR := RowAt.below hbn TR
        clear TQ
        clear TR
        clear hbn hK K h8 h90
        (try simp only [Act.put, List.getElem_toArray, List.getElem_cons_zero, List.getElem_cons_succ, List.setIfInBounds_toArray, List.set_cons_zero, List.set_cons_succ])
        clear hbR
        refine give_step 9 (by kernel_rfl) rfl (fun K hK => ?_)
        rw [if_pos (by kernel_rfl)]
        refine wpIn_store_row (fun _ => trivial) 79 (.tmp 9) (.tmp 35) (by kernel_rfl) (bQ) _ _ (bv q) (by kernel_rfl) (by kernel_rfl) RQ (bv_info _) (bv_same 0 _) (bv_one _) ?_
        have h100 : Below wr.heap.size wr (v9.setRow bQ (bv q)) := Below.row h9 (by omega) _
        have TQ := RowAt.row RQ (bv q)
        have TR := RowAt.other RR (by first | assumption | (apply Ne.symm; assumption) | omega) (bv q)
        refine hK.out _ _ (fun _ => h100) (fun v10 hbn => ?_)
        have h10 := below_mono _ _ h100 hbn
        replace RQ := RowAt.below hbn TQ
        replace RR := RowAt.below hbn TR
        clear TQ
        clear TR
        clear hbn hK K h9 h100
        (try simp only [Act.put, List.getElem_toArray, List.getElem_cons_zero, List.getElem_cons_succ, List.setIfInBounds_toArray, List.set_cons_zero, List.set_cons_succ])
        refine give_step 10 (by kernel_rfl) rfl (fun K hK => ?_)
        rw [if_pos (by kernel_rfl)]
        refine wpIn_store_row (fun _ => trivial) 79 (.tmp 10) (.tmp 36) (by kernel_rfl) (bR) _ _ (bv r) (by kernel_rfl) (by kernel_rfl) RR (bv_info _) (bv_same 0 _) (bv_one _) ?_
        have h110 : Below wr.heap.size wr (v10.setRow bR (bv r)) := Below.row h10 (by omega) _
        have TQ := RowAt.other RQ (by first | assumption | (apply Ne.symm; assumption) | omega) (bv r)
        have TR := RowAt.row RR (bv r)
        refine hK.out _ _ (fun _ => h110) (fun v11 hbn => ?_)
        have h11 := below_mono _ _ h110 hbn
        replace RQ := RowAt.below hbn TQ
        replace RR := RowAt.below hbn TR
        clear TQ
        clear TR
        clear hbn hK K h10 h110
        (try simp only [Act.put, List.getElem_toArray, List.getElem_cons_zero, List.getElem_cons_succ, List.setIfInBounds_toArray, List.set_cons_zero, List.set_cons_succ])
        refine grow_pure [] 11 (?_) hG rfl (by kernel_rfl) h11 (by kernel_rfl) ?_ ?_
        rotate_left
        · intro wz hSw; (first | (go_simp; done) | (go_simp; with_reducible rfl))
        intro v12 h12 hbn
        replace RQ := RowAt.below hbn RQ
        replace RR := RowAt.below hbn RR
        clear hbn h11 v11
        (try simp only [Act.put, List.getElem_toArray, List.getElem_cons_zero, List.getElem_cons_succ, List.setIfInBounds_toArray, List.set_cons_zero, List.set_cons_succ])
        refine give_done (by kernel_rfl) (?_) _
        refine hK7 _ _ ?_
        have RQH := Lib.hid RQ
        have HBF := Lib.hid (bnext HBL.out h12)
        clear RQ RR hK7 hG HBL RSH cO6 cD gbQ gbR h12
        (try clear nQ_R)
        (try clear nR_Q)
        go_wp2_with (refine wpList_load_row rfl 79 (.tmp 9) rfl (bQ) rfl _ _ _ _ RQH.out Try.underlying79 rfl (bv_info _) ?_)
        refine (cT.out _).mono ?_
        rintro e w9 ⟨rfl, hb9⟩
        have Bn := bnext HBF.out hb9
        have HE : Hid (Below w.heap.size w (w9.alloc (.cells #[.int .i64 h, .int .u64 l] 85))) := Lib.hid (Bn.alloc Bn.size _)
        clear hb9 Bn HBF RQH cT
        have hA := HAT.out
        unfold At at hA
        by_cases h0 : h = 0
        · subst h0
          by_cases h1 : (4611686018427387904 : Int) < (l : Int)
          · skip
            have HOK : Hid (okB 4611686018427387904 q = false) := Lib.hid (by unfold okB; exact decide_eq_false (by omega))
            have HSV : Hid (suV q = 0) := Lib.hid (by unfold suV; rw [HOK.out]; rfl)
            have hd1 : decide ((4611686018427387904 : Int) < (l : Int)) = true := decide_eq_true h1
            have hd2 : decide (4611686018427387904 < l) = true := decide_eq_true (by omega)
            have hd3 : 4611686018427387904 < l := by omega
            clear hA
            go_wp2_with fail
            go_ret2
            exact ⟨by rw [HQ.out, HSV.out, HOK.out]; rfl, HE.out⟩
          · skip
            have HOK : Hid (okB 4611686018427387904 q = true) := Lib.hid (by unfold okB; exact decide_eq_true (by omega))
            have HSV : Hid (suV q = q) := Lib.hid (by unfold suV; rw [HOK.out]; rfl)
            have hd1 : decide ((4611686018427387904 : Int) < (l : Int)) = false := decide_eq_false h1
            have hd2 : decide (4611686018427387904 < l) = false := decide_eq_false (by omega)
            have hd3 : l ≤ 4611686018427387904 := by omega
            have hwr : IntKind.i64.wrap (l : Int) = q := by rw [IntKind.wrap_i64]; omega
            clear hA
            go_wp2_with fail
            go_ret2
            exact ⟨by rw [HQ.out, HSV.out, HOK.out]; rfl, HE.out⟩
        · by_cases hm : h = -1
          · subst hm
            by_cases h1 : (l : Int) < 13835058055282163712
            · skip
              have HOK : Hid (okB 4611686018427387904 q = false) := Lib.hid (by unfold okB; exact decide_eq_false (by omega))
              have HSV : Hid (suV q = 0) := Lib.hid (by unfold suV; rw [HOK.out]; rfl)
              have hd1 : decide ((l : Int) < 13835058055282163712) = true := decide_eq_true h1
              have hd2 : decide (l < 13835058055282163712) = true := decide_eq_true (by omega)
              have hd3 : l < 13835058055282163712 := by omega
              clear hA
              go_wp2_with fail
              go_ret2
              exact ⟨by rw [HQ.out, HSV.out, HOK.out]; rfl, HE.out⟩
            · skip
              have HOK : Hid (okB 4611686018427387904 q = true) := Lib.hid (by unfold okB; exact decide_eq_true (by omega))
              have HSV : Hid (suV q = q) := Lib.hid (by unfold suV; rw [HOK.out]; rfl)
              have hd1 : decide ((l : Int) < 13835058055282163712) = false := decide_eq_false h1
              have hd2 : decide (l < 13835058055282163712) = false := decide_eq_false (by omega)
              have hd3 : 13835058055282163712 ≤ l := by omega
              have hwr : IntKind.i64.wrap (l : Int) = q := by rw [IntKind.wrap_i64]; omega
              clear hA
              go_wp2_with fail
              go_ret2
              exact ⟨by rw [HQ.out, HSV.out, HOK.out]; rfl, HE.out⟩
          · skip
            have HOK : Hid (okB 4611686018427387904 q = false) := Lib.hid (by unfold okB; exact decide_eq_false (by omega))
            have HSV : Hid (suV q = 0) := Lib.hid (by unfold suV; rw [HOK.out]; rfl)
            have d1 : (h == 0) = false := by simpa using h0
            have d2 : (h != 0) = true := by simpa using h0
            have d3 : (h == -1) = false := by simpa using hm
            have d4 : (h != -1) = true := by simpa using hm
            clear hA
            go_wp2_with fail
            go_ret2
            exact ⟨by rw [HQ.out, HSV.out, HOK.out]; rfl, HE.out⟩
      · go_simp
        obtain ⟨bR, hbR⟩ : ∃ b, v7.heap.size = b := ⟨_, rfl⟩
        have gbR : wr.heap.size ≤ bR := by rw [← hbR]; exact h7.size
        rw [hbR]
        have h80 : Below wr.heap.size wr (v7.alloc (.cells #[.bool false, .int .u64 0, .int .u64 0, .int .u64 0, .int .u64 0, .int .u64 0, .int .u64 0, .int .u64 0, .int .u64 0, .int .u64 0, .int .u64 0, .int .u64 0, .int .u64 0, .int .u64 0, .int .u64 0, .int .u64 0, .int .u64 0, .int .u64 0, .int .u64 0, .int .u64 0, .int .u64 0] 79)) := Below.alloc h7 (by have := h7.size; omega) _
        have TR := (show RowAt 79 bR #[.bool false, .int .u64 0, .int .u64 0, .int .u64 0, .int .u64 0, .int .u64 0, .int .u64 0, .int .u64 0, .int .u64 0, .int .u64 0, .int .u64 0, .int .u64 0, .int .u64 0, .int .u64 0, .int .u64 0, .int .u64 0, .int .u64 0, .int .u64 0, .int .u64 0, .int .u64 0, .int .u64 0] (v7.alloc (.cells #[.bool false, .int .u64 0, .int .u64 0, .int .u64 0, .int .u64 0, .int .u64 0, .int .u64 0, .int .u64 0, .int .u64 0, .int .u64 0, .int .u64 0, .int .u64 0, .int .u64 0, .int .u64 0, .int .u64 0, .int .u64 0, .int .u64 0, .int .u64 0, .int .u64 0, .int .u64 0, .int .u64 0] 79)) by rw [← hbR]; exact RowAt.new _ _ _)
        refine hK.out _ _ (fun _ => h80) (fun v8 hbn => ?_)
        have h8 := below_mono _ _ h80 hbn
        have RR := RowAt.below hbn TR
        clear TR
        clear hbn hK K h7 h80
        (try simp only [Act.put, List.getElem_toArray, List.getElem_cons_zero, List.getElem_cons_succ, List.setIfInBounds_toArray, List.set_cons_zero, List.set_cons_succ])
        clear hbR
        refine give_step 7 (by kernel_rfl) rfl (fun K hK => ?_)
        go_simp
        obtain ⟨bQ, hbQ⟩ : ∃ b, v8.heap.size = b := ⟨_, rfl⟩
        have gbQ : wr.heap.size ≤ bQ := by rw [← hbQ]; exact h8.size
        have nQ_R : bR ≠ bQ := by have := RR.lt; omega
        rw [hbQ]
        have h90 : Below wr.heap.size wr (v8.alloc (.cells #[.bool false, .int .u64 0, .int .u64 0, .int .u64 0, .int .u64 0, .int .u64 0, .int .u64 0, .int .u64 0, .int .u64 0, .int .u64 0, .int .u64 0, .int .u64 0, .int .u64 0, .int .u64 0, .int .u64 0, .int .u64 0, .int .u64 0, .int .u64 0, .int .u64 0, .int .u64 0, .int .u64 0] 79)) := Below.alloc h8 (by have := h8.size; omega) _
        have TR := RowAt.alloc RR (.cells #[.bool false, .int .u64 0, .int .u64 0, .int .u64 0, .int .u64 0, .int .u64 0, .int .u64 0, .int .u64 0, .int .u64 0, .int .u64 0, .int .u64 0, .int .u64 0, .int .u64 0, .int .u64 0, .int .u64 0, .int .u64 0, .int .u64 0, .int .u64 0, .int .u64 0, .int .u64 0, .int .u64 0] 79)
        have TQ := (show RowAt 79 bQ #[.bool false, .int .u64 0, .int .u64 0, .int .u64 0, .int .u64 0, .int .u64 0, .int .u64 0, .int .u64 0, .int .u64 0, .int .u64 0, .int .u64 0, .int .u64 0, .int .u64 0, .int .u64 0, .int .u64 0, .int .u64 0, .int .u64 0, .int .u64 0, .int .u64 0, .int .u64 0, .int .u64 0] (v8.alloc (.cells #[.bool false, .int .u64 0, .int .u64 0, .int .u64 0, .int .u64 0, .int .u64 0, .int .u64 0, .int .u64 0, .int .u64 0, .int .u64 0, .int .u64 0, .int .u64 0, .int .u64 0, .int .u64 0, .int .u64 0, .int .u64 0, .int .u64 0, .int .u64 0, .int .u64 0, .int .u64 0, .int .u64 0] 79)) by rw [← hbQ]; exact RowAt.new _ _ _)
        refine hK.out _ _ (fun _ => h90) (fun v9 hbn => ?_)
        have h9 := below_mono _ _ h90 hbn
        replace RR := RowAt.below hbn TR
        have RQ := RowAt.below hbn TQ
        clear TR
        clear TQ
        clear hbn hK K h8 h90
        (try simp only [Act.put, List.getElem_toArray, List.getElem_cons_zero, List.getElem_cons_succ, List.setIfInBounds_toArray, List.set_cons_zero, List.set_cons_succ])
        clear hbQ
        refine give_step 9 (by kernel_rfl) rfl (fun K hK => ?_)
        rw [if_pos (by kernel_rfl)]
        refine wpIn_store_row (fun _ => trivial) 79 (.tmp 9) (.tmp 35) (by kernel_rfl) (bQ) _ _ (bv q) (by kernel_rfl) (by kernel_rfl) RQ (bv_info _) (bv_same 0 _) (bv_one _) ?_
        have h100 : Below wr.heap.size wr (v9.setRow bQ (bv q)) := Below.row h9 (by omega) _
        have TR := RowAt.other RR (by first | assumption | (apply Ne.symm; assumption) | omega) (bv q)
        have TQ := RowAt.row RQ (bv q)
        refine hK.out _ _ (fun _ => h100) (fun v10 hbn => ?_)
        have h10 := below_mono _ _ h100 hbn
        replace RR := RowAt.below hbn TR
        replace RQ := RowAt.below hbn TQ
        clear TR
        clear TQ
        clear hbn hK K h9 h100
        (try simp only [Act.put, List.getElem_toArray, List.getElem_cons_zero, List.getElem_cons_succ, List.setIfInBounds_toArray, List.set_cons_zero, List.set_cons_succ])
        refine give_step 10 (by kernel_rfl) rfl (fun K hK => ?_)
        rw [if_pos (by kernel_rfl)]
        refine wpIn_store_row (fun _ => trivial) 79 (.tmp 10) (.tmp 36) (by kernel_rfl) (bR) _ _ (bv r) (by kernel_rfl) (by kernel_rfl) RR (bv_info _) (bv_same 0 _) (bv_one _) ?_
        have h110 : Below wr.heap.size wr (v10.setRow bR (bv r)) := Below.row h10 (by omega) _
        have TR := RowAt.row RR (bv r)
        have TQ := RowAt.other RQ (by first | assumption | (apply Ne.symm; assumption) | omega) (bv r)
        refine hK.out _ _ (fun _ => h110) (fun v11 hbn => ?_)
        have h11 := below_mono _ _ h110 hbn
        replace RR := RowAt.below hbn TR
        replace RQ := RowAt.below hbn TQ
        clear TR
        clear TQ
        clear hbn hK K h10 h110
        (try simp only [Act.put, List.getElem_toArray, List.getElem_cons_zero, List.getElem_cons_succ, List.setIfInBounds_toArray, List.set_cons_zero, List.set_cons_succ])
        refine grow_pure [] 11 (?_) hG rfl (by kernel_rfl) h11 (by kernel_rfl) ?_ ?_
        rotate_left
        · intro wz hSw; (first | (go_simp; done) | (go_simp; with_reducible rfl))
        intro v12 h12 hbn
        replace RR := RowAt.below hbn RR
        replace RQ := RowAt.below hbn RQ
        clear hbn h11 v11
        (try simp only [Act.put, List.getElem_toArray, List.getElem_cons_zero, List.getElem_cons_succ, List.setIfInBounds_toArray, List.set_cons_zero, List.set_cons_succ])
        refine give_done (by kernel_rfl) (?_) _
        refine hK7 _ _ ?_
        have RQH := Lib.hid RQ
        have HBF := Lib.hid (bnext HBL.out h12)
        clear RQ RR hK7 hG HBL RSH cO6 cD gbQ gbR h12
        (try clear nQ_R)
        (try clear nR_Q)
        go_wp2_with (refine wpList_load_row rfl 79 (.tmp 9) rfl (bQ) rfl _ _ _ _ RQH.out Try.underlying79 rfl (bv_info _) ?_)
        refine (cT.out _).mono ?_
        rintro e w9 ⟨rfl, hb9⟩
        have Bn := bnext HBF.out hb9
        have HE : Hid (Below w.heap.size w (w9.alloc (.cells #[.int .i64 h, .int .u64 l] 85))) := Lib.hid (Bn.alloc Bn.size _)
        clear hb9 Bn HBF RQH cT
        have hA := HAT.out
        unfold At at hA
        by_cases h0 : h = 0
        · subst h0
          by_cases h1 : (4611686018427387904 : Int) < (l : Int)
          · skip
            have HOK : Hid (okB 4611686018427387904 q = false) := Lib.hid (by unfold okB; exact decide_eq_false (by omega))
            have HSV : Hid (suV q = 0) := Lib.hid (by unfold suV; rw [HOK.out]; rfl)
            have hd1 : decide ((4611686018427387904 : Int) < (l : Int)) = true := decide_eq_true h1
            have hd2 : decide (4611686018427387904 < l) = true := decide_eq_true (by omega)
            have hd3 : 4611686018427387904 < l := by omega
            clear hA
            go_wp2_with fail
            go_ret2
            exact ⟨by rw [HQ.out, HSV.out, HOK.out]; rfl, HE.out⟩
          · skip
            have HOK : Hid (okB 4611686018427387904 q = true) := Lib.hid (by unfold okB; exact decide_eq_true (by omega))
            have HSV : Hid (suV q = q) := Lib.hid (by unfold suV; rw [HOK.out]; rfl)
            have hd1 : decide ((4611686018427387904 : Int) < (l : Int)) = false := decide_eq_false h1
            have hd2 : decide (4611686018427387904 < l) = false := decide_eq_false (by omega)
            have hd3 : l ≤ 4611686018427387904 := by omega
            have hwr : IntKind.i64.wrap (l : Int) = q := by rw [IntKind.wrap_i64]; omega
            clear hA
            go_wp2_with fail
            go_ret2
            exact ⟨by rw [HQ.out, HSV.out, HOK.out]; rfl, HE.out⟩
        · by_cases hm : h = -1
          · subst hm
            by_cases h1 : (l : Int) < 13835058055282163712
            · skip
              have HOK : Hid (okB 4611686018427387904 q = false) := Lib.hid (by unfold okB; exact decide_eq_false (by omega))
              have HSV : Hid (suV q = 0) := Lib.hid (by unfold suV; rw [HOK.out]; rfl)
              have hd1 : decide ((l : Int) < 13835058055282163712) = true := decide_eq_true h1
              have hd2 : decide (l < 13835058055282163712) = true := decide_eq_true (by omega)
              have hd3 : l < 13835058055282163712 := by omega
              clear hA
              go_wp2_with fail
              go_ret2
              exact ⟨by rw [HQ.out, HSV.out, HOK.out]; rfl, HE.out⟩
            · skip
              have HOK : Hid (okB 4611686018427387904 q = true) := Lib.hid (by unfold okB; exact decide_eq_true (by omega))
              have HSV : Hid (suV q = q) := Lib.hid (by unfold suV; rw [HOK.out]; rfl)
              have hd1 : decide ((l : Int) < 13835058055282163712) = false := decide_eq_false h1
              have hd2 : decide (l < 13835058055282163712) = false := decide_eq_false (by omega)
              have hd3 : 13835058055282163712 ≤ l := by omega
              have hwr : IntKind.i64.wrap (l : Int) = q := by rw [IntKind.wrap_i64]; omega
              clear hA
              go_wp2_with fail
              go_ret2
              exact ⟨by rw [HQ.out, HSV.out, HOK.out]; rfl, HE.out⟩
          · skip
            have HOK : Hid (okB 4611686018427387904 q = false) := Lib.hid (by unfold okB; exact decide_eq_false (by omega))
            have HSV : Hid (suV q = 0) := Lib.hid (by unfold suV; rw [HOK.out]; rfl)
            have d1 : (h == 0) = false := by simpa using h0
            have d2 : (h != 0) = true := by simpa using h0
            have d3 : (h == -1) = false := by simpa using hm
            have d4 : (h != -1) = true := by simpa using hm
            clear hA
            go_wp2_with fail
            go_ret2
            exact ⟨by rw [HQ.out, HSV.out, HOK.out]; rfl, HE.out⟩
end Go.Proofs.Ytgkglkoipocgaaa.Fx
