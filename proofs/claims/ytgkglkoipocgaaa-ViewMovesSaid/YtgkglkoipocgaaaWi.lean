/- matrix.within, walked: are numbers within a bound? -/
import Derived.Test.YtgkglkoipocgaaaProg
import Derived.Test.YtgkglkoipocgaaaIt
import Derived.Test.YtgkglkoipocgaaaNm
import Derived.Shelf.Abstract
import Derived.Shelf.RegionOpen
import Derived.WalkKit
import Derived.OwnWalkIn
import Derived.TacticsInMore
import Derived.LoopNIn
import Derived.LoopIn
import Derived.Lib.Hide
import Derived.Outline
import Derived.WalkMore
set_option linter.unusedVariables false
set_option linter.unusedSimpArgs false
namespace Go.Proofs.Ytgkglkoipocgaaa.Fx
open Go Go.RowKit Go.Shelf
attribute [local go_sem] Oper.semAt_some
/-- is a number within a bound? -/
def okB (bound x : Int) : Bool := decide (0 ≤ bound ∧ -bound ≤ x ∧ x ≤ bound)
/-- are the first k? -/
def wB (bound : Int) (m : List Int) (k : Nat) : Bool := (List.range k).all fun j => okB bound (m.getD j 0)
theorem wB_succ (bound : Int) (m : List Int) (k : Nat) : wB bound m (k + 1) = (wB bound m k && okB bound (m.getD k 0)) := by simp [wB, List.range_succ]
theorem wB_false {bound : Int} {m : List Int} {k n : Nat} (h : k < n) (hk : okB bound (m.getD k 0) = false) : wB bound m n = false := by
  unfold wB
  rw [List.all_eq_false]
  exact ⟨k, by simpa using h, by rw [hk]; simp⟩
theorem wB_iff {bound : Int} {m : List Int} {k : Nat} : wB bound m k = true ↔ ∀ j, j < k → 0 ≤ bound ∧ -bound ≤ m.getD j 0 ∧ m.getD j 0 ≤ bound := by simp [wB, okB]
/-- what the iterator reads, and the boxes of the bound and the answer -/
structure WM (bound : Int) (b : Bool) (n g cap : Nat) (w W : World) : Prop where
  a : W.heap[w.heap.size]? = some (.cells #[.int .i64 bound] 2 (0, 0))
  b : W.heap[w.heap.size + 1]? = some (.cells #[.bool b] 4 (0, 0))
  r : W.heap[w.heap.size + 1 + 1]? = some (.cells #[.slice (some ⟨g, 0, none⟩) n cap] 24 (0, 0))
  below : Below w.heap.size w W
theorem WM.kept {bound : Int} {b : Bool} {n g cap B : Nat} {w W X : World} (hB : w.heap.size ≤ B) (k : Kept B W X) (s : WM bound b n g cap w W) : WM bound b n g cap w X := ⟨k.cells s.a, k.cells s.b, k.cells s.r, k.below hB s.below⟩
def Fours (m : List Int) (n g : Nat) (X : World) : Prop := ∀ j, j < 4 * n → X.cell? ⟨g, j, none⟩ = some (.int .i64 (m.getD j 0))
theorem Fours.below {m : List Int} {n g : Nat} {w X : World} (h : Below w.heap.size w X) (s : Fours m n g w) : Fours m n g X := fun j hj => keep_cell h (s j hj)
theorem WM.reads {bound : Int} {b : Bool} {n g cap : Nat} {m : List Int} {w W : World} (s : WM bound b n g cap w W) (hm : Fours m n g w) : RowsM m n g cap (w.heap.size + 1 + 1) W :=
  ⟨by rw [cell_of_row _ _ _ _ _ _ s.r]; rfl, hm.below s.below⟩
theorem WM.facts {bound : Int} {b : Bool} {n g cap : Nat} {w W : World} (s : WM bound b n g cap w W) :
    W.cell? ⟨w.heap.size, 0, none⟩ = some (.int .i64 bound) ∧ W.cell? ⟨w.heap.size + 1, 0, none⟩ = some (.bool b) ∧ W.frozen? ⟨w.heap.size + 1, 0, none⟩ = false :=
  ⟨by rw [cell_of_row _ _ _ _ _ _ s.a]; rfl, by rw [cell_of_row _ _ _ _ _ _ s.b]; rfl, frozen_row s.b⟩
theorem WM.set {bound : Int} {b c : Bool} {n g cap : Nat} {w W : World} (s : WM bound b n g cap w W) : WM bound c n g cap w (W.setCell ⟨w.heap.size + 1, 0, none⟩ (.bool c)) :=
  ⟨by rw [heap_setCell_other _ _ _ _ (by show _ ≠ w.heap.size + 1; omega)]; exact s.a, heap_setCell_same _ _ 0 _ _ _ s.b, by rw [heap_setCell_other _ _ _ _ (by show _ ≠ w.heap.size + 1; omega)]; exact s.r,
    s.below.setCell (p := ⟨w.heap.size + 1, 0, none⟩) (by show _ ≤ w.heap.size + 1; omega) _⟩
def WI (bound : Int) (m : List Int) (n g cap : Nat) (w : World) (k : Nat) (W : World) : Prop := wB bound m k = true ∧ WM bound true n g cap w W
def WX (bound : Int) (m : List Int) (n g cap : Nat) (w : World) (W : World) : Prop := wB bound m (4 * n) = false ∧ WM bound false n g cap w W
def WA (bound : Int) (m : List Int) (n g cap : Nat) (w : World) (k : Nat) (a : Act) : Prop :=
  a = { tmps := #[.int .i64 bound, .slice (some ⟨g, 0, none⟩) n cap, .pointer (some ⟨w.heap.size, 0, none⟩), undef, .bool false, .pointer (some ⟨w.heap.size + 1, 0, none⟩), undef, .int .i64 (m.getD k 0), .slice (some ⟨g, 0, none⟩) n cap,
    .func (.func 74) #[] #[.pointer (some ⟨w.heap.size + 1 + 1, 0, none⟩)], .agg #[.int .i64 ((k / 4 : Nat) : Int), .int .i64 ((k % 4 : Nat) : Int)], .int .i64 (m.getD k 0), undef, undef, undef, undef, undef, undef, undef, undef, undef, undef, undef, undef, undef, undef], defers := [] }
def RetBool (b : Bool) (w : World) (e : Ending) (w' : World) : Prop := e = .returned (.bool b) ∧ Below w.heap.size w w'
theorem block3s (w : World) (A B C : Obj) : (((w.alloc A).alloc B).alloc C).heap[w.heap.size]? = some A ∧ (((w.alloc A).alloc B).alloc C).heap[w.heap.size + 1]? = some B ∧ (((w.alloc A).alloc B).alloc C).heap[w.heap.size + 1 + 1]? = some C := by
  have h0 := heap_alloc_new w A
  have h1 := heap_alloc_new (w.alloc A) B
  have h2 := heap_alloc_new ((w.alloc A).alloc B) C
  simp only [World.size_alloc] at h1 h2
  exact ⟨step_row (step_row h0), step_row h1, h2⟩
set_option maxRecDepth 100000 in
set_option maxHeartbeats 2000000 in
theorem within_any (bound : Int) (m : List Int) (n g cap : Nat) (w : World) (hn : n ≤ 4) (b0 : -9223372036854775808 ≤ bound) (b1 : bound ≤ 9223372036854775807) (hm : Fours m n g w) :
    Calls Try.prog 47 #[.int .i64 bound, .slice (some ⟨g, 0, none⟩) n cap] w (RetBool (wB bound m (4 * n)) w) := by
  have HM := Lib.hid hm; clear hm
  refine (callsIn_wide (n := 5)).1 ?_
  refine callsIn_of_wp_marks Try.func47 rfl trivial ?_ rfl
  simp only [Try.ntmps47, List.size_toArray, List.length_cons, List.length_nil, Nat.reduceAdd, Nat.reduceSub, Array.replicate_succ, Array.replicate_zero, List.push_toArray, List.append_toArray, List.nil_append, List.cons_append]
  refine wpIn_wide.2 ?_
  go_wp2_with fail
  go_step3
  go_wp2_with fail
  go_step3
  go_wp2_with fail
  refine (numbers_w _ _ _ _).mono ?_
  rintro e w' ⟨rfl, rfl⟩
  go_wp2_with fail
  obtain ⟨W0, hW0⟩ : ∃ W0, (((w.alloc (.cells #[.int .i64 bound] 2)).alloc (.cells #[.bool true] 4)).alloc (.cells #[.slice (some ⟨g, 0, none⟩) n cap] 24)) = W0 := ⟨_, rfl⟩
  have hB0 : Below w.heap.size w W0 := by rw [← hW0]; go_grown
  have hS0 : W0.heap.size = w.heap.size + 3 := by rw [← hW0]; simp
  have wm0 : WM bound true n g cap w W0 := by
    rw [← hW0]
    exact ⟨(block3s w _ _ _).1, (block3s w _ _ _).2.1, (block3s w _ _ _).2.2, by rw [hW0]; exact hB0⟩
  rw [hW0]
  clear hW0
  have LB : WI bound m n g cap w 0 W0 := ⟨rfl, wm0⟩
  clear wm0
  refine wpIn_wide.1 (wpIn_range_num (F := Fence.wide) (n := 5) rfl (by omega) (gf := 74) (lb := #[.pointer (some ⟨w.heap.size + 1 + 1, 0, none⟩)]) rfl trivial (enters_of Try.func74 (by kernel_rfl) rfl)
    (numbers_hands m n g cap (w.heap.size + 1 + 1) hn) (fun _ => rfl) 0 (WI bound m n g cap w) (WX bound m n g cap w) (fun k a' W => WA bound m n g cap w k a' ∧ WI bound m n g cap w k W)
    ?i1 ?i2 ?i3 ?i4 ?i5 LB ?assign ?body ?done ?stop)
  case i1 => rintro k W X ⟨h1, h4⟩ hk; exact ⟨h1, h4.kept (by omega) hk⟩
  case i2 => rintro W X ⟨h1, h4⟩ hk; exact ⟨h1, h4.kept (by omega) hk⟩
  case i3 => rintro k a W X ⟨h0, h1, h4⟩ hk; exact ⟨h0, h1, h4.kept (by omega) hk⟩
  case i4 => rintro k W ⟨h1, h4⟩; exact h4.reads HM.out
  case i5 => rintro W ⟨h1, h4⟩; exact h4.reads HM.out
  case assign =>
    intro l k W C hk hI hC
    simp only [numElem]
    gi_wp2
    exact hC _ _ (KeepsFrom.refl _ _) ⟨rfl, hI⟩
  case body =>
    rintro l k a' W hk ⟨ha, hw, wm⟩
    unfold WA at ha
    subst ha
    have hsucc := wB_succ bound m k
    obtain ⟨x, hxk⟩ : ∃ x, m.getD k 0 = x := ⟨_, rfl⟩
    have HW := Lib.hid hw
    have HSU := Lib.hid hsucc
    have HXK := Lib.hid hxk
    rw [hxk]
    obtain ⟨c0, c1, f1⟩ := wm.facts
    have WMH := Lib.hid wm
    clear hw hsucc wm hxk
    by_cases t1 : bound < 0
    · have hno : Hid (okB bound (m.getD k 0) = false) := Lib.hid (by rw [HXK.out]; unfold okB; simp; omega)
      gi_wp2
      exact ⟨rfl, (KeepsOthers.setCell _ _ _).from _, wB_false hk hno.out, WMH.out.set⟩
    by_cases t2 : x < -bound
    · have hno : Hid (okB bound (m.getD k 0) = false) := Lib.hid (by rw [HXK.out]; unfold okB; simp; omega)
      have t1' : 0 ≤ bound := by omega
      gi_wp2
      exact ⟨rfl, (KeepsOthers.setCell _ _ _).from _, wB_false hk hno.out, WMH.out.set⟩
    by_cases t3 : bound < x
    · have hno : Hid (okB bound (m.getD k 0) = false) := Lib.hid (by rw [HXK.out]; unfold okB; simp; omega)
      have t1' : 0 ≤ bound := by omega
      have t2' : -bound ≤ x := by omega
      gi_wp2
      exact ⟨rfl, (KeepsOthers.setCell _ _ _).from _, wB_false hk hno.out, WMH.out.set⟩
    have hyes : Hid (okB bound (m.getD k 0) = true) := Lib.hid (by rw [HXK.out]; unfold okB; simp; omega)
    have t1' : 0 ≤ bound := by omega
    have t2' : -bound ≤ x := by omega
    have t3' : x ≤ bound := by omega
    gi_wp2
    exact ⟨KeepsFrom.refl _ _, by rw [HSU.out, HW.out, hyes.out]; rfl, WMH.out⟩
  case done =>
    rintro D W hD ⟨hw, wm⟩ hdef
    obtain ⟨c0, c1, f1⟩ := wm.facts
    have HW := Lib.hid hw
    have hB := wm.below
    clear hw wm
    go_wp2_with fail
    rw [Exit.noGoto_ret]
    refine ⟨by simp, .inl ⟨_, _, rfl, run_takeDeferred hdef, ?_⟩⟩
    exact ⟨_, results_tmp rfl _ _ _, by rw [HW.out]; rfl, hB.trans (belowK_b (w := w) (Nat.le_refl _) _ D _ _ (by omega) hdef rfl rfl)⟩
  case stop =>
    rintro D W hD ⟨hw, wm⟩ hdef
    obtain ⟨c0, c1, f1⟩ := wm.facts
    have HW := Lib.hid hw
    have hB := wm.below
    clear hw wm
    refine wpIn_wide.2 ?_
    go_wp2_with fail
    rw [Exit.noGoto_ret]
    refine ⟨by simp, .inl ⟨_, _, rfl, run_takeDeferred hdef, ?_⟩⟩
    exact ⟨_, results_tmp rfl _ _ _, by rw [HW.out]; rfl, hB.trans (belowK_b (w := w) (Nat.le_refl _) _ D _ _ (by omega) hdef rfl rfl)⟩
end Go.Proofs.Ytgkglkoipocgaaa.Fx
