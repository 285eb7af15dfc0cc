/- matrix.Across, walked: rows and columns are exchanged. -/
import Derived.Test.YtildnadkfonlhaaProg
import Derived.Test.YtildnadkfonlhaaIt
import Derived.Test.YtildnadkfonlhaaHd
import Derived.Test.YtildnadkfonlhaaR0
import Derived.Test.YtildnadkfonlhaaWi
import Derived.Shelf.Abstract
import Derived.Shelf.RegionOpen
import Derived.WalkKit
import Derived.OwnWalkIn
import Derived.TacticsInMore
import Derived.LoopNIn
import Derived.LoopIn
import Derived.Lib.Hide
import Derived.Outline
import Derived.WalkMore
import Derived.Deep.RegionHeld3
set_option linter.unusedVariables false
set_option linter.unusedSimpArgs false
namespace Go.Proofs.Ytildnadkfonlhaa.Fx
open Go Go.RowKit Go.Shelf
attribute [local go_sem] Oper.semAt_some
/-- the cells of numbers -/
def mC (m : List Int) : Array Value := (m.map encI).toArray
theorem mC_size (m : List Int) : (mC m).size = m.length := by simp [mC]
theorem mC_one (m : List Int) : (mC m).all (·.oneCell') = true := by
  rw [Array.all_eq_true_iff_forall_mem]
  intro v hv
  simp only [mC, List.mem_toArray, List.mem_map] at hv
  obtain ⟨x, _, rfl⟩ := hv
  rfl
theorem mC_at (m : List Int) (j : Nat) (h : j < m.length) : (mC m)[j]? = some (.int .i64 (m.getD j 0)) := by
  unfold mC
  rw [List.getElem?_toArray, List.getElem?_map]
  simp [List.getD_eq_getElem?_getD, h, encI]
theorem mC_put (m : List Int) (j : Nat) (x : Int) : (mC m).setIfInBounds j (.int .i64 x) = mC (m.set j x) := by
  unfold mC
  rw [List.setIfInBounds_toArray, List.map_set]
  rfl
/-- rows and columns exchanged, as far as k numbers have come -/
def trL (m : List Int) (k : Nat) : List Int := (List.range 16).map fun p => if p % 4 * 4 + p / 4 < k then m.getD (p % 4 * 4 + p / 4) 0 else 0
def tr (m : List Int) : List Int := (List.range 16).map fun p => m.getD (p % 4 * 4 + p / 4) 0
theorem trL_len (m : List Int) (k : Nat) : (trL m k).length = 16 := by simp [trL]
theorem tr_len (m : List Int) : (tr m).length = 16 := by simp [tr]
theorem trL_end (m : List Int) : trL m 16 = tr m := by
  unfold trL tr
  refine List.map_congr_left fun p hp => ?_
  rw [List.mem_range] at hp
  rw [if_pos (by omega)]
theorem trL_step (m : List Int) (k : Nat) (h : k < 16) : (trL m k).set (k % 4 * 4 + k / 4) (m.getD k 0) = trL m (k + 1) := by
  refine List.ext_getElem (by simp [trL]) fun p h1 h2 => ?_
  have hp : p < 16 := by simpa [trL] using h2
  rw [List.getElem_set]
  simp only [trL, List.getElem_map, List.getElem_range]
  by_cases e : k % 4 * 4 + k / 4 = p
  · have e2 : p % 4 * 4 + p / 4 = k := by omega
    rw [if_pos e, e2, if_pos (by omega)]
  · rw [if_neg e]
    have e2 : p % 4 * 4 + p / 4 ≠ k := by omega
    by_cases e3 : p % 4 * 4 + p / 4 < k
    · rw [if_pos e3, if_pos (by omega)]
    · rw [if_neg e3, if_neg (by omega)]
theorem trL_zero (m : List Int) : trL m 0 = List.replicate 16 0 := by
  unfold trL
  simp only [Nat.not_lt_zero, if_false]
  rfl
theorem size16 : (Try.prog.info? 29).map (·.size) = some 16 := by kernel_rfl
structure AcM (m : List Int) (k : Nat) (w W : World) : Prop where
  a : W.heap[w.heap.size]? = some (.cells (mC m) 29 (0, 0))
  r : W.heap[w.heap.size + 1]? = some (.cells (mC (List.replicate 16 0)) 29 (0, 0))
  x : W.heap[w.heap.size + 1 + 1]? = some (.cells (mC (trL m k)) 29 (0, 0))
  b : W.heap[w.heap.size + 1 + 1 + 1]? = some (.cells #[.slice (some ⟨w.heap.size, 0, none⟩) 4 4] 77 (0, 0))
  below : Below w.heap.size w W
theorem AcM.kept {m : List Int} {k B : Nat} {w W X : World} (hB : w.heap.size ≤ B) (h : Kept B W X) (s : AcM m k w W) : AcM m k w X := ⟨h.cells s.a, h.cells s.r, h.cells s.x, h.cells s.b, h.below hB s.below⟩
theorem AcM.reads {m : List Int} {k : Nat} {w W : World} (hm : m.length = 16) (s : AcM m k w W) : RowsM m 4 w.heap.size 4 (w.heap.size + 1 + 1 + 1) W :=
  ⟨by rw [cell_of_row _ _ _ _ _ _ s.b]; rfl, fun j hj => by rw [cell_of_row _ _ _ _ _ _ s.a, mC_at _ _ (by omega)]⟩
theorem AcM.next {m : List Int} {k : Nat} {w W : World} (hk : k < 16) (s : AcM m k w W) : AcM m (k + 1) w (W.setCell ⟨w.heap.size + 1 + 1, k % 4 * 4 + k / 4, none⟩ (.int .i64 (m.getD k 0))) := by
  refine ⟨?_, ?_, ?_, ?_, s.below.setCell (p := ⟨w.heap.size + 1 + 1, k % 4 * 4 + k / 4, none⟩) (by show _ ≤ w.heap.size + 1 + 1; omega) _⟩
  · rw [heap_setCell_other _ _ _ _ (by show _ ≠ w.heap.size + 1 + 1; omega)]; exact s.a
  · rw [heap_setCell_other _ _ _ _ (by show _ ≠ w.heap.size + 1 + 1; omega)]; exact s.r
  · rw [heap_setCell_same _ _ _ _ _ _ s.x, mC_put, trL_step _ _ hk]
  · rw [heap_setCell_other _ _ _ _ (by show _ ≠ w.heap.size + 1 + 1; omega)]; exact s.b
def AcA (m : List Int) (w : World) (k B : Nat) (a : Act) : Prop :=
  a = { tmps := #[.agg (mC m), .pointer (some ⟨w.heap.size, 0, none⟩), .pointer (some ⟨w.heap.size + 1, 0, none⟩), .pointer (some ⟨w.heap.size + 1 + 1, 0, none⟩), .pointer (some ⟨B, 0, none⟩), .int .i64 (m.getD k 0), .slice (some ⟨w.heap.size, 0, none⟩) 4 4,
    .func (.func 59) #[] #[.pointer (some ⟨w.heap.size + 1 + 1 + 1, 0, none⟩)], .agg #[.int .i64 ((k / 4 : Nat) : Int), .int .i64 ((k % 4 : Nat) : Int)], .int .i64 (m.getD k 0), undef, undef, undef, undef, undef, undef, undef, undef], defers := [] }
def AcX (m : List Int) (w : World) (k : Nat) (a : Act) (W : World) : Prop := ∃ B, AcA m w k B a ∧ W.heap[B]? = some (.cells #[.int .i64 ((k / 4 : Nat) : Int), .int .i64 ((k % 4 : Nat) : Int)] 95 (0, 0)) ∧ AcM m k w W
def RetM (m : List Int) (w : World) (e : Ending) (w' : World) : Prop := e = .returned (.agg (mC m)) ∧ Below w.heap.size w w'
theorem block4s (w : World) (A B C D : Obj) : ((((w.alloc A).alloc B).alloc C).alloc D).heap[w.heap.size]? = some A ∧ ((((w.alloc A).alloc B).alloc C).alloc D).heap[w.heap.size + 1]? = some B ∧ ((((w.alloc A).alloc B).alloc C).alloc D).heap[w.heap.size + 1 + 1]? = some C ∧ ((((w.alloc A).alloc B).alloc C).alloc D).heap[w.heap.size + 1 + 1 + 1]? = some D := by
  have h0 := heap_alloc_new w A
  have h1 := heap_alloc_new (w.alloc A) B
  have h2 := heap_alloc_new ((w.alloc A).alloc B) C
  have h3 := heap_alloc_new (((w.alloc A).alloc B).alloc C) D
  simp only [World.size_alloc] at h1 h2 h3
  exact ⟨step_row (step_row (step_row h0)), step_row (step_row h1), step_row h2, h3⟩
set_option maxRecDepth 100000 in
set_option maxHeartbeats 2000000 in
theorem across_any (m : List Int) (w : World) (hm : m.length = 16) :
    Calls Try.prog 60 #[.agg (mC m)] w (RetM (tr m) w) := by
  have HM := Lib.hid hm; clear hm
  refine (callsIn_wide (n := 5)).1 ?_
  refine callsIn_of_wp_marks Try.func60 rfl trivial ?_ rfl
  simp only [Try.ntmps60, List.size_toArray, List.length_cons, List.length_nil, Nat.reduceAdd, Nat.reduceSub, Array.replicate_succ, Array.replicate_zero, List.push_toArray, List.append_toArray, List.nil_append, List.cons_append]
  refine wpIn_wide.2 ?_
  go_wp2_with fail
  refine (numbers_w _ _ _ _).mono ?_
  rintro e w' ⟨rfl, rfl⟩
  go_wp2_with fail
  obtain ⟨W0, hW0⟩ : ∃ W0, ((((w.alloc (.cells (mC m) 29)).alloc (.cells #[.int .i64 0, .int .i64 0, .int .i64 0, .int .i64 0, .int .i64 0, .int .i64 0, .int .i64 0, .int .i64 0, .int .i64 0, .int .i64 0, .int .i64 0, .int .i64 0, .int .i64 0, .int .i64 0, .int .i64 0, .int .i64 0] 29)).alloc (.cells #[.int .i64 0, .int .i64 0, .int .i64 0, .int .i64 0, .int .i64 0, .int .i64 0, .int .i64 0, .int .i64 0, .int .i64 0, .int .i64 0, .int .i64 0, .int .i64 0, .int .i64 0, .int .i64 0, .int .i64 0, .int .i64 0] 29)).alloc (.cells #[.slice (some ⟨w.heap.size, 0, none⟩) 4 4] 77)) = W0 := ⟨_, rfl⟩
  have hB0 : Below w.heap.size w W0 := by rw [← hW0]; go_grown
  have hS0 : W0.heap.size = w.heap.size + 4 := by rw [← hW0]; simp
  have am0 : AcM m 0 w W0 := by
    have h := block4s w (.cells (mC m) 29) (.cells #[.int .i64 0, .int .i64 0, .int .i64 0, .int .i64 0, .int .i64 0, .int .i64 0, .int .i64 0, .int .i64 0, .int .i64 0, .int .i64 0, .int .i64 0, .int .i64 0, .int .i64 0, .int .i64 0, .int .i64 0, .int .i64 0] 29) (.cells #[.int .i64 0, .int .i64 0, .int .i64 0, .int .i64 0, .int .i64 0, .int .i64 0, .int .i64 0, .int .i64 0, .int .i64 0, .int .i64 0, .int .i64 0, .int .i64 0, .int .i64 0, .int .i64 0, .int .i64 0, .int .i64 0] 29) (.cells #[.slice (some ⟨w.heap.size, 0, none⟩) 4 4] 77)
    rw [hW0] at h
    refine ⟨h.1, h.2.1, ?_, h.2.2.2, hB0⟩
    rw [trL_zero]
    exact h.2.2.1
  rw [hW0]
  clear hW0
  have info1 : (Try.prog.info? 29).map (·.size) = some (mC (tr m)).size := by rw [size16, mC_size, tr_len]
  have info0 : (mC (List.replicate 16 0)).size = (mC (tr m)).size := by rw [mC_size, mC_size, tr_len]; rfl
  have HI1 := Lib.hid info1
  have HI0 := Lib.hid info0
  clear info1 info0
  refine wpIn_wide.1 (wpIn_range_num (F := Fence.wide) (n := 5) rfl (by omega) (gf := 59) (lb := #[.pointer (some ⟨w.heap.size + 1 + 1 + 1, 0, none⟩)]) rfl trivial (enters_of Try.func59 (by kernel_rfl) rfl)
    (numbers_hands m 4 w.heap.size 4 (w.heap.size + 1 + 1 + 1) (by omega)) (fun _ => rfl) 0 (fun k W => AcM m k w W) (fun _ => False) (AcX m w)
    ?i1 ?i2 ?i3 ?i4 ?i5 am0 ?assign ?body ?done ?stop)
  case i1 => intro k W X h hk; exact h.kept (by omega) hk
  case i2 => intro W X h hk; exact h
  case i3 => rintro k a W X ⟨B, h0, h1, h4⟩ hk; exact ⟨B, h0, hk.cells h1, h4.kept (by omega) hk⟩
  case i4 => intro k W h; exact h.reads HM.out
  case i5 => intro W h; exact h.elim
  case assign =>
    intro l k W C hk hI hC
    simp only [numElem]
    gi_wp2
    exact hC _ _ ((KeepsOthers.alloc _ _).from _) ⟨_, rfl, heap_alloc_new _ _, hI.kept (Nat.le_refl _) (Kept.of_below ((Below.refl _ W).alloc (Nat.le_refl _) _))⟩
  case body =>
    rintro l k a' W hk ⟨B, ha, hp, am⟩
    unfold AcA at ha
    subst ha
    have p0 : W.cell? ⟨B, 0, none⟩ = some (.int .i64 ((k / 4 : Nat) : Int)) := by rw [cell_of_row _ _ _ _ _ _ hp]; rfl
    have p1 : W.cell? ⟨B, 1, none⟩ = some (.int .i64 ((k % 4 : Nat) : Int)) := by rw [cell_of_row _ _ _ _ _ _ hp]; rfl
    have hnx := am.next (by omega : k < 16)
    have hq : W.cell? ⟨w.heap.size + 1 + 1, k % 4 * 4 + k / 4, none⟩ = some (.int .i64 ((trL m k).getD (k % 4 * 4 + k / 4) 0)) := by rw [cell_of_row _ _ _ _ _ _ am.x, mC_at _ _ (by rw [trL_len]; omega)]
    have hqf : W.frozen? ⟨w.heap.size + 1 + 1, k % 4 * 4 + k / 4, none⟩ = false := frozen_row am.x
    have HNX := Lib.hid hnx
    have hBn : w.heap.size + 1 + 1 ≠ B := by
      rintro rfl
      rw [am.x] at hp
      simp only [Option.some.injEq, Obj.cells.injEq] at hp
      exact absurd hp.2.1 (by decide)
    clear hnx hp am
    have hr4 : k / 4 < 4 := by omega
    have hc4 : k % 4 < 4 := by omega
    obtain ⟨r, hr⟩ : ∃ r, k / 4 = r := ⟨_, rfl⟩
    obtain ⟨c, hc⟩ : ∃ c, k % 4 = c := ⟨_, rfl⟩
    obtain ⟨x, hx⟩ : ∃ x, m.getD k 0 = x := ⟨_, rfl⟩
    rw [hr, hc, hx] at HNX
    rw [hr, hc] at hq hqf
    rw [hr] at p0 hr4
    rw [hc] at p1 hc4
    rw [hr, hc, hx]
    generalize (trL m k).getD (c * 4 + r) 0 = y at hq
    clear hr hc hx
    have r0 : (0 : Int) ≤ (r : Int) := by omega
    have r1 : (r : Int) < 4 := by omega
    have c0 : (0 : Int) ≤ (c : Int) := by omega
    have c1 : (c : Int) < 4 := by omega
    gi_wp2
    refine held_region (S := fun X => X.cell? ⟨B, 0, none⟩ = some (.int .i64 (r : Int)) ∧ X.cell? ⟨B, 1, none⟩ = some (.int .i64 (c : Int))) (by kernel_rfl) ⟨p0, p1⟩ (fun hHeld => ?_)
    refine held_take (fun _ => trivial) (by kernel_rfl) (i := 0) (oi := _) (v := ?_) rfl (by kernel_rfl) (by kernel_rfl) (by kernel_rfl) (fun _ _ _ h => h) (by assumption) (Or.inl ⟨by kernel_rfl, ?_⟩) ?_
    rotate_left
    · intro wz hSw; obtain ⟨h1, h2⟩ := hSw; (first | (go_simp; done) | (go_simp; with_reducible rfl))
    (try simp only [Act.put, List.getElem_toArray, List.getElem_cons_zero, List.getElem_cons_succ, List.setIfInBounds_toArray, List.set_cons_zero, List.set_cons_succ])
    refine held_take (fun _ => trivial) (by kernel_rfl) (i := 1) (oi := _) (v := ?_) rfl (by kernel_rfl) (by kernel_rfl) (by kernel_rfl) (fun _ _ _ h => h) (by assumption) (Or.inl ⟨by kernel_rfl, ?_⟩) ?_
    rotate_left
    · intro wz hSw; obtain ⟨h1, h2⟩ := hSw; (first | (go_simp; done) | (go_simp; with_reducible rfl))
    (try simp only [Act.put, List.getElem_toArray, List.getElem_cons_zero, List.getElem_cons_succ, List.setIfInBounds_toArray, List.set_cons_zero, List.set_cons_succ])
    refine held_take (fun _ => trivial) (by kernel_rfl) (i := 2) (oi := _) (v := ?_) rfl (by kernel_rfl) (by kernel_rfl) (by kernel_rfl) (fun _ _ _ h => h) (by assumption) (Or.inl ⟨by kernel_rfl, ?_⟩) ?_
    rotate_left
    · intro wz hSw; obtain ⟨h1, h2⟩ := hSw; (first | (go_simp; done) | (go_simp; with_reducible rfl))
    (try simp only [Act.put, List.getElem_toArray, List.getElem_cons_zero, List.getElem_cons_succ, List.setIfInBounds_toArray, List.set_cons_zero, List.set_cons_succ])
    refine held_take (fun _ => trivial) (by kernel_rfl) (i := 3) (oi := _) (v := ?_) rfl (by kernel_rfl) (by kernel_rfl) (by kernel_rfl) (fun _ _ _ h => h) (by assumption) (Or.inl ⟨by kernel_rfl, ?_⟩) ?_
    rotate_left
    · intro wz hSw; obtain ⟨h1, h2⟩ := hSw; (first | (go_simp; done) | (go_simp; with_reducible rfl))
    (try simp only [Act.put, List.getElem_toArray, List.getElem_cons_zero, List.getElem_cons_succ, List.setIfInBounds_toArray, List.set_cons_zero, List.set_cons_succ])
    refine held_take (fun _ => trivial) (by kernel_rfl) (i := 4) (oi := _) (v := ?_) rfl (by kernel_rfl) (by kernel_rfl) (by kernel_rfl) (fun _ _ _ h => h) (by assumption) (Or.inl ⟨by kernel_rfl, ?_⟩) ?_
    rotate_left
    · intro wz hSw; obtain ⟨h1, h2⟩ := hSw; (first | (go_simp; done) | (go_simp; with_reducible rfl))
    (try simp only [Act.put, List.getElem_toArray, List.getElem_cons_zero, List.getElem_cons_succ, List.setIfInBounds_toArray, List.set_cons_zero, List.set_cons_succ])
    refine held_take (fun _ => trivial) (by kernel_rfl) (i := 5) (oi := _) (v := ?_) rfl (by kernel_rfl) (by kernel_rfl) (by kernel_rfl) (fun _ _ _ h => h) (by assumption) (Or.inl ⟨by kernel_rfl, ?_⟩) ?_
    rotate_left
    · intro wz hSw; obtain ⟨h1, h2⟩ := hSw; (first | (go_simp; done) | (go_simp; with_reducible rfl))
    (try simp only [Act.put, List.getElem_toArray, List.getElem_cons_zero, List.getElem_cons_succ, List.setIfInBounds_toArray, List.set_cons_zero, List.set_cons_succ])
    refine held_take (fun _ => trivial) (by kernel_rfl) (i := 6) (oi := _) (v := ?_) rfl (by kernel_rfl) (by kernel_rfl) (by kernel_rfl) (fun _ _ _ h => h) (by assumption) (Or.inl ⟨by kernel_rfl, ?_⟩) ?_
    rotate_left
    · intro wz hSw; obtain ⟨h1, h2⟩ := hSw; (first | (go_simp; done) | (go_simp; with_reducible rfl))
    (try simp only [Act.put, List.getElem_toArray, List.getElem_cons_zero, List.getElem_cons_succ, List.setIfInBounds_toArray, List.set_cons_zero, List.set_cons_succ])
    refine held_step (fun _ => trivial) (i := 7) (o := _) (by kernel_rfl) rfl (fun K hK => ?_)
    go_simp
    refine hK.out _ _ ⟨(World.cell?_setCell_far _ _ _ _ (by exact hBn)).trans p0, (World.cell?_setCell_far _ _ _ _ (by exact hBn)).trans p1⟩ (fun hHeld => ?_)
    clear hK K
    refine held_done (by kernel_rfl) ?_ _
    clear hHeld
    gi_wp2
    exact ⟨((KeepsOthers.setCell _ _ _).trans (KeepsOthers.drew _)).from _, HNX.out.kept (Nat.le_refl _) (Kept.of_below (bdrew0 _ _ 1))⟩
  case done =>
    rintro D W hD am hdef
    have hx := am.x
    have hr := am.r
    rw [trL_end] at hx
    have HX := Lib.hid hx
    have HR := Lib.hid hr
    have hBl := am.below
    clear hx hr am
    go_wp2_with (first | (refine wpList_load_row rfl 29 (.tmp 3) rfl (w.heap.size + 1 + 1) rfl _ _ _ _ HX.out Try.underlying29 rfl HI1.out ?_) | (refine wpList_store_big rfl 29 (.tmp 2) (.tmp 17) rfl (w.heap.size + 1) _ _ (mC (tr m)) rfl rfl HR.out HI1.out HI0.out (mC_one _) ?_))
    have hdf : (W.setRow (w.heap.size + 1) (mC (tr m))).heap[D]? = some (.deferred (some [])) := by rw [setRow_other _ _ _ _ (by omega)]; exact hdef
    refine ⟨by simp, .inl ⟨_, _, rfl, run_takeDeferred hdf, ?_⟩⟩
    refine ⟨_, results_cell_row rfl _ _ (w.heap.size + 1) _ _ _ _ rfl ((World.putObj_heap_other (by omega)).trans (setRow_heap _ _ _ _ _ _ HR.out)) Try.underlying29 rfl HI1.out, rfl, ?_⟩
    exact (Below.row hBl (by omega) _).trans (belowK_b (w := w) (Nat.le_refl _) _ D _ _ (by omega) hdf rfl rfl)
  case stop => intro D W hD h; exact h.elim
end Go.Proofs.Ytildnadkfonlhaa.Fx
