import Derived.Laws.Rows
import Derived.Test.YtbbhmhihpdmoiaaGreatProg
import Derived.Shelf.Abstract
import Derived.Shelf.RegionOpen
import Derived.WalkKit
import Derived.OwnWalkIn
import Derived.TacticsInMore
import Derived.LoopNIn
import Derived.LoopIn
import Derived.Lib.Hide
import Derived.Outline
import Derived.WalkMore
import Derived.Deep.RegionHeld3
import Derived.Test.YtbbhmhihpdmoiaaGreatMz00
import Derived.Test.YtbbhmhihpdmoiaaGreatMz01
import Derived.Test.YtbbhmhihpdmoiaaGreatMz12
import Derived.Test.YtbbhmhihpdmoiaaGreatMz13
import Derived.Test.YtbbhmhihpdmoiaaGreatMz14
/- matrix.Across, walked: rows and columns are exchanged. -/
set_option linter.unusedVariables false
set_option linter.unusedSimpArgs false
namespace Go.Proofs.YtbbhmhihpdmoiaaGreat.Fx
open Go Go.RowKit Go.Shelf
attribute [local go_sem] Oper.semAt_some
/-- the cells of numbers -/
def mC (m : List Int) : Array Value := (m.map encI).toArray
theorem mC_size (m : List Int) : (mC m).size = m.length := by simp [mC]
theorem mC_one (m : List Int) : (mC m).all (·.oneCell') = true := by
  rw [Array.all_eq_true_iff_forall_mem]
  intro v hv
  simp only [mC, List.mem_toArray, List.mem_map] at hv
  obtain ⟨x, _, rfl⟩ := hv
  rfl
theorem mC_at (m : List Int) (j : Nat) (h : j < m.length) : (mC m)[j]? = some (.int .i64 (m.getD j 0)) := by
  unfold mC
  rw [List.getElem?_toArray, List.getElem?_map]
  simp [List.getD_eq_getElem?_getD, h, encI]
theorem mC_put (m : List Int) (j : Nat) (x : Int) : (mC m).setIfInBounds j (.int .i64 x) = mC (m.set j x) := by
  unfold mC
  rw [List.setIfInBounds_toArray, List.map_set]
  rfl
/-- rows and columns exchanged, as far as k numbers have come -/
def trL (m : List Int) (k : Nat) : List Int := (List.range 16).map fun p => if p % 4 * 4 + p / 4 < k then m.getD (p % 4 * 4 + p / 4) 0 else 0
def tr (m : List Int) : List Int := (List.range 16).map fun p => m.getD (p % 4 * 4 + p / 4) 0
theorem trL_len (m : List Int) (k : Nat) : (trL m k).length = 16 := by simp [trL]
theorem tr_len (m : List Int) : (tr m).length = 16 := by simp [tr]
theorem trL_end (m : List Int) : trL m 16 = tr m := by
  unfold trL tr
  refine List.map_congr_left fun p hp => ?_
  rw [List.mem_range] at hp
  rw [if_pos (by omega)]
theorem trL_step (m : List Int) (k : Nat) (h : k < 16) : (trL m k).set (k % 4 * 4 + k / 4) (m.getD k 0) = trL m (k + 1) := by
  refine List.ext_getElem (by simp [trL]) fun p h1 h2 => ?_
  have hp : p < 16 := by simpa [trL] using h2
  rw [List.getElem_set]
  simp only [trL, List.getElem_map, List.getElem_range]
  by_cases e : k % 4 * 4 + k / 4 = p
  · have e2 : p % 4 * 4 + p / 4 = k := by omega
    rw [if_pos e, e2, if_pos (by omega)]
  · rw [if_neg e]
    have e2 : p % 4 * 4 + p / 4 ≠ k := by omega
    by_cases e3 : p % 4 * 4 + p / 4 < k
    · rw [if_pos e3, if_pos (by omega)]
    · rw [if_neg e3, if_neg (by omega)]
theorem trL_zero (m : List Int) : trL m 0 = List.replicate 16 0 := by
  unfold trL
  simp only [Nat.not_lt_zero, if_false]
  rfl
theorem size16 : (Tryz.prog.info? 25).map (·.size) = some 16 := by kernel_rfl
structure AcM (m : List Int) (k : Nat) (w W : World) : Prop where
  a : W.heap[w.heap.size]? = some (.cells (mC m) 25 (0, 0))
  r : W.heap[w.heap.size + 1]? = some (.cells (mC (List.replicate 16 0)) 25 (0, 0))
  x : W.heap[w.heap.size + 1 + 1]? = some (.cells (mC (trL m k)) 25 (0, 0))
  b : W.heap[w.heap.size + 1 + 1 + 1]? = some (.cells #[.slice (some ⟨w.heap.size, 0, none⟩) 4 4] 171 (0, 0))
  below : Below w.heap.size w W
theorem AcM.kept {m : List Int} {k B : Nat} {w W X : World} (hB : w.heap.size ≤ B) (h : Kept B W X) (s : AcM m k w W) : AcM m k w X := ⟨h.cells s.a, h.cells s.r, h.cells s.x, h.cells s.b, h.below hB s.below⟩
theorem AcM.reads {m : List Int} {k : Nat} {w W : World} (hm : m.length = 16) (s : AcM m k w W) : RowsM m 4 w.heap.size 4 (w.heap.size + 1 + 1 + 1) W :=
  ⟨by rw [cell_of_row _ _ _ _ _ _ s.b]; rfl, fun j hj => by rw [cell_of_row _ _ _ _ _ _ s.a, mC_at _ _ (by omega)]⟩
theorem AcM.next {m : List Int} {k : Nat} {w W : World} (hk : k < 16) (s : AcM m k w W) : AcM m (k + 1) w (W.setCell ⟨w.heap.size + 1 + 1, k % 4 * 4 + k / 4, none⟩ (.int .i64 (m.getD k 0))) := by
  refine ⟨?_, ?_, ?_, ?_, s.below.setCell (p := ⟨w.heap.size + 1 + 1, k % 4 * 4 + k / 4, none⟩) (by show _ ≤ w.heap.size + 1 + 1; omega) _⟩
  · rw [heap_setCell_other _ _ _ _ (by show _ ≠ w.heap.size + 1 + 1; omega)]; exact s.a
  · rw [heap_setCell_other _ _ _ _ (by show _ ≠ w.heap.size + 1 + 1; omega)]; exact s.r
  · rw [heap_setCell_same _ _ _ _ _ _ s.x, mC_put, trL_step _ _ hk]
  · rw [heap_setCell_other _ _ _ _ (by show _ ≠ w.heap.size + 1 + 1; omega)]; exact s.b
def AcA (m : List Int) (w : World) (k B : Nat) (a : Act) : Prop :=
  a = { tmps := #[.agg (mC m), .pointer (some ⟨w.heap.size, 0, none⟩), .pointer (some ⟨w.heap.size + 1, 0, none⟩), .pointer (some ⟨w.heap.size + 1 + 1, 0, none⟩), .pointer (some ⟨B, 0, none⟩), .int .i64 (m.getD k 0), .slice (some ⟨w.heap.size, 0, none⟩) 4 4,
    .func (.func 149) #[] #[.pointer (some ⟨w.heap.size + 1 + 1 + 1, 0, none⟩)], .agg #[.int .i64 ((k / 4 : Nat) : Int), .int .i64 ((k % 4 : Nat) : Int)], .int .i64 (m.getD k 0), undef, undef, undef, undef, undef, undef, undef, undef], defers := [] }
def AcX (m : List Int) (w : World) (k : Nat) (a : Act) (W : World) : Prop := ∃ B, AcA m w k B a ∧ W.heap[B]? = some (.cells #[.int .i64 ((k / 4 : Nat) : Int), .int .i64 ((k % 4 : Nat) : Int)] 192 (0, 0)) ∧ AcM m k w W
def RetM (m : List Int) (w : World) (e : Ending) (w' : World) : Prop := e = .returned (.agg (mC m)) ∧ Below w.heap.size w w'
theorem block4s (w : World) (A B C D : Obj) : ((((w.alloc A).alloc B).alloc C).alloc D).heap[w.heap.size]? = some A ∧ ((((w.alloc A).alloc B).alloc C).alloc D).heap[w.heap.size + 1]? = some B ∧ ((((w.alloc A).alloc B).alloc C).alloc D).heap[w.heap.size + 1 + 1]? = some C ∧ ((((w.alloc A).alloc B).alloc C).alloc D).heap[w.heap.size + 1 + 1 + 1]? = some D := by
  have h0 := heap_alloc_new w A
  have h1 := heap_alloc_new (w.alloc A) B
  have h2 := heap_alloc_new ((w.alloc A).alloc B) C
  have h3 := heap_alloc_new (((w.alloc A).alloc B).alloc C) D
  simp only [World.size_alloc] at h1 h2 h3
  exact ⟨step_row (step_row (step_row h0)), step_row (step_row h1), step_row h2, h3⟩
set_option maxRecDepth 100000 in
set_option maxHeartbeats 2000000 in
theorem across_any (m : List Int) (w : World) (hm : m.length = 16) :
    Calls Tryz.prog 150 #[.agg (mC m)] w (RetM (tr m) w) := by
  have HM := Lib.hid hm; clear hm
  refine (callsIn_wide (n := 5)).1 ?_
  refine callsIn_of_wp_marks Tryz.func150 rfl trivial ?_ rfl
  simp only [Tryz.ntmps150, List.size_toArray, List.length_cons, List.length_nil, Nat.reduceAdd, Nat.reduceSub, Array.replicate_succ, Array.replicate_zero, List.push_toArray, List.append_toArray, List.nil_append, List.cons_append]
  refine wpIn_wide.2 ?_
  go_wp2_with fail
  refine (numbers_w _ _ _ _).mono ?_
  rintro e w' ⟨rfl, rfl⟩
  go_wp2_with fail
  obtain ⟨W0, hW0⟩ : ∃ W0, ((((w.alloc (.cells (mC m) 25)).alloc (.cells #[.int .i64 0, .int .i64 0, .int .i64 0, .int .i64 0, .int .i64 0, .int .i64 0, .int .i64 0, .int .i64 0, .int .i64 0, .int .i64 0, .int .i64 0, .int .i64 0, .int .i64 0, .int .i64 0, .int .i64 0, .int .i64 0] 25)).alloc (.cells #[.int .i64 0, .int .i64 0, .int .i64 0, .int .i64 0, .int .i64 0, .int .i64 0, .int .i64 0, .int .i64 0, .int .i64 0, .int .i64 0, .int .i64 0, .int .i64 0, .int .i64 0, .int .i64 0, .int .i64 0, .int .i64 0] 25)).alloc (.cells #[.slice (some ⟨w.heap.size, 0, none⟩) 4 4] 171)) = W0 := ⟨_, rfl⟩
  have hB0 : Below w.heap.size w W0 := by rw [← hW0]; go_grown
  have hS0 : W0.heap.size = w.heap.size + 4 := by rw [← hW0]; simp
  have am0 : AcM m 0 w W0 := by
    have h := block4s w (.cells (mC m) 25) (.cells #[.int .i64 0, .int .i64 0, .int .i64 0, .int .i64 0, .int .i64 0, .int .i64 0, .int .i64 0, .int .i64 0, .int .i64 0, .int .i64 0, .int .i64 0, .int .i64 0, .int .i64 0, .int .i64 0, .int .i64 0, .int .i64 0] 25) (.cells #[.int .i64 0, .int .i64 0, .int .i64 0, .int .i64 0, .int .i64 0, .int .i64 0, .int .i64 0, .int .i64 0, .int .i64 0, .int .i64 0, .int .i64 0, .int .i64 0, .int .i64 0, .int .i64 0, .int .i64 0, .int .i64 0] 25) (.cells #[.slice (some ⟨w.heap.size, 0, none⟩) 4 4] 171)
    rw [hW0] at h
    refine ⟨h.1, h.2.1, ?_, h.2.2.2, hB0⟩
    rw [trL_zero]
    exact h.2.2.1
  rw [hW0]
  clear hW0
  have info1 : (Tryz.prog.info? 25).map (·.size) = some (mC (tr m)).size := by rw [size16, mC_size, tr_len]
  have info0 : (mC (List.replicate 16 0)).size = (mC (tr m)).size := by rw [mC_size, mC_size, tr_len]; rfl
  have HI1 := Lib.hid info1
  have HI0 := Lib.hid info0
  clear info1 info0
  refine wpIn_wide.1 (wpIn_range_num (F := Fence.wide) (n := 5) rfl (by omega) (gf := 149) (lb := #[.pointer (some ⟨w.heap.size + 1 + 1 + 1, 0, none⟩)]) rfl trivial (enters_of Tryz.func149 (by kernel_rfl) rfl)
    (numbers_hands m 4 w.heap.size 4 (w.heap.size + 1 + 1 + 1) (by omega)) (fun _ => rfl) 0 (fun k W => AcM m k w W) (fun _ => False) (AcX m w)
    ?i1 ?i2 ?i3 ?i4 ?i5 am0 ?assign ?body ?done ?stop)
  case i1 => intro k W X h hk; exact h.kept (by omega) hk
  case i2 => intro W X h hk; exact h
  case i3 => rintro k a W X ⟨B, h0, h1, h4⟩ hk; exact ⟨B, h0, hk.cells h1, h4.kept (by omega) hk⟩
  case i4 => intro k W h; exact h.reads HM.out
  case i5 => intro W h; exact h.elim
  case assign =>
    intro l k W C hk hI hC
    simp only [numElem]
    gi_wp2
    exact hC _ _ ((KeepsOthers.alloc _ _).from _) ⟨_, rfl, heap_alloc_new _ _, hI.kept (Nat.le_refl _) (Kept.of_below ((Below.refl _ W).alloc (Nat.le_refl _) _))⟩
  case body =>
    rintro l k a' W hk ⟨B, ha, hp, am⟩
    unfold AcA at ha
    subst ha
    have p0 : W.cell? ⟨B, 0, none⟩ = some (.int .i64 ((k / 4 : Nat) : Int)) := by rw [cell_of_row _ _ _ _ _ _ hp]; rfl
    have p1 : W.cell? ⟨B, 1, none⟩ = some (.int .i64 ((k % 4 : Nat) : Int)) := by rw [cell_of_row _ _ _ _ _ _ hp]; rfl
    have hnx := am.next (by omega : k < 16)
    have hq : W.cell? ⟨w.heap.size + 1 + 1, k % 4 * 4 + k / 4, none⟩ = some (.int .i64 ((trL m k).getD (k % 4 * 4 + k / 4) 0)) := by rw [cell_of_row _ _ _ _ _ _ am.x, mC_at _ _ (by rw [trL_len]; omega)]
    have hqf : W.frozen? ⟨w.heap.size + 1 + 1, k % 4 * 4 + k / 4, none⟩ = false := frozen_row am.x
    have HNX := Lib.hid hnx
    have hBn : w.heap.size + 1 + 1 ≠ B := by
      rintro rfl
      rw [am.x] at hp
      simp only [Option.some.injEq, Obj.cells.injEq] at hp
      exact absurd hp.2.1 (by decide)
    clear hnx hp am
    have hr4 : k / 4 < 4 := by omega
    have hc4 : k % 4 < 4 := by omega
    obtain ⟨r, hr⟩ : ∃ r, k / 4 = r := ⟨_, rfl⟩
    obtain ⟨c, hc⟩ : ∃ c, k % 4 = c := ⟨_, rfl⟩
    obtain ⟨x, hx⟩ : ∃ x, m.getD k 0 = x := ⟨_, rfl⟩
    rw [hr, hc, hx] at HNX
    rw [hr, hc] at hq hqf
    rw [hr] at p0 hr4
    rw [hc] at p1 hc4
    rw [hr, hc, hx]
    generalize (trL m k).getD (c * 4 + r) 0 = y at hq
    clear hr hc hx
    have r0 : (0 : Int) ≤ (r : Int) := by omega
    have r1 : (r : Int) < 4 := by omega
    have c0 : (0 : Int) ≤ (c : Int) := by omega
    have c1 : (c : Int) < 4 := by omega
    gi_wp2
    refine held_region (S := fun X => X.cell? ⟨B, 0, none⟩ = some (.int .i64 (r : Int)) ∧ X.cell? ⟨B, 1, none⟩ = some (.int .i64 (c : Int))) (by kernel_rfl) ⟨p0, p1⟩ (fun hHeld => ?_)
    refine held_take (fun _ => trivial) (by kernel_rfl) (i := 0) (oi := _) (v := ?_) rfl (by kernel_rfl) (by kernel_rfl) (by kernel_rfl) (fun _ _ _ h => h) (by assumption) (Or.inl ⟨by kernel_rfl, ?_⟩) ?_
    rotate_left
    · intro wz hSw; obtain ⟨h1, h2⟩ := hSw; (first | (go_simp; done) | (go_simp; with_reducible rfl))
    (try simp only [Act.put, List.getElem_toArray, List.getElem_cons_zero, List.getElem_cons_succ, List.setIfInBounds_toArray, List.set_cons_zero, List.set_cons_succ])
    refine held_take (fun _ => trivial) (by kernel_rfl) (i := 1) (oi := _) (v := ?_) rfl (by kernel_rfl) (by kernel_rfl) (by kernel_rfl) (fun _ _ _ h => h) (by assumption) (Or.inl ⟨by kernel_rfl, ?_⟩) ?_
    rotate_left
    · intro wz hSw; obtain ⟨h1, h2⟩ := hSw; (first | (go_simp; done) | (go_simp; with_reducible rfl))
    (try simp only [Act.put, List.getElem_toArray, List.getElem_cons_zero, List.getElem_cons_succ, List.setIfInBounds_toArray, List.set_cons_zero, List.set_cons_succ])
    refine held_take (fun _ => trivial) (by kernel_rfl) (i := 2) (oi := _) (v := ?_) rfl (by kernel_rfl) (by kernel_rfl) (by kernel_rfl) (fun _ _ _ h => h) (by assumption) (Or.inl ⟨by kernel_rfl, ?_⟩) ?_
    rotate_left
    · intro wz hSw; obtain ⟨h1, h2⟩ := hSw; (first | (go_simp; done) | (go_simp; with_reducible rfl))
    (try simp only [Act.put, List.getElem_toArray, List.getElem_cons_zero, List.getElem_cons_succ, List.setIfInBounds_toArray, List.set_cons_zero, List.set_cons_succ])
    refine held_take (fun _ => trivial) (by kernel_rfl) (i := 3) (oi := _) (v := ?_) rfl (by kernel_rfl) (by kernel_rfl) (by kernel_rfl) (fun _ _ _ h => h) (by assumption) (Or.inl ⟨by kernel_rfl, ?_⟩) ?_
    rotate_left
    · intro wz hSw; obtain ⟨h1, h2⟩ := hSw; (first | (go_simp; done) | (go_simp; with_reducible rfl))
    (try simp only [Act.put, List.getElem_toArray, List.getElem_cons_zero, List.getElem_cons_succ, List.setIfInBounds_toArray, List.set_cons_zero, List.set_cons_succ])
    refine held_take (fun _ => trivial) (by kernel_rfl) (i := 4) (oi := _) (v := ?_) rfl (by kernel_rfl) (by kernel_rfl) (by kernel_rfl) (fun _ _ _ h => h) (by assumption) (Or.inl ⟨by kernel_rfl, ?_⟩) ?_
    rotate_left
    · intro wz hSw; obtain ⟨h1, h2⟩ := hSw; (first | (go_simp; done) | (go_simp; with_reducible rfl))
    (try simp only [Act.put, List.getElem_toArray, List.getElem_cons_zero, List.getElem_cons_succ, List.setIfInBounds_toArray, List.set_cons_zero, List.set_cons_succ])
    refine held_take (fun _ => trivial) (by kernel_rfl) (i := 5) (oi := _) (v := ?_) rfl (by kernel_rfl) (by kernel_rfl) (by kernel_rfl) (fun _ _ _ h => h) (by assumption) (Or.inl ⟨by kernel_rfl, ?_⟩) ?_
    rotate_left
    · intro wz hSw; obtain ⟨h1, h2⟩ := hSw; (first | (go_simp; done) | (go_simp; with_reducible rfl))
    (try simp only [Act.put, List.getElem_toArray, List.getElem_cons_zero, List.getElem_cons_succ, List.setIfInBounds_toArray, List.set_cons_zero, List.set_cons_succ])
    refine held_take (fun _ => trivial) (by kernel_rfl) (i := 6) (oi := _) (v := ?_) rfl (by kernel_rfl) (by kernel_rfl) (by kernel_rfl) (fun _ _ _ h => h) (by assumption) (Or.inl ⟨by kernel_rfl, ?_⟩) ?_
    rotate_left
    · intro wz hSw; obtain ⟨h1, h2⟩ := hSw; (first | (go_simp; done) | (go_simp; with_reducible rfl))
    (try simp only [Act.put, List.getElem_toArray, List.getElem_cons_zero, List.getElem_cons_succ, List.setIfInBounds_toArray, List.set_cons_zero, List.set_cons_succ])
    refine held_step (fun _ => trivial) (i := 7) (o := _) (by kernel_rfl) rfl (fun K hK => ?_)
    go_simp
    refine hK.out _ _ ⟨(World.cell?_setCell_far _ _ _ _ (by exact hBn)).trans p0, (World.cell?_setCell_far _ _ _ _ (by exact hBn)).trans p1⟩ (fun hHeld => ?_)
    clear hK K
    refine held_done (by kernel_rfl) ?_ _
    clear hHeld
    gi_wp2
    exact ⟨((KeepsOthers.setCell _ _ _).trans (KeepsOthers.drew _)).from _, HNX.out.kept (Nat.le_refl _) (Kept.of_below (bdrew0 _ _ 1))⟩
  case done =>
    rintro D W hD am hdef
    have hx := am.x
    have hr := am.r
    rw [trL_end] at hx
    have HX := Lib.hid hx
    have HR := Lib.hid hr
    have hBl := am.below
    clear hx hr am
    go_wp2_with (first | (refine wpList_load_row rfl 25 (.tmp 3) rfl (w.heap.size + 1 + 1) rfl _ _ _ _ HX.out Tryz.underlying25 rfl HI1.out ?_) | (refine wpList_store_big rfl 25 (.tmp 2) (.tmp 17) rfl (w.heap.size + 1) _ _ (mC (tr m)) rfl rfl HR.out HI1.out HI0.out (mC_one _) ?_))
    have hdf : (W.setRow (w.heap.size + 1) (mC (tr m))).heap[D]? = some (.deferred (some [])) := by rw [setRow_other _ _ _ _ (by omega)]; exact hdef
    refine ⟨by simp, .inl ⟨_, _, rfl, run_takeDeferred hdf, ?_⟩⟩
    refine ⟨_, results_cell_row rfl _ _ (w.heap.size + 1) _ _ _ _ rfl ((World.putObj_heap_other (by omega)).trans (setRow_heap _ _ _ _ _ _ HR.out)) Tryz.underlying25 rfl HI1.out, rfl, ?_⟩
    exact (Below.row hBl (by omega) _).trans (belowK_b (w := w) (Nat.le_refl _) _ D _ _ (by omega) hdf rfl rfl)
  case stop => intro D W hD h; exact h.elim
end Go.Proofs.YtbbhmhihpdmoiaaGreat.Fx


/- matrix.product, walked: row by column, by One, rounded down once. -/
set_option linter.unusedVariables false
set_option linter.unusedSimpArgs false
namespace Go.Proofs.YtbbhmhihpdmoiaaGreat.Fx
open Go Go.RowKit Go.Shelf Wm
/-- may numbers be? -/
def May (m : List Int) : Prop := ∀ j, -4611686018427387904 ≤ m.getD j 0 ∧ m.getD j 0 ≤ 4611686018427387904
def dot (r c : List Int) : Int := r.getD 0 0 * c.getD 0 0 + r.getD 1 0 * c.getD 1 0 + r.getD 2 0 * c.getD 2 0 + r.getD 3 0 * c.getD 3 0
theorem prod_le {a b : Int} (a0 : -4611686018427387904 ≤ a) (a1 : a ≤ 4611686018427387904) (b0 : -4611686018427387904 ≤ b) (b1 : b ≤ 4611686018427387904) :
    -21267647932558653966460912964485513216 ≤ a * b ∧ a * b ≤ 21267647932558653966460912964485513216 := by
  have h : a.natAbs * b.natAbs ≤ 4611686018427387904 * 4611686018427387904 := Nat.mul_le_mul (by omega) (by omega)
  have e := Int.natAbs_mul a b
  omega
theorem dot_in {r c : List Int} (hr : May r) (hc : May c) : -85070591730234615865843651857942052864 ≤ dot r c ∧ dot r c ≤ 85070591730234615865843651857942052864 := by
  have h0 := prod_le (hr 0).1 (hr 0).2 (hc 0).1 (hc 0).2
  have h1 := prod_le (hr 1).1 (hr 1).2 (hc 1).1 (hc 1).2
  have h2 := prod_le (hr 2).1 (hr 2).2 (hc 2).1 (hc 2).2
  have h3 := prod_le (hr 3).1 (hr 3).2 (hc 3).1 (hc 3).2
  unfold dot
  omega
theorem sm_succ {xs ys : List Int} {k : Nat} {s : Int} (h : sm xs ys k = some s) (hi : In (s + xs.getD k 0 * ys.getD k 0)) : sm xs ys (k + 1) = some (s + xs.getD k 0 * ys.getD k 0) := by
  simp only [sm, h]
  rw [if_pos hi]
theorem sm_four {r c : List Int} (hr : May r) (hc : May c) : sm r c 4 = some (dot r c) := by
  have h0 := prod_le (hr 0).1 (hr 0).2 (hc 0).1 (hc 0).2
  have h1 := prod_le (hr 1).1 (hr 1).2 (hc 1).1 (hc 1).2
  have h2 := prod_le (hr 2).1 (hr 2).2 (hc 2).1 (hc 2).2
  have h3 := prod_le (hr 3).1 (hr 3).2 (hc 3).1 (hc 3).2
  unfold dot
  have e1 : sm r c 1 = some _ := sm_succ (xs := r) (ys := c) (k := 0) (s := 0) rfl (by unfold In; omega)
  have e2 : sm r c 2 = some _ := sm_succ (k := 1) e1 (by unfold In; omega)
  have e3 : sm r c 3 = some _ := sm_succ (k := 2) e2 (by unfold In; omega)
  have e4 : sm r c 4 = some _ := sm_succ (k := 3) e3 (by unfold In; omega)
  rw [e4, Int.zero_add]
theorem fours_of {w : World} {g n : Nat} {m : List Int} {t : TypeId} (h : w.heap[g]? = some (.cells (mC m) t (0, 0))) (hn : 4 * n ≤ m.length) : Fours m n g w := fun j hj => by rw [cell_of_row _ _ _ _ _ _ h, mC_at _ _ (by omega)]
theorem sl_of {w : World} {g : Nat} {m : List Int} {t : TypeId} (h : w.heap[g]? = some (.cells (mC m) t (0, 0))) : Sl w (some ⟨g, 0, none⟩) m := fun j hj => ⟨g, 0, rfl, by rw [Nat.zero_add, cell_of_row _ _ _ _ _ _ h, mC_at _ _ hj]⟩
def pq (r c : List Int) : Int := dot r c / 65536
set_option maxRecDepth 100000 in
set_option maxHeartbeats 2000000 in
theorem product_w (r c : List Int) (w : World) (lr : r.length = 4) (lc : c.length = 4) (S q : Int)
    (hS : ∀ w oa ob, Sl w oa r → Sl w ob c → Calls Tryz.prog 161 #[.slice oa 4 4, .slice ob 4 4] w fun e w' => ∃ h : Int, ∃ l : Nat, e = .returned (.tuple #[.agg #[.int .i64 h, .int .u64 l], .int .i64 0]) ∧ At S h l ∧ Below w.heap.size w w')
    (hD : ∀ w h l, At S h l → Calls Tryz.prog 162 #[.agg #[.int .i64 h, .int .u64 l], .int .i64 65536] w fun e w' => ∃ h : Int, ∃ l : Nat, ∃ r : Int, e = .returned (.tuple #[.agg #[.int .i64 h, .int .u64 l], .int .i64 r, .int .i64 0]) ∧ At q h l ∧ Below w.heap.size w w') (x y : Int)
    (hI : ∀ w h l, At q h l → Calls Tryz.prog 163 #[.agg #[.int .i64 h, .int .u64 l]] w fun e w' => e = .returned (.tuple #[.int .i64 x, .int .i64 y]) ∧ Below w.heap.size w w') :
    Calls Tryz.prog 155 #[.agg (mC r), .agg (mC c)] w fun e w' => e = .returned (.tuple #[.int .i64 x, .int .i64 y]) ∧ Below w.heap.size w w' := by
  have HS := Lib.hid hS
  have HD := Lib.hid hD
  have HI := Lib.hid hI
  have LR := Lib.hid lr
  have LC := Lib.hid lc
  clear hS hD hI lr lc
  go_enter Tryz.func155, Tryz.ntmps155
  go_wp2_with fail
  obtain ⟨V, hV⟩ : ∃ V, (w.alloc (.cells (mC r) 23)).alloc (.cells (mC c) 23) = V := ⟨_, rfl⟩
  have hB0 : Below w.heap.size w V := by rw [← hV]; go_grown
  have s1 : Sl V (some ⟨w.heap.size, 0, none⟩) r := sl_of (t := 23) (by rw [← hV]; exact step_row (heap_alloc_new _ _))
  have s2 : Sl V (some ⟨w.heap.size + 1, 0, none⟩) c := sl_of (t := 23) (by rw [← hV]; have := heap_alloc_new (w.alloc (.cells (mC r) 23)) (.cells (mC c) 23); rw [World.size_alloc] at this; exact this)
  have S1 := Lib.hid s1
  have S2 := Lib.hid s2
  rw [hV]
  clear hV s1 s2
  refine (wpIn_wide (n := 5)).1 (held_region (F := Fence.wide) (S := fun _ => True) (by kernel_rfl) trivial (fun hHeld => ?_))
  refine held_take (fun _ => trivial) (by kernel_rfl) (i := 0) (oi := _) (v := ?_) rfl (by kernel_rfl) (by kernel_rfl) (by kernel_rfl) (fun _ _ _ h => h) (by assumption) (Or.inl ⟨by kernel_rfl, ?_⟩) ?_
  rotate_left
  · intro wz hSw; (first | (go_simp; done) | (go_simp; with_reducible rfl))
  (try simp only [Act.put, List.getElem_toArray, List.getElem_cons_zero, List.getElem_cons_succ, List.setIfInBounds_toArray, List.set_cons_zero, List.set_cons_succ])
  refine held_take (fun _ => trivial) (by kernel_rfl) (i := 1) (oi := _) (v := ?_) rfl (by kernel_rfl) (by kernel_rfl) (by kernel_rfl) (fun _ _ _ h => h) (by assumption) (Or.inl ⟨by kernel_rfl, ?_⟩) ?_
  rotate_left
  · intro wz hSw; (first | (go_simp; done) | (go_simp; with_reducible rfl))
  (try simp only [Act.put, List.getElem_toArray, List.getElem_cons_zero, List.getElem_cons_succ, List.setIfInBounds_toArray, List.set_cons_zero, List.set_cons_succ])
  refine held_step2 (fun _ => trivial) (i := 2) (j := 6) (o := _) (o2 := _) (by kernel_rfl) rfl rfl (fun K hK => ?_) (fun K hK => ?_)
  · go_simp
    refine ⟨trivial, callsIn_wide.2 ((HS.out _ _ _ (S1.out.below (bdrew0 _ _ 1)) (S2.out.below (bdrew0 _ _ 1))).mono ?_)⟩
    rintro e w1 ⟨h, l, rfl, hat, hb⟩
    dsimp only
    have hb1 : Below V.heap.size V w1 := bdrew 1 hb
    refine hK.out _ _ trivial (fun hHeld => ?_)
    clear hK K
    (try simp only [Act.put, List.getElem_toArray, List.getElem_cons_zero, List.getElem_cons_succ, List.setIfInBounds_toArray, List.set_cons_zero, List.set_cons_succ])
    refine held_take (fun _ => trivial) (by kernel_rfl) (i := 3) (oi := _) (v := ?_) rfl (by kernel_rfl) (by kernel_rfl) (by kernel_rfl) (fun _ _ _ h => h) (by assumption) (Or.inl ⟨by kernel_rfl, ?_⟩) ?_
    rotate_left
    · intro wz hSw; (first | (go_simp; done) | (go_simp; with_reducible rfl))
    (try simp only [Act.put, List.getElem_toArray, List.getElem_cons_zero, List.getElem_cons_succ, List.setIfInBounds_toArray, List.set_cons_zero, List.set_cons_succ])
    refine held_take (fun _ => trivial) (by kernel_rfl) (i := 4) (oi := _) (v := ?_) rfl (by kernel_rfl) (by kernel_rfl) (by kernel_rfl) (fun _ _ _ h => h) (by assumption) (Or.inl ⟨by kernel_rfl, ?_⟩) ?_
    rotate_left
    · intro wz hSw; (first | (go_simp; done) | (go_simp; with_reducible rfl))
    (try simp only [Act.put, List.getElem_toArray, List.getElem_cons_zero, List.getElem_cons_succ, List.setIfInBounds_toArray, List.set_cons_zero, List.set_cons_succ])
    refine held_take (fun _ => trivial) (by kernel_rfl) (i := 5) (oi := _) (v := ?_) rfl (by kernel_rfl) (by kernel_rfl) (by kernel_rfl) (fun _ _ _ h => h) (by assumption) (Or.inl ⟨by kernel_rfl, ?_⟩) ?_
    rotate_left
    · intro wz hSw; (first | (go_simp; done) | (go_simp; with_reducible rfl))
    (try simp only [Act.put, List.getElem_toArray, List.getElem_cons_zero, List.getElem_cons_succ, List.setIfInBounds_toArray, List.set_cons_zero, List.set_cons_succ])
    refine held_step (fun _ => trivial) (i := 6) (o := _) (by kernel_rfl) rfl (fun K hK => ?_)
    go_simp
    refine hK.out _ _ trivial (fun hHeld => ?_)
    clear hK K
    (try simp only [Act.put, List.getElem_toArray, List.getElem_cons_zero, List.getElem_cons_succ, List.setIfInBounds_toArray, List.set_cons_zero, List.set_cons_succ])
    refine held_step (fun _ => trivial) (i := 7) (o := _) (by kernel_rfl) rfl (fun K hK => ?_)
    go_simp
    refine hK.out _ _ trivial (fun hHeld => ?_)
    clear hK K
    (try simp only [Act.put, List.getElem_toArray, List.getElem_cons_zero, List.getElem_cons_succ, List.setIfInBounds_toArray, List.set_cons_zero, List.set_cons_succ])
    refine held_take (fun _ => trivial) (by kernel_rfl) (i := 8) (oi := _) (v := ?_) rfl (by kernel_rfl) (by kernel_rfl) (by kernel_rfl) (fun _ _ _ h => h) (by assumption) (Or.inl ⟨by kernel_rfl, ?_⟩) ?_
    rotate_left
    · intro wz hSw; (first | (go_simp; done) | (go_simp; with_reducible rfl))
    (try simp only [Act.put, List.getElem_toArray, List.getElem_cons_zero, List.getElem_cons_succ, List.setIfInBounds_toArray, List.set_cons_zero, List.set_cons_succ])
    refine held_done (by kernel_rfl) ?_ _
    clear hHeld
    have x0 : (w1.alloc (.cells #[.int .i64 h, .int .u64 l] 220)).cell? ⟨w1.heap.size, 0, none⟩ = some (.int .i64 h) := by simp [go_sem]
    have x1 : (w1.alloc (.cells #[.int .i64 h, .int .u64 l] 220)).cell? ⟨w1.heap.size, 1, none⟩ = some (.int .u64 l) := by simp [go_sem]
    have hXV : Below V.heap.size V (w1.alloc (.cells #[.int .i64 h, .int .u64 l] 220)) := hb1.alloc hb1.size _
    generalize (w1.alloc (.cells #[.int .i64 h, .int .u64 l] 220)) = X at x0 x1 hXV ⊢
    have hBX : Below w.heap.size w X := bnext hB0 hXV
    go_wp2_with fail
    refine (HD.out _ _ _ hat).mono ?_
    rintro e w2 ⟨h2, l2, r2, rfl, hat2, hb2⟩
    have hs2 := (hBX.trans (hb2.mono hBX.size)).size
    go_wp2_with fail
    refine (HI.out _ _ _ hat2).mono ?_
    rintro e w3 ⟨rfl, hb3⟩
    go_wp2_with fail
    go_ret2
    exact ⟨rfl, by (repeat' (first | (with_reducible exact Below.refl _ _) | (with_reducible assumption) | (with_reducible refine Below.drew ?_) | (with_reducible refine Below.setCell ?_ ?_ _) | (with_reducible refine bnext ?_ (by assumption)) | (with_reducible refine Below.alloc ?_ ?_ _) | go_size))⟩
  · go_simp
    refine hK.out _ _ trivial (fun hHeld => ?_)
    clear hK K
    (try simp only [Act.put, List.getElem_toArray, List.getElem_cons_zero, List.getElem_cons_succ, List.setIfInBounds_toArray, List.set_cons_zero, List.set_cons_succ])
    refine held_step (fun _ => trivial) (i := 2) (o := _) (by kernel_rfl) rfl (fun K hK => ?_)
    go_simp
    have hA : Below V.heap.size V (V.drew.alloc (.cells #[.int .i64 0, .int .u64 0] 220)) := by go_grown
    refine ⟨trivial, callsIn_wide.2 ((HS.out _ _ _ (S1.out.below (by go_grown)) (S2.out.below (by go_grown))).mono ?_)⟩
    rintro e w1 ⟨h, l, rfl, hat, hb⟩
    dsimp only
    have z0 : w1.cell? ⟨V.heap.size, 0, none⟩ = some (.int .i64 0) := keep_cell hb (by simp [go_sem])
    have z1 : w1.cell? ⟨V.heap.size, 1, none⟩ = some (.int .u64 0) := keep_cell hb (by simp [go_sem])
    have z2 : w1.frozen? ⟨V.heap.size, 0, none⟩ = false := keep_free hb (by simp) (by simp [go_sem])
    have z3 : w1.frozen? ⟨V.heap.size, 1, none⟩ = false := keep_free hb (by simp) (by simp [go_sem])
    have hb1 : Below V.heap.size V w1 := hA.trans (hb.mono (by simp))
    refine hK.out _ _ trivial (fun hHeld => ?_)
    clear hK K
    (try simp only [Act.put, List.getElem_toArray, List.getElem_cons_zero, List.getElem_cons_succ, List.setIfInBounds_toArray, List.set_cons_zero, List.set_cons_succ])
    refine held_take (fun _ => trivial) (by kernel_rfl) (i := 3) (oi := _) (v := ?_) rfl (by kernel_rfl) (by kernel_rfl) (by kernel_rfl) (fun _ _ _ h => h) (by assumption) (Or.inl ⟨by kernel_rfl, ?_⟩) ?_
    rotate_left
    · intro wz hSw; (first | (go_simp; done) | (go_simp; with_reducible rfl))
    (try simp only [Act.put, List.getElem_toArray, List.getElem_cons_zero, List.getElem_cons_succ, List.setIfInBounds_toArray, List.set_cons_zero, List.set_cons_succ])
    refine held_take (fun _ => trivial) (by kernel_rfl) (i := 4) (oi := _) (v := ?_) rfl (by kernel_rfl) (by kernel_rfl) (by kernel_rfl) (fun _ _ _ h => h) (by assumption) (Or.inl ⟨by kernel_rfl, ?_⟩) ?_
    rotate_left
    · intro wz hSw; (first | (go_simp; done) | (go_simp; with_reducible rfl))
    (try simp only [Act.put, List.getElem_toArray, List.getElem_cons_zero, List.getElem_cons_succ, List.setIfInBounds_toArray, List.set_cons_zero, List.set_cons_succ])
    refine held_take (fun _ => trivial) (by kernel_rfl) (i := 5) (oi := _) (v := ?_) rfl (by kernel_rfl) (by kernel_rfl) (by kernel_rfl) (fun _ _ _ h => h) (by assumption) (Or.inl ⟨by kernel_rfl, ?_⟩) ?_
    rotate_left
    · intro wz hSw; (first | (go_simp; done) | (go_simp; with_reducible rfl))
    (try simp only [Act.put, List.getElem_toArray, List.getElem_cons_zero, List.getElem_cons_succ, List.setIfInBounds_toArray, List.set_cons_zero, List.set_cons_succ])
    refine held_step (fun _ => trivial) (i := 7) (o := _) (by kernel_rfl) rfl (fun K hK => ?_)
    go_simp
    refine hK.out _ _ trivial (fun hHeld => ?_)
    clear hK K
    (try simp only [Act.put, List.getElem_toArray, List.getElem_cons_zero, List.getElem_cons_succ, List.setIfInBounds_toArray, List.set_cons_zero, List.set_cons_succ])
    refine held_take (fun _ => trivial) (by kernel_rfl) (i := 8) (oi := _) (v := ?_) rfl (by kernel_rfl) (by kernel_rfl) (by kernel_rfl) (fun _ _ _ h => h) (by assumption) (Or.inl ⟨by kernel_rfl, ?_⟩) ?_
    rotate_left
    · intro wz hSw; (first | (go_simp; done) | (go_simp; with_reducible rfl))
    (try simp only [Act.put, List.getElem_toArray, List.getElem_cons_zero, List.getElem_cons_succ, List.setIfInBounds_toArray, List.set_cons_zero, List.set_cons_succ])
    refine held_done (by kernel_rfl) ?_ _
    clear hHeld
    have x0 : ((w1.setCell ⟨V.heap.size, 0, none⟩ (.int .i64 h)).setCell ⟨V.heap.size, 1, none⟩ (.int .u64 l)).cell? ⟨V.heap.size, 0, none⟩ = some (.int .i64 h) := by simp [go_sem, *]
    have x1 : ((w1.setCell ⟨V.heap.size, 0, none⟩ (.int .i64 h)).setCell ⟨V.heap.size, 1, none⟩ (.int .u64 l)).cell? ⟨V.heap.size, 1, none⟩ = some (.int .u64 l) := by simp [go_sem, *]
    have hXV : Below V.heap.size V ((w1.setCell ⟨V.heap.size, 0, none⟩ (.int .i64 h)).setCell ⟨V.heap.size, 1, none⟩ (.int .u64 l)) := (hb1.setCell (p := ⟨V.heap.size, 0, none⟩) (Nat.le_refl _) _).setCell (p := ⟨V.heap.size, 1, none⟩) (Nat.le_refl _) _
    generalize ((w1.setCell ⟨V.heap.size, 0, none⟩ (.int .i64 h)).setCell ⟨V.heap.size, 1, none⟩ (.int .u64 l)) = X at x0 x1 hXV ⊢
    clear z0 z1 z2 z3
    have hBX : Below w.heap.size w X := bnext hB0 hXV
    go_wp2_with fail
    refine (HD.out _ _ _ hat).mono ?_
    rintro e w2 ⟨h2, l2, r2, rfl, hat2, hb2⟩
    have hs2 := (hBX.trans (hb2.mono hBX.size)).size
    go_wp2_with fail
    refine (HI.out _ _ _ hat2).mono ?_
    rintro e w3 ⟨rfl, hb3⟩
    go_wp2_with fail
    go_ret2
    exact ⟨rfl, by (repeat' (first | (with_reducible exact Below.refl _ _) | (with_reducible assumption) | (with_reducible refine Below.drew ?_) | (with_reducible refine Below.setCell ?_ ?_ _) | (with_reducible refine bnext ?_ (by assumption)) | (with_reducible refine Below.alloc ?_ ?_ _) | go_size))⟩
theorem product_any (r c : List Int) (w : World) (lr : r.length = 4) (lc : c.length = 4) (hr : May r) (hc : May c) :
    Calls Tryz.prog 155 #[.agg (mC r), .agg (mC c)] w fun e w' => e = .returned (.tuple #[.int .i64 (if In64 (pq r c) then pq r c else 0), .int .i64 (if In64 (pq r c) then 0 else 20)]) ∧ Below w.heap.size w w' := by
  have hd := dot_in hr hc
  have hdv : dv (dot r c) 65536 = pq r c := by unfold dv pq; rw [if_pos (by omega)]
  have hin : In (pq r c) := by unfold In pq; omega
  refine product_w r c w lr lc (dot r c) (pq r c) ?_ ?_ _ _ ?_
  · intro w oa ob s1 s2
    have h := sum_any r c oa ob 4 4 w (by omega) (by omega) (fun j => ⟨by have := hr j; omega, by have := hr j; omega⟩) (fun j => ⟨by have := hc j; omega, by have := hc j; omega⟩) s1 s2
    rw [lr, lc] at h
    refine h.mono ?_
    rintro e w' ⟨a, b, rfl, hat, hb⟩
    rw [show min 4 4 = 4 from rfl, sm_four hr hc] at hat ⊢
    exact ⟨a, b, rfl, hat, hb⟩
  · intro w h l hat
    refine (wdiv_any (dot r c) h 65536 l w hat (by omega) (by omega) (by omega)).mono ?_
    rintro e w' ⟨a, b, rfl, ha, hb⟩
    rw [hdv, valE, if_pos hin] at ha
    simp only [hdv, errE, if_pos hin]
    exact ⟨a, b, _, rfl, ha, hb⟩
  · intro w h l hat
    exact int_any (pq r c) h l w hat
end Go.Proofs.YtbbhmhihpdmoiaaGreat.Fx

