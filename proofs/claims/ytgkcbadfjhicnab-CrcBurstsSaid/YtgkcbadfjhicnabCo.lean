/- (crc.alone).of, walked: what becomes of a number. -/
import Derived.Test.YtgkcbadfjhicnabProg
import Derived.Test.YtgkcbadfjhicnabIt
import Derived.Test.YtgkcbadfjhicnabHd
import Derived.Test.YtgkcbadfjhicnabCd
import Derived.Shelf.Abstract
import Derived.Shelf.RegionOpen
import Derived.WalkKit
import Derived.OwnWalkIn
import Derived.TacticsInMore
import Derived.LoopNIn
import Derived.LoopIn
import Derived.Lib.Hide
import Derived.Outline
import Derived.WalkMore
import Derived.Deep.QuietTactic
import Derived.BigQuiet
import Derived.Deep.WholeRow
import Derived.Laws.ResultCell
set_option linter.unusedVariables false
set_option linter.unusedSimpArgs false
namespace Go.Proofs.Ytgkcbadfjhicnab.Fx
open Go Go.RowKit Go.Shelf
attribute [local go_sem] Oper.semAt_some
/-- 32 numbers as cells -/
def aV (f : Nat → Nat) : Array Value := ((List.range 32).map fun i => Value.int .u32 ((f i : Nat) : Int)).toArray
/-- what becomes of each bit alone over k steps -/
def bV (k : Nat) : Array Value := aV fun i => it k (2 ^ i)
theorem aV_size (f : Nat → Nat) : (aV f).size = 32 := by simp [aV]
theorem aV_get (f : Nat → Nat) {i : Nat} (h : i < 32) : (aV f)[i]? = some (.int .u32 ((f i : Nat) : Int)) := by simp [aV, h]
theorem aV_one (f : Nat → Nat) : (aV f).all (·.oneCell') = true := by
  simp only [aV, List.all_toArray, List.all_map, List.all_eq_true]
  intro i _
  rfl
theorem aV_congr {f g : Nat → Nat} (h : ∀ i, i < 32 → f i = g i) : aV f = aV g := by
  unfold aV
  congr 1
  apply List.map_congr_left
  intro i hi
  rw [h i (by simpa using hi)]
theorem aV_set (f : Nat → Nat) (k v : Nat) : (aV f).setIfInBounds k (.int .u32 ((v : Nat) : Int)) = aV (fun i => if i = k then v else f i) := by
  apply Array.ext_getElem?
  intro i
  rw [Array.getElem?_setIfInBounds]
  by_cases hk : k = i
  · subst hk
    by_cases h : k < 32
    · rw [if_pos rfl, if_pos (by rw [aV_size]; exact h), aV_get _ h, if_pos rfl]
    · rw [if_pos rfl, if_neg (by rw [aV_size]; exact h)]
      simp [aV, h]
  · rw [if_neg hk]
    by_cases h : i < 32
    · rw [aV_get _ h, aV_get _ h, if_neg (Ne.symm hk)]
    · simp [aV, h]
structure OM (k n x : Nat) (w W : World) : Prop where
  a : W.heap[w.heap.size]? = some (.cells (bV k) 43 (0, 0))
  s : W.heap[w.heap.size + 1]? = some (.cells #[.int .u32 ((x : Nat) : Int)] 23 (0, 0))
  d : W.heap[w.heap.size + 1 + 1]? = some (.cells #[.int .u64 ((n : Nat) : Int)] 48 (0, 0))
  below : Below w.heap.size w W
def RetU (x : Nat) (w : World) (e : Ending) (w' : World) : Prop := e = .returned (.int .u32 ((x : Nat) : Int)) ∧ Below w.heap.size w w'
theorem OM.kept {k n x B : Nat} {w W X : World} (hB : w.heap.size ≤ B) (h : Kept B W X) (s : OM k n x w W) : OM k n x w X := ⟨h.cells s.a, h.cells s.s, h.cells s.d, h.below hB s.below⟩
theorem OM.drew {k n x : Nat} {w W : World} (s : OM k n x w W) : OM k n x w W.drew := ⟨s.a, s.s, s.d, ⟨s.below.os, s.below.tape, s.below.output, s.below.size, s.below.block⟩⟩
theorem OM.facts {k n x : Nat} {w W : World} (s : OM k n x w W) :
    (∀ j, j < 32 → W.cell? ⟨w.heap.size, j, none⟩ = some (.int .u32 ((it k (2 ^ j) : Nat) : Int))) ∧ W.cell? ⟨w.heap.size + 1, 0, none⟩ = some (.int .u32 ((x : Nat) : Int)) ∧ W.frozen? ⟨w.heap.size + 1, 0, none⟩ = false :=
  ⟨fun j hj => by rw [cell_of_row _ _ _ _ _ _ s.a, bV, aV_get _ hj], by rw [cell_of_row _ _ _ _ _ _ s.s]; rfl, frozen_row s.s⟩
theorem OM.reads {k n x : Nat} {w W : World} (s : OM k n x w W) : DigM n (w.heap.size + 1 + 1) W := by unfold DigM; rw [cell_of_row _ _ _ _ _ _ s.d]; rfl
theorem OM.set {k n x y : Nat} {w W : World} (s : OM k n x w W) : OM k n y w (W.setCell ⟨w.heap.size + 1, 0, none⟩ (.int .u32 ((y : Nat) : Int))) :=
  ⟨by rw [heap_setCell_other _ _ _ _ (by show _ ≠ w.heap.size + 1; omega)]; exact s.a, heap_setCell_same _ _ 0 _ _ _ s.s, by rw [heap_setCell_other _ _ _ _ (by show _ ≠ w.heap.size + 1; omega)]; exact s.d,
    s.below.setCell (p := ⟨w.heap.size + 1, 0, none⟩) (by show _ ≤ w.heap.size + 1; omega) _⟩
def OI (k n : Nat) (w : World) (j : Nat) (W : World) : Prop := OM k n (it k (n % 2 ^ j)) w W
def OA (k n : Nat) (w : World) (j : Nat) (a : Act) : Prop :=
  a = { tmps := #[.agg (bV k), .int .u32 (n : Int), .pointer (some ⟨w.heap.size, 0, none⟩), undef, .int .u32 0, .pointer (some ⟨w.heap.size + 1, 0, none⟩), .int .i64 (j : Int), .bool (decide (n / 2 ^ j % 2 = 1)), .int .u32 (n : Int), .int .u64 (n : Int),
    .func (.func 28) #[] #[.pointer (some ⟨w.heap.size + 1 + 1, 0, none⟩)], .int .i64 (j : Int), .bool (decide (n / 2 ^ j % 2 = 1)), undef, undef, undef, undef, undef, undef, undef, undef], defers := [] }
theorem OI.off {k n j : Nat} {w W : World} (h : ¬ n / 2 ^ j % 2 = 1) (s : OI k n w j W) : OI k n w (j + 1) W := by
  unfold OI at *
  rw [it_bit, if_neg h, Nat.xor_zero]
  exact s
set_option maxRecDepth 100000 in
set_option maxHeartbeats 2000000 in
theorem of_any (k n : Nat) (w : World) (hn : n < 4294967296) :
    Calls Try.prog 24 #[.agg (bV k), .int .u32 (n : Int)] w (RetU (it k n) w) := by
  refine (callsIn_wide (n := 5)).1 ?_
  refine callsIn_of_wp_marks Try.func24 rfl trivial ?_ rfl
  simp only [Try.ntmps24, List.size_toArray, List.length_cons, List.length_nil, Nat.reduceAdd, Nat.reduceSub, Array.replicate_succ, Array.replicate_zero, List.push_toArray, List.append_toArray, List.nil_append, List.cons_append]
  refine wpIn_wide.2 ?_
  go_wp2_with fail
  go_step3
  go_wp2_with fail
  go_step3
  go_wp2_with fail
  refine (digits_w _ _).mono ?_
  rintro e w' ⟨rfl, rfl⟩
  go_wp2_with fail
  obtain ⟨W0, hW0⟩ : ∃ W0, (((w.alloc (.cells (bV k) 43)).alloc (.cells #[.int .u32 0] 23)).alloc (.cells #[.int .u64 (n : Int)] 48)) = W0 := ⟨_, rfl⟩
  have hB0 : Below w.heap.size w W0 := by rw [← hW0]; go_grown
  have LB : OI k n w 0 W0 := by
    unfold OI
    rw [Nat.pow_zero, Nat.mod_one, it_zero, ← hW0]
    exact ⟨(block3s w _ _ _).1, (block3s w _ _ _).2.1, (block3s w _ _ _).2.2, by rw [hW0]; exact hB0⟩
  rw [hW0]
  have hS0 : W0.heap.size = w.heap.size + 3 := by rw [← hW0]; simp
  clear hW0 hB0
  refine wpIn_wide.1 (wpIn_range_num (F := Fence.wide) (n := 5) rfl (by omega) (gf := 28) (lb := #[.pointer (some ⟨w.heap.size + 1 + 1, 0, none⟩)]) rfl trivial (enters_of Try.func28 (by kernel_rfl) rfl)
    (digits_hands n (w.heap.size + 1 + 1) (by omega)) (fun _ => rfl) 0 (OI k n w) (fun _ => False) (fun j a' W => OA k n w j a' ∧ OI k n w j W)
    ?i1 ?i2 ?i3 ?i4 ?i5 LB ?assign ?body ?done ?stop)
  case i1 => rintro j W X h hk; exact OM.kept (by omega) hk h
  case i2 => rintro W X h; exact h.elim
  case i3 => rintro j a W X ⟨h0, h4⟩ hk; exact ⟨h0, OM.kept (by omega) hk h4⟩
  case i4 => rintro j W h4; exact OM.reads h4
  case i5 => rintro W h; exact h.elim
  case assign =>
    intro l j W C hk hI hC
    simp only [digElem]
    gi_wp2
    exact hC _ _ (KeepsFrom.refl _ _) ⟨rfl, hI⟩
  case body =>
    rintro l j a' W hk ⟨ha, om⟩
    unfold OA at ha
    subst ha
    have hj : j < 32 := Nat.lt_of_lt_of_le hk (dgs_up (by simpa using hn))
    by_cases hb : n / 2 ^ j % 2 = 1
    · have OMD := Lib.hid om
      obtain ⟨fa, fs, ff⟩ := OM.facts (OM.drew om)
      have fj := fa j hj
      have hnx := Lib.hid (it_bit k n j)
      have hx : it k (n % 2 ^ j) < 4294967296 := it_lt k (Nat.lt_of_le_of_lt (Nat.mod_le _ _) hn)
      have hy : it k (2 ^ j) < 4294967296 := it_lt k (by
        have : 2 ^ j < 2 ^ 32 := Nat.pow_lt_pow_right (by omega) hj
        simpa using this)
      have hxor := u32_xor_nat _ _ hx hy
      rw [show decide (n / 2 ^ j % 2 = 1) = true from by simp [hb]]
      have HB := Lib.hid hb
      clear om fa hb
      generalize it k (2 ^ j) = y at *
      generalize it k (n % 2 ^ j) = x at *
      have j0 : (0 : Int) ≤ (j : Int) := by omega
      have j1 : (j : Int) < 32 := by omega
      gi_wp2
      refine held_region (S := fun X => X.cell? ⟨w.heap.size, j, none⟩ = some (.int .u32 (y : Int))) (by kernel_rfl) fj (fun hHeld => ?_)
      refine held_take (fun _ => trivial) (by kernel_rfl) (i := 1) (oi := _) (v := ?_) rfl (by kernel_rfl) (by kernel_rfl) (by kernel_rfl) (fun _ _ _ h => h) (by assumption) (Or.inl ⟨by kernel_rfl, ?_⟩) ?_
      rotate_left
      · intro wz hSw; (first | (go_simp; done) | (go_simp; with_reducible rfl))
      (try simp only [Act.put, List.getElem_toArray, List.getElem_cons_zero, List.getElem_cons_succ, List.setIfInBounds_toArray, List.set_cons_zero, List.set_cons_succ])
      refine held_take (fun _ => trivial) (by kernel_rfl) (i := 2) (oi := _) (v := ?_) rfl (by kernel_rfl) (by kernel_rfl) (by kernel_rfl) (fun _ _ _ h => h) (by assumption) (Or.inl ⟨by kernel_rfl, ?_⟩) ?_
      rotate_left
      · intro wz hSw; (first | (go_simp; done) | (go_simp; with_reducible rfl))
      (try simp only [Act.put, List.getElem_toArray, List.getElem_cons_zero, List.getElem_cons_succ, List.setIfInBounds_toArray, List.set_cons_zero, List.set_cons_succ])
      refine held_take (fun _ => trivial) (by kernel_rfl) (i := 3) (oi := _) (v := ?_) rfl (by kernel_rfl) (by kernel_rfl) (by kernel_rfl) (fun _ _ _ h => h) (by assumption) (Or.inl ⟨by kernel_rfl, ?_⟩) ?_
      rotate_left
      · intro wz hSw; (first | (go_simp; done) | (go_simp; with_reducible rfl))
      (try simp only [Act.put, List.getElem_toArray, List.getElem_cons_zero, List.getElem_cons_succ, List.setIfInBounds_toArray, List.set_cons_zero, List.set_cons_succ])
      refine held_step (fun _ => trivial) (i := 0) (o := _) (by kernel_rfl) rfl (fun K hK => ?_)
      go_simp
      refine hK.out _ _ (fj) (fun hHeld => ?_)
      clear hK K
      (try simp only [Act.put, List.getElem_toArray, List.getElem_cons_zero, List.getElem_cons_succ, List.setIfInBounds_toArray, List.set_cons_zero, List.set_cons_succ])
      refine held_take (fun _ => trivial) (by kernel_rfl) (i := 4) (oi := _) (v := ?_) rfl (by kernel_rfl) (by kernel_rfl) (by kernel_rfl) (fun _ _ _ h => h) (by assumption) (Or.inl ⟨by kernel_rfl, ?_⟩) ?_
      rotate_left
      · intro wz hSw; (first | (go_simp; done) | (go_simp; with_reducible rfl))
      (try simp only [Act.put, List.getElem_toArray, List.getElem_cons_zero, List.getElem_cons_succ, List.setIfInBounds_toArray, List.set_cons_zero, List.set_cons_succ])
      have fj2 : (W.drew.setCell ⟨w.heap.size + 1, 0, none⟩ (.int .u32 ((x ^^^ y : Nat) : Int))).cell? ⟨w.heap.size, j, none⟩ = some (.int .u32 (y : Int)) := by
        rw [World.cell?_of_block (w := W.drew) (heap_setCell_other _ _ _ _ (by show w.heap.size ≠ w.heap.size + 1; omega))]; exact fj
      refine held_step (fun _ => trivial) (i := 5) (o := _) (by kernel_rfl) rfl (fun K hK => ?_)
      go_simp
      refine hK.out _ _ (fj2) (fun hHeld => ?_)
      clear hK K
      (try simp only [Act.put, List.getElem_toArray, List.getElem_cons_zero, List.getElem_cons_succ, List.setIfInBounds_toArray, List.set_cons_zero, List.set_cons_succ])
      refine held_done (by kernel_rfl) ?_ _
      clear hHeld fj2
      refine ⟨KeepsOthers.from (W := W) (W' := (W.setCell ⟨w.heap.size + 1, 0, none⟩ (.int .u32 ((x ^^^ y : Nat) : Int))).drew) ⟨(KeepsOthers.setCell W ⟨w.heap.size + 1, 0, none⟩ (.int .u32 ((x ^^^ y : Nat) : Int))).1, (KeepsOthers.setCell W ⟨w.heap.size + 1, 0, none⟩ (.int .u32 ((x ^^^ y : Nat) : Int))).2⟩ _, ?_⟩
      have hf := OM.drew (OM.set (y := x ^^^ y) OMD.out)
      unfold OI
      rw [hnx.out, if_pos HB.out]
      exact hf
    · have OMH := Lib.hid (OI.off hb om)
      rw [show decide (n / 2 ^ j % 2 = 1) = false from by simp [hb]]
      clear om hb
      gi_wp2
      exact ⟨KeepsFrom.refl _ _, OMH.out⟩
  case done =>
    rintro D W hD om hdef
    obtain ⟨_, fs, _⟩ := OM.facts om
    have hB := OM.below om
    have hfin : n % 2 ^ dgs n = n := Nat.mod_eq_of_lt (lt_dgs n)
    rw [hfin] at fs
    clear om hfin
    go_wp2_with fail
    rw [Exit.noGoto_ret]
    refine ⟨by simp, .inl ⟨_, _, rfl, run_takeDeferred hdef, ?_⟩⟩
    exact ⟨_, results_tmp rfl _ _ _, rfl, hB.trans (belowK_b (w := w) (Nat.le_refl _) _ D _ _ (by omega) hdef rfl rfl)⟩
  case stop =>
    rintro D W hD h hdef
    exact h.elim
end Go.Proofs.Ytgkcbadfjhicnab.Fx
