/- matrix.Scale, Identity, Move, Check, walked. -/
import Derived.Test.YtgkcbadfjhicnaaProg
import Derived.Test.YtgkcbadfjhicnaaMu
set_option linter.unusedVariables false
set_option linter.unusedSimpArgs false
namespace Go.Proofs.Ytgkcbadfjhicnaa.Fx
open Go Go.RowKit Go.Shelf Wm
def scl (x y z : Int) : List Int := [x, 0, 0, 0, 0, y, 0, 0, 0, 0, z, 0, 0, 0, 0, 65536]
def mvl (x y z : Int) : List Int := [65536, 0, 0, x, 0, 65536, 0, y, 0, 0, 65536, z, 0, 0, 0, 65536]
def idl : List Int := scl 65536 65536 65536
theorem scale_any (x y z : Int) (w : World) : Calls Try.prog 40 #[.int .i64 x, .int .i64 y, .int .i64 z] w (RetM (scl x y z) w) := by
  go_enter Try.func40, Try.ntmps40
  go_wp2_with (refine wpList_store_big rfl 64 (.tmp 6) (.tmp 14) rfl w.heap.size _ _ (mC (scl x y z)) rfl rfl (heap_alloc_new _ _) size16 rfl (mC_one _) ?_)
  refine bodyPost_ret (results_cell_row rfl _ _ w.heap.size _ (mC (scl x y z)) _ _ rfl (setRow_heap _ _ _ _ _ _ (heap_alloc_new _ _)) Try.underlying64 rfl size16) rfl ?_
  exact ⟨rfl, Below.row ((Below.refl _ w).alloc (Nat.le_refl _) _) (Nat.le_refl _) _⟩
theorem identity_any (w : World) : Calls Try.prog 41 #[] w (RetM idl w) := by
  go_enter Try.func41, Try.ntmps41
  go_wp2_with fail
  refine (scale_any 65536 65536 65536 _).mono ?_
  rintro e w1 ⟨rfl, hb⟩
  have RR := Lib.hid (keep_row hb (heap_alloc_new w _))
  have hB := ((Below.refl _ w).alloc (Nat.le_refl _) _).trans (hb.mono (by simp))
  have HB := Lib.hid hB
  clear hB
  go_wp2_with (refine wpList_store_big rfl 64 (.tmp 0) (.tmp 1) rfl w.heap.size _ _ (mC idl) rfl rfl RR.out size16 rfl (mC_one _) ?_)
  refine bodyPost_ret (results_cell_row rfl _ _ w.heap.size _ (mC idl) _ _ rfl (setRow_heap _ _ _ _ _ _ RR.out) Try.underlying64 rfl size16) rfl ?_
  exact ⟨rfl, Below.row HB.out (Nat.le_refl _) _⟩
theorem check_any (m : List Int) (bound : Int) (w : World) (hm : m.length = 16) (b0 : -9223372036854775808 ≤ bound) (b1 : bound ≤ 9223372036854775807) :
    Calls Try.prog 37 #[.agg (mC m), .int .i64 bound] w fun e w' => e = .returned (.int .i64 (if wB bound m 16 then 0 else 30)) ∧ Below w.heap.size w w' := by
  cases hb : wB bound m 16 with
  | true =>
    have HW : ∀ w, Fours m 4 0 w → True := fun _ _ => trivial
    have HC := Lib.hid (fun (w : World) g (h : Fours m 4 g w) => (within_any bound m 4 g 4 w (by omega) b0 b1 h))
    rw [show 4 * 4 = 16 from rfl, hb] at HC
    have HM := Lib.hid hm
    clear hb hm HW
    go_enter Try.func37, Try.ntmps37
    go_wp2_with fail
    refine (HC.out _ _ (fours_of (t := 64) (heap_alloc_new _ _) (by rw [HM.out]; omega))).mono ?_
    rintro e w1 ⟨rfl, hbb⟩
    go_wp2
    go_ret
    refine ⟨rfl, ?_⟩
    exact ((Below.refl _ w).alloc (Nat.le_refl _) _).trans (hbb.mono (by simp))
  | false =>
    have HC := Lib.hid (fun (w : World) g (h : Fours m 4 g w) => (within_any bound m 4 g 4 w (by omega) b0 b1 h))
    rw [show 4 * 4 = 16 from rfl, hb] at HC
    have HM := Lib.hid hm
    clear hb hm
    go_enter Try.func37, Try.ntmps37
    go_wp2_with fail
    refine (HC.out _ _ (fours_of (t := 64) (heap_alloc_new _ _) (by rw [HM.out]; omega))).mono ?_
    rintro e w1 ⟨rfl, hbb⟩
    go_wp2
    go_ret
    refine ⟨rfl, ?_⟩
    exact ((Below.refl _ w).alloc (Nat.le_refl _) _).trans (hbb.mono (by simp))
set_option maxHeartbeats 1000000 in
theorem move_any (x y z : Int) (w : World) : Calls Try.prog 39 #[.int .i64 x, .int .i64 y, .int .i64 z] w (RetM (mvl x y z) w) := by
  go_enter Try.func39, Try.ntmps39
  go_wp2_with fail
  refine (identity_any _).mono ?_
  rintro e w1 ⟨rfl, hb⟩
  have hB := ((Below.refl _ w).alloc (Nat.le_refl _) _).trans (hb.mono (by simp))
  have hsz := hb.size
  simp only [World.size_alloc] at hsz
  have RR := Lib.hid (keep_row hb (heap_alloc_new w _))
  have HB := Lib.hid hB
  clear hB
  have R2 := Lib.hid (show (w1.alloc (.cells #[.int .i64 0, .int .i64 0, .int .i64 0, .int .i64 0, .int .i64 0, .int .i64 0, .int .i64 0, .int .i64 0, .int .i64 0, .int .i64 0, .int .i64 0, .int .i64 0, .int .i64 0, .int .i64 0, .int .i64 0, .int .i64 0] 64)).heap[w1.heap.size]? = some (.cells #[.int .i64 0, .int .i64 0, .int .i64 0, .int .i64 0, .int .i64 0, .int .i64 0, .int .i64 0, .int .i64 0, .int .i64 0, .int .i64 0, .int .i64 0, .int .i64 0, .int .i64 0, .int .i64 0, .int .i64 0, .int .i64 0] 64 (0, 0)) from heap_alloc_new _ _)
  have hB2 : Hid (Below w.heap.size w ((w1.alloc (.cells #[.int .i64 0, .int .i64 0, .int .i64 0, .int .i64 0, .int .i64 0, .int .i64 0, .int .i64 0, .int .i64 0, .int .i64 0, .int .i64 0, .int .i64 0, .int .i64 0, .int .i64 0, .int .i64 0, .int .i64 0, .int .i64 0] 64)).setRow w1.heap.size (mC idl))) := Lib.hid (Below.row (HB.out.alloc HB.out.size _) HB.out.size _)
  have R3 : Hid (MatAt w.heap.size zero16 ((w1.alloc (.cells #[.int .i64 0, .int .i64 0, .int .i64 0, .int .i64 0, .int .i64 0, .int .i64 0, .int .i64 0, .int .i64 0, .int .i64 0, .int .i64 0, .int .i64 0, .int .i64 0, .int .i64 0, .int .i64 0, .int .i64 0, .int .i64 0] 64)).setRow w1.heap.size (mC idl))) := Lib.hid (by unfold MatAt; rw [setRow_other _ _ _ _ (by omega)]; exact step_row RR.out)
  have R4 : Hid (MatAt w1.heap.size idl ((w1.alloc (.cells #[.int .i64 0, .int .i64 0, .int .i64 0, .int .i64 0, .int .i64 0, .int .i64 0, .int .i64 0, .int .i64 0, .int .i64 0, .int .i64 0, .int .i64 0, .int .i64 0, .int .i64 0, .int .i64 0, .int .i64 0, .int .i64 0] 64)).setRow w1.heap.size (mC idl))) := Lib.hid (setRow_heap _ _ _ _ _ _ R2.out)
  have tok : True := trivial
  go_wp2_with (first | (have _t := tok; refine wpList_store_big rfl 64 (.tmp 7) (.tmp 8) rfl w1.heap.size _ _ (mC idl) rfl rfl R2.out size16 rfl (mC_one _) ?_; clear tok; generalize World.setRow _ _ _ = V at hB2 R3 R4 ⊢; have c3 : V.cell? ⟨w1.heap.size, 3, none⟩ = some (.int .i64 0) := R4.out.cell (by decide); have c7 : V.cell? ⟨w1.heap.size, 7, none⟩ = some (.int .i64 0) := R4.out.cell (by decide); have c11 : V.cell? ⟨w1.heap.size, 11, none⟩ = some (.int .i64 0) := R4.out.cell (by decide); have f3 : V.frozen? ⟨w1.heap.size, 3, none⟩ = false := frozen_row R4.out; have f7 : V.frozen? ⟨w1.heap.size, 7, none⟩ = false := frozen_row R4.out; have f11 : V.frozen? ⟨w1.heap.size, 11, none⟩ = false := frozen_row R4.out) | (have m3 : MatAt w1.heap.size (mvl x y z) (((V.setCell ⟨w1.heap.size, 3, none⟩ (.int .i64 x)).setCell ⟨w1.heap.size, 7, none⟩ (.int .i64 y)).setCell ⟨w1.heap.size, 11, none⟩ (.int .i64 z)) := ((R4.out.set x).set y).set z; refine wpList_load_row rfl 64 (.tmp 7) rfl w1.heap.size rfl _ _ _ _ m3 Try.underlying64 rfl size16 ?_) | (have m4 : MatAt w.heap.size zero16 (((V.setCell ⟨w1.heap.size, 3, none⟩ (.int .i64 x)).setCell ⟨w1.heap.size, 7, none⟩ (.int .i64 y)).setCell ⟨w1.heap.size, 11, none⟩ (.int .i64 z)) := ((R3.out.other _ (by omega)).other _ (by omega)).other _ (by omega); refine wpList_store_big rfl 64 (.tmp 6) (.tmp 18) rfl w.heap.size _ _ (mC (mvl x y z)) rfl rfl m4 size16 rfl (mC_one _) ?_))
  have m4 : MatAt w.heap.size zero16 (((V.setCell ⟨w1.heap.size, 3, none⟩ (.int .i64 x)).setCell ⟨w1.heap.size, 7, none⟩ (.int .i64 y)).setCell ⟨w1.heap.size, 11, none⟩ (.int .i64 z)) := ((R3.out.other _ (by omega)).other _ (by omega)).other _ (by omega)
  refine bodyPost_ret (results_cell_row rfl _ _ w.heap.size _ (mC (mvl x y z)) _ _ rfl (setRow_heap _ _ _ _ _ _ m4) Try.underlying64 rfl size16) rfl ?_
  exact ⟨rfl, Below.row (((hB2.out.setCell (p := ⟨w1.heap.size, 3, none⟩) (by show _ ≤ w1.heap.size; omega) _).setCell (p := ⟨w1.heap.size, 7, none⟩) (by show _ ≤ w1.heap.size; omega) _).setCell (p := ⟨w1.heap.size, 11, none⟩) (by show _ ≤ w1.heap.size; omega) _) (Nat.le_refl _) _⟩
end Go.Proofs.Ytgkcbadfjhicnaa.Fx
