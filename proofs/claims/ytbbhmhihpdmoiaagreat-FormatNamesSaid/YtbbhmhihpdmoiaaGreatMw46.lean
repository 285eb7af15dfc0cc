import Derived.Laws.Rows
import Derived.Test.YtbbhmhihpdmoiaaGreatProg
import Derived.Test.YtbbhmhihpdmoiaaGreatMw45
set_option linter.unusedVariables false
set_option linter.unusedSimpArgs false
namespace Go.Proofs.YtbbhmhihpdmoiaaGreat.Fx
open Go Go.RowKit Go.Lib
open Go.Proofs.YtbbhmhihpdmoiaaGreat.Pk (Bs By cutA)
set_option maxRecDepth 100000 in
set_option maxHeartbeats 32000000 in
theorem law_formatNames (w : World) : Calls Tryz.prog 6 #[] w (RetBool true w) := by
 obtain ⟨Q3, hQ3⟩ : ∃ Q, sealL [109, 117, 108, 50] = Q := ⟨_, rfl⟩
 have HQ3 := Lib.hid hQ3
 have HQB3 : Hid (By Q3 ∧ Q3.length ≤ 900000) := Lib.hid (by rw [← hQ3]; exact ⟨seal_by (by_all (by kernel_rfl)), by rw [show (sealL [109, 117, 108, 50]).length = [109, 117, 108, 50].length + 4 by unfold sealL; rw [List.length_append, le4_four]]; simp [X9]⟩)
 have HD3 : Hid (decK Q3 = (none, 70)) := Lib.hid (by rw [← hQ3]; exact dec3)
 clear hQ3
 obtain ⟨Q4, hQ4⟩ : ∃ Q, sealL ([109, 117, 108, 49, 0, 1] ++ List.replicate 17 0 : List Nat) = Q := ⟨_, rfl⟩
 have HQ4 := Lib.hid hQ4
 have HQB4 : Hid (By Q4 ∧ Q4.length ≤ 900000) := Lib.hid (by rw [← hQ4]; exact ⟨seal_by (by_all (by kernel_rfl)), by rw [show (sealL ([109, 117, 108, 49, 0, 1] ++ List.replicate 17 0 : List Nat)).length = ([109, 117, 108, 49, 0, 1] ++ List.replicate 17 0 : List Nat).length + 4 by unfold sealL; rw [List.length_append, le4_four]]; simp [X9]⟩)
 have HD4 : Hid (decK Q4 = (none, 60)) := Lib.hid (by rw [← hQ4]; exact dec4)
 clear hQ4
 obtain ⟨Q5, hQ5⟩ : ∃ Q, sealL (([109, 117, 108, 49, 1, 1] ++ List.replicate 17 0 : List Nat) ++ [0]) = Q := ⟨_, rfl⟩
 have HQ5 := Lib.hid hQ5
 have HQB5 : Hid (By Q5 ∧ Q5.length ≤ 900000) := Lib.hid (by rw [← hQ5]; exact ⟨seal_by (by_all (by kernel_rfl)), by rw [show (sealL (([109, 117, 108, 49, 1, 1] ++ List.replicate 17 0 : List Nat) ++ [0])).length = (([109, 117, 108, 49, 1, 1] ++ List.replicate 17 0 : List Nat) ++ [0]).length + 4 by unfold sealL; rw [List.length_append, le4_four]]; simp [X9]⟩)
 have HD5 : Hid (decK Q5 = (none, 70)) := Lib.hid (by rw [← hQ5]; exact dec5)
 clear hQ5
 obtain ⟨Q6, hQ6⟩ : ∃ Q, sealL (([109, 117, 108, 49, 1, 1] ++ List.replicate 17 0 : List Nat).take 22) = Q := ⟨_, rfl⟩
 have HQ6 := Lib.hid hQ6
 have HQB6 : Hid (By Q6 ∧ Q6.length ≤ 900000) := Lib.hid (by rw [← hQ6]; exact ⟨seal_by (by_all (by kernel_rfl)), by rw [show (sealL (([109, 117, 108, 49, 1, 1] ++ List.replicate 17 0 : List Nat).take 22)).length = (([109, 117, 108, 49, 1, 1] ++ List.replicate 17 0 : List Nat).take 22).length + 4 by unfold sealL; rw [List.length_append, le4_four]]; simp [X9]⟩)
 have HD6 : Hid (decK Q6 = (none, 70)) := Lib.hid (by rw [← hQ6]; exact dec6)
 clear hQ6
 obtain ⟨Q7, hQ7⟩ : ∃ Q, sealL ([109, 117, 108, 49, 65, 1] ++ List.replicate 17 0 : List Nat) = Q := ⟨_, rfl⟩
 have HQ7 := Lib.hid hQ7
 have HQB7 : Hid (By Q7 ∧ Q7.length ≤ 900000) := Lib.hid (by rw [← hQ7]; exact ⟨seal_by (by_all (by kernel_rfl)), by rw [show (sealL ([109, 117, 108, 49, 65, 1] ++ List.replicate 17 0 : List Nat)).length = ([109, 117, 108, 49, 65, 1] ++ List.replicate 17 0 : List Nat).length + 4 by unfold sealL; rw [List.length_append, le4_four]]; simp [X9]⟩)
 have HD7 : Hid (decK Q7 = (none, 70)) := Lib.hid (by rw [← hQ7]; exact dec7)
 clear hQ7
 obtain ⟨Q9, hQ9⟩ : ∃ Q, sealL X9 = Q := ⟨_, rfl⟩
 have HQ9 := Lib.hid hQ9
 have HQB9 : Hid (By Q9 ∧ Q9.length ≤ 900000) := Lib.hid (by rw [← hQ9]; exact ⟨seal_by (by_all (by kernel_rfl)), by rw [show (sealL X9).length = X9.length + 4 by unfold sealL; rw [List.length_append, le4_four]]; simp [X9]⟩)
 have HHD9 : Hid (headK Q9 = (5, 6, 2, 0)) := Lib.hid (by rw [← hQ9]; exact head9)
 clear hQ9
 obtain ⟨Q10, hQ10⟩ : ∃ Q, sealL (X9.take 22) = Q := ⟨_, rfl⟩
 have HQ10 := Lib.hid hQ10
 have HQB10 : Hid (By Q10 ∧ Q10.length ≤ 900000) := Lib.hid (by rw [← hQ10]; exact ⟨seal_by (by_all (by kernel_rfl)), by rw [show (sealL (X9.take 22)).length = (X9.take 22).length + 4 by unfold sealL; rw [List.length_append, le4_four]]; simp [X9]⟩)
 have HHD10 : Hid (headK Q10 = (0, 0, 0, 70)) := Lib.hid (by rw [← hQ10]; exact head10)
 clear hQ10
 obtain ⟨Q11, hQ11⟩ : ∃ Q, sealL X9 = Q := ⟨_, rfl⟩
 have HQ11 := Lib.hid hQ11
 have HQB11 : Hid (By Q11 ∧ Q11.length ≤ 900000) := Lib.hid (by rw [← hQ11]; exact ⟨seal_by (by_all (by kernel_rfl)), by rw [show (sealL X9).length = X9.length + 4 by unfold sealL; rw [List.length_append, le4_four]]; simp [X9]⟩)
 have HD11 : Hid (decK Q11 = (none, 70)) := Lib.hid (by rw [← hQ11]; exact dec11)
 clear hQ11
 obtain ⟨Q16, hQ16⟩ : ∃ Q, sealL [109, 117, 108, 102, 1, 0] = Q := ⟨_, rfl⟩
 have HQ16 := Lib.hid hQ16
 have HQB16 : Hid (By Q16 ∧ Q16.length ≤ 900000) := Lib.hid (by rw [← hQ16]; exact ⟨seal_by (by_all (by kernel_rfl)), by rw [show (sealL [109, 117, 108, 102, 1, 0]).length = [109, 117, 108, 102, 1, 0].length + 4 by unfold sealL; rw [List.length_append, le4_four]]; simp [X9]⟩)
 have HD16 : Hid (splitK Q16 = (none, 40)) := Lib.hid (by rw [← hQ16]; exact spl16)
 clear hQ16
 obtain ⟨Q17, hQ17⟩ : ∃ Q, sealL [109, 117, 108, 102, 1] = Q := ⟨_, rfl⟩
 have HQ17 := Lib.hid hQ17
 have HQB17 : Hid (By Q17 ∧ Q17.length ≤ 900000) := Lib.hid (by rw [← hQ17]; exact ⟨seal_by (by_all (by kernel_rfl)), by rw [show (sealL [109, 117, 108, 102, 1]).length = [109, 117, 108, 102, 1].length + 4 by unfold sealL; rw [List.length_append, le4_four]]; simp [X9]⟩)
 have HD17 : Hid (splitK Q17 = (none, 70)) := Lib.hid (by rw [← hQ17]; exact spl17)
 clear hQ17
 obtain ⟨Q12, hQ⟩ : ∃ Q, bytesF [] = Q := ⟨_, rfl⟩
 have HQ12 : Hid (bytesF [] = Q12) := Lib.hid hQ
 have HL12 : Hid (Q12.length = 9) := Lib.hid (by rw [← hQ]; exact bytesF0_len)
 have HT12 : Hid (Q12.take 5 = [109, 117, 108, 102, 0]) := Lib.hid (by rw [← hQ]; exact bytesF0_take)
 have HQB12 : Hid (By Q12 ∧ Q12.length ≤ 900000) := Lib.hid ⟨by rw [← hQ]; exact by_all (by kernel_rfl), by rw [← hQ, bytesF0_len]; omega⟩
 have HD12 : Hid (splitK Q12 = (some [], 0)) := Lib.hid (by rw [← hQ]; exact spl13)
 clear hQ
 obtain ⟨A1, hA1⟩ : ∃ V, w.alloc (.cells #[.int .i64 0, .int .i64 0, .int .i64 0, .int .i64 0, .int .i64 0, .int .i64 0, .int .i64 0, .int .i64 0, .int .i64 0, .int .i64 0, .int .i64 0, .int .i64 0, .int .i64 0, .int .i64 0, .int .i64 0, .int .i64 0, .int .i64 0, .int .i64 0, .slice none 0 0] 28) = V := ⟨_, rfl⟩
 obtain ⟨A2, hA2⟩ : ∃ V, A1.setRow w.heap.size (scC oneS) = V := ⟨_, rfl⟩
 have r1 : RowAt 28 w.heap.size #[.int .i64 0, .int .i64 0, .int .i64 0, .int .i64 0, .int .i64 0, .int .i64 0, .int .i64 0, .int .i64 0, .int .i64 0, .int .i64 0, .int .i64 0, .int .i64 0, .int .i64 0, .int .i64 0, .int .i64 0, .int .i64 0, .int .i64 0, .int .i64 0, .slice none 0 0] A1 := by rw [← hA1]; exact RowAt.new _ _ _
 have r2 : A2.heap[w.heap.size]? = some (.cells (scC (idAt 0)) 28 (0, 0)) := by rw [show scC (idAt 0) = scC oneS by kernel_rfl, ← hA2]; exact setRow_heap _ _ _ _ _ _ r1
 have b2 : Below w.heap.size w A2 := by rw [← hA2, ← hA1]; exact Below.row ((Below.refl _ _).alloc (Nat.le_refl _) _) (Nat.le_refl _) _
 have hi1 := Lib.hid (show (Tryz.prog.info? 28).map (·.size) = some (scL idS).length by kernel_rfl)
 have hi2 := Lib.hid (show (Tryz.prog.info? 28).map (·.size) = some (scC oneS).size by kernel_rfl)
 have hs2 := Lib.hid (show 19 = (scC oneS).size from rfl)
 have ho2 := Lib.hid (show (scC oneS).all (·.oneCell') = true from twL_one oneS (.slice none 0 0) rfl)
 have HR1 := Lib.hid r1
 have HR2 := Lib.hid r2
 have HB2 := Lib.hid b2
 have HA1 := Lib.hid hA1
 have HA2 := Lib.hid hA2
 clear r1 r2 b2 hA1 hA2
 go_enter Tryz.func6, Tryz.ntmps6
 go_wp2_with (first | (rw [HA1.out]) | (with_reducible refine stop_at (some 45) rfl ?_; refine Lib.hid ?_; refine wpList_valX rfl (.agg (scC oneS)) w (by kernel_rfl) ?_) | (refine wpList_store_big rfl 28 (.tmp 1) (.tmp 45) rfl w.heap.size _ _ (scC oneS) rfl rfl HR1.out hi2.out hs2.out ho2.out ?_) | (rw [HA2.out]))
 go_loopg [2, 46] 4 (fun g s2 s46 wx => ∃ k : Nat, g = 4 - k ∧ s46 = .int .i64 (k : Int) ∧ k ≤ 4 ∧ wx.heap[w.heap.size]? = some (.cells (scC (idAt k)) 28 (0, 0)) ∧ Below w.heap.size w wx)
 case atStart => exact ⟨0, rfl, rfl, by omega, HR2.out, HB2.out⟩
 case round =>
  obtain ⟨k, rfl, rfl, hk, hrow, hbel⟩ := hrel
  clear HR1 HR2 HB2 HA1 HA2
  by_cases hk4 : k < 4
  ·rcases (show k = 0 ∨ k = 1 ∨ k = 2 ∨ k = 3 by omega) with rfl | rfl | rfl | rfl
   ·obtain ⟨Y, hY⟩ : ∃ V, wr.setCell ⟨w.heap.size, 2, none⟩ (.int .i64 65536) = V := ⟨_, rfl⟩
    have c0 : wr.cell? ⟨w.heap.size, 2, none⟩ = some (.int .i64 0) := by rw [cell_of_row _ _ _ _ _ _ hrow]; rfl
    have f0 : wr.frozen? ⟨w.heap.size, 2, none⟩ = false := frozen_row hrow
    have HRY : Hid (Y.heap[w.heap.size]? = some (.cells (scC (idAt 1)) 28 (0, 0))) := Lib.hid (by rw [← hY, heap_setCell_same _ _ _ _ _ _ hrow]; kernel_rfl)
    have HBY : Hid (Below w.heap.size w Y) := Lib.hid (by rw [← hY]; exact hbel.setCell (p := ⟨w.heap.size, 2, none⟩) (Nat.le_refl _) _)
    have HY := Lib.hid hY
    clear hrow hbel hY
    go_wp2_with (rw [HY.out])
    go_roundg (4 - (0 + 1))
    case measure => omega
    case rel => exact ⟨1, rfl, by go_num, by omega, HRY.out, HBY.out⟩
   ·obtain ⟨Y, hY⟩ : ∃ V, wr.setCell ⟨w.heap.size, 7, none⟩ (.int .i64 65536) = V := ⟨_, rfl⟩
    have c0 : wr.cell? ⟨w.heap.size, 7, none⟩ = some (.int .i64 0) := by rw [cell_of_row _ _ _ _ _ _ hrow]; rfl
    have f0 : wr.frozen? ⟨w.heap.size, 7, none⟩ = false := frozen_row hrow
    have HRY : Hid (Y.heap[w.heap.size]? = some (.cells (scC (idAt 2)) 28 (0, 0))) := Lib.hid (by rw [← hY, heap_setCell_same _ _ _ _ _ _ hrow]; kernel_rfl)
    have HBY : Hid (Below w.heap.size w Y) := Lib.hid (by rw [← hY]; exact hbel.setCell (p := ⟨w.heap.size, 7, none⟩) (Nat.le_refl _) _)
    have HY := Lib.hid hY
    clear hrow hbel hY
    go_wp2_with (rw [HY.out])
    go_roundg (4 - (1 + 1))
    case measure => omega
    case rel => exact ⟨2, rfl, by go_num, by omega, HRY.out, HBY.out⟩
   ·obtain ⟨Y, hY⟩ : ∃ V, wr.setCell ⟨w.heap.size, 12, none⟩ (.int .i64 65536) = V := ⟨_, rfl⟩
    have c0 : wr.cell? ⟨w.heap.size, 12, none⟩ = some (.int .i64 0) := by rw [cell_of_row _ _ _ _ _ _ hrow]; rfl
    have f0 : wr.frozen? ⟨w.heap.size, 12, none⟩ = false := frozen_row hrow
    have HRY : Hid (Y.heap[w.heap.size]? = some (.cells (scC (idAt 3)) 28 (0, 0))) := Lib.hid (by rw [← hY, heap_setCell_same _ _ _ _ _ _ hrow]; kernel_rfl)
    have HBY : Hid (Below w.heap.size w Y) := Lib.hid (by rw [← hY]; exact hbel.setCell (p := ⟨w.heap.size, 12, none⟩) (Nat.le_refl _) _)
    have HY := Lib.hid hY
    clear hrow hbel hY
    go_wp2_with (rw [HY.out])
    go_roundg (4 - (2 + 1))
    case measure => omega
    case rel => exact ⟨3, rfl, by go_num, by omega, HRY.out, HBY.out⟩
   ·obtain ⟨Y, hY⟩ : ∃ V, wr.setCell ⟨w.heap.size, 17, none⟩ (.int .i64 65536) = V := ⟨_, rfl⟩
    have c0 : wr.cell? ⟨w.heap.size, 17, none⟩ = some (.int .i64 0) := by rw [cell_of_row _ _ _ _ _ _ hrow]; rfl
    have f0 : wr.frozen? ⟨w.heap.size, 17, none⟩ = false := frozen_row hrow
    have HRY : Hid (Y.heap[w.heap.size]? = some (.cells (scC (idAt 4)) 28 (0, 0))) := Lib.hid (by rw [← hY, heap_setCell_same _ _ _ _ _ _ hrow]; kernel_rfl)
    have HBY : Hid (Below w.heap.size w Y) := Lib.hid (by rw [← hY]; exact hbel.setCell (p := ⟨w.heap.size, 17, none⟩) (Nat.le_refl _) _)
    have HY := Lib.hid hY
    clear hrow hbel hY
    go_wp2_with (rw [HY.out])
    go_roundg (4 - (3 + 1))
    case measure => omega
    case rel => exact ⟨4, rfl, by go_num, by omega, HRY.out, HBY.out⟩
  ·obtain rfl : k = 4 := by omega
   have HX : Hid (wr.rangeAt w.heap.size 0 (scL idS)) := Lib.hid (fun j u hj => by rw [cell_of_row _ _ _ _ _ _ hrow, Nat.zero_add, show scC (idAt 4) = (scL idS).toArray by kernel_rfl]; simpa using hj)
   have HSZ := Lib.hid (psize_any idS wr idS_wf (oneS_at wr))
   unfold RetSz at HSZ
   rw [idS_enc] at HSZ
   simp only [Option.getD_some] at HSZ
   rw [idS_len] at HSZ
   have HB00 := Lib.hid hbel
   clear hrow hbel hk hk4
   go_wp2_with (with_reducible refine stop_at (some 56) rfl ?_; refine Lib.hid ?_; refine wpList_load_mid rfl 28 (.tmp 1) rfl w.heap.size 0 rfl (scL idS) _ HX.out Tryz.underlying28 rfl hi1.out ?_)
   refine HSZ.out.mono ?_
   rintro e y0 ⟨rfl, hb⟩
   have HB0 := Lib.hid (bnext HB00.out hb)
   clear hb HSZ HX hi1 hi2 hs2 ho2 HB00
   have HPD2 := Lib.hid (pdecode_any [] none 0 y0 (fun x hx => by simp at hx) (by simp) (Nat.le_refl _) (by omega) Pk.Bs.nought)
   unfold RetDe at HPD2
   rw [dec2] at HPD2
   go_wp2_with fail
   refine HPD2.out.mono ?_
   rintro e d2 ⟨⟨t2, rfl, hfr, _⟩, hb⟩
   have HB1 : Hid (Below w.heap.size w d2) := Lib.hid (bnext HB0.out (hb))
   clear hb HPD2
   obtain ⟨A2, hA⟩ : ∃ V, d2.alloc (.cells #[.int .i64 0, .int .i64 0, .int .i64 0, .int .i64 0, .int .i64 0, .int .i64 0, .int .i64 0, .int .i64 0, .int .i64 0, .int .i64 0, .int .i64 0, .int .i64 0, .int .i64 0, .int .i64 0, .int .i64 0, .int .i64 0, .int .i64 0, .int .i64 0, .slice none 0 0] 28) = V := ⟨_, rfl⟩
   obtain ⟨Y2, hY⟩ : ∃ V, A2.setRow d2.heap.size (scC t2) = V := ⟨_, rfl⟩
   have r5 : RowAt 28 d2.heap.size #[.int .i64 0, .int .i64 0, .int .i64 0, .int .i64 0, .int .i64 0, .int .i64 0, .int .i64 0, .int .i64 0, .int .i64 0, .int .i64 0, .int .i64 0, .int .i64 0, .int .i64 0, .int .i64 0, .int .i64 0, .int .i64 0, .int .i64 0, .int .i64 0, .slice none 0 0] A2 := by rw [← hA]; exact RowAt.new _ _ _
   have b6 : Below d2.heap.size d2 Y2 := by rw [← hY, ← hA]; exact Below.row ((Below.refl _ _).alloc (Nat.le_refl _) _) (Nat.le_refl _) _
   have HR2 := Lib.hid r5
   have hi2 := Lib.hid (sizeZ t2 hfr.wf (.slice t2.oo t2.os.length t2.oc))
   have hs2 := Lib.hid (show 19 = (scC t2).size from (twL_len hfr.wf (.slice t2.oo t2.os.length t2.oc)).symm)
   have ho2 := Lib.hid (show (scC t2).all (·.oneCell') = true from twL_one t2 (.slice t2.oo t2.os.length t2.oc) rfl)
   have HA2 := Lib.hid hA
   have HY2 := Lib.hid hY
   clear hA hY r5 hfr
   have HB2 : Hid (Below w.heap.size w Y2) := Lib.hid (bnext HB1.out (b6))
   clear b6
   obtain ⟨C3, hC3⟩ : ∃ C : Array Value, #[.int .u8 109, .int .u8 117, .int .u8 108, .int .u8 50] = C := ⟨_, rfl⟩
   obtain ⟨W3, hW3⟩ : ∃ V, Y2.alloc (.cells C3 5 (C3.size, C3.size + 1)) = V := ⟨_, rfl⟩
   have HCV3 := Lib.hid (run_convert_bytes_const (P := Tryz.prog) Y2 31 5 C3 4 4 Tryz.underlying31 (by kernel_rfl))
   rw [hW3] at HCV3
   have HBS3 : Hid (Bs W3 (some ⟨Y2.heap.size, 0, none⟩) [109, 117, 108, 50]) := Lib.hid (lit_bs (t := 5) (f := (C3.size, C3.size + 1)) (by rw [← hW3, ← show #[.int .u8 109, .int .u8 117, .int .u8 108, .int .u8 50] = C3 from hC3]; exact heap_alloc_new _ _))
   have hb3 : Below Y2.heap.size Y2 W3 := by rw [← hW3]; exact (Below.refl _ _).alloc (Nat.le_refl _) _
   have HC3 := Lib.hid hC3
   clear hC3 hW3
   have HB3 : Hid (Below w.heap.size w W3) := Lib.hid (bnext HB2.out (hb3))
   clear hb3
   go_wp2_with (first | (rw [HA2.out]) | (refine wpList_store_big rfl 28 (.tmp 5) (.tmp 62) rfl d2.heap.size _ _ (scC t2) rfl rfl HR2.out hi2.out hs2.out ho2.out ?_) | (rw [HY2.out]) | (rw [HC3.out]; rw [HCV3.out]))
   have HS3 : Hid (Calls Tryz.prog 27 #[.slice (some ⟨Y2.heap.size, 0, none⟩) 4 4] W3 fun e w' => (∃ v, e = .returned v ∧ Pk.Own w' W3.heap.size v Q3) ∧ Below W3.heap.size W3 w') := Lib.hid (by rw [← HQ3.out]; exact Cx.seal_at [109, 117, 108, 50] 4 rfl _ rfl (some ⟨Y2.heap.size, 0, none⟩) 4 W3 (by_px (by_all (by kernel_rfl))) (by simp [X9]) (fun h => by cases h) (bs_px (HBS3.out)))
   refine HS3.out.mono ?_
   rintro e s3 ⟨⟨v3, rfl, hown⟩, hb⟩
   obtain ⟨o3, c3, rfl, hbs, hc, hcm, _, _⟩ := hown.open
   clear HS3
   have HB4 : Hid (Below w.heap.size w s3) := Lib.hid (bnext HB3.out (hb))
   clear hb
   have HPD3 := Lib.hid (pdecode_any Q3 o3 c3 s3 HQB3.out.1 HQB3.out.2 hc hcm hbs)
   unfold RetDe at HPD3
   rw [HD3.out] at HPD3
   clear hown hbs hc hcm
   go_wp2_with fail
   refine HPD3.out.mono ?_
   rintro e d3 ⟨⟨t3, rfl, hfr, _⟩, hb⟩
   have HB5 : Hid (Below w.heap.size w d3) := Lib.hid (bnext HB4.out (hb))
   clear hb HPD3
   obtain ⟨A3, hA⟩ : ∃ V, d3.alloc (.cells #[.int .i64 0, .int .i64 0, .int .i64 0, .int .i64 0, .int .i64 0, .int .i64 0, .int .i64 0, .int .i64 0, .int .i64 0, .int .i64 0, .int .i64 0, .int .i64 0, .int .i64 0, .int .i64 0, .int .i64 0, .int .i64 0, .int .i64 0, .int .i64 0, .slice none 0 0] 28) = V := ⟨_, rfl⟩
   obtain ⟨Y3, hY⟩ : ∃ V, A3.setRow d3.heap.size (scC t3) = V := ⟨_, rfl⟩
   have r5 : RowAt 28 d3.heap.size #[.int .i64 0, .int .i64 0, .int .i64 0, .int .i64 0, .int .i64 0, .int .i64 0, .int .i64 0, .int .i64 0, .int .i64 0, .int .i64 0, .int .i64 0, .int .i64 0, .int .i64 0, .int .i64 0, .int .i64 0, .int .i64 0, .int .i64 0, .int .i64 0, .slice none 0 0] A3 := by rw [← hA]; exact RowAt.new _ _ _
   have b6 : Below d3.heap.size d3 Y3 := by rw [← hY, ← hA]; exact Below.row ((Below.refl _ _).alloc (Nat.le_refl _) _) (Nat.le_refl _) _
   have HR3 := Lib.hid r5
   have hi3 := Lib.hid (sizeZ t3 hfr.wf (.slice t3.oo t3.os.length t3.oc))
   have hs3 := Lib.hid (show 19 = (scC t3).size from (twL_len hfr.wf (.slice t3.oo t3.os.length t3.oc)).symm)
   have ho3 := Lib.hid (show (scC t3).all (·.oneCell') = true from twL_one t3 (.slice t3.oo t3.os.length t3.oc) rfl)
   have HA3 := Lib.hid hA
   have HY3 := Lib.hid hY
   clear hA hY r5 hfr
   have HB6 : Hid (Below w.heap.size w Y3) := Lib.hid (bnext HB5.out (b6))
   clear b6
   have HBA4 := Lib.hid (bare_any 0 (by omega) Y3)
   unfold RetBs at HBA4
   go_wp2_with (first | (rw [HA3.out]) | (refine wpList_store_big rfl 28 (.tmp 7) (.tmp 69) rfl d3.heap.size _ _ (scC t3) rfl rfl HR3.out hi3.out hs3.out ho3.out ?_) | (rw [HY3.out]))
   refine HBA4.out.mono ?_
   rintro e b4 ⟨⟨u4, rfl, hown⟩, hb⟩
   obtain ⟨g4, k4, rfl, hk1, hk2, hbs0⟩ := Cx.own_shape (n := 23) (own_px hown) rfl (by omega)
   have HBS4 := Lib.hid (bs_xp hbs0)
   have HOW4 := Lib.hid (own_px hown)
   clear HBA4 hbs0 hown
   have HB7 : Hid (Below w.heap.size w b4) := Lib.hid (bnext HB6.out (hb))
   clear hb
   go_wp2_with fail
   have HS4 : Hid (Calls Tryz.prog 27 #[.slice (some ⟨g4, 0, none⟩) 23 k4] b4 fun e w' => (∃ v, e = .returned v ∧ Pk.Own w' b4.heap.size v Q4) ∧ Below b4.heap.size b4 w') := Lib.hid (by rw [← HQ4.out]; exact Cx.seal_at ([109, 117, 108, 49, 0, 1] ++ List.replicate 17 0 : List Nat) 23 rfl _ rfl (some ⟨g4, 0, none⟩) k4 b4 (by_px (by_all (by kernel_rfl))) (by simp [X9]) (fun h => by cases h) (bs_px (HBS4.out)))
   refine HS4.out.mono ?_
   rintro e s4 ⟨⟨v4, rfl, hown⟩, hb⟩
   obtain ⟨o4, c4, rfl, hbs, hc, hcm, _, _⟩ := hown.open
   clear HS4
   have HB8 : Hid (Below w.heap.size w s4) := Lib.hid (bnext HB7.out (hb))
   clear hb
   have HPD4 := Lib.hid (pdecode_any Q4 o4 c4 s4 HQB4.out.1 HQB4.out.2 hc hcm hbs)
   unfold RetDe at HPD4
   rw [HD4.out] at HPD4
   clear hown hbs hc hcm
   go_wp2_with fail
   refine HPD4.out.mono ?_
   rintro e d4 ⟨⟨t4, rfl, hfr, _⟩, hb⟩
   have HB9 : Hid (Below w.heap.size w d4) := Lib.hid (bnext HB8.out (hb))
   clear hb HPD4
   obtain ⟨A4, hA⟩ : ∃ V, d4.alloc (.cells #[.int .i64 0, .int .i64 0, .int .i64 0, .int .i64 0, .int .i64 0, .int .i64 0, .int .i64 0, .int .i64 0, .int .i64 0, .int .i64 0, .int .i64 0, .int .i64 0, .int .i64 0, .int .i64 0, .int .i64 0, .int .i64 0, .int .i64 0, .int .i64 0, .slice none 0 0] 28) = V := ⟨_, rfl⟩
   obtain ⟨Y4, hY⟩ : ∃ V, A4.setRow d4.heap.size (scC t4) = V := ⟨_, rfl⟩
   have r5 : RowAt 28 d4.heap.size #[.int .i64 0, .int .i64 0, .int .i64 0, .int .i64 0, .int .i64 0, .int .i64 0, .int .i64 0, .int .i64 0, .int .i64 0, .int .i64 0, .int .i64 0, .int .i64 0, .int .i64 0, .int .i64 0, .int .i64 0, .int .i64 0, .int .i64 0, .int .i64 0, .slice none 0 0] A4 := by rw [← hA]; exact RowAt.new _ _ _
   have b6 : Below d4.heap.size d4 Y4 := by rw [← hY, ← hA]; exact Below.row ((Below.refl _ _).alloc (Nat.le_refl _) _) (Nat.le_refl _) _
   have HR4 := Lib.hid r5
   have hi4 := Lib.hid (sizeZ t4 hfr.wf (.slice t4.oo t4.os.length t4.oc))
   have hs4 := Lib.hid (show 19 = (scC t4).size from (twL_len hfr.wf (.slice t4.oo t4.os.length t4.oc)).symm)
   have ho4 := Lib.hid (show (scC t4).all (·.oneCell') = true from twL_one t4 (.slice t4.oo t4.os.length t4.oc) rfl)
   have HA4 := Lib.hid hA
   have HY4 := Lib.hid hY
   clear hA hY r5 hfr
   have HB10 : Hid (Below w.heap.size w Y4) := Lib.hid (bnext HB9.out (b6))
   clear b6
   have HBD5 := Lib.hid HB10.out
   have HBA5 := Lib.hid (bare_any 1 (by omega) Y4)
   unfold RetBs at HBA5
   go_wp2_with (first | (rw [HA4.out]) | (refine wpList_store_big rfl 28 (.tmp 9) (.tmp 75) rfl d4.heap.size _ _ (scC t4) rfl rfl HR4.out hi4.out hs4.out ho4.out ?_) | (rw [HY4.out]))
   refine HBA5.out.mono ?_
   rintro e b5 ⟨⟨u5, rfl, hown⟩, hb⟩
   obtain ⟨g5, k5, rfl, hk1, hk2, _⟩ := Cx.own_shape (n := 23) (own_px hown) rfl (by omega)
   have HOW5 := Lib.hid hown
   have HLT5 := Lib.hid hb.size
   clear HBA5 hown
   have HB11 : Hid (Below w.heap.size w b5) := Lib.hid (bnext HB10.out (hb))
   clear hb
   obtain ⟨W5, hW⟩ : ∃ V, b5.alloc (.cells #[.int .u8 0] 5) = V := ⟨_, rfl⟩
   have hbl : Below b5.heap.size b5 W5 := by rw [← hW]; exact (Below.refl _ _).alloc (Nat.le_refl _) _
   have HN5 : Hid (Bs W5 (some ⟨b5.heap.size, 0, none⟩) [0]) := Lib.hid (lit_bs (t := 5) (f := (0, 0)) (by rw [← hW]; exact heap_alloc_new _ _))
   have HZ5 := Lib.hid hbl.size
   have HW5 := Lib.hid hW
   clear hW
   have HO5 := Lib.hid (HOW5.out.below hbl)
   have HB12 : Hid (Below w.heap.size w W5) := Lib.hid (bnext HB11.out (hbl))
   clear hbl
   go_wp2_with (first | (rw [HW5.out]) | (at_builtin; refine Pk.app_at rfl (.tmp 78) (.tmp 79) rfl Y4.heap.size (.slice (some ⟨g5, 0, none⟩) 23 k5) ([109, 117, 108, 49, 1, 1] ++ List.replicate 17 0 : List Nat) rfl HO5.out (some ⟨b5.heap.size, 0, none⟩) [0] 1 rfl (fun h => by cases h) HN5.out (by simp) (by have := HZ5.out; have := HLT5.out; omega) ?_; intro y5 z5 ho hg hn; have HBZ5 : Hid (Below w.heap.size w z5) := Lib.hid (HB12.out.grown hg HB12.out.size (fun k hk => Nat.le_trans HBD5.out.size (Pk.Own.blk HO5.out k hk))); have hsh := Cx.own_shape (n := 24) (own_px ho) rfl (by omega); clear ho hg hn; obtain ⟨p5, q5, rfl, hk1, hk2, hbs0⟩ := hsh; have HBX5 : Hid (Bs z5 (some ⟨p5, 0, none⟩) (([109, 117, 108, 49, 1, 1] ++ List.replicate 17 0 : List Nat) ++ [0])) := Lib.hid (bs_xp hbs0); clear hbs0))
   have HS5 : Hid (Calls Tryz.prog 27 #[.slice (some ⟨p5, 0, none⟩) 24 q5] z5 fun e w' => (∃ v, e = .returned v ∧ Pk.Own w' z5.heap.size v Q5) ∧ Below z5.heap.size z5 w') := Lib.hid (by rw [← HQ5.out]; exact Cx.seal_at (([109, 117, 108, 49, 1, 1] ++ List.replicate 17 0 : List Nat) ++ [0]) 24 rfl _ rfl (some ⟨p5, 0, none⟩) q5 z5 (by_px (by_all (by kernel_rfl))) (by simp [X9]) (fun h => by cases h) (bs_px (HBX5.out)))
   refine HS5.out.mono ?_
   rintro e s5 ⟨⟨v5, rfl, hown⟩, hb⟩
   obtain ⟨o5, c5, rfl, hbs, hc, hcm, _, _⟩ := hown.open
   clear HS5
   have HB13 : Hid (Below w.heap.size w s5) := Lib.hid (bnext HBZ5.out (hb))
   clear hb
   have HPD5 := Lib.hid (pdecode_any Q5 o5 c5 s5 HQB5.out.1 HQB5.out.2 hc hcm hbs)
   unfold RetDe at HPD5
   rw [HD5.out] at HPD5
   clear hown hbs hc hcm
   go_wp2_with fail
   refine HPD5.out.mono ?_
   rintro e d5 ⟨⟨t5, rfl, hfr, _⟩, hb⟩
   have HB14 : Hid (Below w.heap.size w d5) := Lib.hid (bnext HB13.out (hb))
   clear hb HPD5
   obtain ⟨A5, hA⟩ : ∃ V, d5.alloc (.cells #[.int .i64 0, .int .i64 0, .int .i64 0, .int .i64 0, .int .i64 0, .int .i64 0, .int .i64 0, .int .i64 0, .int .i64 0, .int .i64 0, .int .i64 0, .int .i64 0, .int .i64 0, .int .i64 0, .int .i64 0, .int .i64 0, .int .i64 0, .int .i64 0, .slice none 0 0] 28) = V := ⟨_, rfl⟩
   obtain ⟨Y5, hY⟩ : ∃ V, A5.setRow d5.heap.size (scC t5) = V := ⟨_, rfl⟩
   have r5 : RowAt 28 d5.heap.size #[.int .i64 0, .int .i64 0, .int .i64 0, .int .i64 0, .int .i64 0, .int .i64 0, .int .i64 0, .int .i64 0, .int .i64 0, .int .i64 0, .int .i64 0, .int .i64 0, .int .i64 0, .int .i64 0, .int .i64 0, .int .i64 0, .int .i64 0, .int .i64 0, .slice none 0 0] A5 := by rw [← hA]; exact RowAt.new _ _ _
   have b6 : Below d5.heap.size d5 Y5 := by rw [← hY, ← hA]; exact Below.row ((Below.refl _ _).alloc (Nat.le_refl _) _) (Nat.le_refl _) _
   have HR5 := Lib.hid r5
   have hi5 := Lib.hid (sizeZ t5 hfr.wf (.slice t5.oo t5.os.length t5.oc))
   have hs5 := Lib.hid (show 19 = (scC t5).size from (twL_len hfr.wf (.slice t5.oo t5.os.length t5.oc)).symm)
   have ho5 := Lib.hid (show (scC t5).all (·.oneCell') = true from twL_one t5 (.slice t5.oo t5.os.length t5.oc) rfl)
   have HA5 := Lib.hid hA
   have HY5 := Lib.hid hY
   clear hA hY r5 hfr
   have HB15 : Hid (Below w.heap.size w Y5) := Lib.hid (bnext HB14.out (b6))
   clear b6
   have HBA6 := Lib.hid (bare_any 1 (by omega) Y5)
   unfold RetBs at HBA6
   go_wp2_with (first | (rw [HA5.out]) | (refine wpList_store_big rfl 28 (.tmp 11) (.tmp 83) rfl d5.heap.size _ _ (scC t5) rfl rfl HR5.out hi5.out hs5.out ho5.out ?_) | (rw [HY5.out]))
   refine HBA6.out.mono ?_
   rintro e b6 ⟨⟨u6, rfl, hown⟩, hb⟩
   obtain ⟨g6, k6, rfl, hk1, hk2, hbs0⟩ := Cx.own_shape (n := 23) (own_px hown) rfl (by omega)
   have HBS6 := Lib.hid (bs_xp hbs0)
   have HOW6 := Lib.hid (own_px hown)
   clear HBA6 hbs0 hown
   have HB16 : Hid (Below w.heap.size w b6) := Lib.hid (bnext HB15.out (hb))
   clear hb
   have h22 : (22 : Int) ≤ (k6 : Int) := by omega
   go_wp2_with fail
   have HS6 : Hid (Calls Tryz.prog 27 #[.slice (some ⟨g6, 0, none⟩) 22 k6] b6 fun e w' => (∃ v, e = .returned v ∧ Pk.Own w' b6.heap.size v Q6) ∧ Below b6.heap.size b6 w') := Lib.hid (by rw [← HQ6.out]; exact Cx.seal_at (([109, 117, 108, 49, 1, 1] ++ List.replicate 17 0 : List Nat).take 22) 22 rfl _ rfl (some ⟨g6, 0, none⟩) k6 b6 (by_px (by_all (by kernel_rfl))) (by simp [X9]) (fun h => by cases h) (bs_px (HBS6.out.take 22)))
   refine HS6.out.mono ?_
   rintro e s6 ⟨⟨v6, rfl, hown⟩, hb⟩
   obtain ⟨o6, c6, rfl, hbs, hc, hcm, _, _⟩ := hown.open
   clear HS6
   have HB17 : Hid (Below w.heap.size w s6) := Lib.hid (bnext HB16.out (hb))
   clear hb
   have HPD6 := Lib.hid (pdecode_any Q6 o6 c6 s6 HQB6.out.1 HQB6.out.2 hc hcm hbs)
   unfold RetDe at HPD6
   rw [HD6.out] at HPD6
   clear hown hbs hc hcm
   go_wp2_with fail
   refine HPD6.out.mono ?_
   rintro e d6 ⟨⟨t6, rfl, hfr, _⟩, hb⟩
   have HB18 : Hid (Below w.heap.size w d6) := Lib.hid (bnext HB17.out (hb))
   clear hb HPD6
   obtain ⟨A6, hA⟩ : ∃ V, d6.alloc (.cells #[.int .i64 0, .int .i64 0, .int .i64 0, .int .i64 0, .int .i64 0, .int .i64 0, .int .i64 0, .int .i64 0, .int .i64 0, .int .i64 0, .int .i64 0, .int .i64 0, .int .i64 0, .int .i64 0, .int .i64 0, .int .i64 0, .int .i64 0, .int .i64 0, .slice none 0 0] 28) = V := ⟨_, rfl⟩
   obtain ⟨Y6, hY⟩ : ∃ V, A6.setRow d6.heap.size (scC t6) = V := ⟨_, rfl⟩
   have r5 : RowAt 28 d6.heap.size #[.int .i64 0, .int .i64 0, .int .i64 0, .int .i64 0, .int .i64 0, .int .i64 0, .int .i64 0, .int .i64 0, .int .i64 0, .int .i64 0, .int .i64 0, .int .i64 0, .int .i64 0, .int .i64 0, .int .i64 0, .int .i64 0, .int .i64 0, .int .i64 0, .slice none 0 0] A6 := by rw [← hA]; exact RowAt.new _ _ _
   have b6 : Below d6.heap.size d6 Y6 := by rw [← hY, ← hA]; exact Below.row ((Below.refl _ _).alloc (Nat.le_refl _) _) (Nat.le_refl _) _
   have HR6 := Lib.hid r5
   have hi6 := Lib.hid (sizeZ t6 hfr.wf (.slice t6.oo t6.os.length t6.oc))
   have hs6 := Lib.hid (show 19 = (scC t6).size from (twL_len hfr.wf (.slice t6.oo t6.os.length t6.oc)).symm)
   have ho6 := Lib.hid (show (scC t6).all (·.oneCell') = true from twL_one t6 (.slice t6.oo t6.os.length t6.oc) rfl)
   have HA6 := Lib.hid hA
   have HY6 := Lib.hid hY
   clear hA hY r5 hfr
   have HB19 : Hid (Below w.heap.size w Y6) := Lib.hid (bnext HB18.out (b6))
   clear b6
   clear h22
   have HBA7 := Lib.hid (bare_any 65 (by omega) Y6)
   unfold RetBs at HBA7
   go_wp2_with (first | (rw [HA6.out]) | (refine wpList_store_big rfl 28 (.tmp 13) (.tmp 90) rfl d6.heap.size _ _ (scC t6) rfl rfl HR6.out hi6.out hs6.out ho6.out ?_) | (rw [HY6.out]))
   refine HBA7.out.mono ?_
   rintro e b7 ⟨⟨u7, rfl, hown⟩, hb⟩
   obtain ⟨g7, k7, rfl, hk1, hk2, hbs0⟩ := Cx.own_shape (n := 23) (own_px hown) rfl (by omega)
   have HBS7 := Lib.hid (bs_xp hbs0)
   have HOW7 := Lib.hid (own_px hown)
   clear HBA7 hbs0 hown
   have HB20 : Hid (Below w.heap.size w b7) := Lib.hid (bnext HB19.out (hb))
   clear hb
   go_wp2_with fail
   have HS7 : Hid (Calls Tryz.prog 27 #[.slice (some ⟨g7, 0, none⟩) 23 k7] b7 fun e w' => (∃ v, e = .returned v ∧ Pk.Own w' b7.heap.size v Q7) ∧ Below b7.heap.size b7 w') := Lib.hid (by rw [← HQ7.out]; exact Cx.seal_at ([109, 117, 108, 49, 65, 1] ++ List.replicate 17 0 : List Nat) 23 rfl _ rfl (some ⟨g7, 0, none⟩) k7 b7 (by_px (by_all (by kernel_rfl))) (by simp [X9]) (fun h => by cases h) (bs_px (HBS7.out)))
   refine HS7.out.mono ?_
   rintro e s7 ⟨⟨v7, rfl, hown⟩, hb⟩
   obtain ⟨o7, c7, rfl, hbs, hc, hcm, _, _⟩ := hown.open
   clear HS7
   have HB21 : Hid (Below w.heap.size w s7) := Lib.hid (bnext HB20.out (hb))
   clear hb
   have HPD7 := Lib.hid (pdecode_any Q7 o7 c7 s7 HQB7.out.1 HQB7.out.2 hc hcm hbs)
   unfold RetDe at HPD7
   rw [HD7.out] at HPD7
   clear hown hbs hc hcm
   go_wp2_with fail
   refine HPD7.out.mono ?_
   rintro e d7 ⟨⟨t7, rfl, hfr, _⟩, hb⟩
   have HB22 : Hid (Below w.heap.size w d7) := Lib.hid (bnext HB21.out (hb))
   clear hb HPD7
   obtain ⟨A7, hA⟩ : ∃ V, d7.alloc (.cells #[.int .i64 0, .int .i64 0, .int .i64 0, .int .i64 0, .int .i64 0, .int .i64 0, .int .i64 0, .int .i64 0, .int .i64 0, .int .i64 0, .int .i64 0, .int .i64 0, .int .i64 0, .int .i64 0, .int .i64 0, .int .i64 0, .int .i64 0, .int .i64 0, .slice none 0 0] 28) = V := ⟨_, rfl⟩
   obtain ⟨Y7, hY⟩ : ∃ V, A7.setRow d7.heap.size (scC t7) = V := ⟨_, rfl⟩
   have r5 : RowAt 28 d7.heap.size #[.int .i64 0, .int .i64 0, .int .i64 0, .int .i64 0, .int .i64 0, .int .i64 0, .int .i64 0, .int .i64 0, .int .i64 0, .int .i64 0, .int .i64 0, .int .i64 0, .int .i64 0, .int .i64 0, .int .i64 0, .int .i64 0, .int .i64 0, .int .i64 0, .slice none 0 0] A7 := by rw [← hA]; exact RowAt.new _ _ _
   have b6 : Below d7.heap.size d7 Y7 := by rw [← hY, ← hA]; exact Below.row ((Below.refl _ _).alloc (Nat.le_refl _) _) (Nat.le_refl _) _
   have HR7 := Lib.hid r5
   have hi7 := Lib.hid (sizeZ t7 hfr.wf (.slice t7.oo t7.os.length t7.oc))
   have hs7 := Lib.hid (show 19 = (scC t7).size from (twL_len hfr.wf (.slice t7.oo t7.os.length t7.oc)).symm)
   have ho7 := Lib.hid (show (scC t7).all (·.oneCell') = true from twL_one t7 (.slice t7.oo t7.os.length t7.oc) rfl)
   have HA7 := Lib.hid hA
   have HY7 := Lib.hid hY
   clear hA hY r5 hfr
   have HB23 : Hid (Below w.heap.size w Y7) := Lib.hid (bnext HB22.out (b6))
   clear b6
   have HEN := Lib.hid (show Calls Tryz.prog 12 #[.agg (scC s65)] Y7 (RetEn none Y7) from s65_enc ▸ pencode_any s65 Y7 s65_wf (oneS_at _))
   unfold RetEn erE at HEN
   simp only [Option.isSome_none, Bool.false_eq_true, if_false, Option.getD_none] at HEN
   go_wp2_with (first | (rw [HA7.out]) | (refine wpList_store_big rfl 28 (.tmp 15) (.tmp 96) rfl d7.heap.size _ _ (scC t7) rfl rfl HR7.out hi7.out hs7.out ho7.out ?_) | (rw [HY7.out]) | (with_reducible refine stop_at (some 99) rfl ?_; refine Lib.hid ?_; refine wpList_valX rfl (.agg (scC s65)) Y7 (by kernel_rfl) ?_))
   refine HEN.out.mono ?_
   rintro e e8 ⟨⟨v8, rfl, _⟩, hb⟩
   have HB24 : Hid (Below w.heap.size w e8) := Lib.hid (bnext HB23.out (hb))
   clear hb HEN
   obtain ⟨C9, hC9⟩ : ∃ C : Array Value, #[.int .u8 109, .int .u8 117, .int .u8 108, .int .u8 49] = C := ⟨_, rfl⟩
   obtain ⟨W9, hW9⟩ : ∃ V, e8.alloc (.cells C9 5 (C9.size, C9.size + 1)) = V := ⟨_, rfl⟩
   have HCV9 := Lib.hid (run_convert_bytes_const (P := Tryz.prog) e8 31 5 C9 4 4 Tryz.underlying31 (by kernel_rfl))
   rw [hW9] at HCV9
   have HBS9 : Hid (Bs W9 (some ⟨e8.heap.size, 0, none⟩) [109, 117, 108, 49]) := Lib.hid (lit_bs (t := 5) (f := (C9.size, C9.size + 1)) (by rw [← hW9, ← show #[.int .u8 109, .int .u8 117, .int .u8 108, .int .u8 49] = C9 from hC9]; exact heap_alloc_new _ _))
   have hb9 : Below e8.heap.size e8 W9 := by rw [← hW9]; exact (Below.refl _ _).alloc (Nat.le_refl _) _
   have HC9 := Lib.hid hC9
   clear hC9 hW9
   have HB25 : Hid (Below w.heap.size w W9) := Lib.hid (bnext HB24.out (hb9))
   clear hb9
   obtain ⟨W90, hW⟩ : ∃ V, W9.alloc (.cells #[.int .u8 5, .int .u8 6] 5) = V := ⟨_, rfl⟩
   have hbl : Below W9.heap.size W9 W90 := by rw [← hW]; exact (Below.refl _ _).alloc (Nat.le_refl _) _
   have HN90 : Hid (Bs W90 (some ⟨W9.heap.size, 0, none⟩) [5, 6]) := Lib.hid (lit_bs (t := 5) (f := (0, 0)) (by rw [← hW]; exact heap_alloc_new _ _))
   have HZ90 := Lib.hid hbl.size
   have HW90 := Lib.hid hW
   clear hW
   obtain ⟨i0, hi0, hz0, hz1, hz2⟩ := info_parts Pk.info5
   obtain ⟨v91, W91, hrun1, hown1, hg1⟩ := run_append_arg_grows (P := Tryz.prog) (w := W90) 31 31 5 i0 (.int .u8 0) 1 1 Tryz.underlying31 hi0 hz0 hz1 hz2 rfl (by decide) ⟨e8.heap.size, 0, none⟩ 4 4 ([109, 117, 108, 49].map Pk.encB) (by simp) (bs_cells (HBS9.out.below hbl)) ⟨W9.heap.size, 0, none⟩ 2 2 ([5, 6].map Pk.encB) (by simp) (bs_cells HN90.out) (by omega) (by unfold maxLen; omega) (by omega)
   have ho1 : Pk.Own W91 W90.heap.size v91 [109, 117, 108, 49, 5, 6] := hown1
   have hb91 : Below W9.heap.size W9 W91 := bnext hbl (below_none hg1)
   obtain ⟨v92, W92, hrun2, hown2, hg2⟩ := run_own_zeros W90.heap.size 16 v91 _ W91 31 .i64 hg1.size (by omega) (by omega) (by simp) (by simp) ho1
   have hb92 : Below W9.heap.size W9 W92 := below_grown2 (Nat.le_refl _) hb91 hg2 (fun k hk => Nat.le_trans hbl.size (Pk.Own.blk ho1 k hk))
   have HRN1 := Lib.hid hrun1
   obtain ⟨g9, k9, rfl, hk91, hk92, _⟩ := Cx.own_shape (n := 22) (own_px hown2) rfl (by omega)
   have HRN2 : Hid ((Builtin.append_ #[31, 3] 31 #[v91, .int .i64 16]).run Tryz.prog W91 = .ok (.slice (some ⟨g9, 0, none⟩) 22 k9) W92) := Lib.hid hrun2
   have HOW9 := Lib.hid hown2
   have HLT9 := Lib.hid (Nat.le_trans hg1.size hg2.size)
   have HBD9 := Lib.hid (bnext HB25.out hbl)
   clear hi0 hz0 hz1 hz2 hrun1 hown1 hg1 ho1 hb91 hrun2 hown2 hg2 hbl
   have HB26 : Hid (Below w.heap.size w W92) := Lib.hid (bnext HB25.out (hb92))
   clear hb92
   obtain ⟨W93, hW⟩ : ∃ V, W92.alloc (.cells #[.int .u8 2] 5) = V := ⟨_, rfl⟩
   have hbl : Below W92.heap.size W92 W93 := by rw [← hW]; exact (Below.refl _ _).alloc (Nat.le_refl _) _
   have HN93 : Hid (Bs W93 (some ⟨W92.heap.size, 0, none⟩) [2]) := Lib.hid (lit_bs (t := 5) (f := (0, 0)) (by rw [← hW]; exact heap_alloc_new _ _))
   have HZ93 := Lib.hid hbl.size
   have HW93 := Lib.hid hW
   clear hW
   have HO9 := Lib.hid (HOW9.out.below hbl)
   have HB27 : Hid (Below w.heap.size w W93) := Lib.hid (bnext HB26.out (hbl))
   clear hbl
   go_wp2_with (first | (rw [HC9.out]; rw [HCV9.out]) | (rw [HW90.out]) | (with_reducible refine stop_at (some 106) rfl ?_; refine Lib.hid ?_; refine wpList_appX rfl (.tmp 104) (.tmp 105) 31 rfl (.slice (some ⟨e8.heap.size, 0, none⟩) 4 4) (.slice (some ⟨W9.heap.size, 0, none⟩) 2 2) v91 W91 rfl rfl HRN1.out ?_) | (with_reducible refine stop_at (some 108) rfl ?_; refine Lib.hid ?_; refine wpList_appZ rfl (.tmp 107) (.const (.int .i64 16)) 31 3 rfl v91 (.int .i64 16) (.slice (some ⟨g9, 0, none⟩) 22 k9) W92 rfl rfl HRN2.out ?_) | (rw [HW93.out]) | (at_builtin; refine Pk.app_at rfl (.tmp 108) (.tmp 109) rfl W90.heap.size (.slice (some ⟨g9, 0, none⟩) 22 k9) ([109, 117, 108, 49, 5, 6] ++ List.replicate 16 0 : List Nat) rfl HO9.out (some ⟨W92.heap.size, 0, none⟩) [2] 1 rfl (fun h => by cases h) HN93.out (by simp) (by have := HZ93.out; have := HLT9.out; omega) ?_; intro y9 z9 ho hg hn; have HBZ9 : Hid (Below w.heap.size w z9) := Lib.hid (HB27.out.grown hg HB27.out.size (fun k hk => Nat.le_trans HBD9.out.size (Pk.Own.blk HO9.out k hk))); have hsh := Cx.own_shape (n := 23) (own_px ho) rfl (by omega); clear ho hg hn; obtain ⟨p9, q9, rfl, hk1, hk2, hbs0⟩ := hsh; have HBX9 : Hid (Bs z9 (some ⟨p9, 0, none⟩) X9) := Lib.hid (bs_xp hbs0); clear hbs0))
   have HS9 : Hid (Calls Tryz.prog 27 #[.slice (some ⟨p9, 0, none⟩) 23 q9] z9 fun e w' => (∃ v, e = .returned v ∧ Pk.Own w' z9.heap.size v Q9) ∧ Below z9.heap.size z9 w') := Lib.hid (by rw [← HQ9.out]; exact Cx.seal_at X9 23 rfl _ rfl (some ⟨p9, 0, none⟩) q9 z9 (by_px (by_all (by kernel_rfl))) (by simp [X9]) (fun h => by cases h) (bs_px (HBX9.out)))
   refine HS9.out.mono ?_
   rintro e s9 ⟨⟨v9, rfl, hown⟩, hb⟩
   obtain ⟨o9, c9, rfl, hbs, hc, hcm, _, _⟩ := hown.open
   clear HS9
   have HB28 : Hid (Below w.heap.size w s9) := Lib.hid (bnext HBZ9.out (hb))
   have HBX9_28 := Lib.hid (HBX9.out.below (hb))
   clear HBX9
   clear hb
   have HPH9 := Lib.hid (phead_any Q9 o9 c9 s9 HQB9.out.1 HQB9.out.2 hc hcm hbs)
   unfold RetHd at HPH9
   rw [HHD9.out] at HPH9
   clear hown hbs hc hcm
   go_wp2_with fail
   refine HPH9.out.mono ?_
   rintro e h9 ⟨rfl, hb⟩
   have HB29 : Hid (Below w.heap.size w h9) := Lib.hid (bnext HB28.out (hb))
   have HBX9_29 := Lib.hid (HBX9_28.out.below (hb))
   clear HBX9_28
   clear hb HPH9
   have h22 : (22 : Int) ≤ (q9 : Int) := by omega
   go_wp2_with fail
   have HS10 : Hid (Calls Tryz.prog 27 #[.slice (some ⟨p9, 0, none⟩) 22 q9] h9 fun e w' => (∃ v, e = .returned v ∧ Pk.Own w' h9.heap.size v Q10) ∧ Below h9.heap.size h9 w') := Lib.hid (by rw [← HQ10.out]; exact Cx.seal_at (X9.take 22) 22 rfl _ rfl (some ⟨p9, 0, none⟩) q9 h9 (by_px (by_all (by kernel_rfl))) (by simp [X9]) (fun h => by cases h) (bs_px (HBX9_29.out.take 22)))
   refine HS10.out.mono ?_
   rintro e s10 ⟨⟨v10, rfl, hown⟩, hb⟩
   obtain ⟨o10, c10, rfl, hbs, hc, hcm, _, _⟩ := hown.open
   clear HS10
   have HB30 : Hid (Below w.heap.size w s10) := Lib.hid (bnext HB29.out (hb))
   have HBX9_30 := Lib.hid (HBX9_29.out.below (hb))
   clear HBX9_29
   clear hb
   have HPH10 := Lib.hid (phead_any Q10 o10 c10 s10 HQB10.out.1 HQB10.out.2 hc hcm hbs)
   unfold RetHd at HPH10
   rw [HHD10.out] at HPH10
   clear hown hbs hc hcm
   go_wp2_with fail
   refine HPH10.out.mono ?_
   rintro e h10 ⟨rfl, hb⟩
   have HB31 : Hid (Below w.heap.size w h10) := Lib.hid (bnext HB30.out (hb))
   have HBX9_31 := Lib.hid (HBX9_30.out.below (hb))
   clear HBX9_30
   clear hb HPH10
   clear h22
   go_wp2_with fail
   have HS11 : Hid (Calls Tryz.prog 27 #[.slice (some ⟨p9, 0, none⟩) 23 q9] h10 fun e w' => (∃ v, e = .returned v ∧ Pk.Own w' h10.heap.size v Q11) ∧ Below h10.heap.size h10 w') := Lib.hid (by rw [← HQ11.out]; exact Cx.seal_at X9 23 rfl _ rfl (some ⟨p9, 0, none⟩) q9 h10 (by_px (by_all (by kernel_rfl))) (by simp [X9]) (fun h => by cases h) (bs_px (HBX9_31.out)))
   refine HS11.out.mono ?_
   rintro e s11 ⟨⟨v11, rfl, hown⟩, hb⟩
   obtain ⟨o11, c11, rfl, hbs, hc, hcm, _, _⟩ := hown.open
   clear HS11
   have HB32 : Hid (Below w.heap.size w s11) := Lib.hid (bnext HB31.out (hb))
   have HBX9_32 := Lib.hid (HBX9_31.out.below (hb))
   clear HBX9_31
   clear hb
   have HPD11 := Lib.hid (pdecode_any Q11 o11 c11 s11 HQB11.out.1 HQB11.out.2 hc hcm hbs)
   unfold RetDe at HPD11
   rw [HD11.out] at HPD11
   clear hown hbs hc hcm
   go_wp2_with fail
   refine HPD11.out.mono ?_
   rintro e d11 ⟨⟨t11, rfl, hfr, _⟩, hb⟩
   have HB33 : Hid (Below w.heap.size w d11) := Lib.hid (bnext HB32.out (hb))
   have HBX9_33 := Lib.hid (HBX9_32.out.below (hb))
   clear HBX9_32
   clear hb HPD11
   obtain ⟨A11, hA⟩ : ∃ V, d11.alloc (.cells #[.int .i64 0, .int .i64 0, .int .i64 0, .int .i64 0, .int .i64 0, .int .i64 0, .int .i64 0, .int .i64 0, .int .i64 0, .int .i64 0, .int .i64 0, .int .i64 0, .int .i64 0, .int .i64 0, .int .i64 0, .int .i64 0, .int .i64 0, .int .i64 0, .slice none 0 0] 28) = V := ⟨_, rfl⟩
   obtain ⟨Y11, hY⟩ : ∃ V, A11.setRow d11.heap.size (scC t11) = V := ⟨_, rfl⟩
   have r5 : RowAt 28 d11.heap.size #[.int .i64 0, .int .i64 0, .int .i64 0, .int .i64 0, .int .i64 0, .int .i64 0, .int .i64 0, .int .i64 0, .int .i64 0, .int .i64 0, .int .i64 0, .int .i64 0, .int .i64 0, .int .i64 0, .int .i64 0, .int .i64 0, .int .i64 0, .int .i64 0, .slice none 0 0] A11 := by rw [← hA]; exact RowAt.new _ _ _
   have b6 : Below d11.heap.size d11 Y11 := by rw [← hY, ← hA]; exact Below.row ((Below.refl _ _).alloc (Nat.le_refl _) _) (Nat.le_refl _) _
   have HR11 := Lib.hid r5
   have hi11 := Lib.hid (sizeZ t11 hfr.wf (.slice t11.oo t11.os.length t11.oc))
   have hs11 := Lib.hid (show 19 = (scC t11).size from (twL_len hfr.wf (.slice t11.oo t11.os.length t11.oc)).symm)
   have ho11 := Lib.hid (show (scC t11).all (·.oneCell') = true from twL_one t11 (.slice t11.oo t11.os.length t11.oc) rfl)
   have HA11 := Lib.hid hA
   have HY11 := Lib.hid hY
   clear hA hY r5 hfr
   have HB34 : Hid (Below w.heap.size w Y11) := Lib.hid (bnext HB33.out (b6))
   have HBX9_34 := Lib.hid (HBX9_33.out.below (b6))
   clear HBX9_33
   clear b6
   clear HBX9_34
   have HJ12 := Lib.hid (pjoin_any [] none 0 Y11 ⟨⟨Nat.le_refl _, by omega⟩, fun _ => rfl⟩ (fun k z hk => by simp at hk) (fun _ _ => by rw [show (([] : List ScR).map keyS) = [] from rfl, film0_len]; omega))
   unfold RetJo at HJ12
   rw [join12, HQ12.out] at HJ12
   simp only [Option.getD_some] at HJ12
   go_wp2_with (first | (rw [HA11.out]) | (refine wpList_store_big rfl 28 (.tmp 28) (.tmp 132) rfl d11.heap.size _ _ (scC t11) rfl rfl HR11.out hi11.out hs11.out ho11.out ?_) | (rw [HY11.out]))
   refine HJ12.out.mono ?_
   rintro e j12 ⟨⟨v12, rfl, hown⟩, hb⟩
   obtain ⟨g12, c12, rfl, hk1, hk2, hbs0⟩ := Cx.own_shape (n := 9) (own_px hown) HL12.out (by omega)
   have hbs := bs_xp hbs0
   clear HJ12 hbs0 hown
   have HB35 : Hid (Below w.heap.size w j12) := Lib.hid (bnext HB34.out (hb))
   clear hb
   have HPS13 := Lib.hid (psplit_any Q12 (some ⟨g12, 0, none⟩) c12 j12 HQB12.out.1 HQB12.out.2 (by rw [HL12.out]; exact hk1) hk2 hbs)
   unfold RetSp at HPS13
   rw [HD12.out, HL12.out] at HPS13
   simp only [Option.getD_some] at HPS13
   have HBF := Lib.hid hbs
   clear hbs
   go_wp2_with fail
   refine HPS13.out.mono ?_
   rintro e x13 ⟨⟨v13, z13, rfl, hown, hfr, hkey⟩, hb⟩
   obtain ⟨o13, c13, rfl, hc13, _⟩ := scs_of hown hfr
   have hz13 : z13.length = 0 := by have := congrArg List.length hkey; simpa using this
   rw [hz13]
   clear hown hfr hkey hc13 hz13 HPS13
   have HB36 : Hid (Below w.heap.size w x13) := Lib.hid (bnext HB35.out (hb))
   have HBF_36 := Lib.hid (HBF.out.below (hb))
   clear HBF
   clear hb
   obtain ⟨M14, hM⟩ : ∃ V, x13.alloc (.cells mk101 28) = V := ⟨_, rfl⟩
   have hbm : Below x13.heap.size x13 M14 := by rw [← hM]; exact (Below.refl _ _).alloc (Nat.le_refl _) _
   have HM14 := Lib.hid hM
   have HJ14 := Lib.hid (pjoin_many 101 (some ⟨x13.heap.size, 0, none⟩) 101 M14 (by omega) (by omega) (by omega))
   clear hM
   have HB37 : Hid (Below w.heap.size w M14) := Lib.hid (bnext HB36.out (hbm))
   have HBF_37 := Lib.hid (HBF_36.out.below (hbm))
   clear HBF_36
   clear hbm
   go_wp2_with (first | (rw [makeS101]) | (rw [HM14.out]))
   refine HJ14.out.mono ?_
   rintro e j14 ⟨rfl, hb⟩
   have HB38 : Hid (Below w.heap.size w j14) := Lib.hid (bnext HB37.out (hb))
   have HBF_38 := Lib.hid (HBF_37.out.below (hb))
   clear HBF_37
   clear hb HJ14
   obtain ⟨M15, hM⟩ : ∃ V, j14.alloc (.cells (scC zeroS) 28) = V := ⟨_, rfl⟩
   have hbm : Below j14.heap.size j14 M15 := by rw [← hM]; exact (Below.refl _ _).alloc (Nat.le_refl _) _
   have hrow : M15.heap[j14.heap.size]? = some (.cells (scC zeroS) 28 (0, 0)) := by rw [← hM]; exact heap_alloc_new _ _
   have HM15 := Lib.hid hM
   have HJ15 := Lib.hid (pjoin_any [zeroS] (some ⟨j14.heap.size, 0, none⟩) 1 M15 ⟨⟨Nat.le_refl _, by omega⟩, fun h => by cases h⟩ (zero_scs hrow) (fun _ h => by rw [zero_no] at h; cases h))
   unfold RetJo at HJ15
   rw [join15] at HJ15
   clear hM hrow
   have HB39 : Hid (Below w.heap.size w M15) := Lib.hid (bnext HB38.out (hbm))
   have HBF_39 := Lib.hid (HBF_38.out.below (hbm))
   clear HBF_38
   clear hbm
   go_wp2_with (first | (rw [makeS1]) | (rw [HM15.out]))
   refine HJ15.out.mono ?_
   rintro e j15 ⟨⟨v15, rfl, _⟩, hb⟩
   have HB40 : Hid (Below w.heap.size w j15) := Lib.hid (bnext HB39.out (hb))
   have HBF_40 := Lib.hid (HBF_39.out.below (hb))
   clear HBF_39
   clear hb HJ15
   obtain ⟨C16, hC16⟩ : ∃ C : Array Value, #[.int .u8 109, .int .u8 117, .int .u8 108, .int .u8 102, .int .u8 1, .int .u8 0] = C := ⟨_, rfl⟩
   obtain ⟨W16, hW16⟩ : ∃ V, j15.alloc (.cells C16 5 (C16.size, C16.size + 1)) = V := ⟨_, rfl⟩
   have HCV16 := Lib.hid (run_convert_bytes_const (P := Tryz.prog) j15 31 5 C16 6 6 Tryz.underlying31 (by kernel_rfl))
   rw [hW16] at HCV16
   have HBS16 : Hid (Bs W16 (some ⟨j15.heap.size, 0, none⟩) [109, 117, 108, 102, 1, 0]) := Lib.hid (lit_bs (t := 5) (f := (C16.size, C16.size + 1)) (by rw [← hW16, ← show #[.int .u8 109, .int .u8 117, .int .u8 108, .int .u8 102, .int .u8 1, .int .u8 0] = C16 from hC16]; exact heap_alloc_new _ _))
   have hb16 : Below j15.heap.size j15 W16 := by rw [← hW16]; exact (Below.refl _ _).alloc (Nat.le_refl _) _
   have HC16 := Lib.hid hC16
   clear hC16 hW16
   have HB41 : Hid (Below w.heap.size w W16) := Lib.hid (bnext HB40.out (hb16))
   have HBF_41 := Lib.hid (HBF_40.out.below (hb16))
   clear HBF_40
   clear hb16
   go_wp2_with (first | (rw [HC16.out]; rw [HCV16.out]))
   have HS16 : Hid (Calls Tryz.prog 27 #[.slice (some ⟨j15.heap.size, 0, none⟩) 6 6] W16 fun e w' => (∃ v, e = .returned v ∧ Pk.Own w' W16.heap.size v Q16) ∧ Below W16.heap.size W16 w') := Lib.hid (by rw [← HQ16.out]; exact Cx.seal_at [109, 117, 108, 102, 1, 0] 6 rfl _ rfl (some ⟨j15.heap.size, 0, none⟩) 6 W16 (by_px (by_all (by kernel_rfl))) (by simp [X9]) (fun h => by cases h) (bs_px (HBS16.out)))
   refine HS16.out.mono ?_
   rintro e s16 ⟨⟨v16, rfl, hown⟩, hb⟩
   obtain ⟨o16, c16, rfl, hbs, hc, hcm, _, _⟩ := hown.open
   clear HS16
   have HB42 : Hid (Below w.heap.size w s16) := Lib.hid (bnext HB41.out (hb))
   have HBF_42 := Lib.hid (HBF_41.out.below (hb))
   clear HBF_41
   clear hb
   have HPS16 := Lib.hid (psplit_any Q16 o16 c16 s16 HQB16.out.1 HQB16.out.2 hc hcm hbs)
   unfold RetSp at HPS16
   rw [HD16.out] at HPS16
   clear hown hbs hc hcm
   go_wp2_with fail
   refine HPS16.out.mono ?_
   rintro e x16 ⟨⟨vx16, zx16, rfl, _⟩, hb⟩
   have HB43 : Hid (Below w.heap.size w x16) := Lib.hid (bnext HB42.out (hb))
   have HBF_43 := Lib.hid (HBF_42.out.below (hb))
   clear HBF_42
   clear hb HPS16
   obtain ⟨C17, hC17⟩ : ∃ C : Array Value, #[.int .u8 109, .int .u8 117, .int .u8 108, .int .u8 102, .int .u8 1] = C := ⟨_, rfl⟩
   obtain ⟨W17, hW17⟩ : ∃ V, x16.alloc (.cells C17 5 (C17.size, C17.size + 1)) = V := ⟨_, rfl⟩
   have HCV17 := Lib.hid (run_convert_bytes_const (P := Tryz.prog) x16 31 5 C17 5 5 Tryz.underlying31 (by kernel_rfl))
   rw [hW17] at HCV17
   have HBS17 : Hid (Bs W17 (some ⟨x16.heap.size, 0, none⟩) [109, 117, 108, 102, 1]) := Lib.hid (lit_bs (t := 5) (f := (C17.size, C17.size + 1)) (by rw [← hW17, ← show #[.int .u8 109, .int .u8 117, .int .u8 108, .int .u8 102, .int .u8 1] = C17 from hC17]; exact heap_alloc_new _ _))
   have hb17 : Below x16.heap.size x16 W17 := by rw [← hW17]; exact (Below.refl _ _).alloc (Nat.le_refl _) _
   have HC17 := Lib.hid hC17
   clear hC17 hW17
   have HB44 : Hid (Below w.heap.size w W17) := Lib.hid (bnext HB43.out (hb17))
   have HBF_44 := Lib.hid (HBF_43.out.below (hb17))
   clear HBF_43
   clear hb17
   go_wp2_with (first | (rw [HC17.out]; rw [HCV17.out]))
   have HS17 : Hid (Calls Tryz.prog 27 #[.slice (some ⟨x16.heap.size, 0, none⟩) 5 5] W17 fun e w' => (∃ v, e = .returned v ∧ Pk.Own w' W17.heap.size v Q17) ∧ Below W17.heap.size W17 w') := Lib.hid (by rw [← HQ17.out]; exact Cx.seal_at [109, 117, 108, 102, 1] 5 rfl _ rfl (some ⟨x16.heap.size, 0, none⟩) 5 W17 (by_px (by_all (by kernel_rfl))) (by simp [X9]) (fun h => by cases h) (bs_px (HBS17.out)))
   refine HS17.out.mono ?_
   rintro e s17 ⟨⟨v17, rfl, hown⟩, hb⟩
   obtain ⟨o17, c17, rfl, hbs, hc, hcm, _, _⟩ := hown.open
   clear HS17
   have HB45 : Hid (Below w.heap.size w s17) := Lib.hid (bnext HB44.out (hb))
   have HBF_45 := Lib.hid (HBF_44.out.below (hb))
   clear HBF_44
   clear hb
   have HPS17 := Lib.hid (psplit_any Q17 o17 c17 s17 HQB17.out.1 HQB17.out.2 hc hcm hbs)
   unfold RetSp at HPS17
   rw [HD17.out] at HPS17
   clear hown hbs hc hcm
   go_wp2_with fail
   refine HPS17.out.mono ?_
   rintro e x17 ⟨⟨vx17, zx17, rfl, _⟩, hb⟩
   have HB46 : Hid (Below w.heap.size w x17) := Lib.hid (bnext HB45.out (hb))
   have HBF_46 := Lib.hid (HBF_45.out.below (hb))
   clear HBF_45
   clear hb HPS17
   have hbf := HBF_46.out.take 5
   rw [HT12.out] at hbf
   have q1 := Pk.conv_bs (W := x17) (n := 5) c12 rfl hbf
   rw [show Pk.bstr [109, 117, 108, 102, 0] = ⟨#[109, 117, 108, 102, 0]⟩ from rfl] at q1
   have h5 : (5 : Int) ≤ (c12 : Int) := by omega
   have HALV := Lib.hid (alive7_any x17)
   clear hbf
   go_wp2_with fail
   refine HALV.out.mono ?_
   rintro e zz ⟨rfl, hb⟩
   have HE := Lib.hid (bnext HB46.out hb)
   clear hb HALV
   go_wp2_with fail
   go_ret
   exact ⟨rfl, HE.out⟩
end Go.Proofs.YtbbhmhihpdmoiaaGreat.Fx
