/- The chapter's examples, and what may not be: the law ViewNames, walked. -/
import Derived.Test.YtgkglkoipocgaaaProg
import Derived.Test.YtgkglkoipocgaaaZd
import Derived.Test.YtgkglkoipocgaaaMu
set_option linter.unusedVariables false
set_option linter.unusedSimpArgs false
namespace Go.Proofs.Ytgkglkoipocgaaa.Fx
open Go Go.RowKit Wm
theorem build_two10 {ops : Array Oper} {rest : List Oper} {o : Oper} {a : Act} {Q : Exit → Act → World → Prop} {W : World} (hgd : o.guard = none) (x y : Operand)
    (ho : o.op = .buildSlice 24 2 #[(0, x), (1, y)]) (la lb : List Value) (hx : a.eval x = .agg la.toArray) (hy : a.eval y = .agg lb.toArray) (ka : la.length = 4) (kb : lb.length = 4)
    (h : wpList Try.prog ops Q rest (a.put o.dst (.slice (some ⟨W.heap.size, 0, none⟩) 2 2)) (W.alloc (.cells (la ++ lb).toArray 23))) : wpList Try.prog ops Q (o :: rest) a W := by
  obtain ⟨i, zz, h2, h3, h4, h5, h6⟩ := infoG4.get
  refine wpList_buildSlice hgd 24 23 2 _ ho (la ++ lb).toArray i zz Try.underlying24 h2 h3 (by rw [h4]; omega) (by rw [h4]; omega) ?_ h
  rw [h4]
  have := Great.fill_whole (s := 4) (by omega) [.agg la.toArray, .agg lb.toArray] ((Array.range (2 * 4)).map (zz.cells[· % zz.cells.size]!)) (fun v hv => by
    simp only [List.mem_cons, List.not_mem_nil, or_false] at hv
    rcases hv with rfl | rfl <;> simp [Value.cells, ka, kb]) (by simp)
  simpa [Value.cells, hx, hy] using this
theorem two_vecs {a b : List Int} {g : Nat} {X : World} (ha : VecWf a) (hb : VecWf b) (h : RowAt 23 g (a.map encI ++ b.map encI).toArray X) : VecsAt X (some ⟨g, 0, none⟩) [a, b] := by
  have la : (a.map encI).length = 4 := by rw [List.length_map, ha.len]
  intro k z hk
  match k, hk with
  | 0, hk =>
    obtain rfl : a = z := by simpa using hk
    refine ⟨g, 0, rfl, fun i v hi => ?_, ha⟩
    have hl := (List.getElem?_eq_some_iff.1 hi).1
    rw [h.cell, show 0 + 0 * 4 + i = i by omega, List.getElem?_toArray, List.getElem?_append_left hl]
    exact hi
  | 1, hk =>
    obtain rfl : b = z := by simpa using hk
    refine ⟨g, 0, rfl, fun i v hi => ?_, hb⟩
    rw [h.cell, show 0 + 1 * 4 + i = 4 + i by omega, List.getElem?_toArray, List.getElem?_append_right (by omega), la, Nat.add_sub_cancel_left]
    exact hi
  | k + 2, hk => simp at hk
set_option maxRecDepth 100000 in
set_option maxHeartbeats 32000000 in
theorem law_viewNames (hp : View10) (ht : Thr10) (w : World) :
    Calls Try.prog 5 #[] w fun e w' => e = .returned (.bool true) ∧ Below w.heap.size w w' := by
  have N (x : Int) (h : -9223372036854775808 ≤ x ∧ x ≤ 9223372036854775807) : Num x := h
  have AL : Hid (Ans 24 #[] (.bool true)) := Lib.hid fun w => alive10_any hp w
  have D1 := Lib.hid (pCorner_at hp 12289 0 0 4096 4 2 [0, 0, 0] 100 (N _ (by omega)) (N _ (by omega)) (N _ (by omega)) (N _ (by omega)) (by decide +kernel) (by decide +kernel))
  rw [show mC [0, 0, 0] = #[.int .i64 0, .int .i64 0, .int .i64 0] from rfl] at D1
  have D2 := Lib.hid (pCorner_at hp 0 0 0 4095 4 2 [0, 0, 0] 100 (N _ (by omega)) (N _ (by omega)) (N _ (by omega)) (N _ (by omega)) (by decide +kernel) (by decide +kernel))
  rw [show mC [0, 0, 0] = #[.int .i64 0, .int .i64 0, .int .i64 0] from rfl] at D2
  have D3 := Lib.hid (pCorner_at hp 0 0 (-9) 4096 4 2 [32, 16, 0] 0 (N _ (by omega)) (N _ (by omega)) (N _ (by omega)) (N _ (by omega)) (by decide +kernel) (by decide +kernel))
  rw [show mC [32, 16, 0] = #[.int .i64 32, .int .i64 16, .int .i64 0] from rfl] at D3
  have D4 := Lib.hid (pCorner_at hp 0 0 8796093022208 4096 4 2 [0, 0, 0] 100 (N _ (by omega)) (N _ (by omega)) (N _ (by omega)) (N _ (by omega)) (by decide +kernel) (by decide +kernel))
  rw [show mC [0, 0, 0] = #[.int .i64 0, .int .i64 0, .int .i64 0] from rfl] at D4
  have D5 := Lib.hid (pCorner_at hp 0 0 0 8796093022208 4 2 [0, 0, 0] 100 (N _ (by omega)) (N _ (by omega)) (N _ (by omega)) (N _ (by omega)) (by decide +kernel) (by decide +kernel))
  rw [show mC [0, 0, 0] = #[.int .i64 0, .int .i64 0, .int .i64 0] from rfl] at D5
  have D6 := Lib.hid (pCorner_at hp 0 (-12289) 0 4096 4 2 [0, 0, 0] 100 (N _ (by omega)) (N _ (by omega)) (N _ (by omega)) (N _ (by omega)) (by decide +kernel) (by decide +kernel))
  rw [show mC [0, 0, 0] = #[.int .i64 0, .int .i64 0, .int .i64 0] from rfl] at D6
  have D7 := Lib.hid (pCorner_at hp 0 0 0 4096 65 2 [0, 0, 0] 100 (N _ (by omega)) (N _ (by omega)) (N _ (by omega)) (N _ (by omega)) (by decide +kernel) (by decide +kernel))
  rw [show mC [0, 0, 0] = #[.int .i64 0, .int .i64 0, .int .i64 0] from rfl] at D7
  have K8 : Hid (∀ X, Calls Try.prog 13 #[.slice none 0 0, .int .i64 4, .int .i64 0] X (RetCs [] 100 X)) := Lib.hid fun X => by
    have := hp.corners [] none 0 4 0 X (fun k z h => by simp at h) (by simp)
    rw [show cornsV [] 4 0 = [] by decide +kernel, show cornsE [] 4 0 = 100 by decide +kernel] at this
    exact this
  have K9 : Hid (∀ (X : World) (o : Option Addr), VecsAt X o [[12288, -12288, 0, 4096], [-12288, 12288, 9000, 4096]] → Calls Try.prog 13 #[.slice o 2 2, .int .i64 64, .int .i64 64] X (RetCs [[2048, 2048, 0], [-1024, -1024, 16777215]] 0 X)) := Lib.hid fun X o h => by
    have := hp.corners [[12288, -12288, 0, 4096], [-12288, 12288, 9000, 4096]] o 2 64 64 X h (by simp)
    rw [show cornsV [[12288, -12288, 0, 4096], [-12288, 12288, 9000, 4096]] 64 64 = [[2048, 2048, 0], [-1024, -1024, 16777215]] by decide +kernel, show cornsE [[12288, -12288, 0, 4096], [-12288, 12288, 9000, 4096]] 64 64 = 0 by decide +kernel] at this
    exact this
  have P1 : Hid (Ans 15 #[.agg #[.int .i64 32, .int .i64 16, .int .i64 0], .int .i64 4, .int .i64 2] (.tuple #[.int .i64 2, .int .i64 1, .bool true])) := Lib.hid fun w => by
    have := hp.pixel [32, 16, 0] 4 2 w rfl (fun j => by
      match j with
      | 0 => exact N _ (by decide)
      | 1 => exact N _ (by decide)
      | 2 => exact N _ (by decide)
      | j + 3 => exact ⟨by simp, by simp⟩)
    rw [show pixX [32, 16, 0] 4 2 = 2 by decide +kernel, show pixY [32, 16, 0] 4 2 = 1 by decide +kernel, show pixB [32, 16, 0] 4 2 = true by decide +kernel] at this
    exact this
  have P2 : Hid (Ans 15 #[.agg #[.int .i64 64, .int .i64 0, .int .i64 0], .int .i64 4, .int .i64 2] (.tuple #[.int .i64 0, .int .i64 0, .bool false])) := Lib.hid fun w => by
    have := hp.pixel [64, 0, 0] 4 2 w rfl (fun j => by
      match j with
      | 0 => exact N _ (by decide)
      | 1 => exact N _ (by decide)
      | 2 => exact N _ (by decide)
      | j + 3 => exact ⟨by simp, by simp⟩)
    rw [show pixX [64, 0, 0] 4 2 = 0 by decide +kernel, show pixY [64, 0, 0] 4 2 = 0 by decide +kernel, show pixB [64, 0, 0] 4 2 = false by decide +kernel] at this
    exact this
  have P3 : Hid (Ans 15 #[.agg #[.int .i64 63, .int .i64 (-1), .int .i64 0], .int .i64 4, .int .i64 2] (.tuple #[.int .i64 0, .int .i64 0, .bool false])) := Lib.hid fun w => by
    have := hp.pixel [63, -1, 0] 4 2 w rfl (fun j => by
      match j with
      | 0 => exact N _ (by decide)
      | 1 => exact N _ (by decide)
      | 2 => exact N _ (by decide)
      | j + 3 => exact ⟨by simp, by simp⟩)
    rw [show pixX [63, -1, 0] 4 2 = 0 by decide +kernel, show pixY [63, -1, 0] 4 2 = 0 by decide +kernel, show pixB [63, -1, 0] 4 2 = false by decide +kernel] at this
    exact this
  have CI : Hid (Ans 23 #[] (.agg (mC idl))) := Lib.hid fun w => identity_any w
  have KT : Hid (∀ X, Calls Try.prog 20 #[.agg (mC idl), .slice none 0 0] X (RetTh [] 0 X)) := Lib.hid fun X => by
    have := ht idl [] none 0 X rfl (fun j => by
      unfold idl
      match j with
      | 0 | 1 | 2 | 3 | 4 | 5 | 6 | 7 | 8 | 9 | 10 | 11 | 12 | 13 | 14 | 15 => decide
      | j + 16 => exact ⟨by simp [scl], by simp [scl]⟩) (fun k z h => by simp at h) (by simp)
    rw [show thrV idl [] = [] by decide +kernel, show thrE idl [] = 0 by decide +kernel] at this
    exact this
  have WF : Hid (VecWf [12288, -12288, 0, 4096] ∧ VecWf [-12288, 12288, 9000, 4096]) := Lib.hid ⟨wf4n _ _ _ _ (N _ (by omega)) (N _ (by omega)) (N _ (by omega)) (N _ (by omega)), wf4n _ _ _ _ (N _ (by omega)) (N _ (by omega)) (N _ (by omega)) (N _ (by omega))⟩
  clear N hp ht
  have B0 : Hid (Below w.heap.size w w) := Lib.hid (Below.refl _ _)
  go_enter Try.func5, Try.ntmps5
  go_wp2_with fail
  refine (D1.out _).mono ?_
  rintro e w1 ⟨rfl, hb⟩
  have B2 := Lib.hid (bnext B0.out hb)
  clear hb B0 D1
  have Z3 : Hid (RowAt 26 w1.heap.size #[.int .i64 0, .int .i64 0, .int .i64 0] (w1.alloc (.cells #[.int .i64 0, .int .i64 0, .int .i64 0] 26))) := Lib.hid (RowAt.new _ _ _)
  obtain ⟨v3, hv⟩ : ∃ X, (w1.alloc (.cells #[.int .i64 0, .int .i64 0, .int .i64 0] 26)).setRow w1.heap.size #[.int .i64 0, .int .i64 0, .int .i64 0] = X := ⟨_, rfl⟩
  obtain ⟨g3, hg⟩ : ∃ g, w1.heap.size = g := ⟨_, rfl⟩
  have bb : Below w1.heap.size w1 v3 := by rw [← hv]; exact Below.row ((Below.refl _ _).alloc (Nat.le_refl _) _) (Nat.le_refl _) _
  have HG3 : Hid (w1.heap.size = g3) := Lib.hid hg
  have M3 : Hid (w.heap.size ≤ g3) := Lib.hid (by rw [← hg]; exact B2.out.size)
  have B4 := Lib.hid (bnext B2.out bb)
  have RY4 : Hid (RowAt 26 g3 #[.int .i64 0, .int .i64 0, .int .i64 0] v3) := Lib.hid (by rw [← hv, ← hg]; exact Z3.out.row _)
  have HV3 := Lib.hid hv
  clear hv hg bb B2
  go_wp2_with (first | (rw [HV3.out, HG3.out]) | (rw [HV3.out]) | (refine wpList_store_big rfl 26 (.tmp 1) (.tmp 35) rfl w1.heap.size _ _ #[.int .i64 0, .int .i64 0, .int .i64 0] rfl rfl Z3.out (by kernel_rfl) rfl (by kernel_rfl) ?_))
  refine (D2.out _).mono ?_
  rintro e w5 ⟨rfl, hb⟩
  have B6 := Lib.hid (bnext B4.out hb)
  clear hb B4 D2 Z3 HV3 HG3 RY4
  have Z7 : Hid (RowAt 26 w5.heap.size #[.int .i64 0, .int .i64 0, .int .i64 0] (w5.alloc (.cells #[.int .i64 0, .int .i64 0, .int .i64 0] 26))) := Lib.hid (RowAt.new _ _ _)
  obtain ⟨v7, hv⟩ : ∃ X, (w5.alloc (.cells #[.int .i64 0, .int .i64 0, .int .i64 0] 26)).setRow w5.heap.size #[.int .i64 0, .int .i64 0, .int .i64 0] = X := ⟨_, rfl⟩
  obtain ⟨g7, hg⟩ : ∃ g, w5.heap.size = g := ⟨_, rfl⟩
  have bb : Below w5.heap.size w5 v7 := by rw [← hv]; exact Below.row ((Below.refl _ _).alloc (Nat.le_refl _) _) (Nat.le_refl _) _
  have HG7 : Hid (w5.heap.size = g7) := Lib.hid hg
  have M7 : Hid (w.heap.size ≤ g7) := Lib.hid (by rw [← hg]; exact B6.out.size)
  have B8 := Lib.hid (bnext B6.out bb)
  have RY8 : Hid (RowAt 26 g7 #[.int .i64 0, .int .i64 0, .int .i64 0] v7) := Lib.hid (by rw [← hv, ← hg]; exact Z7.out.row _)
  have HV7 := Lib.hid hv
  clear hv hg bb B6
  go_wp2_with (first | (rw [HV7.out, HG7.out]) | (rw [HV7.out]) | (refine wpList_store_big rfl 26 (.tmp 3) (.tmp 40) rfl w5.heap.size _ _ #[.int .i64 0, .int .i64 0, .int .i64 0] rfl rfl Z7.out (by kernel_rfl) rfl (by kernel_rfl) ?_))
  refine (D3.out _).mono ?_
  rintro e w9 ⟨rfl, hb⟩
  have B10 := Lib.hid (bnext B8.out hb)
  clear hb B8 D3 Z7 HV7 HG7 RY8
  have Z11 : Hid (RowAt 26 w9.heap.size #[.int .i64 0, .int .i64 0, .int .i64 0] (w9.alloc (.cells #[.int .i64 0, .int .i64 0, .int .i64 0] 26))) := Lib.hid (RowAt.new _ _ _)
  obtain ⟨v11, hv⟩ : ∃ X, (w9.alloc (.cells #[.int .i64 0, .int .i64 0, .int .i64 0] 26)).setRow w9.heap.size #[.int .i64 32, .int .i64 16, .int .i64 0] = X := ⟨_, rfl⟩
  obtain ⟨g11, hg⟩ : ∃ g, w9.heap.size = g := ⟨_, rfl⟩
  have bb : Below w9.heap.size w9 v11 := by rw [← hv]; exact Below.row ((Below.refl _ _).alloc (Nat.le_refl _) _) (Nat.le_refl _) _
  have HG11 : Hid (w9.heap.size = g11) := Lib.hid hg
  have M11 : Hid (w.heap.size ≤ g11) := Lib.hid (by rw [← hg]; exact B10.out.size)
  have B12 := Lib.hid (bnext B10.out bb)
  have RA12 : Hid (RowAt 26 g11 #[.int .i64 32, .int .i64 16, .int .i64 0] v11) := Lib.hid (by rw [← hv, ← hg]; exact Z11.out.row _)
  have HV11 := Lib.hid hv
  clear hv hg bb B10
  go_wp2_with (first | (rw [HV11.out, HG11.out]) | (rw [HV11.out]) | (refine wpList_store_big rfl 26 (.tmp 5) (.tmp 45) rfl w9.heap.size _ _ #[.int .i64 32, .int .i64 16, .int .i64 0] rfl rfl Z11.out (by kernel_rfl) rfl (by kernel_rfl) ?_))
  refine (D4.out _).mono ?_
  rintro e w13 ⟨rfl, hb⟩
  have RA14 := Lib.hid (RA12.out.below hb)
  have B14 := Lib.hid (bnext B12.out hb)
  clear hb RA12 B12 D4 Z11 HV11 HG11
  have Z15 : Hid (RowAt 26 w13.heap.size #[.int .i64 0, .int .i64 0, .int .i64 0] (w13.alloc (.cells #[.int .i64 0, .int .i64 0, .int .i64 0] 26))) := Lib.hid (RowAt.new _ _ _)
  obtain ⟨v15, hv⟩ : ∃ X, (w13.alloc (.cells #[.int .i64 0, .int .i64 0, .int .i64 0] 26)).setRow w13.heap.size #[.int .i64 0, .int .i64 0, .int .i64 0] = X := ⟨_, rfl⟩
  obtain ⟨g15, hg⟩ : ∃ g, w13.heap.size = g := ⟨_, rfl⟩
  have bb : Below w13.heap.size w13 v15 := by rw [← hv]; exact Below.row ((Below.refl _ _).alloc (Nat.le_refl _) _) (Nat.le_refl _) _
  have HG15 : Hid (w13.heap.size = g15) := Lib.hid hg
  have M15 : Hid (w.heap.size ≤ g15) := Lib.hid (by rw [← hg]; exact B14.out.size)
  have L15_A : Hid (g11 < g15) := Lib.hid (by rw [← hg]; exact RA14.out.lt)
  have RA16 := Lib.hid (RA14.out.below bb)
  have B16 := Lib.hid (bnext B14.out bb)
  have RY16 : Hid (RowAt 26 g15 #[.int .i64 0, .int .i64 0, .int .i64 0] v15) := Lib.hid (by rw [← hv, ← hg]; exact Z15.out.row _)
  have HV15 := Lib.hid hv
  clear hv hg bb RA14 B14
  go_wp2_with (first | (rw [HV15.out, HG15.out]) | (rw [HV15.out]) | (refine wpList_store_big rfl 26 (.tmp 7) (.tmp 50) rfl w13.heap.size _ _ #[.int .i64 0, .int .i64 0, .int .i64 0] rfl rfl Z15.out (by kernel_rfl) rfl (by kernel_rfl) ?_))
  refine (D5.out _).mono ?_
  rintro e w17 ⟨rfl, hb⟩
  have RA18 := Lib.hid (RA16.out.below hb)
  have B18 := Lib.hid (bnext B16.out hb)
  clear hb RA16 B16 D5 Z15 HV15 HG15 RY16
  have Z19 : Hid (RowAt 26 w17.heap.size #[.int .i64 0, .int .i64 0, .int .i64 0] (w17.alloc (.cells #[.int .i64 0, .int .i64 0, .int .i64 0] 26))) := Lib.hid (RowAt.new _ _ _)
  obtain ⟨v19, hv⟩ : ∃ X, (w17.alloc (.cells #[.int .i64 0, .int .i64 0, .int .i64 0] 26)).setRow w17.heap.size #[.int .i64 0, .int .i64 0, .int .i64 0] = X := ⟨_, rfl⟩
  obtain ⟨g19, hg⟩ : ∃ g, w17.heap.size = g := ⟨_, rfl⟩
  have bb : Below w17.heap.size w17 v19 := by rw [← hv]; exact Below.row ((Below.refl _ _).alloc (Nat.le_refl _) _) (Nat.le_refl _) _
  have HG19 : Hid (w17.heap.size = g19) := Lib.hid hg
  have M19 : Hid (w.heap.size ≤ g19) := Lib.hid (by rw [← hg]; exact B18.out.size)
  have L19_A : Hid (g11 < g19) := Lib.hid (by rw [← hg]; exact RA18.out.lt)
  have RA20 := Lib.hid (RA18.out.below bb)
  have B20 := Lib.hid (bnext B18.out bb)
  have RY20 : Hid (RowAt 26 g19 #[.int .i64 0, .int .i64 0, .int .i64 0] v19) := Lib.hid (by rw [← hv, ← hg]; exact Z19.out.row _)
  have HV19 := Lib.hid hv
  clear hv hg bb RA18 B18
  go_wp2_with (first | (rw [HV19.out, HG19.out]) | (rw [HV19.out]) | (refine wpList_store_big rfl 26 (.tmp 9) (.tmp 55) rfl w17.heap.size _ _ #[.int .i64 0, .int .i64 0, .int .i64 0] rfl rfl Z19.out (by kernel_rfl) rfl (by kernel_rfl) ?_))
  refine (D6.out _).mono ?_
  rintro e w21 ⟨rfl, hb⟩
  have RA22 := Lib.hid (RA20.out.below hb)
  have B22 := Lib.hid (bnext B20.out hb)
  clear hb RA20 B20 D6 Z19 HV19 HG19 RY20
  have Z23 : Hid (RowAt 26 w21.heap.size #[.int .i64 0, .int .i64 0, .int .i64 0] (w21.alloc (.cells #[.int .i64 0, .int .i64 0, .int .i64 0] 26))) := Lib.hid (RowAt.new _ _ _)
  obtain ⟨v23, hv⟩ : ∃ X, (w21.alloc (.cells #[.int .i64 0, .int .i64 0, .int .i64 0] 26)).setRow w21.heap.size #[.int .i64 0, .int .i64 0, .int .i64 0] = X := ⟨_, rfl⟩
  obtain ⟨g23, hg⟩ : ∃ g, w21.heap.size = g := ⟨_, rfl⟩
  have bb : Below w21.heap.size w21 v23 := by rw [← hv]; exact Below.row ((Below.refl _ _).alloc (Nat.le_refl _) _) (Nat.le_refl _) _
  have HG23 : Hid (w21.heap.size = g23) := Lib.hid hg
  have M23 : Hid (w.heap.size ≤ g23) := Lib.hid (by rw [← hg]; exact B22.out.size)
  have L23_A : Hid (g11 < g23) := Lib.hid (by rw [← hg]; exact RA22.out.lt)
  have RA24 := Lib.hid (RA22.out.below bb)
  have B24 := Lib.hid (bnext B22.out bb)
  have RY24 : Hid (RowAt 26 g23 #[.int .i64 0, .int .i64 0, .int .i64 0] v23) := Lib.hid (by rw [← hv, ← hg]; exact Z23.out.row _)
  have HV23 := Lib.hid hv
  clear hv hg bb RA22 B22
  go_wp2_with (first | (rw [HV23.out, HG23.out]) | (rw [HV23.out]) | (refine wpList_store_big rfl 26 (.tmp 11) (.tmp 60) rfl w21.heap.size _ _ #[.int .i64 0, .int .i64 0, .int .i64 0] rfl rfl Z23.out (by kernel_rfl) rfl (by kernel_rfl) ?_))
  refine (D7.out _).mono ?_
  rintro e w25 ⟨rfl, hb⟩
  have RA26 := Lib.hid (RA24.out.below hb)
  have B26 := Lib.hid (bnext B24.out hb)
  clear hb RA24 B24 D7 Z23 HV23 HG23 RY24
  have Z27 : Hid (RowAt 26 w25.heap.size #[.int .i64 0, .int .i64 0, .int .i64 0] (w25.alloc (.cells #[.int .i64 0, .int .i64 0, .int .i64 0] 26))) := Lib.hid (RowAt.new _ _ _)
  obtain ⟨v27, hv⟩ : ∃ X, (w25.alloc (.cells #[.int .i64 0, .int .i64 0, .int .i64 0] 26)).setRow w25.heap.size #[.int .i64 0, .int .i64 0, .int .i64 0] = X := ⟨_, rfl⟩
  obtain ⟨g27, hg⟩ : ∃ g, w25.heap.size = g := ⟨_, rfl⟩
  have bb : Below w25.heap.size w25 v27 := by rw [← hv]; exact Below.row ((Below.refl _ _).alloc (Nat.le_refl _) _) (Nat.le_refl _) _
  have HG27 : Hid (w25.heap.size = g27) := Lib.hid hg
  have M27 : Hid (w.heap.size ≤ g27) := Lib.hid (by rw [← hg]; exact B26.out.size)
  have L27_A : Hid (g11 < g27) := Lib.hid (by rw [← hg]; exact RA26.out.lt)
  have RA28 := Lib.hid (RA26.out.below bb)
  have B28 := Lib.hid (bnext B26.out bb)
  have RY28 : Hid (RowAt 26 g27 #[.int .i64 0, .int .i64 0, .int .i64 0] v27) := Lib.hid (by rw [← hv, ← hg]; exact Z27.out.row _)
  have HV27 := Lib.hid hv
  clear hv hg bb RA26 B26
  go_wp2_with (first | (rw [HV27.out, HG27.out]) | (rw [HV27.out]) | (refine wpList_store_big rfl 26 (.tmp 13) (.tmp 65) rfl w25.heap.size _ _ #[.int .i64 0, .int .i64 0, .int .i64 0] rfl rfl Z27.out (by kernel_rfl) rfl (by kernel_rfl) ?_))
  refine (K8.out _).mono ?_
  rintro e w29 ⟨v8, rfl, ho, hb⟩
  have RA30 := Lib.hid (RA28.out.below hb)
  have B30 := Lib.hid (bnext B28.out hb)
  clear hb RA28 B28 ho K8 Z27 HV27 HG27 RY28
  obtain ⟨u31, hv⟩ : ∃ X, w29.alloc (.cells ([12288, -12288, 0, 4096].map encI ++ [-12288, 12288, 9000, 4096].map encI).toArray 23) = X := ⟨_, rfl⟩
  have bb : Below w29.heap.size w29 u31 := by rw [← hv]; exact (Below.refl _ _).alloc (Nat.le_refl _) _
  have CK := Lib.hid (K9.out u31 (some ⟨w29.heap.size, 0, none⟩) (two_vecs WF.out.1 WF.out.2 (by rw [← hv]; exact RowAt.new _ _ _)))
  have HU := Lib.hid hv
  clear K9 WF hv
  have RA32 := Lib.hid (RA30.out.below bb)
  have B32 := Lib.hid (bnext B30.out bb)
  clear bb RA30 B30
  go_wp2_with (first | (rw [HU.out]) | (refine build_two10 rfl (.tmp 72) (.tmp 73) rfl ([12288, -12288, 0, 4096].map encI) ([-12288, 12288, 9000, 4096].map encI) rfl rfl rfl rfl ?_))
  refine CK.out.mono ?_
  rintro e w33 ⟨v9, rfl, ho, hb⟩
  have RA34 := Lib.hid (RA32.out.below hb)
  have B34 := Lib.hid (bnext B32.out hb)
  clear hb RA32 B32 CK HU
  obtain ⟨o9, c9, rfl, _, hat⟩ := OwnC.form ho (by decide)
  rw [show (List.length ([[2048, 2048, 0], [-1024, -1024, 16777215]] : List (List Int))) = 2 from rfl]
  have HA0 := Lib.hid hat
  clear ho hat
  go_wp2_with fail
  refine (P1.out _).mono ?_
  rintro e w35 ⟨rfl, hb⟩
  have RA36 := Lib.hid (RA34.out.below hb)
  have HA36 := Lib.hid (HA0.out.below hb)
  have B36 := Lib.hid (bnext B34.out hb)
  clear hb RA34 HA0 B34 P1
  go_wp2_with fail
  refine (P2.out _).mono ?_
  rintro e w37 ⟨rfl, hb⟩
  have RA38 := Lib.hid (RA36.out.below hb)
  have HA38 := Lib.hid (HA36.out.below hb)
  have B38 := Lib.hid (bnext B36.out hb)
  clear hb RA36 HA36 B36 P2
  go_wp2_with fail
  refine (P3.out _).mono ?_
  rintro e w39 ⟨rfl, hb⟩
  have RA40 := Lib.hid (RA38.out.below hb)
  have HA40 := Lib.hid (HA38.out.below hb)
  have B40 := Lib.hid (bnext B38.out hb)
  clear hb RA38 HA38 B38 P3
  go_wp2_with fail
  refine (CI.out _).mono ?_
  rintro e w41 ⟨rfl, hb⟩
  have RA42 := Lib.hid (RA40.out.below hb)
  have HA42 := Lib.hid (HA40.out.below hb)
  have B42 := Lib.hid (bnext B40.out hb)
  clear hb RA40 HA40 B40 CI
  go_wp2_with fail
  refine (KT.out _).mono ?_
  rintro e w43 ⟨v14, rfl, ho, hb⟩
  have RA44 := Lib.hid (RA42.out.below hb)
  have HA44 := Lib.hid (HA42.out.below hb)
  have B44 := Lib.hid (bnext B42.out hb)
  clear hb RA42 HA42 B42 KT
  obtain ⟨o14, c14, rfl, _, _⟩ := OwnK.form ho (by simp)
  rw [show (List.length ([] : List (List Int))) = 0 from rfl]
  clear ho
  obtain ⟨b9, f9, e9, hr0, _⟩ := HA44.out.get (k := 0) (by decide)
  obtain ⟨b8, f8, e8, hr1, _⟩ := HA44.out.get (k := 1) (by decide)
  subst e9
  obtain ⟨rfl, rfl⟩ : b9 = b8 ∧ f9 = f8 := by cases e8; exact ⟨rfl, rfl⟩
  have Q0 : Hid (w43.rangeAt b9 f9 [.int .i64 2048, .int .i64 2048, .int .i64 0]) := Lib.hid (by have := hr0; rw [Nat.zero_mul, Nat.add_zero] at this; exact this)
  have Q1 : Hid (w43.rangeAt b9 (f9 + 3) [.int .i64 (-1024), .int .i64 (-1024), .int .i64 16777215]) := Lib.hid hr1
  clear hr0 hr1 e8
  have QA45 : Hid (w43.rangeAt g11 0 [.int .i64 32, .int .i64 16, .int .i64 0]) := Lib.hid (row_range RA44.out)
  go_wp2_with (first | (refine wpList_mid10g rfl 26 (.tmp 5) rfl g11 0 rfl [.int .i64 32, .int .i64 16, .int .i64 0] _ QA45.out Try.underlying26 rfl (by kernel_rfl) ?_) | (refine wpList_mid10g rfl 26 (.tmp 145) rfl b9 (f9) rfl [.int .i64 2048, .int .i64 2048, .int .i64 0] _ Q0.out Try.underlying26 rfl (by kernel_rfl) ?_) | (refine wpList_mid10g rfl 26 (.tmp 152) rfl b9 (f9 + 3) rfl [.int .i64 (-1024), .int .i64 (-1024), .int .i64 16777215] _ Q1.out Try.underlying26 rfl (by kernel_rfl) ?_))
  refine (AL.out _).mono ?_
  rintro e w46 ⟨rfl, hb⟩
  have RA47 := Lib.hid (RA44.out.below hb)
  have HA47 := Lib.hid (HA44.out.below hb)
  have B47 := Lib.hid (bnext B44.out hb)
  clear hb RA44 HA44 B44 AL QA45
  go_wp2_with fail
  go_ret
  exact ⟨rfl, B47.out⟩
end Go.Proofs.Ytgkglkoipocgaaa.Fx
