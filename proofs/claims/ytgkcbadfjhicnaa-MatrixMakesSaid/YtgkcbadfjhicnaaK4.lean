/- The document's To and Cut: their answers. -/
import Derived.Test.YtgkcbadfjhicnaaProg
import Derived.Test.YtgkcbadfjhicnaaK3
import Derived.Test.YtgkcbadfjhicnaaWe
set_option linter.unusedVariables false
set_option linter.unusedSimpArgs false
namespace Go.Proofs.Ytgkcbadfjhicnaa.Fx
open Go Go.RowKit Wm
def RetT (x : Int) (w : World) (e : Ending) (w' : World) : Prop := ∃ h : Int, ∃ l : Nat, e = .returned (.tuple #[.agg #[.int .i64 h, .int .u64 l], .bool (decide (In x))]) ∧ At (valE x) h l ∧ Below w.heap.size w w'
theorem to_z (x : Int) (w : World) (hx : x.natAbs < 65536 ^ 18) : Calls Try.prog 10 #[.agg (bv x)] w (RetT x w) := by
  have e127 : (2 : Int) ^ 127 = 170141183460469231731687303715884105728 := by decide
  have e128 : (2 : Int) ^ 128 = 340282366920938463463374607431768211456 := by decide
  have e4 : (65536 : Nat) ^ 4 = 18446744073709551616 := by decide
  have e18 : (65536 : Nat) ^ 18 < BB - 340282366920938463463374607431768211456 := by decide
  have cT : Hid (Ans 20 #[.int .i64 127] (.agg (bv (2 ^ 127)))) := Lib.hid fun w => two_127 w
  have cT2 : Hid (Ans 20 #[.int .i64 128] (.agg (bv (2 ^ 128)))) := Lib.hid fun w => two_128 w
  have cN : Hid (Ans 17 #[.agg (bv (2 ^ 127))] (.agg (bv (-2 ^ 127)))) := Lib.hid fun w => neg_z _ w (by decide)
  have cL := fun w => less_z x (2 ^ 127) w (by rw [e127]; omega)
  have cL2 := fun w => less_z x (-2 ^ 127) w (by rw [e127]; omega)
  by_cases h1 : x < 2 ^ 127
  · rw [decide_eq_true h1] at cL
    by_cases h2 : x < -2 ^ 127
    · rw [decide_eq_true h2] at cL2
      refine (to_small x (2 ^ 127) (-2 ^ 127) w cT (Lib.hid cL) cN (Lib.hid cL2)).mono ?_
      rintro e w' ⟨rfl, hb⟩
      have hn : ¬ In x := by unfold In; rw [e127] at h2; omega
      exact ⟨0, 0, by rw [decide_eq_false hn]; rfl, by unfold valE; rw [if_neg hn]; exact At.zero, hb⟩
    · rw [decide_eq_false h2] at cL2
      have hn : In x := by unfold In; rw [e127] at h1 h2; omega
      rw [e127] at h1 h2
      by_cases h0 : x < 0
      · obtain ⟨y, hy⟩ : ∃ y : Nat, x + 2 ^ 128 = (y : Int) := ⟨(x + 2 ^ 128).natAbs, by rw [e128]; omega⟩
        have hy2 := hy
        rw [e128] at hy2
        obtain ⟨lo, hlo⟩ : ∃ lo, y % 65536 ^ 4 = lo := ⟨_, rfl⟩
        obtain ⟨hi, hhi⟩ : ∃ hi, y / 65536 ^ 4 % 65536 ^ 4 = hi := ⟨_, rfl⟩
        have hlo2 := hlo
        have hhi2 := hhi
        rw [e4] at hlo2 hhi2
        have hh : IntKind.i64.wrap (hi : Int) = (hi : Int) - 18446744073709551616 := by rw [IntKind.wrap_i64]; omega
        refine (to_neg x (2 ^ 127) (-2 ^ 127) (2 ^ 128) y lo hi _ w cT (Lib.hid cL) cN (Lib.hid cL2) (Lib.hid hlo) (Lib.hid hhi) hh (Lib.hid h0) cT2 (Lib.hid fun w => by
          have := add_z x (2 ^ 128) w (by rw [e128]; omega)
          rw [hy] at this
          exact this)).mono ?_
        rintro e w' ⟨rfl, hb⟩
        exact ⟨_, _, by rw [decide_eq_true hn], by unfold valE; rw [if_pos hn]; unfold At; omega, hb⟩
      · obtain ⟨y, hy⟩ : ∃ y : Nat, x = (y : Int) := ⟨x.natAbs, by omega⟩
        obtain ⟨lo, hlo⟩ : ∃ lo, y % 65536 ^ 4 = lo := ⟨_, rfl⟩
        obtain ⟨hi, hhi⟩ : ∃ hi, y / 65536 ^ 4 % 65536 ^ 4 = hi := ⟨_, rfl⟩
        have hlo2 := hlo
        have hhi2 := hhi
        rw [e4] at hlo2 hhi2
        have hh : IntKind.i64.wrap (hi : Int) = (hi : Int) := by rw [IntKind.wrap_i64]; omega
        refine (to_pos x (2 ^ 127) (-2 ^ 127) y lo hi _ w cT (Lib.hid cL) cN (Lib.hid cL2) (Lib.hid hlo) (Lib.hid hhi) hh (Lib.hid hy)).mono ?_
        rintro e w' ⟨rfl, hb⟩
        exact ⟨_, _, by rw [decide_eq_true hn], by unfold valE; rw [if_pos hn]; unfold At; omega, hb⟩
  · rw [decide_eq_false h1] at cL
    refine (to_big x (2 ^ 127) w cT (Lib.hid cL)).mono ?_
    rintro e w' ⟨rfl, hb⟩
    have hn : ¬ In x := by unfold In; rw [e127] at h1; omega
    exact ⟨0, 0, by rw [decide_eq_false hn]; rfl, by unfold valE; rw [if_neg hn]; exact At.zero, hb⟩
set_option maxRecDepth 100000 in
set_option maxHeartbeats 4000000 in
theorem cut_yes (x h : Int) (l : Nat) (w : World) (cT : Hid (Ans 10 #[.agg (bv x)] (.tuple #[.agg #[.int .i64 h, .int .u64 l], .bool true]))) :
    Calls Try.prog 14 #[.agg (bv x)] w fun e w' => e = .returned (.tuple #[.agg #[.int .i64 h, .int .u64 l], .int .i64 0]) ∧ Below w.heap.size w w' := by
  have HX : Hid (BigAt w.heap.size x ((w.alloc (.cells (bv x) 27)).alloc (.cells #[.int .i64 0, .int .u64 0] 24))) := Lib.hid (step_row (heap_alloc_new _ _))
  have HR : Hid (WideAt (w.heap.size + 1) 0 0 ((w.alloc (.cells (bv x) 27)).alloc (.cells #[.int .i64 0, .int .u64 0] 24))) := Lib.hid (heap_alloc2_new _ _ _)
  have HB : Hid (Below w.heap.size w ((w.alloc (.cells (bv x) 27)).alloc (.cells #[.int .i64 0, .int .u64 0] 24))) := Lib.hid (by go_grown)
  go_enter Try.func14, Try.ntmps14
  go_wp2_with (refine wpList_load_row rfl 27 (.tmp 1) rfl (w.heap.size) rfl _ _ _ _ HX.out Try.underlying27 rfl (bv_info _) ?_)
  refine (cT.out _).mono ?_
  rintro e w1 ⟨rfl, hb1⟩
  have HR1 : Hid (WideAt (w.heap.size + 1) 0 0 (w1.alloc (.cells #[.int .i64 h, .int .u64 l] 24))) := Lib.hid (step_row (WideAt.below hb1 HR.out))
  have HB0 := bnext HB.out hb1
  have HB1 : Hid (Below w.heap.size w (w1.alloc (.cells #[.int .i64 h, .int .u64 l] 24))) := Lib.hid (HB0.alloc HB0.size _)
  have HW1 : Hid (WideAt w1.heap.size h l (w1.alloc (.cells #[.int .i64 h, .int .u64 l] 24))) := Lib.hid (heap_alloc_new _ _)
  have c0 := HR1.out.c0
  have c1 := HR1.out.c1
  have f0 := HR1.out.fr 0
  have f1 := HR1.out.fr 1
  have d0 := HW1.out.c0
  have d1 := HW1.out.c1
  clear hb1 HX HR HB HB0
  go_wp2_with fail
  (try simp only [Exit.inBlock, Exit.then])
  refine bodyPost_ret (v := .tuple #[.agg #[.int .i64 h, .int .u64 l], .int .i64 0]) (results_row_tmp rfl _ _ (w.heap.size + 1) _ _ _ _ _ rfl (WideAt.put2 (h := h) (l := l) HR1.out) Try.underlying24 rfl (by kernel_rfl) rfl) rfl ?_
  exact ⟨rfl, Below.put2 HB1.out (by omega) _ _⟩
set_option maxRecDepth 100000 in
set_option maxHeartbeats 4000000 in
theorem cut_no (x h : Int) (l : Nat) (w : World) (cT : Hid (Ans 10 #[.agg (bv x)] (.tuple #[.agg #[.int .i64 h, .int .u64 l], .bool false]))) :
    Calls Try.prog 14 #[.agg (bv x)] w fun e w' => e = .returned (.tuple #[.agg #[.int .i64 0, .int .u64 0], .int .i64 20]) ∧ Below w.heap.size w w' := by
  have HX : Hid (BigAt w.heap.size x ((w.alloc (.cells (bv x) 27)).alloc (.cells #[.int .i64 0, .int .u64 0] 24))) := Lib.hid (step_row (heap_alloc_new _ _))
  have HR : Hid (WideAt (w.heap.size + 1) 0 0 ((w.alloc (.cells (bv x) 27)).alloc (.cells #[.int .i64 0, .int .u64 0] 24))) := Lib.hid (heap_alloc2_new _ _ _)
  have HB : Hid (Below w.heap.size w ((w.alloc (.cells (bv x) 27)).alloc (.cells #[.int .i64 0, .int .u64 0] 24))) := Lib.hid (by go_grown)
  go_enter Try.func14, Try.ntmps14
  go_wp2_with (refine wpList_load_row rfl 27 (.tmp 1) rfl (w.heap.size) rfl _ _ _ _ HX.out Try.underlying27 rfl (bv_info _) ?_)
  refine (cT.out _).mono ?_
  rintro e w1 ⟨rfl, hb1⟩
  have HR1 : Hid (WideAt (w.heap.size + 1) 0 0 (w1.alloc (.cells #[.int .i64 h, .int .u64 l] 24))) := Lib.hid (step_row (WideAt.below hb1 HR.out))
  have HB0 := bnext HB.out hb1
  have HB1 : Hid (Below w.heap.size w (w1.alloc (.cells #[.int .i64 h, .int .u64 l] 24))) := Lib.hid (HB0.alloc HB0.size _)
  have HW1 : Hid (WideAt w1.heap.size h l (w1.alloc (.cells #[.int .i64 h, .int .u64 l] 24))) := Lib.hid (heap_alloc_new _ _)
  have c0 := HR1.out.c0
  have c1 := HR1.out.c1
  have f0 := HR1.out.fr 0
  have f1 := HR1.out.fr 1
  have d0 := HW1.out.c0
  have d1 := HW1.out.c1
  clear hb1 HX HR HB HB0
  go_wp2_with fail
  (try simp only [Exit.inBlock, Exit.then])
  refine bodyPost_ret (v := .tuple #[.agg #[.int .i64 0, .int .u64 0], .int .i64 20]) (results_row_tmp rfl _ _ (w.heap.size + 1) _ _ _ _ _ rfl (WideAt.put2 (h := 0) (l := 0) HR1.out) Try.underlying24 rfl (by kernel_rfl) rfl) rfl ?_
  exact ⟨rfl, Below.put2 HB1.out (by omega) _ _⟩
theorem cut_z (x : Int) (w : World) (hx : x.natAbs < 65536 ^ 18) : Calls Try.prog 14 #[.agg (bv x)] w (RetE x w) := by
  by_cases hn : In x
  · obtain ⟨h, l, a⟩ := At.ex hn
    have ev : valE x = x := if_pos hn
    refine (cut_yes x h l w (Lib.hid fun w => (to_z x w hx).mono ?_)).mono ?_
    · rintro e w' ⟨h', l', rfl, a', hb⟩
      rw [ev] at a'
      exact ⟨by rw [(a.uniq a').1, (a.uniq a').2, decide_eq_true hn], hb⟩
    · rintro e w' ⟨rfl, hb⟩
      exact ⟨h, l, by unfold errE; rw [if_pos hn], by rw [ev]; exact a, hb⟩
  · have ev : valE x = 0 := if_neg hn
    refine (cut_no x 0 0 w (Lib.hid fun w => (to_z x w hx).mono ?_)).mono ?_
    · rintro e w' ⟨h', l', rfl, a', hb⟩
      rw [ev] at a'
      exact ⟨by rw [(a'.uniq At.zero).1, (a'.uniq At.zero).2, decide_eq_false hn], hb⟩
    · rintro e w' ⟨rfl, hb⟩
      exact ⟨0, 0, by unfold errE; rw [if_neg hn]; rfl, by rw [ev]; exact At.zero, hb⟩
end Go.Proofs.Ytgkcbadfjhicnaa.Fx
