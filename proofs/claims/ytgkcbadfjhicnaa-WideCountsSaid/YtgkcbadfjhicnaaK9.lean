/- WideCounts: the cases joined. -/
import Derived.Test.YtgkcbadfjhicnaaProg
import Derived.Test.YtgkcbadfjhicnaaK6
import Derived.Test.YtgkcbadfjhicnaaK7
import Derived.Test.YtgkcbadfjhicnaaK8
import Derived.OpenShut
set_option linter.unusedVariables false
set_option linter.unusedSimpArgs false
namespace Go.Proofs.Ytgkcbadfjhicnaa.Fx
open Go Go.RowKit Wm
theorem wf_at {h l : Int} (wh : (Lit.int .i64 h).wf = true) (wl : (Lit.int .u64 l).wf = true) : ∃ n : Nat, l = (n : Int) ∧ At (h * 18446744073709551616 + l) h n := by
  obtain ⟨a, b⟩ := bounds_i64 wh
  obtain ⟨c, d⟩ := bounds_u64 wl
  refine ⟨l.toNat, by omega, ?_⟩
  unfold At
  omega
theorem exW {f : Nat} {args : Array Value} {z h : Int} {l : Nat} {w : World} (H : Calls Try.prog f args w (RetW z w)) (hat : At z h l) :
    Calls Try.prog f args w fun e w' => e = .returned (.agg #[.int .i64 h, .int .u64 l]) ∧ Below w.heap.size w w' :=
  H.mono fun e w' ⟨a, b, he, ha, hb⟩ => ⟨by rw [he, (ha.uniq hat).1, (ha.uniq hat).2], hb⟩
theorem exE {f : Nat} {args : Array Value} {z h g : Int} {l : Nat} {w : World} (H : Calls Try.prog f args w (RetE z w)) (hat : At (valE z) h l) (hg : errE z = g) :
    Calls Try.prog f args w fun e w' => e = .returned (.tuple #[.agg #[.int .i64 h, .int .u64 l], .int .i64 g]) ∧ Below w.heap.size w w' :=
  H.mono fun e w' ⟨a, b, he, ha, hb⟩ => ⟨by rw [he, (ha.uniq hat).1, (ha.uniq hat).2, hg], hb⟩
theorem exT {f : Nat} {args : Array Value} {z h : Int} {l : Nat} {w : World} (H : Calls Try.prog f args w (RetT z w)) (hi : In z) (hat : At z h l) :
    Calls Try.prog f args w fun e w' => e = .returned (.tuple #[.agg #[.int .i64 h, .int .u64 l], .bool true]) ∧ Below w.heap.size w w' :=
  H.mono fun e w' ⟨a, b, he, ha, hb⟩ => by
    rw [show valE z = z from if_pos hi] at ha
    exact ⟨by rw [he, (ha.uniq hat).1, (ha.uniq hat).2, decide_eq_true hi], hb⟩
theorem valE_in (z : Int) : In (valE z) := by
  unfold valE
  split
  · assumption
  · unfold In; omega
theorem less_b {x y : Int} {b : Bool} (w : World) (h : x.natAbs + y.natAbs < BB) (hb : decide (x < y) = b) : Calls Try.prog 18 #[.agg (bv x), .agg (bv y)] w fun e w' => e = .returned (.bool b) ∧ Below w.heap.size w w' := by
  have := less_z x y w h
  rw [hb] at this
  exact this
theorem e18 : (65536 : Nat) ^ 18 = 497323236409786642155382248146820840100456150797347717440463976893159497012533375533056 := by decide
theorem eBB : BB = 65536 ^ 20 := rfl
theorem e20 : (65536 : Nat) ^ 20 = 65536 ^ 18 * 4294967296 := by decide
theorem law_wideCounts (a : Int) (wa : (Lit.int .i64 a).wf = true) (b : Int) (wb : (Lit.int .i64 b).wf = true) (xh : Int) (wxh : (Lit.int .i64 xh).wf = true) (xl0 : Int) (wxl : (Lit.int .u64 xl0).wf = true) (yh : Int) (wyh : (Lit.int .i64 yh).wf = true) (yl0 : Int) (wyl : (Lit.int .u64 yl0).wf = true) (w : World) :
    Calls Try.prog 3 #[.int .i64 a, .int .i64 b, .agg #[.int .i64 xh, .int .u64 xl0], .agg #[.int .i64 yh, .int .u64 yl0]] w fun e w' => e = .returned (.bool true) ∧ Below w.heap.size w w' := by
  obtain ⟨xl, hxl, ax⟩ := wf_at wxh wxl
  obtain ⟨yl, hyl, ay⟩ := wf_at wyh wyl
  subst hxl hyl
  obtain ⟨ha0, ha1⟩ := bounds_i64 wa
  obtain ⟨hb0, hb1⟩ := bounds_i64 wb
  obtain ⟨X, hX⟩ : ∃ X, xh * 18446744073709551616 + (xl : Int) = X := ⟨_, rfl⟩
  obtain ⟨Y, hY⟩ : ∃ Y, yh * 18446744073709551616 + (yl : Int) = Y := ⟨_, rfl⟩
  rw [hX] at ax
  rw [hY] at ay
  have iX := ax.inn
  have iY := ay.inn
  have nX : X.natAbs ≤ 170141183460469231731687303715884105728 := by unfold In at iX; omega
  have nY : Y.natAbs ≤ 170141183460469231731687303715884105728 := by unfold In at iY; omega
  have iP : In (a * b) := mul_in a b ha0 ha1 hb0 hb1
  have nP : (a * b).natAbs ≤ 170141183460469231731687303715884105728 := by unfold In at iP; omega
  have iA : In a := by unfold In; omega
  obtain ⟨mh, ml, am⟩ := At.ex iP
  obtain ⟨nh, nl, an⟩ := At.ex iA
  obtain ⟨sh, sl, asx⟩ := At.ex (valE_in (X + Y))
  obtain ⟨uh, ul, au⟩ := At.ex (valE_in (X - Y))
  have e63 : (2 : Int) ^ 63 = 9223372036854775808 := by decide
  have hB := eBB
  rw [e20] at hB
  have h18 := e18
  have cF1 := Lib.hid fun w => from_z X xh xl w ax
  have cF2 := Lib.hid fun w => from_z Y yh yl w ay
  have cOa := Lib.hid fun w => of_z a w ha0 ha1
  have cOb := Lib.hid fun w => of_z b w hb0 hb1
  have cMu := Lib.hid fun w => mul_z a b w (by omega) (by omega)
  have cT1 := Lib.hid fun w => exT (to_z (a * b) w (by omega)) iP am
  have cT2 := Lib.hid fun w => exT (to_z a w (by omega)) iA an
  have cWA := Lib.hid fun w => exE (add_any X Y xh yh xl yl w ax ay) asx rfl
  have cA1 := Lib.hid fun w => add_z X Y w (by omega)
  have cC1 := Lib.hid fun w => exE (cut_z (X + Y) w (by omega)) asx rfl
  have cWS := Lib.hid fun w => exE (sub_any X Y xh yh xl yl w ax ay) au rfl
  have cN := Lib.hid fun w => neg_z Y w (by omega)
  have cA2 := Lib.hid fun w => add_z X (-Y) w (by omega)
  have cC2 := Lib.hid fun w => exE (cut_z (X + -Y) w (by omega)) (h := uh) (l := ul) (by rw [show X + -Y = X - Y by omega]; exact au) (by rw [show X + -Y = X - Y by omega])
  have cL1 := Lib.hid fun w => less_z X Y w (by omega)
  have cL2 := Lib.hid fun w => less_z Y X w (by omega)
  have cTw := Lib.hid fun w => two_63 w
  have cNt := Lib.hid fun w => neg_z (2 ^ 63) w (by rw [e63]; omega)
  have cWM := Lib.hid fun w => exW (mul_any a b w ha0 ha1 hb0 hb1) am
  have cWO := Lib.hid fun w => exW (of_any a w ha0 ha1) an
  have cWC := Lib.hid fun w => cmp_any X Y xh yh xl yl w ax ay
  have cWG := Lib.hid fun w => sign_w X xh xl w ax
  have cWZ := Lib.hid fun w => cmp_any X 0 xh 0 xl 0 w ax At.zero
  have hc : Hid (cmpI X Y = if decide (Y < X) = true then 1 else if decide (X < Y) = true then -1 else 0) := Lib.hid (by
    simp only [decide_eq_true_eq]
    unfold cmpI
    split <;> split <;> (try split) <;> omega)
  by_cases h1 : In64 X
  · have g1 := h1
    unfold In64 at g1
    have cWI := Lib.hid fun w => int_any X xh xl w ax
    rw [if_pos h1, if_pos h1] at cWI
    exact counts_fit a b X Y (a * b) (X + Y) (-Y) (X + -Y) (2 ^ 63) (-2 ^ 63) X xh yh mh nh sh uh _ _ _ _ xl yl ml nl sl ul _ _ w cF1 cF2 cOa cOb cMu cT1 cT2 cWA cA1 cC1 cWS cN cA2 cC2 cL1 cL2 cWI
      (Lib.hid fun w => of_z X w (by omega) (by omega)) (Lib.hid fun w => exT (to_z X w (by omega)) iX ax) cTw cNt
      (Lib.hid fun w => less_b w (by rw [e63]; omega) (decide_eq_false (by rw [e63]; omega))) (Lib.hid fun w => less_b w (by rw [e63]; omega) (decide_eq_true (by rw [e63]; omega))) cWM cWO cWC cWG cWZ hc
  · have g1 := h1
    unfold In64 at g1
    have cWI := Lib.hid fun w => int_any X xh xl w ax
    rw [if_neg h1, if_neg h1] at cWI
    by_cases h2 : X < -9223372036854775808
    · exact counts_small a b X Y (a * b) (X + Y) (-Y) (X + -Y) (2 ^ 63) (-2 ^ 63) xh yh mh nh sh uh 0 _ _ _ _ xl yl ml nl sl ul 0 _ _ w cF1 cF2 cOa cOb cMu cT1 cT2 cWA cA1 cC1 cWS cN cA2 cC2 cL1 cL2 cWI
        (Lib.hid fun w => of_z 0 w (by omega) (by omega)) (Lib.hid fun w => exT (to_z 0 w (by decide)) (by unfold In; omega) At.zero) cTw cNt
        (Lib.hid fun w => less_b w (by rw [e63]; omega) (decide_eq_true (by rw [e63]; omega))) cWM cWO cWC cWG cWZ hc
    · exact counts_big a b X Y (a * b) (X + Y) (-Y) (X + -Y) (2 ^ 63) (-2 ^ 63) xh yh mh nh sh uh 0 _ _ _ _ xl yl ml nl sl ul 0 _ _ w cF1 cF2 cOa cOb cMu cT1 cT2 cWA cA1 cC1 cWS cN cA2 cC2 cL1 cL2 cWI
        (Lib.hid fun w => of_z 0 w (by omega) (by omega)) (Lib.hid fun w => exT (to_z 0 w (by decide)) (by unfold In; omega) At.zero) cTw cNt
        (Lib.hid fun w => less_b w (by rw [e63]; omega) (decide_eq_false (by rw [e63]; omega))) (Lib.hid fun w => less_b w (by rw [e63]; omega) (decide_eq_false (by rw [e63]; omega))) cWM cWO cWC cWG cWZ hc
end Go.Proofs.Ytgkcbadfjhicnaa.Fx
