/- A corner is within its bounds and in its pixel: the law ViewBounds, walked. -/
import Derived.Test.YtgkglkoipocgaaaProg
import Derived.Test.YtgkglkoipocgaaaLwz
set_option linter.unusedVariables false
set_option linter.unusedSimpArgs false
namespace Go.Proofs.Ytgkglkoipocgaaa.Fx
open Go Go.RowKit Wm
/-- what a corner and its pixel are -/
theorem bound_code {a b c d W H x0 x1 x2 : Int} (hx : cornV [a, b, c, d] W H = [x0, x1, x2]) (h : cornE [a, b, c, d] W H = 0) :
    (1 ≤ W ∧ W ≤ 64) ∧ (1 ≤ H ∧ H ≤ 64) ∧ (-16 * W ≤ x0 ∧ x0 ≤ 32 * W) ∧ (-16 * H ≤ x1 ∧ x1 ≤ 32 * H) ∧ (0 ≤ x2 ∧ x2 ≤ 16777215) ∧ (4096 ≤ d ∧ d < 8796093022208) ∧
    (pixB [x0, x1, x2] W H = true ↔ (-d ≤ a ∧ a < d) ∧ (-d < b ∧ b ≤ d)) ∧ (pixB [x0, x1, x2] W H = true → (0 ≤ x0 ∧ x0 < 16 * W) ∧ (0 ≤ x1 ∧ x1 < 16 * H) ∧ pixX [x0, x1, x2] W H = x0 / 16 ∧ pixY [x0, x1, x2] W H = x1 / 16) ∧ (pixB [x0, x1, x2] W H = false → pixX [x0, x1, x2] W H = 0 ∧ pixY [x0, x1, x2] W H = 0) := by
  obtain ⟨_, hs, hv⟩ | ⟨h2, _⟩ := corn_code [a, b, c, d] W H
  · rw [cornV_seen hs hv] at hx
    have hr := corn_range hs hv
    have hp := corn_pix hs hv
    obtain ⟨s1, s2⟩ := (size_iff W H).1 hs
    obtain ⟨hm, hn, _, _⟩ := (seen_iff _).1 hv
    have hb := may_nums hm
    unfold cornK at hx
    injection hx with e0 hx
    injection hx with e1 hx
    injection hx with e2 hx
    rw [e0, e1, e2] at hr
    unfold cornK at hp
    rw [e0, e1, e2] at hp
    refine ⟨s1, s2, hr.1, hr.2.1, hr.2.2, ⟨hn, hb.2.2.2.2⟩, hp, fun g => ?_, fun g => pix_no g⟩
    have hg := (pix_iff _ _ _).1 g
    refine ⟨hg.2.1, hg.2.2, ?_, ?_⟩
    · unfold pixX; rw [if_pos g]; rfl
    · unfold pixY; rw [if_pos g]; rfl
  · rw [h2] at h; cases h
set_option maxRecDepth 100000 in
set_option maxHeartbeats 16000000 in
theorem viewBounds_walk (hp : View10) (a b c d W H e1 x0 x1 x2 : Int) (w : World) (na : Num a) (nb : Num b) (nc : Num c) (nd : Num d) (h1 : cornV [a, b, c, d] W H = [x0, x1, x2]) (h2 : cornE [a, b, c, d] W H = e1) :
    Calls Try.prog 8 #[.agg #[.int .i64 a, .int .i64 b, .int .i64 c, .int .i64 d], .int .i64 W, .int .i64 H] w (RetBool true w) := by
  have AL : Hid (Ans 24 #[] (.bool true)) := Lib.hid fun w => alive10_any hp w
  have C1 := Lib.hid (pCorner_at hp a b c d W H [x0, x1, x2] e1 na nb nc nd h1 h2)
  rw [show mC [x0, x1, x2] = #[.int .i64 x0, .int .i64 x1, .int .i64 x2] from rfl] at C1
  have HP := Lib.hid hp
  have HX : Hid (e1 = 0 → _) := Lib.hid (fun g => bound_code h1 (by rw [h2]; exact g))
  have RV0 : Hid (RowAt 23 w.heap.size #[.int .i64 a, .int .i64 b, .int .i64 c, .int .i64 d] (w.alloc (.cells #[.int .i64 a, .int .i64 b, .int .i64 c, .int .i64 d] 23))) := Lib.hid (RowAt.new _ _ _)
  have B0 : Hid (Below w.heap.size w (w.alloc (.cells #[.int .i64 a, .int .i64 b, .int .i64 c, .int .i64 d] 23))) := Lib.hid (by go_grown)
  clear hp h1 h2 na nb nc nd
  go_enter Try.func8, Try.ntmps8
  go_wp2_with fail
  generalize (w.alloc (.cells #[.int .i64 a, .int .i64 b, .int .i64 c, .int .i64 d] 23)) = w0 at RV0 B0 ⊢
  refine (AL.out _).mono ?_
  rintro e w1 ⟨rfl, hb⟩
  have RV2 := Lib.hid (RV0.out.below hb)
  have B2 := Lib.hid (bnext B0.out hb)
  clear hb RV0 B0 AL
  have QV3 : Hid (w1.rangeAt (w.heap.size) 0 [.int .i64 a, .int .i64 b, .int .i64 c, .int .i64 d]) := Lib.hid (row_range RV2.out)
  go_wp2_with (refine wpList_mid10g rfl 23 (.tmp 3) rfl w.heap.size 0 rfl [.int .i64 a, .int .i64 b, .int .i64 c, .int .i64 d] _ QV3.out Try.underlying23 rfl (by kernel_rfl) ?_)
  refine (C1.out _).mono ?_
  rintro e w4 ⟨rfl, hb⟩
  have RV5 := Lib.hid (RV2.out.below hb)
  have B5 := Lib.hid (bnext B2.out hb)
  clear hb RV2 B2 C1 QV3
  have Z6 : Hid (RowAt 26 w4.heap.size #[.int .i64 0, .int .i64 0, .int .i64 0] (w4.alloc (.cells #[.int .i64 0, .int .i64 0, .int .i64 0] 26))) := Lib.hid (RowAt.new _ _ _)
  obtain ⟨v6, hv⟩ : ∃ X, (w4.alloc (.cells #[.int .i64 0, .int .i64 0, .int .i64 0] 26)).setRow w4.heap.size #[.int .i64 x0, .int .i64 x1, .int .i64 x2] = X := ⟨_, rfl⟩
  obtain ⟨g6, hg⟩ : ∃ g, w4.heap.size = g := ⟨_, rfl⟩
  have bb : Below w4.heap.size w4 v6 := by rw [← hv]; exact Below.row ((Below.refl _ _).alloc (Nat.le_refl _) _) (Nat.le_refl _) _
  have HG6 : Hid (w4.heap.size = g6) := Lib.hid hg
  have M6 : Hid (w.heap.size ≤ g6) := Lib.hid (by rw [← hg]; exact B5.out.size)
  have L6_V : Hid (w.heap.size < g6) := Lib.hid (by rw [← hg]; exact RV5.out.lt)
  have RV7 := Lib.hid (RV5.out.below bb)
  have B7 := Lib.hid (bnext B5.out bb)
  have RC7 : Hid (RowAt 26 g6 #[.int .i64 x0, .int .i64 x1, .int .i64 x2] v6) := Lib.hid (by rw [← hv, ← hg]; exact Z6.out.row _)
  have HV6 := Lib.hid hv
  clear hv hg bb RV5 B5
  by_cases he : e1 = 0
  · subst he
    obtain ⟨sW, sH, r0, r1, r2, nd, HPI, HP1, HP0⟩ := HX.out rfl
    have PI := Lib.hid HPI
    have PY := Lib.hid HP1
    have PN := Lib.hid HP0
    clear HPI HP1 HP0 HX
    have m1 : -9223372036854775808 ≤ -16 * W ∧ -16 * W ≤ 9223372036854775807 := by omega
    have m2 : -9223372036854775808 ≤ 32 * W ∧ 32 * W ≤ 9223372036854775807 := by omega
    have m3 : -9223372036854775808 ≤ -16 * H ∧ -16 * H ≤ 9223372036854775807 := by omega
    have m4 : -9223372036854775808 ≤ 32 * H ∧ 32 * H ≤ 9223372036854775807 := by omega
    have m5 : -9223372036854775808 ≤ -d ∧ -d ≤ 9223372036854775807 := by omega
    have k1 : ¬ x0 < -16 * W := by omega
    have k2 : ¬ 32 * W < x0 := by omega
    have k3 : ¬ x1 < -16 * H := by omega
    have k4 : ¬ 32 * H < x1 := by omega
    have k5 : ¬ x2 < 0 := by omega
    have k6 : ¬ 16777215 < x2 := by omega
    have RG := Lib.hid (And.intro sW (And.intro sH (And.intro r0 r1)))
    clear sW sH r0 r1 r2 nd
    have c8_0 : v6.cell? ⟨g6, 0, none⟩ = some (.int .i64 x0) := by rw [RC7.out.cell]; rfl
    have c8_1 : v6.cell? ⟨g6, 1, none⟩ = some (.int .i64 x1) := by rw [RC7.out.cell]; rfl
    have c8_2 : v6.cell? ⟨g6, 2, none⟩ = some (.int .i64 x2) := by rw [RC7.out.cell]; rfl
    have z8 : g6 < v6.heap.size := RC7.out.lt
    have CP : Hid (Ans 15 #[.agg #[.int .i64 x0, .int .i64 x1, .int .i64 x2], .int .i64 W, .int .i64 H] (.tuple #[.int .i64 (pixX [x0, x1, x2] W H), .int .i64 (pixY [x0, x1, x2] W H), .bool (pixB [x0, x1, x2] W H)])) := Lib.hid fun w => HP.out.pixel [x0, x1, x2] W H w rfl (fun j => by
      have := RG.out
      match j with
      | 0 => exact ⟨by simp; omega, by simp; omega⟩
      | 1 => exact ⟨by simp; omega, by simp; omega⟩
      | 2 => exact ⟨by simp; omega, by simp; omega⟩
      | j + 3 => exact ⟨by simp, by simp⟩)
    generalize pixX [x0, x1, x2] W H = px at CP PI PY PN
    generalize pixY [x0, x1, x2] W H = py at CP PI PY PN
    generalize pixB [x0, x1, x2] W H = pb at CP PI PY PN
    clear HP
    have QC9 : Hid (v6.rangeAt g6 0 [.int .i64 x0, .int .i64 x1, .int .i64 x2]) := Lib.hid (row_range RC7.out)
    go_wp2_with (first | (rw [HV6.out, HG6.out]) | (rw [HV6.out]) | (refine wpList_store_big rfl 26 (.tmp 8) (.tmp 20) rfl w4.heap.size _ _ #[.int .i64 x0, .int .i64 x1, .int .i64 x2] rfl rfl Z6.out (by kernel_rfl) rfl (by kernel_rfl) ?_) | (refine wpList_mid10g rfl 26 (.tmp 8) rfl g6 0 rfl [.int .i64 x0, .int .i64 x1, .int .i64 x2] _ QC9.out Try.underlying26 rfl (by kernel_rfl) ?_))
    refine (CP.out _).mono ?_
    rintro e w10 ⟨rfl, hb⟩
    have RV11 := Lib.hid (RV7.out.below hb)
    have RC11 := Lib.hid (RC7.out.below hb)
    have B11 := Lib.hid (bnext B7.out hb)
    clear hb RV7 RC7 B7 CP Z6 HV6 HG6 c8_0 c8_1 c8_2 z8 QC9
    clear m1 m2 m3 m4 k1 k2 k3 k4 k5 k6
    have c12_0 : w10.cell? ⟨w.heap.size, 0, none⟩ = some (.int .i64 a) := by rw [RV11.out.cell]; rfl
    have c12_1 : w10.cell? ⟨w.heap.size, 1, none⟩ = some (.int .i64 b) := by rw [RV11.out.cell]; rfl
    have c12_3 : w10.cell? ⟨w.heap.size, 3, none⟩ = some (.int .i64 d) := by rw [RV11.out.cell]; rfl
    have z12 : w.heap.size < w10.heap.size := RV11.out.lt
    have c13_0 : w10.cell? ⟨g6, 0, none⟩ = some (.int .i64 x0) := by rw [RC11.out.cell]; rfl
    have c13_1 : w10.cell? ⟨g6, 1, none⟩ = some (.int .i64 x1) := by rw [RC11.out.cell]; rfl
    have z13 : g6 < w10.heap.size := RC11.out.lt
    by_cases h0 : -d ≤ a
    · skip
      by_cases h1 : a < d
      · skip
        by_cases h2 : -d < b
        · skip
          by_cases h3 : b ≤ d
          · skip
            obtain rfl : pb = true := PI.out.2 ⟨⟨h0, h1⟩, h2, h3⟩
            obtain ⟨q0, q1, rfl, rfl⟩ := PY.out rfl
            have HR := Lib.hid (And.intro q0 q1)
            obtain ⟨px, hpx⟩ : ∃ p, x0 / 16 = p := ⟨_, rfl⟩
            obtain ⟨py, hpy⟩ : ∃ p, x1 / 16 = p := ⟨_, rfl⟩
            rw [hpx, hpy]
            have a0 : 0 ≤ px := by omega
            have a1 : px < W := by omega
            have a2 : 0 ≤ py := by omega
            have a3 : py < H := by omega
            have a4 : 16 * px ≤ x0 := by omega
            have a5 : x0 < 16 * px + 16 := by omega
            have a6 : 16 * py ≤ x1 := by omega
            have a7 : x1 < 16 * py + 16 := by omega
            have u1 : -9223372036854775808 ≤ 16 * px ∧ 16 * px ≤ 9223372036854775807 := by have := RG.out; omega
            have u2 : -9223372036854775808 ≤ 16 * px + 16 ∧ 16 * px + 16 ≤ 9223372036854775807 := by have := RG.out; omega
            have u3 : -9223372036854775808 ≤ 16 * py ∧ 16 * py ≤ 9223372036854775807 := by have := RG.out; omega
            have u4 : -9223372036854775808 ≤ 16 * py + 16 ∧ 16 * py + 16 ≤ 9223372036854775807 := by have := RG.out; omega
            clear hpx hpy q0 q1 PI PY PN RG
            go_wp2_with fail
            go_ret
            exact ⟨rfl, B11.out⟩
          · obtain rfl : pb = false := Bool.eq_false_iff.2 (fun g => by have := PI.out.1 g; omega)
            obtain ⟨rfl, rfl⟩ := PN.out rfl
            clear PI PY PN RG
            go_wp2_with fail
            go_ret
            exact ⟨rfl, B11.out⟩
        · obtain rfl : pb = false := Bool.eq_false_iff.2 (fun g => by have := PI.out.1 g; omega)
          obtain ⟨rfl, rfl⟩ := PN.out rfl
          clear PI PY PN RG
          go_wp2_with fail
          go_ret
          exact ⟨rfl, B11.out⟩
      · obtain rfl : pb = false := Bool.eq_false_iff.2 (fun g => by have := PI.out.1 g; omega)
        obtain ⟨rfl, rfl⟩ := PN.out rfl
        clear PI PY PN RG
        go_wp2_with fail
        go_ret
        exact ⟨rfl, B11.out⟩
    · obtain rfl : pb = false := Bool.eq_false_iff.2 (fun g => by have := PI.out.1 g; omega)
      obtain ⟨rfl, rfl⟩ := PN.out rfl
      clear PI PY PN RG
      go_wp2_with fail
      go_ret
      exact ⟨rfl, B11.out⟩
  · have hne : ¬ e1 = 0 := he
    clear HX
    go_wp2_with (first | (rw [HV6.out, HG6.out]) | (rw [HV6.out]) | (refine wpList_store_big rfl 26 (.tmp 8) (.tmp 20) rfl w4.heap.size _ _ #[.int .i64 x0, .int .i64 x1, .int .i64 x2] rfl rfl Z6.out (by kernel_rfl) rfl (by kernel_rfl) ?_))
    go_ret
    exact ⟨rfl, B7.out⟩
theorem law_viewBounds (hp : View10) (v : List Int) (lv : v.length = 4) (wv : ∀ j, -9223372036854775808 ≤ v.getD j 0 ∧ v.getD j 0 ≤ 9223372036854775807) (W : Int) (wW : (Lit.int .i64 W).wf = true) (H : Int) (wH : (Lit.int .i64 H).wf = true) (w : World) :
    Calls Try.prog 8 #[.agg (mC v), .int .i64 W, .int .i64 H] w fun e w' => e = .returned (.bool true) ∧ Below w.heap.size w w' := by
  rw [list4 lv]
  obtain ⟨x0, x1, x2, hx⟩ := list3 (cornV_len [v.getD 0 0, v.getD 1 0, v.getD 2 0, v.getD 3 0] W H)
  exact viewBounds_walk hp _ _ _ _ W H _ x0 x1 x2 w (wv 0) (wv 1) (wv 2) (wv 3) hx rfl
end Go.Proofs.Ytgkglkoipocgaaa.Fx
