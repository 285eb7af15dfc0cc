/- A vertex and its mirror image: the law ViewMirrors, walked. -/
import Derived.Test.YtgkglkoipocgaaaProg
import Derived.Test.YtgkglkoipocgaaaLwz
import Derived.BigQuiet
set_option linter.unusedVariables false
set_option linter.unusedSimpArgs false
namespace Go.Proofs.Ytgkglkoipocgaaa.Fx
open Go Go.RowKit Wm
theorem wrap_neg {a u : Int} (na : Num a) (h : wrap64 (-a) = u) (hs : -8796093022208 < a ∧ a < 8796093022208 ∨ -8796093022208 < u ∧ u < 8796093022208) : u = -a := by
  have h1 := na.1
  have h2 := na.2
  unfold wrap64 at h
  omega
theorem wrap_num {a u : Int} (h : wrap64 a = u) : Num u := by
  unfold wrap64 at h
  exact ⟨by omega, by omega⟩
/-- what a vertex and its mirror image become -/
theorem mirror_code {a b c d ua ub W H x0 x1 x2 y0 y1 y2 : Int} (na : Num a) (nb : Num b) (ha : wrap64 (-a) = ua) (hb : wrap64 (-b) = ub) (hx : cornV [a, b, c, d] W H = [x0, x1, x2]) (hy : cornV [ua, ub, c, d] W H = [y0, y1, y2]) :
    (cornE [a, b, c, d] W H = 0 ∧ cornE [ua, ub, c, d] W H = 0 ∧ ((1 ≤ W ∧ W ≤ 64) ∧ (1 ≤ H ∧ H ≤ 64) ∧ (-1024 ≤ x0 ∧ x0 ≤ 2048) ∧ (-1024 ≤ x1 ∧ x1 ≤ 2048)) ∧ (0 ≤ 16 * W - x0 - y0 ∧ 16 * W - x0 - y0 ≤ 1) ∧ (0 ≤ 16 * H - x1 - y1 ∧ 16 * H - x1 - y1 ≤ 1) ∧ y2 = x2) ∨ (cornE [a, b, c, d] W H = 100 ∧ cornE [ua, ub, c, d] W H = 100) := by
  have key : ua = -a → ub = -b → seenK [ua, ub, c, d] = seenK [a, b, c, d] := fun e1 e2 => by
    rw [e1, e2]
    exact seen_mirror [a, b, c, d]
  obtain ⟨z, hs, hv⟩ | ⟨z, hn⟩ := corn_code [a, b, c, d] W H
  · obtain ⟨hm, hd, _, _⟩ := (seen_iff _).1 hv
    have hb' := may_nums hm
    have e1 := wrap_neg na ha (.inl hb'.1)
    have e2 := wrap_neg nb hb (.inl hb'.2.1)
    have hk := key e1 e2
    rw [hv] at hk
    obtain ⟨z2, _, _⟩ | ⟨_, g⟩ := corn_code [ua, ub, c, d] W H
    · have hr := corn_range hs hv
      rw [cornV_seen hs hv] at hx
      rw [cornV_seen hs hk] at hy
      obtain ⟨s1, s2⟩ := (size_iff W H).1 hs
      unfold cornK at hx hy
      injection hx with f0 hx
      injection hx with f1 hx
      injection hx with f2 hx
      injection hy with f3 hy
      injection hy with f4 hy
      injection hy with f5 hy
      have hd' : (0 : Int) < d := by have : (4096 : Int) ≤ d := hd; omega
      have hX := cornX_mirror hd' a W
      have hY := cornY_mirror hd' b H
      rw [f0, f1, f2] at hr
      have f0' : cornX a d W = x0 := f0
      have f1' : cornY b d H = x1 := f1
      have f3' : cornX ua d W = y0 := f3
      have f4' : cornY ub d H = y1 := f4
      rw [e1] at f3'
      rw [e2] at f4'
      rw [f0', f3'] at hX
      rw [f1', f4'] at hY
      refine .inl ⟨z, z2, ⟨s1, s2, by omega, by omega⟩, hX, hY, ?_⟩
      rw [← f2, ← f5]
      rfl
    · exact absurd ⟨hs, hk⟩ g
  · obtain ⟨_, hs, hv⟩ | ⟨z2, _⟩ := corn_code [ua, ub, c, d] W H
    · obtain ⟨hm, _, _, _⟩ := (seen_iff _).1 hv
      have hb' := may_nums hm
      have e1 := wrap_neg na ha (.inr hb'.1)
      have e2 := wrap_neg nb hb (.inr hb'.2.1)
      have hk := key e1 e2
      rw [hv] at hk
      exact absurd ⟨hs, hk.symm⟩ hn
    · exact .inr ⟨z, z2⟩
set_option maxRecDepth 100000 in
set_option maxHeartbeats 16000000 in
theorem viewMirrors_walk (hp : View10) (a b c d ua ub W H e1 e2 x0 x1 x2 y0 y1 y2 : Int) (w : World) (na : Num a) (nb : Num b) (nc : Num c) (nd : Num d) (ha : wrap64 (-a) = ua) (hb : wrap64 (-b) = ub) (h1 : cornV [a, b, c, d] W H = [x0, x1, x2]) (h2 : cornE [a, b, c, d] W H = e1) (h3 : cornV [ua, ub, c, d] W H = [y0, y1, y2]) (h4 : cornE [ua, ub, c, d] W H = e2) :
    Calls Try.prog 9 #[.agg #[.int .i64 a, .int .i64 b, .int .i64 c, .int .i64 d], .int .i64 W, .int .i64 H] w (RetBool true w) := by
  have AL : Hid (Ans 24 #[] (.bool true)) := Lib.hid fun w => alive10_any hp w
  have C1 := Lib.hid (pCorner_at hp a b c d W H [x0, x1, x2] e1 na nb nc nd h1 h2)
  have C2 := Lib.hid (pCorner_at hp ua ub c d W H [y0, y1, y2] e2 (wrap_num ha) (wrap_num hb) nc nd h3 h4)
  rw [show mC [x0, x1, x2] = #[.int .i64 x0, .int .i64 x1, .int .i64 x2] from rfl] at C1
  rw [show mC [y0, y1, y2] = #[.int .i64 y0, .int .i64 y1, .int .i64 y2] from rfl] at C2
  have HM := Lib.hid (mirror_code (c := c) (d := d) (W := W) (H := H) na nb ha hb h1 h3)
  rw [h2, h4] at HM
  have RV0 : Hid (RowAt 23 w.heap.size #[.int .i64 a, .int .i64 b, .int .i64 c, .int .i64 d] (w.alloc (.cells #[.int .i64 a, .int .i64 b, .int .i64 c, .int .i64 d] 23))) := Lib.hid (RowAt.new _ _ _)
  have B0 : Hid (Below w.heap.size w (w.alloc (.cells #[.int .i64 a, .int .i64 b, .int .i64 c, .int .i64 d] 23))) := Lib.hid (by go_grown)
  clear hp h1 h2 h3 h4 na nb nc nd
  go_enter Try.func9, Try.ntmps9
  go_wp2_with fail
  generalize (w.alloc (.cells #[.int .i64 a, .int .i64 b, .int .i64 c, .int .i64 d] 23)) = w0 at RV0 B0 ⊢
  refine (AL.out _).mono ?_
  rintro e w1 ⟨rfl, hb⟩
  have RV2 := Lib.hid (RV0.out.below hb)
  have B2 := Lib.hid (bnext B0.out hb)
  clear hb RV0 B0 AL
  have c3_0 : w1.cell? ⟨w.heap.size, 0, none⟩ = some (.int .i64 a) := by rw [RV2.out.cell]; rfl
  have c3_1 : w1.cell? ⟨w.heap.size, 1, none⟩ = some (.int .i64 b) := by rw [RV2.out.cell]; rfl
  have c3_2 : w1.cell? ⟨w.heap.size, 2, none⟩ = some (.int .i64 c) := by rw [RV2.out.cell]; rfl
  have c3_3 : w1.cell? ⟨w.heap.size, 3, none⟩ = some (.int .i64 d) := by rw [RV2.out.cell]; rfl
  have z3 : w.heap.size < w1.heap.size := RV2.out.lt
  have Z4 : Hid (RowAt 23 w1.heap.size #[.int .i64 0, .int .i64 0, .int .i64 0, .int .i64 0] (w1.alloc (.cells #[.int .i64 0, .int .i64 0, .int .i64 0, .int .i64 0] 23))) := Lib.hid (RowAt.new _ _ _)
  obtain ⟨v4, hv⟩ : ∃ X, (w1.alloc (.cells #[.int .i64 0, .int .i64 0, .int .i64 0, .int .i64 0] 23)).setRow w1.heap.size #[.int .i64 ua, .int .i64 ub, .int .i64 c, .int .i64 d] = X := ⟨_, rfl⟩
  obtain ⟨g4, hg⟩ : ∃ g, w1.heap.size = g := ⟨_, rfl⟩
  have bb : Below w1.heap.size w1 v4 := by rw [← hv]; exact Below.row ((Below.refl _ _).alloc (Nat.le_refl _) _) (Nat.le_refl _) _
  have HG4 : Hid (w1.heap.size = g4) := Lib.hid hg
  have M4 : Hid (w.heap.size ≤ g4) := Lib.hid (by rw [← hg]; exact B2.out.size)
  have L4_V : Hid (w.heap.size < g4) := Lib.hid (by rw [← hg]; exact RV2.out.lt)
  have RV5 := Lib.hid (RV2.out.below bb)
  have B5 := Lib.hid (bnext B2.out bb)
  have RU5 : Hid (RowAt 23 g4 #[.int .i64 ua, .int .i64 ub, .int .i64 c, .int .i64 d] v4) := Lib.hid (by rw [← hv, ← hg]; exact Z4.out.row _)
  have HV4 := Lib.hid hv
  clear hv hg bb RV2 B2
  have QV6 : Hid (v4.rangeAt (w.heap.size) 0 [.int .i64 a, .int .i64 b, .int .i64 c, .int .i64 d]) := Lib.hid (row_range RV5.out)
  go_wp2_with (first | (rw [HV4.out, HG4.out]) | (rw [HV4.out]) | (refine wpList_store_big rfl 23 (.tmp 8) (.tmp 26) rfl w1.heap.size _ _ #[.int .i64 ua, .int .i64 ub, .int .i64 c, .int .i64 d] rfl rfl Z4.out (by kernel_rfl) rfl (by kernel_rfl) ?_) | (refine wpList_mid10g rfl 23 (.tmp 3) rfl w.heap.size 0 rfl [.int .i64 a, .int .i64 b, .int .i64 c, .int .i64 d] _ QV6.out Try.underlying23 rfl (by kernel_rfl) ?_))
  refine (C1.out _).mono ?_
  rintro e w7 ⟨rfl, hb⟩
  have RV8 := Lib.hid (RV5.out.below hb)
  have RU8 := Lib.hid (RU5.out.below hb)
  have B8 := Lib.hid (bnext B5.out hb)
  clear hb RV5 RU5 B5 C1 c3_0 c3_1 c3_2 c3_3 z3 Z4 HV4 HG4 QV6
  clear ha hb
  have Z9 : Hid (RowAt 26 w7.heap.size #[.int .i64 0, .int .i64 0, .int .i64 0] (w7.alloc (.cells #[.int .i64 0, .int .i64 0, .int .i64 0] 26))) := Lib.hid (RowAt.new _ _ _)
  obtain ⟨v9, hv⟩ : ∃ X, (w7.alloc (.cells #[.int .i64 0, .int .i64 0, .int .i64 0] 26)).setRow w7.heap.size #[.int .i64 x0, .int .i64 x1, .int .i64 x2] = X := ⟨_, rfl⟩
  obtain ⟨g9, hg⟩ : ∃ g, w7.heap.size = g := ⟨_, rfl⟩
  have bb : Below w7.heap.size w7 v9 := by rw [← hv]; exact Below.row ((Below.refl _ _).alloc (Nat.le_refl _) _) (Nat.le_refl _) _
  have HG9 : Hid (w7.heap.size = g9) := Lib.hid hg
  have M9 : Hid (w.heap.size ≤ g9) := Lib.hid (by rw [← hg]; exact B8.out.size)
  have L9_V : Hid (w.heap.size < g9) := Lib.hid (by rw [← hg]; exact RV8.out.lt)
  have L9_U : Hid (g4 < g9) := Lib.hid (by rw [← hg]; exact RU8.out.lt)
  have RV10 := Lib.hid (RV8.out.below bb)
  have RU10 := Lib.hid (RU8.out.below bb)
  have B10 := Lib.hid (bnext B8.out bb)
  have RC10 : Hid (RowAt 26 g9 #[.int .i64 x0, .int .i64 x1, .int .i64 x2] v9) := Lib.hid (by rw [← hv, ← hg]; exact Z9.out.row _)
  have HV9 := Lib.hid hv
  clear hv hg bb RV8 RU8 B8
  have QU11 : Hid (v9.rangeAt g4 0 [.int .i64 ua, .int .i64 ub, .int .i64 c, .int .i64 d]) := Lib.hid (row_range RU10.out)
  go_wp2_with (first | (rw [HV9.out, HG9.out]) | (rw [HV9.out]) | (refine wpList_store_big rfl 26 (.tmp 9) (.tmp 32) rfl w7.heap.size _ _ #[.int .i64 x0, .int .i64 x1, .int .i64 x2] rfl rfl Z9.out (by kernel_rfl) rfl (by kernel_rfl) ?_) | (refine wpList_mid10g rfl 23 (.tmp 8) rfl g4 0 rfl [.int .i64 ua, .int .i64 ub, .int .i64 c, .int .i64 d] _ QU11.out Try.underlying23 rfl (by kernel_rfl) ?_))
  refine (C2.out _).mono ?_
  rintro e w12 ⟨rfl, hb⟩
  have RV13 := Lib.hid (RV10.out.below hb)
  have RU13 := Lib.hid (RU10.out.below hb)
  have RC13 := Lib.hid (RC10.out.below hb)
  have B13 := Lib.hid (bnext B10.out hb)
  clear hb RV10 RU10 RC10 B10 C2 Z9 HV9 HG9 QU11
  have Z14 : Hid (RowAt 26 w12.heap.size #[.int .i64 0, .int .i64 0, .int .i64 0] (w12.alloc (.cells #[.int .i64 0, .int .i64 0, .int .i64 0] 26))) := Lib.hid (RowAt.new _ _ _)
  obtain ⟨v14, hv⟩ : ∃ X, (w12.alloc (.cells #[.int .i64 0, .int .i64 0, .int .i64 0] 26)).setRow w12.heap.size #[.int .i64 y0, .int .i64 y1, .int .i64 y2] = X := ⟨_, rfl⟩
  obtain ⟨g14, hg⟩ : ∃ g, w12.heap.size = g := ⟨_, rfl⟩
  have bb : Below w12.heap.size w12 v14 := by rw [← hv]; exact Below.row ((Below.refl _ _).alloc (Nat.le_refl _) _) (Nat.le_refl _) _
  have HG14 : Hid (w12.heap.size = g14) := Lib.hid hg
  have M14 : Hid (w.heap.size ≤ g14) := Lib.hid (by rw [← hg]; exact B13.out.size)
  have L14_V : Hid (w.heap.size < g14) := Lib.hid (by rw [← hg]; exact RV13.out.lt)
  have L14_U : Hid (g4 < g14) := Lib.hid (by rw [← hg]; exact RU13.out.lt)
  have L14_C : Hid (g9 < g14) := Lib.hid (by rw [← hg]; exact RC13.out.lt)
  have RV15 := Lib.hid (RV13.out.below bb)
  have RU15 := Lib.hid (RU13.out.below bb)
  have RC15 := Lib.hid (RC13.out.below bb)
  have B15 := Lib.hid (bnext B13.out bb)
  have RD15 : Hid (RowAt 26 g14 #[.int .i64 y0, .int .i64 y1, .int .i64 y2] v14) := Lib.hid (by rw [← hv, ← hg]; exact Z14.out.row _)
  have HV14 := Lib.hid hv
  clear hv hg bb RV13 RU13 RC13 B13
  rcases HM.out with ⟨rfl, rfl, hr, q0, q1, rfl⟩ | ⟨rfl, rfl⟩
  · have c16_0 : v14.cell? ⟨g9, 0, none⟩ = some (.int .i64 x0) := by rw [RC15.out.cell]; rfl
    have c16_1 : v14.cell? ⟨g9, 1, none⟩ = some (.int .i64 x1) := by rw [RC15.out.cell]; rfl
    have c16_2 : v14.cell? ⟨g9, 2, none⟩ = some (.int .i64 y2) := by rw [RC15.out.cell]; rfl
    have z16 : g9 < v14.heap.size := RC15.out.lt
    have c17_0 : v14.cell? ⟨g14, 0, none⟩ = some (.int .i64 y0) := by rw [RD15.out.cell]; rfl
    have c17_1 : v14.cell? ⟨g14, 1, none⟩ = some (.int .i64 y1) := by rw [RD15.out.cell]; rfl
    have c17_2 : v14.cell? ⟨g14, 2, none⟩ = some (.int .i64 y2) := by rw [RD15.out.cell]; rfl
    have z17 : g14 < v14.heap.size := RD15.out.lt
    obtain ⟨p0, p1⟩ := q0
    obtain ⟨p2, p3⟩ := q1
    have m1 : -9223372036854775808 ≤ 16 * W ∧ 16 * W ≤ 9223372036854775807 := by omega
    have m2 : -9223372036854775808 ≤ 16 * W - x0 ∧ 16 * W - x0 ≤ 9223372036854775807 := by omega
    have m3 : -9223372036854775808 ≤ 16 * W - x0 - y0 ∧ 16 * W - x0 - y0 ≤ 9223372036854775807 := by omega
    have m4 : -9223372036854775808 ≤ 16 * H ∧ 16 * H ≤ 9223372036854775807 := by omega
    have m5 : -9223372036854775808 ≤ 16 * H - x1 ∧ 16 * H - x1 ≤ 9223372036854775807 := by omega
    have m6 : -9223372036854775808 ≤ 16 * H - x1 - y1 ∧ 16 * H - x1 - y1 ≤ 9223372036854775807 := by omega
    clear hr HM
    go_wp2_with (first | (rw [HV14.out, HG14.out]) | (rw [HV14.out]) | (refine wpList_store_big rfl 26 (.tmp 11) (.tmp 39) rfl w12.heap.size _ _ #[.int .i64 y0, .int .i64 y1, .int .i64 y2] rfl rfl Z14.out (by kernel_rfl) rfl (by kernel_rfl) ?_))
    go_quiet (fail)
    go_wp2_with fail
    go_ret
    exact ⟨rfl, bdrewN _ B15.out⟩
  · clear HM
    go_wp2_with (first | (rw [HV14.out, HG14.out]) | (rw [HV14.out]) | (refine wpList_store_big rfl 26 (.tmp 11) (.tmp 39) rfl w12.heap.size _ _ #[.int .i64 y0, .int .i64 y1, .int .i64 y2] rfl rfl Z14.out (by kernel_rfl) rfl (by kernel_rfl) ?_))
    go_ret
    exact ⟨rfl, B15.out⟩
theorem law_viewMirrors (hp : View10) (v : List Int) (lv : v.length = 4) (wv : ∀ j, -9223372036854775808 ≤ v.getD j 0 ∧ v.getD j 0 ≤ 9223372036854775807) (W : Int) (wW : (Lit.int .i64 W).wf = true) (H : Int) (wH : (Lit.int .i64 H).wf = true) (w : World) :
    Calls Try.prog 9 #[.agg (mC v), .int .i64 W, .int .i64 H] w fun e w' => e = .returned (.bool true) ∧ Below w.heap.size w w' := by
  rw [list4 lv]
  obtain ⟨x0, x1, x2, hx⟩ := list3 (cornV_len [v.getD 0 0, v.getD 1 0, v.getD 2 0, v.getD 3 0] W H)
  obtain ⟨y0, y1, y2, hy⟩ := list3 (cornV_len [wrap64 (-v.getD 0 0), wrap64 (-v.getD 1 0), v.getD 2 0, v.getD 3 0] W H)
  exact viewMirrors_walk hp _ _ _ _ _ _ W H _ _ x0 x1 x2 y0 y1 y2 w (wv 0) (wv 1) (wv 2) (wv 3) rfl rfl hx rfl hy rfl
end Go.Proofs.Ytgkglkoipocgaaa.Fx
