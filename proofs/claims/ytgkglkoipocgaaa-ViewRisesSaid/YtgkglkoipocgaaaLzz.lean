/- What is farther to the right, up, deeper: the law ViewRises, walked. -/
import Derived.Test.YtgkglkoipocgaaaProg
import Derived.Test.YtgkglkoipocgaaaLwz
set_option linter.unusedVariables false
set_option linter.unusedSimpArgs false
namespace Go.Proofs.Ytgkglkoipocgaaa.Fx
open Go Go.RowKit Wm
theorem corn_open {a b c d W H x0 x1 x2 : Int} (hx : cornV [a, b, c, d] W H = [x0, x1, x2]) (h : cornE [a, b, c, d] W H = 0) :
    ((1 ≤ W ∧ W ≤ 64) ∧ (1 ≤ H ∧ H ≤ 64)) ∧ (4096 ≤ d ∧ (-8796093022208 < a ∧ a < 8796093022208) ∧ (-8796093022208 < b ∧ b < 8796093022208) ∧ (-8796093022208 < c ∧ c < 8796093022208)) ∧ cornX a d W = x0 ∧ cornY b d H = x1 ∧ cornZ c d = x2 := by
  obtain ⟨_, hs, hv⟩ | ⟨h2, _⟩ := corn_code [a, b, c, d] W H
  · rw [cornV_seen hs hv] at hx
    obtain ⟨hm, hd, _, _⟩ := (seen_iff _).1 hv
    have hb := may_nums hm
    unfold cornK at hx
    injection hx with f0 hx
    injection hx with f1 hx
    injection hx with f2 hx
    exact ⟨(size_iff W H).1 hs, ⟨hd, hb.1, hb.2.1, hb.2.2.1⟩, f0, f1, f2⟩
  · rw [h2] at h; cases h
theorem rise0 {a b c d t W H x0 x1 x2 y0 y1 y2 : Int} (ht : 0 ≤ t) (hx : cornV [a, b, c, d] W H = [x0, x1, x2]) (h : cornE [a, b, c, d] W H = 0) (hy : cornV [a + t, b, c, d] W H = [y0, y1, y2]) (g : cornE [a + t, b, c, d] W H = 0) : ¬ y0 < x0 ∧ y1 = x1 ∧ y2 = x2 := by
  obtain ⟨s, n, rfl, rfl, rfl⟩ := corn_open hx h
  obtain ⟨_, _, rfl, rfl, rfl⟩ := corn_open hy g
  have := cornX_le (x := a) (y := a + t) (w := d) (W := W) (by omega) (by omega) (by omega)
  exact ⟨by omega, rfl, rfl⟩
theorem rise1 {a b c d t W H x0 x1 x2 y0 y1 y2 : Int} (ht : 0 ≤ t) (hx : cornV [a, b, c, d] W H = [x0, x1, x2]) (h : cornE [a, b, c, d] W H = 0) (hy : cornV [a, b + t, c, d] W H = [y0, y1, y2]) (g : cornE [a, b + t, c, d] W H = 0) : ¬ x1 < y1 ∧ y0 = x0 ∧ y2 = x2 := by
  obtain ⟨s, n, rfl, rfl, rfl⟩ := corn_open hx h
  obtain ⟨_, _, rfl, rfl, rfl⟩ := corn_open hy g
  have := cornY_le (x := b) (y := b + t) (w := d) (H := H) (by omega) (by omega) (by omega)
  exact ⟨by omega, rfl, rfl⟩
theorem rise2 {a b c d t W H x0 x1 x2 y0 y1 y2 : Int} (ht : 0 ≤ t) (hx : cornV [a, b, c, d] W H = [x0, x1, x2]) (h : cornE [a, b, c, d] W H = 0) (hy : cornV [a, b, c + t, d] W H = [y0, y1, y2]) (g : cornE [a, b, c + t, d] W H = 0) : ¬ y2 < x2 ∧ y0 = x0 ∧ y1 = x1 := by
  obtain ⟨s, n, rfl, rfl, rfl⟩ := corn_open hx h
  obtain ⟨_, _, rfl, rfl, rfl⟩ := corn_open hy g
  have := cornZ_le (x := c) (y := c + t) (w := d) (by omega) (by omega)
  exact ⟨by omega, rfl, rfl⟩
structure RsI (a b c d x0 x1 x2 : Int) (g1 : Nat) (w W : World) : Prop where
  rv : RowAt 23 w.heap.size #[.int .i64 a, .int .i64 b, .int .i64 c, .int .i64 d] W
  rc : RowAt 26 g1 #[.int .i64 x0, .int .i64 x1, .int .i64 x2] W
  bel : Below w.heap.size w W
def RsRel (a b c d x0 x1 x2 : Int) (g1 : Nat) (w : World) (g : Nat) (s12 : Value) (W : World) : Prop := ∃ i : Int, s12 = .int .i64 i ∧ (i = 0 ∧ g = 3 ∨ i = 1 ∧ g = 2 ∨ i = 2 ∧ g = 1 ∨ i = 3 ∧ g = 0) ∧ RsI a b c d x0 x1 x2 g1 w W
theorem wf_u32 {z : Int} (h : (Lit.int .u32 z).wf = true) : 0 ≤ z ∧ z ≤ 4294967295 := by
  simp [Lit.wf, IntKind.min, IntKind.max, IntKind.signed, IntKind.bits] at h
  omega
set_option maxRecDepth 100000 in
set_option maxHeartbeats 32000000 in
theorem viewRises_walk (hp : View10) (a b c d t W H e1 x0 x1 x2 : Int) (w : World) (na : Num a) (nb : Num b) (nc : Num c) (nd : Num d) (k0 : 0 ≤ t) (k1 : t ≤ 4294967295) (h1 : cornV [a, b, c, d] W H = [x0, x1, x2]) (h2 : cornE [a, b, c, d] W H = e1) :
    Calls Try.prog 7 #[.agg #[.int .i64 a, .int .i64 b, .int .i64 c, .int .i64 d], .int .u32 t, .int .i64 W, .int .i64 H] w (RetBool true w) := by
  have AL : Hid (Ans 24 #[] (.bool true)) := Lib.hid fun w => alive10_any hp w
  have C1 := Lib.hid (pCorner_at hp a b c d W H [x0, x1, x2] e1 na nb nc nd h1 h2)
  rw [show mC [x0, x1, x2] = #[.int .i64 x0, .int .i64 x1, .int .i64 x2] from rfl] at C1
  have HP := Lib.hid hp
  have H1 := Lib.hid h1
  have H2 := Lib.hid h2
  have HN := Lib.hid (And.intro na (And.intro nb (And.intro nc nd)))
  have RV0 : Hid (RowAt 23 w.heap.size #[.int .i64 a, .int .i64 b, .int .i64 c, .int .i64 d] (w.alloc (.cells #[.int .i64 a, .int .i64 b, .int .i64 c, .int .i64 d] 23))) := Lib.hid (RowAt.new _ _ _)
  have B0 : Hid (Below w.heap.size w (w.alloc (.cells #[.int .i64 a, .int .i64 b, .int .i64 c, .int .i64 d] 23))) := Lib.hid (by go_grown)
  clear hp h1 h2 na nb nc nd
  go_enter Try.func7, Try.ntmps7
  go_wp2_with fail
  generalize (w.alloc (.cells #[.int .i64 a, .int .i64 b, .int .i64 c, .int .i64 d] 23)) = w0 at RV0 B0 ⊢
  refine (AL.out _).mono ?_
  rintro e w1 ⟨rfl, hb⟩
  have RV2 := Lib.hid (RV0.out.below hb)
  have B2 := Lib.hid (bnext B0.out hb)
  clear hb RV0 B0 AL
  have QV3 : Hid (w1.rangeAt (w.heap.size) 0 [.int .i64 a, .int .i64 b, .int .i64 c, .int .i64 d]) := Lib.hid (row_range RV2.out)
  go_wp2_with (refine wpList_mid10g rfl 23 (.tmp 4) rfl w.heap.size 0 rfl [.int .i64 a, .int .i64 b, .int .i64 c, .int .i64 d] _ QV3.out Try.underlying23 rfl (by kernel_rfl) ?_)
  refine (C1.out _).mono ?_
  rintro e w4 ⟨rfl, hb⟩
  have RV5 := Lib.hid (RV2.out.below hb)
  have B5 := Lib.hid (bnext B2.out hb)
  clear hb RV2 B2 C1 QV3
  have Z6 : Hid (RowAt 26 w4.heap.size #[.int .i64 0, .int .i64 0, .int .i64 0] (w4.alloc (.cells #[.int .i64 0, .int .i64 0, .int .i64 0] 26))) := Lib.hid (RowAt.new _ _ _)
  obtain ⟨v6, hv⟩ : ∃ X, (w4.alloc (.cells #[.int .i64 0, .int .i64 0, .int .i64 0] 26)).setRow w4.heap.size #[.int .i64 x0, .int .i64 x1, .int .i64 x2] = X := ⟨_, rfl⟩
  obtain ⟨g6, hg⟩ : ∃ g, w4.heap.size = g := ⟨_, rfl⟩
  have bb : Below w4.heap.size w4 v6 := by rw [← hv]; exact Below.row ((Below.refl _ _).alloc (Nat.le_refl _) _) (Nat.le_refl _) _
  have HG6 : Hid (w4.heap.size = g6) := Lib.hid hg
  have M6 : Hid (w.heap.size ≤ g6) := Lib.hid (by rw [← hg]; exact B5.out.size)
  have L6_V : Hid (w.heap.size < g6) := Lib.hid (by rw [← hg]; exact RV5.out.lt)
  have RV7 := Lib.hid (RV5.out.below bb)
  have B7 := Lib.hid (bnext B5.out bb)
  have RC7 : Hid (RowAt 26 g6 #[.int .i64 x0, .int .i64 x1, .int .i64 x2] v6) := Lib.hid (by rw [← hv, ← hg]; exact Z6.out.row _)
  have HV6 := Lib.hid hv
  clear hv hg bb RV5 B5
  by_cases he : e1 = 0
  · subst he
    have HI0 : Hid (RsI a b c d x0 x1 x2 g6 w v6) := Lib.hid ⟨RV7.out, RC7.out, B7.out⟩
    have BN := Lib.hid (corn_open H1.out H2.out).2.1
    have LL := Lib.hid (show w.heap.size < g6 from L6_V.out)
    have MM := Lib.hid (show w.heap.size ≤ g6 from M6.out)
    go_wp2_with (first | (rw [HV6.out, HG6.out]) | (rw [HV6.out]) | (refine wpList_store_big rfl 26 (.tmp 10) (.tmp 23) rfl w4.heap.size _ _ #[.int .i64 x0, .int .i64 x1, .int .i64 x2] rfl rfl Z6.out (by kernel_rfl) rfl (by kernel_rfl) ?_))
    clear RV7 RC7 B7 Z6 HV6 HG6
    go_loopg [12] 3 (RsRel a b c d x0 x1 x2 g6 w)
    case atStart => exact ⟨0, rfl, .inl ⟨rfl, rfl⟩, HI0.out⟩
    case round =>
      obtain ⟨i, rfl, hi, hs⟩ := hrel
      have RVA := Lib.hid hs.rv
      have RCA := Lib.hid hs.rc
      have BA := Lib.hid hs.bel
      clear hs HI0
      rcases hi with ⟨rfl, rfl⟩ | ⟨rfl, rfl⟩ | ⟨rfl, rfl⟩ | ⟨rfl, rfl⟩
      · have m1 : -9223372036854775808 ≤ a + t ∧ a + t ≤ 9223372036854775807 := by have := BN.out; omega
        obtain ⟨y0, y1, y2, hy⟩ := list3 (cornV_len [a + t, b, c, d] W H)
        obtain ⟨e2, he2⟩ : ∃ e, cornE [a + t, b, c, d] W H = e := ⟨_, rfl⟩
        have C2 := Lib.hid (pCorner_at HP.out (a + t) b c d W H [y0, y1, y2] e2 m1 HN.out.2.1 HN.out.2.2.1 HN.out.2.2.2 hy he2)
        rw [show mC [y0, y1, y2] = #[.int .i64 y0, .int .i64 y1, .int .i64 y2] from rfl] at C2
        have HR : Hid (e2 = 0 → _) := Lib.hid (fun g => rise0 k0 H1.out H2.out hy (by rw [he2]; exact g))
        clear hy he2
        have QV8 : Hid (wr.rangeAt (w.heap.size) 0 [.int .i64 a, .int .i64 b, .int .i64 c, .int .i64 d]) := Lib.hid (row_range RVA.out)
        have Z9 : Hid (RowAt 23 wr.heap.size #[.int .i64 0, .int .i64 0, .int .i64 0, .int .i64 0] (wr.alloc (.cells #[.int .i64 0, .int .i64 0, .int .i64 0, .int .i64 0] 23))) := Lib.hid (RowAt.new _ _ _)
        obtain ⟨v9, hv⟩ : ∃ X, (wr.alloc (.cells #[.int .i64 0, .int .i64 0, .int .i64 0, .int .i64 0] 23)).setRow wr.heap.size #[.int .i64 a, .int .i64 b, .int .i64 c, .int .i64 d] = X := ⟨_, rfl⟩
        obtain ⟨g9, hg⟩ : ∃ g, wr.heap.size = g := ⟨_, rfl⟩
        have bb : Below wr.heap.size wr v9 := by rw [← hv]; exact Below.row ((Below.refl _ _).alloc (Nat.le_refl _) _) (Nat.le_refl _) _
        have HG9 : Hid (wr.heap.size = g9) := Lib.hid hg
        have M9 : Hid (w.heap.size ≤ g9) := Lib.hid (by rw [← hg]; exact BA.out.size)
        have L9_V : Hid (w.heap.size < g9) := Lib.hid (by rw [← hg]; exact RVA.out.lt)
        have L9_C : Hid (g6 < g9) := Lib.hid (by rw [← hg]; exact RCA.out.lt)
        have RV10 := Lib.hid (RVA.out.below bb)
        have RC10 := Lib.hid (RCA.out.below bb)
        have B10 := Lib.hid (bnext BA.out bb)
        have RU10 : Hid (RowAt 23 g9 #[.int .i64 a, .int .i64 b, .int .i64 c, .int .i64 d] v9) := Lib.hid (by rw [← hv, ← hg]; exact Z9.out.row _)
        have HV9 := Lib.hid hv
        clear hv hg bb RVA RCA BA
        have c12_0 : v9.cell? ⟨g9, 0, none⟩ = some (.int .i64 a) := by rw [RU10.out.cell]; rfl
        have f12_0 : v9.frozen? ⟨g9, 0, none⟩ = false := RU10.out.free
        have z12 : g9 < v9.heap.size := RU10.out.lt
        obtain ⟨v11, hv⟩ : ∃ X, v9.setCell ⟨g9, 0, none⟩ (.int .i64 (a + t)) = X := ⟨_, rfl⟩
        have RV11 : Hid (RowAt 23 w.heap.size #[.int .i64 a, .int .i64 b, .int .i64 c, .int .i64 d] v11) := Lib.hid (by rw [← hv]; exact cell_else RV10.out (by have := L9_V.out; omega) _)
        have RC11 : Hid (RowAt 26 g6 #[.int .i64 x0, .int .i64 x1, .int .i64 x2] v11) := Lib.hid (by rw [← hv]; exact cell_else RC10.out (by have := L9_C.out; omega) _)
        have RU11 : Hid (RowAt 23 g9 #[.int .i64 (a + t), .int .i64 b, .int .i64 c, .int .i64 d] v11) := Lib.hid (by rw [← hv]; exact heap_setCell_same _ _ 0 _ _ _ RU10.out)
        have B11 : Hid (Below w.heap.size w v11) := Lib.hid (by rw [← hv]; exact B10.out.setCell (p := ⟨g9, 0, none⟩) (by show _ ≤ g9; have := M9.out; omega) _)
        have HV11 := Lib.hid hv
        clear hv RV10 RC10 RU10 B10
        have QU13 : Hid (v11.rangeAt g9 0 [.int .i64 (a + t), .int .i64 b, .int .i64 c, .int .i64 d]) := Lib.hid (row_range RU11.out)
        go_wp2_with (first | (refine wpList_mid10g rfl 23 (.tmp 4) rfl w.heap.size 0 rfl [.int .i64 a, .int .i64 b, .int .i64 c, .int .i64 d] _ QV8.out Try.underlying23 rfl (by kernel_rfl) ?_) | (rw [HV9.out, HG9.out]) | (rw [HV9.out]) | (refine wpList_store_big rfl 23 (.tmp 13) (.tmp 36) rfl wr.heap.size _ _ #[.int .i64 a, .int .i64 b, .int .i64 c, .int .i64 d] rfl rfl Z9.out (by kernel_rfl) rfl (by kernel_rfl) ?_) | (rw [HV11.out]) | (refine wpList_mid10g rfl 23 (.tmp 13) rfl g9 0 rfl [.int .i64 (a + t), .int .i64 b, .int .i64 c, .int .i64 d] _ QU13.out Try.underlying23 rfl (by kernel_rfl) ?_))
        refine (C2.out _).mono ?_
        rintro e w14 ⟨rfl, hb⟩
        have RV15 := Lib.hid (RV11.out.below hb)
        have RC15 := Lib.hid (RC11.out.below hb)
        have RU15 := Lib.hid (RU11.out.below hb)
        have B15 := Lib.hid (bnext B11.out hb)
        clear hb RV11 RC11 RU11 B11 C2 QV8 Z9 HV9 HG9 c12_0 f12_0 z12 HV11 QU13
        have Z16 : Hid (RowAt 26 w14.heap.size #[.int .i64 0, .int .i64 0, .int .i64 0] (w14.alloc (.cells #[.int .i64 0, .int .i64 0, .int .i64 0] 26))) := Lib.hid (RowAt.new _ _ _)
        obtain ⟨v16, hv⟩ : ∃ X, (w14.alloc (.cells #[.int .i64 0, .int .i64 0, .int .i64 0] 26)).setRow w14.heap.size #[.int .i64 y0, .int .i64 y1, .int .i64 y2] = X := ⟨_, rfl⟩
        obtain ⟨g16, hg⟩ : ∃ g, w14.heap.size = g := ⟨_, rfl⟩
        have bb : Below w14.heap.size w14 v16 := by rw [← hv]; exact Below.row ((Below.refl _ _).alloc (Nat.le_refl _) _) (Nat.le_refl _) _
        have HG16 : Hid (w14.heap.size = g16) := Lib.hid hg
        have M16 : Hid (w.heap.size ≤ g16) := Lib.hid (by rw [← hg]; exact B15.out.size)
        have L16_V : Hid (w.heap.size < g16) := Lib.hid (by rw [← hg]; exact RV15.out.lt)
        have L16_C : Hid (g6 < g16) := Lib.hid (by rw [← hg]; exact RC15.out.lt)
        have RV17 := Lib.hid (RV15.out.below bb)
        have RC17 := Lib.hid (RC15.out.below bb)
        have B17 := Lib.hid (bnext B15.out bb)
        have RD17 : Hid (RowAt 26 g16 #[.int .i64 y0, .int .i64 y1, .int .i64 y2] v16) := Lib.hid (by rw [← hv, ← hg]; exact Z16.out.row _)
        have HV16 := Lib.hid hv
        clear hv hg bb RV15 RC15 B15
        by_cases he : e2 = 0
        · subst he
          obtain ⟨k5, rfl, rfl⟩ := HR.out rfl
          clear HR
          have QC18 : Hid (v16.rangeAt g6 0 [.int .i64 x0, .int .i64 y1, .int .i64 y2]) := Lib.hid (row_range RC17.out)
          have c19_0 : v16.cell? ⟨g16, 0, none⟩ = some (.int .i64 y0) := by rw [RD17.out.cell]; rfl
          have z19 : g16 < v16.heap.size := RD17.out.lt
          have Z20 : Hid (RowAt 26 v16.heap.size #[.int .i64 0, .int .i64 0, .int .i64 0] (v16.alloc (.cells #[.int .i64 0, .int .i64 0, .int .i64 0] 26))) := Lib.hid (RowAt.new _ _ _)
          obtain ⟨v20, hv⟩ : ∃ X, (v16.alloc (.cells #[.int .i64 0, .int .i64 0, .int .i64 0] 26)).setRow v16.heap.size #[.int .i64 x0, .int .i64 y1, .int .i64 y2] = X := ⟨_, rfl⟩
          obtain ⟨g20, hg⟩ : ∃ g, v16.heap.size = g := ⟨_, rfl⟩
          have bb : Below v16.heap.size v16 v20 := by rw [← hv]; exact Below.row ((Below.refl _ _).alloc (Nat.le_refl _) _) (Nat.le_refl _) _
          have HG20 : Hid (v16.heap.size = g20) := Lib.hid hg
          have M20 : Hid (w.heap.size ≤ g20) := Lib.hid (by rw [← hg]; exact B17.out.size)
          have L20_V : Hid (w.heap.size < g20) := Lib.hid (by rw [← hg]; exact RV17.out.lt)
          have L20_C : Hid (g6 < g20) := Lib.hid (by rw [← hg]; exact RC17.out.lt)
          have L20_D : Hid (g16 < g20) := Lib.hid (by rw [← hg]; exact RD17.out.lt)
          have RV21 := Lib.hid (RV17.out.below bb)
          have RC21 := Lib.hid (RC17.out.below bb)
          have RD21 := Lib.hid (RD17.out.below bb)
          have B21 := Lib.hid (bnext B17.out bb)
          have RE21 : Hid (RowAt 26 g20 #[.int .i64 x0, .int .i64 y1, .int .i64 y2] v20) := Lib.hid (by rw [← hv, ← hg]; exact Z20.out.row _)
          have HV20 := Lib.hid hv
          clear hv hg bb RV17 RC17 RD17 B17
          have c22_0 : v20.cell? ⟨g16, 0, none⟩ = some (.int .i64 y0) := by rw [RD21.out.cell]; rfl
          have z22 : g16 < v20.heap.size := RD21.out.lt
          have c24_0 : v20.cell? ⟨g20, 0, none⟩ = some (.int .i64 x0) := by rw [RE21.out.cell]; rfl
          have f24_0 : v20.frozen? ⟨g20, 0, none⟩ = false := RE21.out.free
          have z24 : g20 < v20.heap.size := RE21.out.lt
          obtain ⟨v23, hv⟩ : ∃ X, v20.setCell ⟨g20, 0, none⟩ (.int .i64 y0) = X := ⟨_, rfl⟩
          have RV23 : Hid (RowAt 23 w.heap.size #[.int .i64 a, .int .i64 b, .int .i64 c, .int .i64 d] v23) := Lib.hid (by rw [← hv]; exact cell_else RV21.out (by have := L20_V.out; omega) _)
          have RC23 : Hid (RowAt 26 g6 #[.int .i64 x0, .int .i64 y1, .int .i64 y2] v23) := Lib.hid (by rw [← hv]; exact cell_else RC21.out (by have := L20_C.out; omega) _)
          have RD23 : Hid (RowAt 26 g16 #[.int .i64 y0, .int .i64 y1, .int .i64 y2] v23) := Lib.hid (by rw [← hv]; exact cell_else RD21.out (by have := L20_D.out; omega) _)
          have RE23 : Hid (RowAt 26 g20 #[.int .i64 y0, .int .i64 y1, .int .i64 y2] v23) := Lib.hid (by rw [← hv]; exact heap_setCell_same _ _ 0 _ _ _ RE21.out)
          have B23 : Hid (Below w.heap.size w v23) := Lib.hid (by rw [← hv]; exact B21.out.setCell (p := ⟨g20, 0, none⟩) (by show _ ≤ g20; have := M20.out; omega) _)
          have HV23 := Lib.hid hv
          clear hv RV21 RC21 RD21 RE21 B21
          have c25_0 : v23.cell? ⟨g6, 0, none⟩ = some (.int .i64 x0) := by rw [RC23.out.cell]; rfl
          have c25_1 : v23.cell? ⟨g6, 1, none⟩ = some (.int .i64 y1) := by rw [RC23.out.cell]; rfl
          have c25_2 : v23.cell? ⟨g6, 2, none⟩ = some (.int .i64 y2) := by rw [RC23.out.cell]; rfl
          have z25 : g6 < v23.heap.size := RC23.out.lt
          have c26_0 : v23.cell? ⟨g16, 0, none⟩ = some (.int .i64 y0) := by rw [RD23.out.cell]; rfl
          have c26_1 : v23.cell? ⟨g16, 1, none⟩ = some (.int .i64 y1) := by rw [RD23.out.cell]; rfl
          have c26_2 : v23.cell? ⟨g16, 2, none⟩ = some (.int .i64 y2) := by rw [RD23.out.cell]; rfl
          have z26 : g16 < v23.heap.size := RD23.out.lt
          have QD27 : Hid (v23.rangeAt g16 0 [.int .i64 y0, .int .i64 y1, .int .i64 y2]) := Lib.hid (row_range RD23.out)
          have QE28 : Hid (v23.rangeAt g20 0 [.int .i64 y0, .int .i64 y1, .int .i64 y2]) := Lib.hid (row_range RE23.out)
          go_wp2_with (first | (rw [HV16.out, HG16.out]) | (rw [HV16.out]) | (refine wpList_store_big rfl 26 (.tmp 14) (.tmp 50) rfl w14.heap.size _ _ #[.int .i64 y0, .int .i64 y1, .int .i64 y2] rfl rfl Z16.out (by kernel_rfl) rfl (by kernel_rfl) ?_) | (refine wpList_mid10g rfl 26 (.tmp 10) rfl g6 0 rfl [.int .i64 x0, .int .i64 y1, .int .i64 y2] _ QC18.out Try.underlying26 rfl (by kernel_rfl) ?_) | (rw [HV20.out, HG20.out]) | (rw [HV20.out]) | (refine wpList_store_big rfl 26 (.tmp 16) (.tmp 54) rfl v16.heap.size _ _ #[.int .i64 x0, .int .i64 y1, .int .i64 y2] rfl rfl Z20.out (by kernel_rfl) rfl (by kernel_rfl) ?_) | (rw [HV23.out]) | (refine wpList_mid10g rfl 26 (.tmp 14) rfl g16 0 rfl [.int .i64 y0, .int .i64 y1, .int .i64 y2] _ QD27.out Try.underlying26 rfl (by kernel_rfl) ?_) | (refine wpList_mid10g rfl 26 (.tmp 16) rfl g20 0 rfl [.int .i64 y0, .int .i64 y1, .int .i64 y2] _ QE28.out Try.underlying26 rfl (by kernel_rfl) ?_))
          go_roundg 2
          case measure => omega
          case rel => exact ⟨1, rfl, .inr (.inl ⟨rfl, rfl⟩), ⟨RV23.out, RC23.out, B23.out⟩⟩
        · have hne : ¬ e2 = 0 := he
          clear HR
          go_wp2_with (first | (rw [HV16.out, HG16.out]) | (rw [HV16.out]) | (refine wpList_store_big rfl 26 (.tmp 14) (.tmp 50) rfl w14.heap.size _ _ #[.int .i64 y0, .int .i64 y1, .int .i64 y2] rfl rfl Z16.out (by kernel_rfl) rfl (by kernel_rfl) ?_))
          go_roundg 2
          case measure => omega
          case rel => exact ⟨1, rfl, .inr (.inl ⟨rfl, rfl⟩), ⟨RV17.out, RC17.out, B17.out⟩⟩
      · have m1 : -9223372036854775808 ≤ b + t ∧ b + t ≤ 9223372036854775807 := by have := BN.out; omega
        obtain ⟨y0, y1, y2, hy⟩ := list3 (cornV_len [a, b + t, c, d] W H)
        obtain ⟨e2, he2⟩ : ∃ e, cornE [a, b + t, c, d] W H = e := ⟨_, rfl⟩
        have C2 := Lib.hid (pCorner_at HP.out a (b + t) c d W H [y0, y1, y2] e2 HN.out.1 m1 HN.out.2.2.1 HN.out.2.2.2 hy he2)
        rw [show mC [y0, y1, y2] = #[.int .i64 y0, .int .i64 y1, .int .i64 y2] from rfl] at C2
        have HR : Hid (e2 = 0 → _) := Lib.hid (fun g => rise1 k0 H1.out H2.out hy (by rw [he2]; exact g))
        clear hy he2
        have QV8 : Hid (wr.rangeAt (w.heap.size) 0 [.int .i64 a, .int .i64 b, .int .i64 c, .int .i64 d]) := Lib.hid (row_range RVA.out)
        have Z9 : Hid (RowAt 23 wr.heap.size #[.int .i64 0, .int .i64 0, .int .i64 0, .int .i64 0] (wr.alloc (.cells #[.int .i64 0, .int .i64 0, .int .i64 0, .int .i64 0] 23))) := Lib.hid (RowAt.new _ _ _)
        obtain ⟨v9, hv⟩ : ∃ X, (wr.alloc (.cells #[.int .i64 0, .int .i64 0, .int .i64 0, .int .i64 0] 23)).setRow wr.heap.size #[.int .i64 a, .int .i64 b, .int .i64 c, .int .i64 d] = X := ⟨_, rfl⟩
        obtain ⟨g9, hg⟩ : ∃ g, wr.heap.size = g := ⟨_, rfl⟩
        have bb : Below wr.heap.size wr v9 := by rw [← hv]; exact Below.row ((Below.refl _ _).alloc (Nat.le_refl _) _) (Nat.le_refl _) _
        have HG9 : Hid (wr.heap.size = g9) := Lib.hid hg
        have M9 : Hid (w.heap.size ≤ g9) := Lib.hid (by rw [← hg]; exact BA.out.size)
        have L9_V : Hid (w.heap.size < g9) := Lib.hid (by rw [← hg]; exact RVA.out.lt)
        have L9_C : Hid (g6 < g9) := Lib.hid (by rw [← hg]; exact RCA.out.lt)
        have RV10 := Lib.hid (RVA.out.below bb)
        have RC10 := Lib.hid (RCA.out.below bb)
        have B10 := Lib.hid (bnext BA.out bb)
        have RU10 : Hid (RowAt 23 g9 #[.int .i64 a, .int .i64 b, .int .i64 c, .int .i64 d] v9) := Lib.hid (by rw [← hv, ← hg]; exact Z9.out.row _)
        have HV9 := Lib.hid hv
        clear hv hg bb RVA RCA BA
        have c12_1 : v9.cell? ⟨g9, 1, none⟩ = some (.int .i64 b) := by rw [RU10.out.cell]; rfl
        have f12_1 : v9.frozen? ⟨g9, 1, none⟩ = false := RU10.out.free
        have z12 : g9 < v9.heap.size := RU10.out.lt
        obtain ⟨v11, hv⟩ : ∃ X, v9.setCell ⟨g9, 1, none⟩ (.int .i64 (b + t)) = X := ⟨_, rfl⟩
        have RV11 : Hid (RowAt 23 w.heap.size #[.int .i64 a, .int .i64 b, .int .i64 c, .int .i64 d] v11) := Lib.hid (by rw [← hv]; exact cell_else RV10.out (by have := L9_V.out; omega) _)
        have RC11 : Hid (RowAt 26 g6 #[.int .i64 x0, .int .i64 x1, .int .i64 x2] v11) := Lib.hid (by rw [← hv]; exact cell_else RC10.out (by have := L9_C.out; omega) _)
        have RU11 : Hid (RowAt 23 g9 #[.int .i64 a, .int .i64 (b + t), .int .i64 c, .int .i64 d] v11) := Lib.hid (by rw [← hv]; exact heap_setCell_same _ _ 1 _ _ _ RU10.out)
        have B11 : Hid (Below w.heap.size w v11) := Lib.hid (by rw [← hv]; exact B10.out.setCell (p := ⟨g9, 1, none⟩) (by show _ ≤ g9; have := M9.out; omega) _)
        have HV11 := Lib.hid hv
        clear hv RV10 RC10 RU10 B10
        have QU13 : Hid (v11.rangeAt g9 0 [.int .i64 a, .int .i64 (b + t), .int .i64 c, .int .i64 d]) := Lib.hid (row_range RU11.out)
        go_wp2_with (first | (refine wpList_mid10g rfl 23 (.tmp 4) rfl w.heap.size 0 rfl [.int .i64 a, .int .i64 b, .int .i64 c, .int .i64 d] _ QV8.out Try.underlying23 rfl (by kernel_rfl) ?_) | (rw [HV9.out, HG9.out]) | (rw [HV9.out]) | (refine wpList_store_big rfl 23 (.tmp 13) (.tmp 36) rfl wr.heap.size _ _ #[.int .i64 a, .int .i64 b, .int .i64 c, .int .i64 d] rfl rfl Z9.out (by kernel_rfl) rfl (by kernel_rfl) ?_) | (rw [HV11.out]) | (refine wpList_mid10g rfl 23 (.tmp 13) rfl g9 0 rfl [.int .i64 a, .int .i64 (b + t), .int .i64 c, .int .i64 d] _ QU13.out Try.underlying23 rfl (by kernel_rfl) ?_))
        refine (C2.out _).mono ?_
        rintro e w14 ⟨rfl, hb⟩
        have RV15 := Lib.hid (RV11.out.below hb)
        have RC15 := Lib.hid (RC11.out.below hb)
        have RU15 := Lib.hid (RU11.out.below hb)
        have B15 := Lib.hid (bnext B11.out hb)
        clear hb RV11 RC11 RU11 B11 C2 QV8 Z9 HV9 HG9 c12_1 f12_1 z12 HV11 QU13
        have Z16 : Hid (RowAt 26 w14.heap.size #[.int .i64 0, .int .i64 0, .int .i64 0] (w14.alloc (.cells #[.int .i64 0, .int .i64 0, .int .i64 0] 26))) := Lib.hid (RowAt.new _ _ _)
        obtain ⟨v16, hv⟩ : ∃ X, (w14.alloc (.cells #[.int .i64 0, .int .i64 0, .int .i64 0] 26)).setRow w14.heap.size #[.int .i64 y0, .int .i64 y1, .int .i64 y2] = X := ⟨_, rfl⟩
        obtain ⟨g16, hg⟩ : ∃ g, w14.heap.size = g := ⟨_, rfl⟩
        have bb : Below w14.heap.size w14 v16 := by rw [← hv]; exact Below.row ((Below.refl _ _).alloc (Nat.le_refl _) _) (Nat.le_refl _) _
        have HG16 : Hid (w14.heap.size = g16) := Lib.hid hg
        have M16 : Hid (w.heap.size ≤ g16) := Lib.hid (by rw [← hg]; exact B15.out.size)
        have L16_V : Hid (w.heap.size < g16) := Lib.hid (by rw [← hg]; exact RV15.out.lt)
        have L16_C : Hid (g6 < g16) := Lib.hid (by rw [← hg]; exact RC15.out.lt)
        have RV17 := Lib.hid (RV15.out.below bb)
        have RC17 := Lib.hid (RC15.out.below bb)
        have B17 := Lib.hid (bnext B15.out bb)
        have RD17 : Hid (RowAt 26 g16 #[.int .i64 y0, .int .i64 y1, .int .i64 y2] v16) := Lib.hid (by rw [← hv, ← hg]; exact Z16.out.row _)
        have HV16 := Lib.hid hv
        clear hv hg bb RV15 RC15 B15
        by_cases he : e2 = 0
        · subst he
          obtain ⟨k5, rfl, rfl⟩ := HR.out rfl
          clear HR
          have QC18 : Hid (v16.rangeAt g6 0 [.int .i64 y0, .int .i64 x1, .int .i64 y2]) := Lib.hid (row_range RC17.out)
          have c19_1 : v16.cell? ⟨g16, 1, none⟩ = some (.int .i64 y1) := by rw [RD17.out.cell]; rfl
          have z19 : g16 < v16.heap.size := RD17.out.lt
          have Z20 : Hid (RowAt 26 v16.heap.size #[.int .i64 0, .int .i64 0, .int .i64 0] (v16.alloc (.cells #[.int .i64 0, .int .i64 0, .int .i64 0] 26))) := Lib.hid (RowAt.new _ _ _)
          obtain ⟨v20, hv⟩ : ∃ X, (v16.alloc (.cells #[.int .i64 0, .int .i64 0, .int .i64 0] 26)).setRow v16.heap.size #[.int .i64 y0, .int .i64 x1, .int .i64 y2] = X := ⟨_, rfl⟩
          obtain ⟨g20, hg⟩ : ∃ g, v16.heap.size = g := ⟨_, rfl⟩
          have bb : Below v16.heap.size v16 v20 := by rw [← hv]; exact Below.row ((Below.refl _ _).alloc (Nat.le_refl _) _) (Nat.le_refl _) _
          have HG20 : Hid (v16.heap.size = g20) := Lib.hid hg
          have M20 : Hid (w.heap.size ≤ g20) := Lib.hid (by rw [← hg]; exact B17.out.size)
          have L20_V : Hid (w.heap.size < g20) := Lib.hid (by rw [← hg]; exact RV17.out.lt)
          have L20_C : Hid (g6 < g20) := Lib.hid (by rw [← hg]; exact RC17.out.lt)
          have L20_D : Hid (g16 < g20) := Lib.hid (by rw [← hg]; exact RD17.out.lt)
          have RV21 := Lib.hid (RV17.out.below bb)
          have RC21 := Lib.hid (RC17.out.below bb)
          have RD21 := Lib.hid (RD17.out.below bb)
          have B21 := Lib.hid (bnext B17.out bb)
          have RE21 : Hid (RowAt 26 g20 #[.int .i64 y0, .int .i64 x1, .int .i64 y2] v20) := Lib.hid (by rw [← hv, ← hg]; exact Z20.out.row _)
          have HV20 := Lib.hid hv
          clear hv hg bb RV17 RC17 RD17 B17
          have c22_1 : v20.cell? ⟨g16, 1, none⟩ = some (.int .i64 y1) := by rw [RD21.out.cell]; rfl
          have z22 : g16 < v20.heap.size := RD21.out.lt
          have c24_1 : v20.cell? ⟨g20, 1, none⟩ = some (.int .i64 x1) := by rw [RE21.out.cell]; rfl
          have f24_1 : v20.frozen? ⟨g20, 1, none⟩ = false := RE21.out.free
          have z24 : g20 < v20.heap.size := RE21.out.lt
          obtain ⟨v23, hv⟩ : ∃ X, v20.setCell ⟨g20, 1, none⟩ (.int .i64 y1) = X := ⟨_, rfl⟩
          have RV23 : Hid (RowAt 23 w.heap.size #[.int .i64 a, .int .i64 b, .int .i64 c, .int .i64 d] v23) := Lib.hid (by rw [← hv]; exact cell_else RV21.out (by have := L20_V.out; omega) _)
          have RC23 : Hid (RowAt 26 g6 #[.int .i64 y0, .int .i64 x1, .int .i64 y2] v23) := Lib.hid (by rw [← hv]; exact cell_else RC21.out (by have := L20_C.out; omega) _)
          have RD23 : Hid (RowAt 26 g16 #[.int .i64 y0, .int .i64 y1, .int .i64 y2] v23) := Lib.hid (by rw [← hv]; exact cell_else RD21.out (by have := L20_D.out; omega) _)
          have RE23 : Hid (RowAt 26 g20 #[.int .i64 y0, .int .i64 y1, .int .i64 y2] v23) := Lib.hid (by rw [← hv]; exact heap_setCell_same _ _ 1 _ _ _ RE21.out)
          have B23 : Hid (Below w.heap.size w v23) := Lib.hid (by rw [← hv]; exact B21.out.setCell (p := ⟨g20, 1, none⟩) (by show _ ≤ g20; have := M20.out; omega) _)
          have HV23 := Lib.hid hv
          clear hv RV21 RC21 RD21 RE21 B21
          have c25_0 : v23.cell? ⟨g6, 0, none⟩ = some (.int .i64 y0) := by rw [RC23.out.cell]; rfl
          have c25_1 : v23.cell? ⟨g6, 1, none⟩ = some (.int .i64 x1) := by rw [RC23.out.cell]; rfl
          have c25_2 : v23.cell? ⟨g6, 2, none⟩ = some (.int .i64 y2) := by rw [RC23.out.cell]; rfl
          have z25 : g6 < v23.heap.size := RC23.out.lt
          have c26_0 : v23.cell? ⟨g16, 0, none⟩ = some (.int .i64 y0) := by rw [RD23.out.cell]; rfl
          have c26_1 : v23.cell? ⟨g16, 1, none⟩ = some (.int .i64 y1) := by rw [RD23.out.cell]; rfl
          have c26_2 : v23.cell? ⟨g16, 2, none⟩ = some (.int .i64 y2) := by rw [RD23.out.cell]; rfl
          have z26 : g16 < v23.heap.size := RD23.out.lt
          have QD27 : Hid (v23.rangeAt g16 0 [.int .i64 y0, .int .i64 y1, .int .i64 y2]) := Lib.hid (row_range RD23.out)
          have QE28 : Hid (v23.rangeAt g20 0 [.int .i64 y0, .int .i64 y1, .int .i64 y2]) := Lib.hid (row_range RE23.out)
          go_wp2_with (first | (rw [HV16.out, HG16.out]) | (rw [HV16.out]) | (refine wpList_store_big rfl 26 (.tmp 14) (.tmp 50) rfl w14.heap.size _ _ #[.int .i64 y0, .int .i64 y1, .int .i64 y2] rfl rfl Z16.out (by kernel_rfl) rfl (by kernel_rfl) ?_) | (refine wpList_mid10g rfl 26 (.tmp 10) rfl g6 0 rfl [.int .i64 y0, .int .i64 x1, .int .i64 y2] _ QC18.out Try.underlying26 rfl (by kernel_rfl) ?_) | (rw [HV20.out, HG20.out]) | (rw [HV20.out]) | (refine wpList_store_big rfl 26 (.tmp 16) (.tmp 54) rfl v16.heap.size _ _ #[.int .i64 y0, .int .i64 x1, .int .i64 y2] rfl rfl Z20.out (by kernel_rfl) rfl (by kernel_rfl) ?_) | (rw [HV23.out]) | (refine wpList_mid10g rfl 26 (.tmp 14) rfl g16 0 rfl [.int .i64 y0, .int .i64 y1, .int .i64 y2] _ QD27.out Try.underlying26 rfl (by kernel_rfl) ?_) | (refine wpList_mid10g rfl 26 (.tmp 16) rfl g20 0 rfl [.int .i64 y0, .int .i64 y1, .int .i64 y2] _ QE28.out Try.underlying26 rfl (by kernel_rfl) ?_))
          go_roundg 1
          case measure => omega
          case rel => exact ⟨2, rfl, .inr (.inr (.inl ⟨rfl, rfl⟩)), ⟨RV23.out, RC23.out, B23.out⟩⟩
        · have hne : ¬ e2 = 0 := he
          clear HR
          go_wp2_with (first | (rw [HV16.out, HG16.out]) | (rw [HV16.out]) | (refine wpList_store_big rfl 26 (.tmp 14) (.tmp 50) rfl w14.heap.size _ _ #[.int .i64 y0, .int .i64 y1, .int .i64 y2] rfl rfl Z16.out (by kernel_rfl) rfl (by kernel_rfl) ?_))
          go_roundg 1
          case measure => omega
          case rel => exact ⟨2, rfl, .inr (.inr (.inl ⟨rfl, rfl⟩)), ⟨RV17.out, RC17.out, B17.out⟩⟩
      · have m1 : -9223372036854775808 ≤ c + t ∧ c + t ≤ 9223372036854775807 := by have := BN.out; omega
        obtain ⟨y0, y1, y2, hy⟩ := list3 (cornV_len [a, b, c + t, d] W H)
        obtain ⟨e2, he2⟩ : ∃ e, cornE [a, b, c + t, d] W H = e := ⟨_, rfl⟩
        have C2 := Lib.hid (pCorner_at HP.out a b (c + t) d W H [y0, y1, y2] e2 HN.out.1 HN.out.2.1 m1 HN.out.2.2.2 hy he2)
        rw [show mC [y0, y1, y2] = #[.int .i64 y0, .int .i64 y1, .int .i64 y2] from rfl] at C2
        have HR : Hid (e2 = 0 → _) := Lib.hid (fun g => rise2 k0 H1.out H2.out hy (by rw [he2]; exact g))
        clear hy he2
        have QV8 : Hid (wr.rangeAt (w.heap.size) 0 [.int .i64 a, .int .i64 b, .int .i64 c, .int .i64 d]) := Lib.hid (row_range RVA.out)
        have Z9 : Hid (RowAt 23 wr.heap.size #[.int .i64 0, .int .i64 0, .int .i64 0, .int .i64 0] (wr.alloc (.cells #[.int .i64 0, .int .i64 0, .int .i64 0, .int .i64 0] 23))) := Lib.hid (RowAt.new _ _ _)
        obtain ⟨v9, hv⟩ : ∃ X, (wr.alloc (.cells #[.int .i64 0, .int .i64 0, .int .i64 0, .int .i64 0] 23)).setRow wr.heap.size #[.int .i64 a, .int .i64 b, .int .i64 c, .int .i64 d] = X := ⟨_, rfl⟩
        obtain ⟨g9, hg⟩ : ∃ g, wr.heap.size = g := ⟨_, rfl⟩
        have bb : Below wr.heap.size wr v9 := by rw [← hv]; exact Below.row ((Below.refl _ _).alloc (Nat.le_refl _) _) (Nat.le_refl _) _
        have HG9 : Hid (wr.heap.size = g9) := Lib.hid hg
        have M9 : Hid (w.heap.size ≤ g9) := Lib.hid (by rw [← hg]; exact BA.out.size)
        have L9_V : Hid (w.heap.size < g9) := Lib.hid (by rw [← hg]; exact RVA.out.lt)
        have L9_C : Hid (g6 < g9) := Lib.hid (by rw [← hg]; exact RCA.out.lt)
        have RV10 := Lib.hid (RVA.out.below bb)
        have RC10 := Lib.hid (RCA.out.below bb)
        have B10 := Lib.hid (bnext BA.out bb)
        have RU10 : Hid (RowAt 23 g9 #[.int .i64 a, .int .i64 b, .int .i64 c, .int .i64 d] v9) := Lib.hid (by rw [← hv, ← hg]; exact Z9.out.row _)
        have HV9 := Lib.hid hv
        clear hv hg bb RVA RCA BA
        have c12_2 : v9.cell? ⟨g9, 2, none⟩ = some (.int .i64 c) := by rw [RU10.out.cell]; rfl
        have f12_2 : v9.frozen? ⟨g9, 2, none⟩ = false := RU10.out.free
        have z12 : g9 < v9.heap.size := RU10.out.lt
        obtain ⟨v11, hv⟩ : ∃ X, v9.setCell ⟨g9, 2, none⟩ (.int .i64 (c + t)) = X := ⟨_, rfl⟩
        have RV11 : Hid (RowAt 23 w.heap.size #[.int .i64 a, .int .i64 b, .int .i64 c, .int .i64 d] v11) := Lib.hid (by rw [← hv]; exact cell_else RV10.out (by have := L9_V.out; omega) _)
        have RC11 : Hid (RowAt 26 g6 #[.int .i64 x0, .int .i64 x1, .int .i64 x2] v11) := Lib.hid (by rw [← hv]; exact cell_else RC10.out (by have := L9_C.out; omega) _)
        have RU11 : Hid (RowAt 23 g9 #[.int .i64 a, .int .i64 b, .int .i64 (c + t), .int .i64 d] v11) := Lib.hid (by rw [← hv]; exact heap_setCell_same _ _ 2 _ _ _ RU10.out)
        have B11 : Hid (Below w.heap.size w v11) := Lib.hid (by rw [← hv]; exact B10.out.setCell (p := ⟨g9, 2, none⟩) (by show _ ≤ g9; have := M9.out; omega) _)
        have HV11 := Lib.hid hv
        clear hv RV10 RC10 RU10 B10
        have QU13 : Hid (v11.rangeAt g9 0 [.int .i64 a, .int .i64 b, .int .i64 (c + t), .int .i64 d]) := Lib.hid (row_range RU11.out)
        go_wp2_with (first | (refine wpList_mid10g rfl 23 (.tmp 4) rfl w.heap.size 0 rfl [.int .i64 a, .int .i64 b, .int .i64 c, .int .i64 d] _ QV8.out Try.underlying23 rfl (by kernel_rfl) ?_) | (rw [HV9.out, HG9.out]) | (rw [HV9.out]) | (refine wpList_store_big rfl 23 (.tmp 13) (.tmp 36) rfl wr.heap.size _ _ #[.int .i64 a, .int .i64 b, .int .i64 c, .int .i64 d] rfl rfl Z9.out (by kernel_rfl) rfl (by kernel_rfl) ?_) | (rw [HV11.out]) | (refine wpList_mid10g rfl 23 (.tmp 13) rfl g9 0 rfl [.int .i64 a, .int .i64 b, .int .i64 (c + t), .int .i64 d] _ QU13.out Try.underlying23 rfl (by kernel_rfl) ?_))
        refine (C2.out _).mono ?_
        rintro e w14 ⟨rfl, hb⟩
        have RV15 := Lib.hid (RV11.out.below hb)
        have RC15 := Lib.hid (RC11.out.below hb)
        have RU15 := Lib.hid (RU11.out.below hb)
        have B15 := Lib.hid (bnext B11.out hb)
        clear hb RV11 RC11 RU11 B11 C2 QV8 Z9 HV9 HG9 c12_2 f12_2 z12 HV11 QU13
        have Z16 : Hid (RowAt 26 w14.heap.size #[.int .i64 0, .int .i64 0, .int .i64 0] (w14.alloc (.cells #[.int .i64 0, .int .i64 0, .int .i64 0] 26))) := Lib.hid (RowAt.new _ _ _)
        obtain ⟨v16, hv⟩ : ∃ X, (w14.alloc (.cells #[.int .i64 0, .int .i64 0, .int .i64 0] 26)).setRow w14.heap.size #[.int .i64 y0, .int .i64 y1, .int .i64 y2] = X := ⟨_, rfl⟩
        obtain ⟨g16, hg⟩ : ∃ g, w14.heap.size = g := ⟨_, rfl⟩
        have bb : Below w14.heap.size w14 v16 := by rw [← hv]; exact Below.row ((Below.refl _ _).alloc (Nat.le_refl _) _) (Nat.le_refl _) _
        have HG16 : Hid (w14.heap.size = g16) := Lib.hid hg
        have M16 : Hid (w.heap.size ≤ g16) := Lib.hid (by rw [← hg]; exact B15.out.size)
        have L16_V : Hid (w.heap.size < g16) := Lib.hid (by rw [← hg]; exact RV15.out.lt)
        have L16_C : Hid (g6 < g16) := Lib.hid (by rw [← hg]; exact RC15.out.lt)
        have RV17 := Lib.hid (RV15.out.below bb)
        have RC17 := Lib.hid (RC15.out.below bb)
        have B17 := Lib.hid (bnext B15.out bb)
        have RD17 : Hid (RowAt 26 g16 #[.int .i64 y0, .int .i64 y1, .int .i64 y2] v16) := Lib.hid (by rw [← hv, ← hg]; exact Z16.out.row _)
        have HV16 := Lib.hid hv
        clear hv hg bb RV15 RC15 B15
        by_cases he : e2 = 0
        · subst he
          obtain ⟨k5, rfl, rfl⟩ := HR.out rfl
          clear HR
          have QC18 : Hid (v16.rangeAt g6 0 [.int .i64 y0, .int .i64 y1, .int .i64 x2]) := Lib.hid (row_range RC17.out)
          have c19_2 : v16.cell? ⟨g16, 2, none⟩ = some (.int .i64 y2) := by rw [RD17.out.cell]; rfl
          have z19 : g16 < v16.heap.size := RD17.out.lt
          have Z20 : Hid (RowAt 26 v16.heap.size #[.int .i64 0, .int .i64 0, .int .i64 0] (v16.alloc (.cells #[.int .i64 0, .int .i64 0, .int .i64 0] 26))) := Lib.hid (RowAt.new _ _ _)
          obtain ⟨v20, hv⟩ : ∃ X, (v16.alloc (.cells #[.int .i64 0, .int .i64 0, .int .i64 0] 26)).setRow v16.heap.size #[.int .i64 y0, .int .i64 y1, .int .i64 x2] = X := ⟨_, rfl⟩
          obtain ⟨g20, hg⟩ : ∃ g, v16.heap.size = g := ⟨_, rfl⟩
          have bb : Below v16.heap.size v16 v20 := by rw [← hv]; exact Below.row ((Below.refl _ _).alloc (Nat.le_refl _) _) (Nat.le_refl _) _
          have HG20 : Hid (v16.heap.size = g20) := Lib.hid hg
          have M20 : Hid (w.heap.size ≤ g20) := Lib.hid (by rw [← hg]; exact B17.out.size)
          have L20_V : Hid (w.heap.size < g20) := Lib.hid (by rw [← hg]; exact RV17.out.lt)
          have L20_C : Hid (g6 < g20) := Lib.hid (by rw [← hg]; exact RC17.out.lt)
          have L20_D : Hid (g16 < g20) := Lib.hid (by rw [← hg]; exact RD17.out.lt)
          have RV21 := Lib.hid (RV17.out.below bb)
          have RC21 := Lib.hid (RC17.out.below bb)
          have RD21 := Lib.hid (RD17.out.below bb)
          have B21 := Lib.hid (bnext B17.out bb)
          have RE21 : Hid (RowAt 26 g20 #[.int .i64 y0, .int .i64 y1, .int .i64 x2] v20) := Lib.hid (by rw [← hv, ← hg]; exact Z20.out.row _)
          have HV20 := Lib.hid hv
          clear hv hg bb RV17 RC17 RD17 B17
          have c22_2 : v20.cell? ⟨g16, 2, none⟩ = some (.int .i64 y2) := by rw [RD21.out.cell]; rfl
          have z22 : g16 < v20.heap.size := RD21.out.lt
          have c24_2 : v20.cell? ⟨g20, 2, none⟩ = some (.int .i64 x2) := by rw [RE21.out.cell]; rfl
          have f24_2 : v20.frozen? ⟨g20, 2, none⟩ = false := RE21.out.free
          have z24 : g20 < v20.heap.size := RE21.out.lt
          obtain ⟨v23, hv⟩ : ∃ X, v20.setCell ⟨g20, 2, none⟩ (.int .i64 y2) = X := ⟨_, rfl⟩
          have RV23 : Hid (RowAt 23 w.heap.size #[.int .i64 a, .int .i64 b, .int .i64 c, .int .i64 d] v23) := Lib.hid (by rw [← hv]; exact cell_else RV21.out (by have := L20_V.out; omega) _)
          have RC23 : Hid (RowAt 26 g6 #[.int .i64 y0, .int .i64 y1, .int .i64 x2] v23) := Lib.hid (by rw [← hv]; exact cell_else RC21.out (by have := L20_C.out; omega) _)
          have RD23 : Hid (RowAt 26 g16 #[.int .i64 y0, .int .i64 y1, .int .i64 y2] v23) := Lib.hid (by rw [← hv]; exact cell_else RD21.out (by have := L20_D.out; omega) _)
          have RE23 : Hid (RowAt 26 g20 #[.int .i64 y0, .int .i64 y1, .int .i64 y2] v23) := Lib.hid (by rw [← hv]; exact heap_setCell_same _ _ 2 _ _ _ RE21.out)
          have B23 : Hid (Below w.heap.size w v23) := Lib.hid (by rw [← hv]; exact B21.out.setCell (p := ⟨g20, 2, none⟩) (by show _ ≤ g20; have := M20.out; omega) _)
          have HV23 := Lib.hid hv
          clear hv RV21 RC21 RD21 RE21 B21
          have c25_0 : v23.cell? ⟨g6, 0, none⟩ = some (.int .i64 y0) := by rw [RC23.out.cell]; rfl
          have c25_1 : v23.cell? ⟨g6, 1, none⟩ = some (.int .i64 y1) := by rw [RC23.out.cell]; rfl
          have c25_2 : v23.cell? ⟨g6, 2, none⟩ = some (.int .i64 x2) := by rw [RC23.out.cell]; rfl
          have z25 : g6 < v23.heap.size := RC23.out.lt
          have c26_0 : v23.cell? ⟨g16, 0, none⟩ = some (.int .i64 y0) := by rw [RD23.out.cell]; rfl
          have c26_1 : v23.cell? ⟨g16, 1, none⟩ = some (.int .i64 y1) := by rw [RD23.out.cell]; rfl
          have c26_2 : v23.cell? ⟨g16, 2, none⟩ = some (.int .i64 y2) := by rw [RD23.out.cell]; rfl
          have z26 : g16 < v23.heap.size := RD23.out.lt
          have QD27 : Hid (v23.rangeAt g16 0 [.int .i64 y0, .int .i64 y1, .int .i64 y2]) := Lib.hid (row_range RD23.out)
          have QE28 : Hid (v23.rangeAt g20 0 [.int .i64 y0, .int .i64 y1, .int .i64 y2]) := Lib.hid (row_range RE23.out)
          go_wp2_with (first | (rw [HV16.out, HG16.out]) | (rw [HV16.out]) | (refine wpList_store_big rfl 26 (.tmp 14) (.tmp 50) rfl w14.heap.size _ _ #[.int .i64 y0, .int .i64 y1, .int .i64 y2] rfl rfl Z16.out (by kernel_rfl) rfl (by kernel_rfl) ?_) | (refine wpList_mid10g rfl 26 (.tmp 10) rfl g6 0 rfl [.int .i64 y0, .int .i64 y1, .int .i64 x2] _ QC18.out Try.underlying26 rfl (by kernel_rfl) ?_) | (rw [HV20.out, HG20.out]) | (rw [HV20.out]) | (refine wpList_store_big rfl 26 (.tmp 16) (.tmp 54) rfl v16.heap.size _ _ #[.int .i64 y0, .int .i64 y1, .int .i64 x2] rfl rfl Z20.out (by kernel_rfl) rfl (by kernel_rfl) ?_) | (rw [HV23.out]) | (refine wpList_mid10g rfl 26 (.tmp 14) rfl g16 0 rfl [.int .i64 y0, .int .i64 y1, .int .i64 y2] _ QD27.out Try.underlying26 rfl (by kernel_rfl) ?_) | (refine wpList_mid10g rfl 26 (.tmp 16) rfl g20 0 rfl [.int .i64 y0, .int .i64 y1, .int .i64 y2] _ QE28.out Try.underlying26 rfl (by kernel_rfl) ?_))
          go_roundg 0
          case measure => omega
          case rel => exact ⟨3, rfl, .inr (.inr (.inr ⟨rfl, rfl⟩)), ⟨RV23.out, RC23.out, B23.out⟩⟩
        · have hne : ¬ e2 = 0 := he
          clear HR
          go_wp2_with (first | (rw [HV16.out, HG16.out]) | (rw [HV16.out]) | (refine wpList_store_big rfl 26 (.tmp 14) (.tmp 50) rfl w14.heap.size _ _ #[.int .i64 y0, .int .i64 y1, .int .i64 y2] rfl rfl Z16.out (by kernel_rfl) rfl (by kernel_rfl) ?_))
          go_roundg 0
          case measure => omega
          case rel => exact ⟨3, rfl, .inr (.inr (.inr ⟨rfl, rfl⟩)), ⟨RV17.out, RC17.out, B17.out⟩⟩
      · go_wp2_with fail
        go_ret
        exact ⟨rfl, BA.out⟩
  · have hne : ¬ e1 = 0 := he
    go_wp2_with (first | (rw [HV6.out, HG6.out]) | (rw [HV6.out]) | (refine wpList_store_big rfl 26 (.tmp 10) (.tmp 23) rfl w4.heap.size _ _ #[.int .i64 x0, .int .i64 x1, .int .i64 x2] rfl rfl Z6.out (by kernel_rfl) rfl (by kernel_rfl) ?_))
    go_ret
    exact ⟨rfl, B7.out⟩
theorem law_viewRises (hp : View10) (v : List Int) (lv : v.length = 4) (wv : ∀ j, -9223372036854775808 ≤ v.getD j 0 ∧ v.getD j 0 ≤ 9223372036854775807) (t : Int) (wt : (Lit.int .u32 t).wf = true) (W : Int) (wW : (Lit.int .i64 W).wf = true) (H : Int) (wH : (Lit.int .i64 H).wf = true) (w : World) :
    Calls Try.prog 7 #[.agg (mC v), .int .u32 t, .int .i64 W, .int .i64 H] w fun e w' => e = .returned (.bool true) ∧ Below w.heap.size w w' := by
  obtain ⟨ht0, ht1⟩ := wf_u32 wt
  rw [list4 lv]
  obtain ⟨x0, x1, x2, hx⟩ := list3 (cornV_len [v.getD 0 0, v.getD 1 0, v.getD 2 0, v.getD 3 0] W H)
  exact viewRises_walk hp _ _ _ _ t W H _ x0 x1 x2 w (wv 0) (wv 1) (wv 2) (wv 3) ht0 ht1 hx rfl
end Go.Proofs.Ytgkglkoipocgaaa.Fx
