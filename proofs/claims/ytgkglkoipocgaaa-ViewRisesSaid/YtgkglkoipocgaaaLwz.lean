/- A vertex and its multiple have the same corner: the law ViewScales, walked. -/
import Derived.Test.YtgkglkoipocgaaaProg
import Derived.Test.YtgkglkoipocgaaaZd
set_option linter.unusedVariables false
set_option linter.unusedSimpArgs false
namespace Go.Proofs.Ytgkglkoipocgaaa.Fx
open Go Go.RowKit Wm
set_option maxRecDepth 100000 in
theorem near_any (u : List Int) (hu : VecWf u) : Ans 25 #[.agg (u.map encI).toArray] (.bool (mayK u)) := by
  intro w
  have HC : Hid (Ans 39 #[.agg (u.map encI).toArray] (.bool (mayK u))) := Lib.hid fun w => pmay_any u w hu
  have HR : Hid (RowAt 23 w.heap.size (u.map encI).toArray (w.alloc (.cells (u.map encI).toArray 23))) := Lib.hid (RowAt.new _ _ _)
  have HB : Hid (Below w.heap.size w (w.alloc (.cells (u.map encI).toArray 23))) := Lib.hid (by go_grown)
  have IV : Hid ((Try.prog.info? 23).map (·.size) = some (u.map encI).toArray.size) := Lib.hid (by rw [List.size_toArray, List.length_map, hu.len]; kernel_rfl)
  generalize (u.map encI).toArray = x at HC HR HB IV ⊢
  clear hu
  go_enter Try.func25, Try.ntmps25
  go_wp2_with (refine wpList_load_row rfl 23 (.tmp 1) rfl w.heap.size rfl _ _ _ _ HR.out Try.underlying23 rfl IV.out ?_)
  generalize (w.alloc (.cells x 23)) = V at HR HB ⊢
  refine (HC.out _).mono ?_
  rintro e w1 ⟨rfl, hb⟩
  have B1 := Lib.hid (bnext HB.out hb)
  clear hb HB HR HC
  go_wp2_with fail
  go_ret
  exact ⟨rfl, B1.out⟩
/-- a vertex of which the first r numbers have been multiplied -/
def mixK (K a b c d : Int) : Nat → List Int
  | 0 => [a, b, c, d]
  | 1 => [a * K, b, c, d]
  | 2 => [a * K, b * K, c, d]
  | 3 => [a * K, b * K, c * K, d]
  | _ => [a * K, b * K, c * K, d * K]
theorem mix_len (K a b c d : Int) (r : Nat) : (mixK K a b c d r).length = 4 := by
  unfold mixK
  split <;> rfl
theorem mix_put {K a b c d : Int} {g r : Nat} {t : TypeId} {W : World} (hr : r < 4) (h : RowAt t g (mC (mixK K a b c d r)) W) : RowAt t g (mC (mixK K a b c d (r + 1))) (W.setCell ⟨g, r, none⟩ (.int .i64 ((mixK K a b c d r).getD r 0 * K))) := by
  have hd : r = 0 ∨ r = 1 ∨ r = 2 ∨ r = 3 := by omega
  rcases hd with rfl | rfl | rfl | rfl <;> exact heap_setCell_same _ _ _ _ _ _ h
theorem mix_get {K a b c d : Int} {r : Nat} (hr : r < 4) : (mixK K a b c d r).getD r 0 = [a, b, c, d].getD r 0 := by
  have hd : r = 0 ∨ r = 1 ∨ r = 2 ∨ r = 3 := by omega
  rcases hd with rfl | rfl | rfl | rfl <;> rfl
theorem times_num {a K : Int} (ha : -8796093022208 < a ∧ a < 8796093022208) (hK : 1 ≤ K ∧ K ≤ 65536) : -576460752303423488 ≤ a * K ∧ a * K ≤ 576460752303423488 := by
  have h1 : a * K ≤ 8796093022208 * K := Int.mul_le_mul_of_nonneg_right (by omega) (by omega)
  have h2 : -8796093022208 * K ≤ a * K := Int.mul_le_mul_of_nonneg_right (by omega) (by omega)
  omega
theorem corn_code (v : List Int) (W H : Int) : cornE v W H = 0 ∧ sizeK W H = true ∧ seenK v = true ∨ cornE v W H = 100 ∧ ¬ (sizeK W H = true ∧ seenK v = true) := by
  by_cases h : sizeK W H = true ∧ seenK v = true
  · refine .inl ⟨?_, h⟩
    unfold cornE cornO
    rw [if_pos h]
    rfl
  · refine .inr ⟨?_, h⟩
    unfold cornE cornO
    rw [if_neg h]
    rfl
/-- what becomes of a multiple -/
theorem scale_code {a b c d K W H : Int} (hK : 1 ≤ K) (h : cornE [a, b, c, d] W H = 0) :
    cornE [a * K, b * K, c * K, d * K] W H = 0 ∧ mayK [a * K, b * K, c * K, d * K] = true ∧ cornV [a * K, b * K, c * K, d * K] W H = cornV [a, b, c, d] W H ∨ cornE [a * K, b * K, c * K, d * K] W H = 100 ∧ mayK [a * K, b * K, c * K, d * K] = false := by
  have ht : [a * K, b * K, c * K, d * K] = timesK K [a, b, c, d] := rfl
  rw [ht]
  obtain ⟨_, hs, hv⟩ | ⟨h2, _⟩ := corn_code [a, b, c, d] W H
  · have hm := seen_times (k := K) (by omega) hv
    cases e : mayK (timesK K [a, b, c, d]) with
    | true =>
      rw [e] at hm
      obtain ⟨e2, _, _⟩ | ⟨_, g⟩ := corn_code (timesK K [a, b, c, d]) W H
      · refine .inl ⟨e2, rfl, ?_⟩
        rw [cornV_seen hs hm, cornV_seen hs hv, corn_times (by omega)]
      · exact absurd ⟨hs, hm⟩ g
    | false =>
      rw [e] at hm
      obtain ⟨_, _, g⟩ | ⟨e2, _⟩ := corn_code (timesK K [a, b, c, d]) W H
      · rw [hm] at g; cases g
      · exact .inr ⟨e2, rfl⟩
  · rw [h2] at h; cases h
theorem wf_u16' {z : Int} (h : (Lit.int .u16 z).wf = true) : 0 ≤ z ∧ z ≤ 65535 := by
  simp [Lit.wf, IntKind.min, IntKind.max, IntKind.signed, IntKind.bits] at h
  omega
structure ScW (x0 x1 x2 : Int) (u : List Int) (g1 g2 : Nat) (w W : World) : Prop where
  rc : RowAt 26 g1 #[.int .i64 x0, .int .i64 x1, .int .i64 x2] W
  ru : RowAt 23 g2 (mC u) W
  lt : g1 < g2 ∧ w.heap.size < g2
  bel : Below w.heap.size w W
theorem ScW.put {x0 x1 x2 K a b c d : Int} {r g1 g2 : Nat} {w W : World} (hr : r < 4) (h : ScW x0 x1 x2 (mixK K a b c d r) g1 g2 w W) : ScW x0 x1 x2 (mixK K a b c d (r + 1)) g1 g2 w (W.setCell ⟨g2, r, none⟩ (.int .i64 ((mixK K a b c d r).getD r 0 * K))) :=
  ⟨cell_else h.rc (by have := h.lt; omega) _, mix_put hr h.ru, h.lt, h.bel.setCell (p := ⟨g2, r, none⟩) (by show _ ≤ g2; have := h.lt; omega) _⟩
def ScRel (K a b c d x0 x1 x2 : Int) (g1 g2 : Nat) (w : World) (g : Nat) (s13 s32 : Value) (W : World) : Prop := ∃ r : Nat, g = 4 - r ∧ s32 = .int .i64 (r : Int) ∧ r ≤ 4 ∧ ScW x0 x1 x2 (mixK K a b c d r) g1 g2 w W
set_option maxRecDepth 100000 in
set_option maxHeartbeats 16000000 in
theorem viewScales_walk (hp : View10) (a b c d k W H e1 x0 x1 x2 : Int) (w : World) (na : Num a) (nb : Num b) (nc : Num c) (nd : Num d) (k0 : 0 ≤ k) (k1 : k ≤ 65535) (h1 : cornV [a, b, c, d] W H = [x0, x1, x2]) (h2 : cornE [a, b, c, d] W H = e1) :
    Calls Try.prog 6 #[.agg #[.int .i64 a, .int .i64 b, .int .i64 c, .int .i64 d], .int .u16 k, .int .i64 W, .int .i64 H] w (RetBool true w) := by
  have AL : Hid (Ans 24 #[] (.bool true)) := Lib.hid fun w => alive10_any hp w
  have C1 := Lib.hid (pCorner_at hp a b c d W H [x0, x1, x2] e1 na nb nc nd h1 h2)
  rw [show mC [x0, x1, x2] = #[.int .i64 x0, .int .i64 x1, .int .i64 x2] from rfl] at C1
  have HP := Lib.hid hp
  have H1 := Lib.hid h1
  have H2 := Lib.hid h2
  have HN := Lib.hid (And.intro na (And.intro nb (And.intro nc nd)))
  have RV0 : Hid (RowAt 23 w.heap.size #[.int .i64 a, .int .i64 b, .int .i64 c, .int .i64 d] (w.alloc (.cells #[.int .i64 a, .int .i64 b, .int .i64 c, .int .i64 d] 23))) := Lib.hid (RowAt.new _ _ _)
  have B0 : Hid (Below w.heap.size w (w.alloc (.cells #[.int .i64 a, .int .i64 b, .int .i64 c, .int .i64 d] 23))) := Lib.hid (by go_grown)
  clear hp h1 h2 na nb nc nd
  go_enter Try.func6, Try.ntmps6
  go_wp2_with fail
  generalize (w.alloc (.cells #[.int .i64 a, .int .i64 b, .int .i64 c, .int .i64 d] 23)) = w0 at RV0 B0 ⊢
  refine (AL.out _).mono ?_
  rintro e w1 ⟨rfl, hb⟩
  have RV2 := Lib.hid (RV0.out.below hb)
  have B2 := Lib.hid (bnext B0.out hb)
  clear hb RV0 B0 AL
  have QV2 : Hid (w1.rangeAt w.heap.size 0 [.int .i64 a, .int .i64 b, .int .i64 c, .int .i64 d]) := Lib.hid (row_range RV2.out)
  go_wp2_with (refine wpList_mid10g rfl 23 (.tmp 4) rfl w.heap.size 0 rfl [.int .i64 a, .int .i64 b, .int .i64 c, .int .i64 d] _ QV2.out Try.underlying23 rfl (by kernel_rfl) ?_)
  refine (C1.out _).mono ?_
  rintro e w3 ⟨rfl, hb⟩
  have RV4 := Lib.hid (RV2.out.below hb)
  have B4 := Lib.hid (bnext B2.out hb)
  clear hb RV2 B2 C1 QV2
  have Z5 : Hid (RowAt 26 w3.heap.size #[.int .i64 0, .int .i64 0, .int .i64 0] (w3.alloc (.cells #[.int .i64 0, .int .i64 0, .int .i64 0] 26))) := Lib.hid (RowAt.new _ _ _)
  obtain ⟨v5, hv⟩ : ∃ X, (w3.alloc (.cells #[.int .i64 0, .int .i64 0, .int .i64 0] 26)).setRow w3.heap.size #[.int .i64 x0, .int .i64 x1, .int .i64 x2] = X := ⟨_, rfl⟩
  obtain ⟨g5, hg⟩ : ∃ g, w3.heap.size = g := ⟨_, rfl⟩
  have bb : Below w3.heap.size w3 v5 := by rw [← hv]; exact Below.row ((Below.refl _ _).alloc (Nat.le_refl _) _) (Nat.le_refl _) _
  have HG5 : Hid (w3.heap.size = g5) := Lib.hid hg
  have L5_V : Hid (w.heap.size < g5) := Lib.hid (by rw [← hg]; exact RV4.out.lt)
  have RV6 := Lib.hid (RV4.out.below bb)
  have B6 := Lib.hid (bnext B4.out bb)
  have RC6 : Hid (RowAt 26 g5 #[.int .i64 x0, .int .i64 x1, .int .i64 x2] v5) := Lib.hid (by rw [← hv, ← hg]; exact Z5.out.row _)
  have HV5 := Lib.hid hv
  clear hv hg bb RV4 B4
  by_cases he : e1 = 0
  · subst he
    have QV6 : Hid (v5.rangeAt w.heap.size 0 [.int .i64 a, .int .i64 b, .int .i64 c, .int .i64 d]) := Lib.hid (row_range RV6.out)
    have Z7 : Hid (RowAt 23 v5.heap.size #[.int .i64 0, .int .i64 0, .int .i64 0, .int .i64 0] (v5.alloc (.cells #[.int .i64 0, .int .i64 0, .int .i64 0, .int .i64 0] 23))) := Lib.hid (RowAt.new _ _ _)
    obtain ⟨vv, hv⟩ : ∃ X, (v5.alloc (.cells #[.int .i64 0, .int .i64 0, .int .i64 0, .int .i64 0] 23)).setRow v5.heap.size #[.int .i64 a, .int .i64 b, .int .i64 c, .int .i64 d] = X := ⟨_, rfl⟩
    obtain ⟨gg, hg⟩ : ∃ g, v5.heap.size = g := ⟨_, rfl⟩
    have bb : Below v5.heap.size v5 vv := by rw [← hv]; exact Below.row ((Below.refl _ _).alloc (Nat.le_refl _) _) (Nat.le_refl _) _
    have HS0 : Hid (ScW x0 x1 x2 (mixK (1 + k) a b c d 0) g5 gg w vv) := Lib.hid ⟨RC6.out.below bb, by rw [← hv, ← hg]; exact Z7.out.row _, ⟨by rw [← hg]; exact RC6.out.lt, by rw [← hg]; exact RV6.out.lt⟩, bnext B6.out bb⟩
    have HW9 := Lib.hid hv
    have HG9 := Lib.hid hg
    clear hv hg bb
    go_wp2_with (first | (rw [HV5.out, HG5.out]) | (rw [HV5.out]) | (refine wpList_store_big rfl 26 (.tmp 10) (.tmp 22) rfl w3.heap.size _ _ #[.int .i64 x0, .int .i64 x1, .int .i64 x2] rfl rfl Z5.out (by kernel_rfl) rfl (by kernel_rfl) ?_) | (refine wpList_mid10g rfl 23 (.tmp 4) rfl w.heap.size 0 rfl [.int .i64 a, .int .i64 b, .int .i64 c, .int .i64 d] _ QV6.out Try.underlying23 rfl (by kernel_rfl) ?_) | (rw [HW9.out, HG9.out]) | (rw [HW9.out]) | (refine wpList_store_big rfl 23 (.tmp 12) (.tmp 31) rfl v5.heap.size _ _ #[.int .i64 a, .int .i64 b, .int .i64 c, .int .i64 d] rfl rfl Z7.out (by kernel_rfl) rfl (by kernel_rfl) ?_))
    have bn : (-8796093022208 < a ∧ a < 8796093022208) ∧ (-8796093022208 < b ∧ b < 8796093022208) ∧ (-8796093022208 < c ∧ c < 8796093022208) ∧ (-8796093022208 < d ∧ d < 8796093022208) := by
      obtain ⟨_, hs, hv⟩ | ⟨h2, _⟩ := corn_code [a, b, c, d] W H
      · exact may_nums ((seen_iff _).1 hv).1
      · rw [H2.out] at h2; cases h2
    have BN := Lib.hid bn
    have KK : Hid (1 ≤ 1 + k ∧ 1 + k ≤ 65536) := Lib.hid (by omega)
    have e5 : -9223372036854775808 ≤ 1 + k ∧ 1 + k ≤ 9223372036854775807 := by omega
    clear bn RV6 RC6 B6 Z5 HV5 HG5 QV6 Z7 HW9 HG9
    go_loopg [13, 32] 4 (ScRel (1 + k) a b c d x0 x1 x2 g5 gg w)
    case atStart => exact ⟨0, rfl, rfl, by omega, HS0.out⟩
    case round =>
      obtain ⟨r, hg, rfl, hr4, hs⟩ := hrel
      subst hg
      have HS := Lib.hid hs
      clear hs HS0
      by_cases hr : r < 4
      · have r1 : (r : Int) < 4 := by omega
        have hcell : wr.cell? ⟨gg, r, none⟩ = some (.int .i64 ((mixK (1 + k) a b c d r).getD r 0)) := by rw [HS.out.ru.cell, mC_cell (by rw [mix_len]; exact hr)]
        have hfree : wr.frozen? ⟨gg, r, none⟩ = false := HS.out.ru.free
        have hlt : gg < wr.heap.size := HS.out.ru.lt
        have HN2 : Hid (-576460752303423488 ≤ (mixK (1 + k) a b c d r).getD r 0 * (1 + k) ∧ (mixK (1 + k) a b c d r).getD r 0 * (1 + k) ≤ 576460752303423488) := Lib.hid (by
          rw [mix_get hr]
          have hd : r = 0 ∨ r = 1 ∨ r = 2 ∨ r = 3 := by omega
          obtain ⟨b0, b1, b2, b3⟩ := BN.out
          rcases hd with rfl | rfl | rfl | rfl
          · exact times_num b0 KK.out
          · exact times_num b1 KK.out
          · exact times_num b2 KK.out
          · exact times_num b3 KK.out)
        have HPU := Lib.hid (HS.out.put hr)
        generalize (mixK (1 + k) a b c d r).getD r 0 = y at hcell HN2 HPU
        have m1 : -9223372036854775808 ≤ y * (1 + k) ∧ y * (1 + k) ≤ 9223372036854775807 := by have := HN2.out; omega
        go_wp2_with fail
        go_roundg (4 - (r + 1))
        case measure => omega
        case rel => exact ⟨r + 1, rfl, by go_num, by omega, HPU.out⟩
      · obtain rfl : r = 4 := by omega
        have r1 : ¬ ((4 : Nat) : Int) < 4 := by omega
        obtain ⟨b0, b1, b2, b3⟩ := BN.out
        have t0 := times_num b0 KK.out
        have t1 := times_num b1 KK.out
        have t2 := times_num b2 KK.out
        have t3 := times_num b3 KK.out
        have hsc := scale_code (a := a) (b := b) (c := c) (d := d) (K := 1 + k) (W := W) (H := H) KK.out.1 H2.out
        have ew : VecWf [a * (1 + k), b * (1 + k), c * (1 + k), d * (1 + k)] := wf4n _ _ _ _ ⟨by omega, by omega⟩ ⟨by omega, by omega⟩ ⟨by omega, by omega⟩ ⟨by omega, by omega⟩
        obtain ⟨y0, y1, y2, hy⟩ := list3 (cornV_len [a * (1 + k), b * (1 + k), c * (1 + k), d * (1 + k)] W H)
        obtain ⟨e2, he2⟩ : ∃ e, cornE [a * (1 + k), b * (1 + k), c * (1 + k), d * (1 + k)] W H = e := ⟨_, rfl⟩
        obtain ⟨m, hm⟩ : ∃ m, mayK [a * (1 + k), b * (1 + k), c * (1 + k), d * (1 + k)] = m := ⟨_, rfl⟩
        have C2 : Hid (Ans 11 #[.agg #[.int .i64 (a * (1 + k)), .int .i64 (b * (1 + k)), .int .i64 (c * (1 + k)), .int .i64 (d * (1 + k))], .int .i64 W, .int .i64 H] (.tuple #[.agg #[.int .i64 y0, .int .i64 y1, .int .i64 y2], .int .i64 e2])) := Lib.hid fun w => by
          have := HP.out.corner _ W H w ew
          rw [hy, he2] at this
          exact this
        have CM : Hid (Ans 25 #[.agg #[.int .i64 (a * (1 + k)), .int .i64 (b * (1 + k)), .int .i64 (c * (1 + k)), .int .i64 (d * (1 + k))]] (.bool m)) := Lib.hid (by rw [← hm]; exact near_any _ ew)
        rw [hy, H1.out, he2, hm] at hsc
        have HSC : Hid (e2 = 0 ∧ m = true ∧ y0 = x0 ∧ y1 = x1 ∧ y2 = x2 ∨ e2 = 100 ∧ m = false) := Lib.hid (by
          rcases hsc with ⟨q1, q2, q3⟩ | ⟨q1, q2⟩
          · injection q3 with q3 q4
            injection q4 with q4 q5
            injection q5 with q5 q6
            exact .inl ⟨q1, q2, q3, q4, q5⟩
          · exact .inr ⟨q1, q2⟩)
        have RU0 : Hid (RowAt 23 gg #[.int .i64 (a * (1 + k)), .int .i64 (b * (1 + k)), .int .i64 (c * (1 + k)), .int .i64 (d * (1 + k))] wr) := Lib.hid HS.out.ru
        have RC0 := Lib.hid HS.out.rc
        have BW0 := Lib.hid HS.out.bel
        clear b0 b1 b2 b3 t0 t1 t2 t3 hsc ew hy he2 hm HS BN KK HP H1 H2 HN e5
        generalize a * (1 + k) = u0 at C2 CM RU0
        generalize b * (1 + k) = u1 at C2 CM RU0
        generalize c * (1 + k) = u2 at C2 CM RU0
        generalize d * (1 + k) = u3 at C2 CM RU0
        have QU17 : Hid (wr.rangeAt gg 0 [.int .i64 u0, .int .i64 u1, .int .i64 u2, .int .i64 u3]) := Lib.hid (row_range RU0.out)
        go_wp2_with (refine wpList_mid10g rfl 23 (.tmp 12) rfl gg 0 rfl [.int .i64 u0, .int .i64 u1, .int .i64 u2, .int .i64 u3] _ QU17.out Try.underlying23 rfl (by kernel_rfl) ?_)
        refine (C2.out _).mono ?_
        rintro e w18 ⟨rfl, hb⟩
        have RU19 := Lib.hid (RU0.out.below hb)
        have RC19 := Lib.hid (RC0.out.below hb)
        have B19 := Lib.hid (bnext BW0.out hb)
        clear hb RU0 RC0 BW0 C2 QU17
        have Z20 : Hid (RowAt 26 w18.heap.size #[.int .i64 0, .int .i64 0, .int .i64 0] (w18.alloc (.cells #[.int .i64 0, .int .i64 0, .int .i64 0] 26))) := Lib.hid (RowAt.new _ _ _)
        obtain ⟨v20, hv⟩ : ∃ X, (w18.alloc (.cells #[.int .i64 0, .int .i64 0, .int .i64 0] 26)).setRow w18.heap.size #[.int .i64 y0, .int .i64 y1, .int .i64 y2] = X := ⟨_, rfl⟩
        obtain ⟨g20, hg⟩ : ∃ g, w18.heap.size = g := ⟨_, rfl⟩
        have bb : Below w18.heap.size w18 v20 := by rw [← hv]; exact Below.row ((Below.refl _ _).alloc (Nat.le_refl _) _) (Nat.le_refl _) _
        have HG20 : Hid (w18.heap.size = g20) := Lib.hid hg
        have L20_U : Hid (gg < g20) := Lib.hid (by rw [← hg]; exact RU19.out.lt)
        have L20_C : Hid (g5 < g20) := Lib.hid (by rw [← hg]; exact RC19.out.lt)
        have RU21 := Lib.hid (RU19.out.below bb)
        have RC21 := Lib.hid (RC19.out.below bb)
        have B21 := Lib.hid (bnext B19.out bb)
        have RD21 : Hid (RowAt 26 g20 #[.int .i64 y0, .int .i64 y1, .int .i64 y2] v20) := Lib.hid (by rw [← hv, ← hg]; exact Z20.out.row _)
        have HV20 := Lib.hid hv
        clear hv hg bb RU19 RC19 B19
        have QU21 : Hid (v20.rangeAt gg 0 [.int .i64 u0, .int .i64 u1, .int .i64 u2, .int .i64 u3]) := Lib.hid (row_range RU21.out)
        rcases HSC.out with ⟨rfl, rfl, rfl, rfl, rfl⟩ | ⟨rfl, rfl⟩
        · go_wp2_with (first | (rw [HV20.out, HG20.out]) | (rw [HV20.out]) | (refine wpList_store_big rfl 26 (.tmp 14) (.tmp 50) rfl w18.heap.size _ _ #[.int .i64 y0, .int .i64 y1, .int .i64 y2] rfl rfl Z20.out (by kernel_rfl) rfl (by kernel_rfl) ?_) | (refine wpList_mid10g rfl 23 (.tmp 12) rfl gg 0 rfl [.int .i64 u0, .int .i64 u1, .int .i64 u2, .int .i64 u3] _ QU21.out Try.underlying23 rfl (by kernel_rfl) ?_))
          refine (CM.out _).mono ?_
          rintro e w22 ⟨rfl, hb⟩
          have RU23 := Lib.hid (RU21.out.below hb)
          have RC23 := Lib.hid (RC21.out.below hb)
          have RD23 := Lib.hid (RD21.out.below hb)
          have B23 := Lib.hid (bnext B21.out hb)
          clear hb RU21 RC21 RD21 B21 CM Z20 HV20 HG20 QU21
          have QC23 : Hid (w22.rangeAt g5 0 [.int .i64 y0, .int .i64 y1, .int .i64 y2]) := Lib.hid (row_range RC23.out)
          have QD23 : Hid (w22.rangeAt g20 0 [.int .i64 y0, .int .i64 y1, .int .i64 y2]) := Lib.hid (row_range RD23.out)
          go_wp2_with (first | (refine wpList_mid10g rfl 26 (.tmp 10) rfl g5 0 rfl [.int .i64 y0, .int .i64 y1, .int .i64 y2] _ QC23.out Try.underlying26 rfl (by kernel_rfl) ?_) | (refine wpList_mid10g rfl 26 (.tmp 14) rfl g20 0 rfl [.int .i64 y0, .int .i64 y1, .int .i64 y2] _ QD23.out Try.underlying26 rfl (by kernel_rfl) ?_))
          go_ret
          exact ⟨rfl, B23.out⟩
        · go_wp2_with (first | (rw [HV20.out, HG20.out]) | (rw [HV20.out]) | (refine wpList_store_big rfl 26 (.tmp 14) (.tmp 50) rfl w18.heap.size _ _ #[.int .i64 y0, .int .i64 y1, .int .i64 y2] rfl rfl Z20.out (by kernel_rfl) rfl (by kernel_rfl) ?_) | (refine wpList_mid10g rfl 23 (.tmp 12) rfl gg 0 rfl [.int .i64 u0, .int .i64 u1, .int .i64 u2, .int .i64 u3] _ QU21.out Try.underlying23 rfl (by kernel_rfl) ?_))
          refine (CM.out _).mono ?_
          rintro e w22 ⟨rfl, hb⟩
          have RU23 := Lib.hid (RU21.out.below hb)
          have RC23 := Lib.hid (RC21.out.below hb)
          have RD23 := Lib.hid (RD21.out.below hb)
          have B23 := Lib.hid (bnext B21.out hb)
          clear hb RU21 RC21 RD21 B21 CM Z20 HV20 HG20 QU21
          go_wp2_with fail
          go_ret
          exact ⟨rfl, B23.out⟩
  · have hne : ¬ e1 = 0 := he
    go_wp2_with (first | (rw [HV5.out, HG5.out]) | (rw [HV5.out]) | (refine wpList_store_big rfl 26 (.tmp 10) (.tmp 22) rfl w3.heap.size _ _ #[.int .i64 x0, .int .i64 x1, .int .i64 x2] rfl rfl Z5.out (by kernel_rfl) rfl (by kernel_rfl) ?_))
    go_ret
    exact ⟨rfl, B6.out⟩
theorem law_viewScales (hp : View10) (v : List Int) (lv : v.length = 4) (wv : ∀ j, -9223372036854775808 ≤ v.getD j 0 ∧ v.getD j 0 ≤ 9223372036854775807) (k : Int) (wk : (Lit.int .u16 k).wf = true) (W : Int) (wW : (Lit.int .i64 W).wf = true) (H : Int) (wH : (Lit.int .i64 H).wf = true) (w : World) :
    Calls Try.prog 6 #[.agg (mC v), .int .u16 k, .int .i64 W, .int .i64 H] w fun e w' => e = .returned (.bool true) ∧ Below w.heap.size w w' := by
  obtain ⟨hk0, hk1⟩ := wf_u16' wk
  rw [list4 lv]
  obtain ⟨x0, x1, x2, hx⟩ := list3 (cornV_len [v.getD 0 0, v.getD 1 0, v.getD 2 0, v.getD 3 0] W H)
  exact viewScales_walk hp _ _ _ _ k W H _ x0 x1 x2 w (wv 0) (wv 1) (wv 2) (wv 3) hk0 hk1 hx rfl
end Go.Proofs.Ytgkglkoipocgaaa.Fx
