/- The law on texts and sums at every input. -/
import Derived.Test.YtknggdlhndffeaaProg
import Derived.Test.YtknggdlhndffeaaB1
import Derived.Test.YtknggdlhndffeaaB2
set_option linter.unusedVariables false
set_option linter.unusedSimpArgs false
namespace Go.Proofs.Ytknggdlhndffeaa.Fx
open Go Go.RowKit Wm
theorem cmp_swap (x y : Int) : wrap64 (-(cmpI y x)) = cmpI x y ∧ IntKind.i64.wrap (-(cmpI y x)) = cmpI x y := by
  rw [IntKind.wrap_i64]
  unfold wrap64 cmpI
  rcases Int.lt_trichotomy x y with h | h | h
  · rw [if_neg (show ¬ y = x by omega), if_neg (show ¬ y < x by omega), if_neg (show ¬ x = y by omega), if_pos h]
    decide
  · subst h
    rw [if_pos rfl]
    decide
  · rw [if_neg (show ¬ y = x by omega), if_pos h, if_neg (show ¬ x = y by omega), if_neg (show ¬ x < y by omega)]
    decide
theorem neg_wraps (a : Int) (h0 : -9223372036854775808 ≤ a) (h1 : a ≤ 9223372036854775807) : wrap64 (-a) = IntKind.i64.wrap (-a) ∧ (a ≠ -9223372036854775808 → IntKind.i64.wrap (-a) = -a) := by
  rw [IntKind.wrap_i64]
  unfold wrap64
  omega
theorem back_long (xh yh zh a b : Int) (xl yl zl : Nat) (s : ByteArray) (w : World) (hs : 60 < s.size) (hs2 : s.size ≤ maxLen) :
    Calls Try.prog 8 #[.agg #[.int .i64 xh, .int .u64 xl], .agg #[.int .i64 yh, .int .u64 yl], .agg #[.int .i64 zh, .int .u64 zl], .int .i64 a, .int .i64 b, .string s] w fun e w' => e = .returned (.bool true) ∧ Below w.heap.size w w' := by
  have hgg : (60 : Int) < (s.size : Int) := by omega
  go_enter Try.func8, Try.ntmps8
  go_wp2_with fail
  refine (alive_any _).mono ?_
  rintro e w' ⟨rfl, hb⟩
  go_wp2
  go_ret
  exact ⟨rfl, by (repeat' (first | (with_reducible exact Below.refl _ _) | (with_reducible assumption) | (with_reducible refine Below.drew ?_) | (with_reducible refine Below.setCell ?_ ?_ _) | (with_reducible refine bnext ?_ (by assumption)) | (with_reducible refine Below.alloc ?_ ?_ _) | go_size))⟩
theorem walk_wideBack (x y z xh yh zh a b : Int) (xl yl zl : Nat) (s : ByteArray) (w : World) (hx : At x xh xl) (hy : At y yh yl) (hz : At z zh zl) (ha0 : -9223372036854775808 ≤ a) (ha1 : a ≤ 9223372036854775807) (hb0 : -9223372036854775808 ≤ b) (hb1 : b ≤ 9223372036854775807) (hs2 : s.size ≤ maxLen) :
    Calls Try.prog 8 #[.agg #[.int .i64 xh, .int .u64 xl], .agg #[.int .i64 yh, .int .u64 yl], .agg #[.int .i64 zh, .int .u64 zl], .int .i64 a, .int .i64 b, .string s] w fun e w' => e = .returned (.bool true) ∧ Below w.heap.size w w' := by
  by_cases hs : 60 < s.size
  · exact back_long xh yh zh a b xl yl zl s w hs hs2
  have hsl : (s.size : Int) ≤ 60 := by omega
  have TX : Ans 31 #[.agg #[.int .i64 xh, .int .u64 xl]] (.string (bstr (wtx x))) := fun w => text_any x xh xl w hx
  have PX : Ans 28 #[.string (bstr (wtx x))] (.tuple #[.agg #[.int .i64 xh, .int .u64 xl], .int .i64 0]) := fun w =>
    exP (parse_any _ w (by rw [bstr_size]; have := wtx_len x; omega)) (by rw [(pv_text hx.inn).1]; exact hx) (pv_text hx.inn).2
  obtain ⟨th, tl, ht⟩ := At.ex (pv_in s)
  have PS := fun (g : Int) (hg : pe s = g) => (fun w => exP (parse_any s w (by omega)) ht hg : Ans 28 #[.string s] (.tuple #[.agg #[.int .i64 th, .int .u64 tl], .int .i64 g]))
  obtain ⟨sh, sl, hsm⟩ := At.ex (valE_in (x + y))
  have A1 : Ans 13 #[.agg #[.int .i64 xh, .int .u64 xl], .agg #[.int .i64 yh, .int .u64 yl]] (.tuple #[.agg #[.int .i64 sh, .int .u64 sl], .int .i64 (errE (x + y))]) := fun w => exE (add_any x y xh yh xl yl w hx hy) hsm rfl
  have A2 : Ans 13 #[.agg #[.int .i64 yh, .int .u64 yl], .agg #[.int .i64 xh, .int .u64 xl]] (.tuple #[.agg #[.int .i64 sh, .int .u64 sl], .int .i64 (errE (x + y))]) := fun w => exE (add_any y x yh xh yl xl w hy hx) (by rw [Int.add_comm]; exact hsm) (by rw [Int.add_comm])
  obtain ⟨uh, ul, hu⟩ := At.ex (valE_in (y + z))
  have A4 : Ans 13 #[.agg #[.int .i64 yh, .int .u64 yl], .agg #[.int .i64 zh, .int .u64 zl]] (.tuple #[.agg #[.int .i64 uh, .int .u64 ul], .int .i64 (errE (y + z))]) := fun w => exE (add_any y z yh zh yl zl w hy hz) hu rfl
  obtain ⟨lh, ll, hl⟩ := At.ex (valE_in (x + y + z))
  have ez : ∀ v, errE v = 0 → In v ∧ valE v = v := by
    intro v h
    unfold errE at h
    by_cases hv : In v
    · exact ⟨hv, if_pos hv⟩
    · rw [if_neg hv] at h; omega
  have SB : errE (x + y) = 0 → Ans 16 #[.agg #[.int .i64 sh, .int .u64 sl], .agg #[.int .i64 yh, .int .u64 yl]] (.tuple #[.agg #[.int .i64 xh, .int .u64 xl], .int .i64 0]) := by
    intro h w
    rw [(ez _ h).2] at hsm
    have e : x + y - y = x := by omega
    exact exE (sub_any (x + y) y sh yh sl yl w hsm hy) (by rw [e, valE, if_pos hx.inn]; exact hx) (by rw [e, errE, if_pos hx.inn])
  have A3 : errE (x + y) = 0 → Ans 13 #[.agg #[.int .i64 sh, .int .u64 sl], .agg #[.int .i64 zh, .int .u64 zl]] (.tuple #[.agg #[.int .i64 lh, .int .u64 ll], .int .i64 (errE (x + y + z))]) := by
    intro h w
    rw [(ez _ h).2] at hsm
    exact exE (add_any (x + y) z sh zh sl zl w hsm hz) hl rfl
  have A5 : errE (x + y) = 0 → errE (x + y + z) = 0 → errE (y + z) = 0 → Ans 13 #[.agg #[.int .i64 xh, .int .u64 xl], .agg #[.int .i64 uh, .int .u64 ul]] (.tuple #[.agg #[.int .i64 lh, .int .u64 ll], .int .i64 0]) := by
    intro h1 h2 h3 w
    rw [(ez _ h3).2] at hu
    have e : x + (y + z) = x + y + z := by omega
    exact exE (add_any x (y + z) xh uh xl ul w hx hu) (by rw [e]; exact hl) (by rw [e]; exact h2)
  obtain ⟨ph, pl, hp⟩ := At.ex (mul_in a b ha0 ha1 hb0 hb1)
  have M1 : Ans 21 #[.int .i64 a, .int .i64 b] (.agg #[.int .i64 ph, .int .u64 pl]) := fun w => exW (mul_any a b w ha0 ha1 hb0 hb1) hp
  have M2 : Ans 21 #[.int .i64 b, .int .i64 a] (.agg #[.int .i64 ph, .int .u64 pl]) := fun w => exW (mul_any b a w hb0 hb1 ha0 ha1) (by rw [Int.mul_comm]; exact hp)
  have C1 : Ans 23 #[.agg #[.int .i64 xh, .int .u64 xl], .agg #[.int .i64 yh, .int .u64 yl]] (.int .i64 (cmpI x y)) := fun w => cmp_any x y xh yh xl yl w hx hy
  have C2 : Ans 23 #[.agg #[.int .i64 yh, .int .u64 yl], .agg #[.int .i64 xh, .int .u64 xl]] (.int .i64 (cmpI y x)) := fun w => cmp_any y x yh xh yl xl w hy hx
  have NA := neg_wraps a ha0 ha1
  obtain ⟨na, hna⟩ : ∃ na, IntKind.i64.wrap (-a) = na := ⟨_, rfl⟩
  rw [hna] at NA
  have nb : -9223372036854775808 ≤ na ∧ na ≤ 9223372036854775807 := by rw [IntKind.wrap_i64] at hna; omega
  obtain ⟨qh, ql, hq⟩ := At.ex (mul_in na b nb.1 nb.2 hb0 hb1)
  have M3 : a ≠ -9223372036854775808 → Ans 21 #[.int .i64 na, .int .i64 b] (.agg #[.int .i64 qh, .int .u64 ql]) := fun _ w => exW (mul_any na b w nb.1 nb.2 hb0 hb1) hq
  have M4 : a ≠ -9223372036854775808 → Ans 21 #[.int .i64 b, .int .i64 na] (.agg #[.int .i64 qh, .int .u64 ql]) := fun _ w => exW (mul_any b na w hb0 hb1 nb.1 nb.2) (by rw [Int.mul_comm]; exact hq)
  rcases pv_ok s with ⟨e, ht2⟩ | ⟨e, _⟩
  · have TT : Ans 31 #[.agg #[.int .i64 th, .int .u64 tl]] (.string s) := fun w => by
      have := text_any (pv s) th tl w ht
      rw [ht2] at this
      exact this
    exact back_t xh yh zh th sh lh uh ph qh a b na _ _ _ _ _ xl yl zl tl sl ll ul pl ql s _ w (Lib.hid TX) (Lib.hid PX) (Lib.hid (PS 0 e)) (Lib.hid TT) (Lib.hid A1) (Lib.hid A2) (Lib.hid SB) (Lib.hid A3) (Lib.hid A4) (Lib.hid A5) (Lib.hid M1) (Lib.hid M2) (Lib.hid C1) (Lib.hid C2) (Lib.hid M3) (Lib.hid M4) hsl (cmp_swap x y).1 (cmp_swap x y).2 NA.1 hna
  · exact back_f xh yh zh th sh lh uh ph qh a b na _ _ _ _ _ xl yl zl tl sl ll ul pl ql s _ w (Lib.hid TX) (Lib.hid PX) (Lib.hid (PS 20 e)) (Lib.hid A1) (Lib.hid A2) (Lib.hid SB) (Lib.hid A3) (Lib.hid A4) (Lib.hid A5) (Lib.hid M1) (Lib.hid M2) (Lib.hid C1) (Lib.hid C2) (Lib.hid M3) (Lib.hid M4) hsl (cmp_swap x y).1 (cmp_swap x y).2 NA.1 hna
end Go.Proofs.Ytknggdlhndffeaa.Fx
