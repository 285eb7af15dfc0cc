/- Package wide: Div and MulDiv by their values. -/
import Derived.Test.YtgkcbadfjhicnaaProg
import Derived.Test.YtgkcbadfjhicnaaW6
import Derived.Test.YtgkcbadfjhicnaaW6b
set_option linter.unusedVariables false
set_option linter.unusedSimpArgs false
namespace Go.Proofs.Ytgkcbadfjhicnaa.Fx
open Go Go.RowKit Wm
theorem div_zero (xh : Int) (xl : Nat) (w : World) :
    Calls Try.prog 25 #[.agg #[.int .i64 xh, .int .u64 xl], .int .i64 0] w (RetD 0 0 21 w) := by
  go_enter Try.func25, Try.ntmps25
  go_wp2
  refine bodyPost_ret (v := .tuple #[.agg #[.int .i64 0, .int .u64 0], .int .i64 0, .int .i64 21]) (by simp [results, Try.results25, go_sem, *]) rfl ⟨0, 0, rfl, At.zero, ?_⟩
  repeat' (first | (with_reducible exact Below.refl _ _) | (with_reducible assumption) | (with_reducible refine Below.drew ?_) | (with_reducible refine Below.setCell ?_ ?_ _) | (with_reducible refine bnext ?_ (by assumption)) | (with_reducible refine Below.alloc ?_ ?_ _) | go_size)
theorem i64_nat {n : Nat} (h : n < 9223372036854775808) : IntKind.i64.wrap (n : Int) = (n : Int) ∧ wrap64 (n : Int) = (n : Int) ∧ IntKind.u64.wrap (n : Int) = (n : Int) ∧ wrap64 (-(n : Int)) = -(n : Int) := by
  rw [IntKind.wrap_i64, IntKind.wrap_u64]
  unfold wrap64
  omega
theorem sign_same (n h l : Nat) (w : World) (a : Na n h l) (hi : In (n : Int)) :
    Calls Try.prog 55 #[.agg #[.int .u64 h, .int .u64 l], .bool false] w (RetW (n : Int) w) := by
  have := sign_any n h l false w a
  rw [if_neg (by decide), w128_in hi] at this
  exact this
theorem sign_over (n h l : Nat) (w : World) (a : Na n h l) :
    Calls Try.prog 55 #[.agg #[.int .u64 h, .int .u64 l], .bool false] w (RetW (w128 (n : Int)) w) := by
  have := sign_any n h l false w a
  rw [if_neg (by decide)] at this
  exact this
theorem sign_minus (n h l : Nat) (w : World) (a : Na n h l) (hi : In (-(n : Int))) :
    Calls Try.prog 55 #[.agg #[.int .u64 h, .int .u64 l], .bool true] w (RetW (-(n : Int)) w) := by
  have := sign_any n h l true w a
  rw [if_pos rfl, w128_in hi] at this
  exact this
theorem over_neg {q : Nat} (hq : q ≤ 170141183460469231731687303715884105728) (hi : ¬ In (q : Int)) : decide (w128 (q : Int) < 0) = true := by
  rw [decide_eq_true_iff]
  unfold In at hi
  unfold w128
  omega
theorem sub_cast {m r : Nat} (h : r ≤ m) : (m : Int) - (r : Int) = ((m - r : Nat) : Int) := by omega
set_option maxHeartbeats 1000000 in
theorem wdiv_any (x xh c : Int) (xl : Nat) (w : World) (hx : At x xh xl) (hc0 : -9223372036854775808 ≤ c) (hc1 : c ≤ 9223372036854775807) (hc : c ≠ 0) :
    Calls Try.prog 25 #[.agg #[.int .i64 xh, .int .u64 xl], .int .i64 c] w (RetD (valE (dv x c)) (if In (dv x c) then rs x c else 0) (errE (dv x c)) w) := by
  have SZ := fun w => size_any c w hc0 hc1
  have NN := fun w => sizeOf_any x xh xl w hx
  have BY := fun w h l (a : Na x.natAbs h l) => by_any x.natAbs h l c.natAbs w a (by omega) (by omega)
  have cz : (c == 0) = false := by simpa using hc
  have hn : x.natAbs ≤ 170141183460469231731687303715884105728 := by have := hx.inn; unfold In at this; omega
  have hq : x.natAbs / c.natAbs ≤ 170141183460469231731687303715884105728 := Nat.le_trans (Nat.div_le_self _ _) hn
  have hr : x.natAbs % c.natAbs < c.natAbs := Nat.mod_lt _ (by omega)
  have hneg := hx.neg
  have DL := Lib.hid (@dv_like x c hc)
  have DU := Lib.hid (@dv_unlike x c hc)
  have hq2 : x.natAbs % c.natAbs ≠ 0 → x.natAbs / c.natAbs ≤ 85070591730234615865843651857942052864 := by
    intro h
    have h2 : 2 ≤ c.natAbs := by
      refine Nat.lt_of_le_of_ne (by omega) fun e => ?_
      rw [← e] at h
      exact h (Nat.mod_one _)
    refine Nat.le_trans (Nat.div_le_div_left h2 (by omega)) ?_
    omega
  have hq2 := Lib.hid hq2
  generalize x.natAbs / c.natAbs = q at *
  generalize x.natAbs % c.natAbs = r at *
  obtain ⟨r1, r2, r3, r4⟩ := @i64_nat r (by omega)
  clear hn
  by_cases hl : x < 0 ↔ c < 0
  · obtain ⟨d1, d2⟩ := DL.out hl
    rw [d1, d2]
    by_cases hi : In (q : Int)
    · have hz : decide ((q : Int) < 0) = false := by rw [decide_eq_false_iff_not]; omega
      have ZP := fun w h l (a : Na q h l) => sign_same q h l w a hi
      rw [valE, errE, if_pos hi, if_pos hi, if_pos hi]
      by_cases cs : c < 0
      · rw [if_pos cs]
        exact div_tt x xh c xl _ _ q r r 0 r w hx (Lib.hid (decide_eq_true (by omega))) (decide_eq_true cs) cz SZ NN BY rfl _ ZP hz r1 r2 r3 r4
      · rw [if_neg cs]
        exact div_ff x xh c xl _ _ q r r 0 r w hx (Lib.hid (decide_eq_false (by omega))) (decide_eq_false cs) cz SZ NN BY rfl _ ZP hz r1 r2 r3
    · rw [valE, errE, if_neg hi, if_neg hi, if_neg hi]
      have hz := over_neg hq hi
      have ZP := fun w h l (a : Na q h l) => sign_over q h l w a
      by_cases cs : c < 0
      · exact div_tto x xh c xl _ _ q r r 0 0 w hx (Lib.hid (decide_eq_true (by omega))) (decide_eq_true cs) cz SZ NN BY rfl _ ZP hz
      · exact div_ffo x xh c xl _ _ q r r 0 0 w hx (Lib.hid (decide_eq_false (by omega))) (decide_eq_false cs) cz SZ NN BY rfl _ ZP hz
  · have DU0 := Lib.hid (DU.out hl).1
    have DU1 := Lib.hid (DU.out hl).2
    by_cases h0 : r = 0
    · subst h0
      obtain ⟨d1, d2⟩ := DU0.out rfl
      have hi : In (-(q : Int)) := by unfold In; omega
      rw [d1, d2, valE, errE, if_pos hi, if_pos hi, if_pos hi]
      have ZN := fun w h l (a : Na q h l) => sign_minus q h l w a hi
      have hr0 : (((0 : Nat) : Int) != 0) = false := rfl
      by_cases cs : c < 0
      · exact div_ft x xh c xl _ _ q 0 0 0 0 w hx (Lib.hid (decide_eq_false (by omega))) (decide_eq_true cs) cz SZ NN BY hr0 rfl _ ZN r1 r2 r3 (by unfold wrap64; omega)
      · exact div_tf x xh c xl _ _ q 0 0 0 0 w hx (Lib.hid (decide_eq_true (by omega))) (decide_eq_false cs) cz SZ NN BY hr0 rfl _ ZN r1 r2 r3
    · obtain ⟨d1, d2⟩ := DU1.out h0
      have hqq := hq2.out h0
      have hi : In (-((q + 1 : Nat) : Int)) := by unfold In; omega
      rw [d1, d2, valE, errE, if_pos hi, if_pos hi, if_pos hi]
      have PL := fun w h l (a : Na q h l) => plus_any q h l 1 w a (by omega)
      rw [show (q + 1) % 340282366920938463463374607431768211456 = q + 1 from Nat.mod_eq_of_lt (by omega)] at PL
      have ZQ := fun w h l (a : Na (q + 1) h l) => sign_minus (q + 1) h l w a hi
      have hr0 : ((r : Int) != 0) = true := by simpa using h0
      obtain ⟨s1, s2, s3, s4⟩ := @i64_nat (c.natAbs - r) (by omega)
      by_cases cs : c < 0
      · rw [if_pos cs]
        exact div_ftu x xh c xl _ _ q r (c.natAbs - r) 0 _ w hx (Lib.hid (decide_eq_false (by omega))) (decide_eq_true cs) cz SZ NN BY hr0 (q + 1) PL (sub_cast (Nat.le_of_lt hr)) _ ZQ s1 s2 s3 s4
      · rw [if_neg cs]
        exact div_tfu x xh c xl _ _ q r (c.natAbs - r) 0 _ w hx (Lib.hid (decide_eq_true (by omega))) (decide_eq_false cs) cz SZ NN BY hr0 (q + 1) PL (sub_cast (Nat.le_of_lt hr)) _ ZQ s1 s2 s3
set_option maxHeartbeats 1000000 in
theorem muldiv_0 (a b c p q r : Int) (i j : Int) (w : World) (hm : ∀ w, Calls Try.prog 21 #[.int .i64 a, .int .i64 b] w (RetW p w))
    (hd : ∀ w h l, At p h l → Calls Try.prog 25 #[.agg #[.int .i64 h, .int .u64 l], .int .i64 c] w (RetD q r 0 w))
    (hi : ∀ w h l, At q h l → Calls Try.prog 19 #[.agg #[.int .i64 h, .int .u64 l]] w fun e w' => e = .returned (.tuple #[.int .i64 i, .int .i64 j]) ∧ Below w.heap.size w w')
    : Calls Try.prog 27 #[.int .i64 a, .int .i64 b, .int .i64 c] w fun e w' => e = .returned (.tuple #[.int .i64 i, .int .i64 j]) ∧ Below w.heap.size w w' := by
  have HM := Lib.hid hm
  clear hm
  have HD := Lib.hid hd
  clear hd
  have HI := Lib.hid hi
  clear hi
  go_enter Try.func27, Try.ntmps27
  go_wp2_with fail
  refine (HM.out _).mono ?_
  rintro e wx1 ⟨a1, b1, rfl, hat1, hb1⟩
  have hB1 : Below w.heap.size w wx1 := by (repeat' (first | (with_reducible exact Below.refl _ _) | (with_reducible assumption) | (with_reducible refine Below.drew ?_) | (with_reducible refine Below.setCell ?_ ?_ _) | (with_reducible refine bnext ?_ (by assumption)) | (with_reducible refine Below.alloc ?_ ?_ _) | go_size))
  have hS1 : w.heap.size ≤ wx1.heap.size := hB1.size
  have HA1 := Lib.hid hat1
  clear hat1
  go_wp2_with fail
  refine (HD.out _ a1 b1 HA1.out).mono ?_
  rintro e wx2 ⟨a2, b2, rfl, hat2, hb2⟩
  have hB2 : Below w.heap.size w wx2 := by (repeat' (first | (with_reducible exact Below.refl _ _) | (with_reducible assumption) | (with_reducible refine Below.drew ?_) | (with_reducible refine Below.setCell ?_ ?_ _) | (with_reducible refine bnext ?_ (by assumption)) | (with_reducible refine Below.alloc ?_ ?_ _) | go_size))
  have hS2 : w.heap.size ≤ wx2.heap.size := hB2.size
  have HA2 := Lib.hid hat2
  clear hat2
  go_wp2_with fail
  refine (HI.out _ a2 b2 HA2.out).mono ?_
  rintro e wx3 ⟨rfl, hb3⟩
  have hB3 : Below w.heap.size w wx3 := by (repeat' (first | (with_reducible exact Below.refl _ _) | (with_reducible assumption) | (with_reducible refine Below.drew ?_) | (with_reducible refine Below.setCell ?_ ?_ _) | (with_reducible refine bnext ?_ (by assumption)) | (with_reducible refine Below.alloc ?_ ?_ _) | go_size))
  have hS3 : w.heap.size ≤ wx3.heap.size := hB3.size
  have hz3_0 : wx2.heap.size < wx3.heap.size := Nat.lt_of_lt_of_le (by first | assumption | (simp [go_sem]; done) | (simp [go_sem]; omega)) hb3.size
  have k3_0 : wx3.cell? ⟨wx2.heap.size, 0, none⟩ = some (.int .i64 a2) := keep_cell hb3 (by first | assumption | (simp [go_sem, *]; done))
  have k3_1 : wx3.cell? ⟨wx2.heap.size, 1, none⟩ = some (.int .u64 b2) := keep_cell hb3 (by first | assumption | (simp [go_sem, *]; done))
  have f3_0 : wx3.frozen? ⟨wx2.heap.size, 0, none⟩ = false := keep_free hb3 (by first | assumption | (simp [go_sem]; done) | (simp [go_sem]; omega)) (by first | assumption | (simp [go_sem, *]; done))
  have f3_1 : wx3.frozen? ⟨wx2.heap.size, 1, none⟩ = false := keep_free hb3 (by first | assumption | (simp [go_sem]; done) | (simp [go_sem]; omega)) (by first | assumption | (simp [go_sem, *]; done))
  go_wp2
  go_ret2
  exact ⟨rfl, by (repeat' (first | (with_reducible exact Below.refl _ _) | (with_reducible assumption) | (with_reducible refine Below.drew ?_) | (with_reducible refine Below.setCell ?_ ?_ _) | (with_reducible refine bnext ?_ (by assumption)) | (with_reducible refine Below.alloc ?_ ?_ _) | go_size))⟩
set_option maxHeartbeats 1000000 in
theorem muldiv_20 (a b c p q r : Int) (w : World) (hm : ∀ w, Calls Try.prog 21 #[.int .i64 a, .int .i64 b] w (RetW p w))
    (hd : ∀ w h l, At p h l → Calls Try.prog 25 #[.agg #[.int .i64 h, .int .u64 l], .int .i64 c] w (RetD q r 20 w))
    : Calls Try.prog 27 #[.int .i64 a, .int .i64 b, .int .i64 c] w fun e w' => e = .returned (.tuple #[.int .i64 0, .int .i64 20]) ∧ Below w.heap.size w w' := by
  have HM := Lib.hid hm
  clear hm
  have HD := Lib.hid hd
  clear hd
  go_enter Try.func27, Try.ntmps27
  go_wp2_with fail
  refine (HM.out _).mono ?_
  rintro e wx1 ⟨a1, b1, rfl, hat1, hb1⟩
  have hB1 : Below w.heap.size w wx1 := by (repeat' (first | (with_reducible exact Below.refl _ _) | (with_reducible assumption) | (with_reducible refine Below.drew ?_) | (with_reducible refine Below.setCell ?_ ?_ _) | (with_reducible refine bnext ?_ (by assumption)) | (with_reducible refine Below.alloc ?_ ?_ _) | go_size))
  have hS1 : w.heap.size ≤ wx1.heap.size := hB1.size
  have HA1 := Lib.hid hat1
  clear hat1
  go_wp2_with fail
  refine (HD.out _ a1 b1 HA1.out).mono ?_
  rintro e wx2 ⟨a2, b2, rfl, hat2, hb2⟩
  have hB2 : Below w.heap.size w wx2 := by (repeat' (first | (with_reducible exact Below.refl _ _) | (with_reducible assumption) | (with_reducible refine Below.drew ?_) | (with_reducible refine Below.setCell ?_ ?_ _) | (with_reducible refine bnext ?_ (by assumption)) | (with_reducible refine Below.alloc ?_ ?_ _) | go_size))
  have hS2 : w.heap.size ≤ wx2.heap.size := hB2.size
  have HA2 := Lib.hid hat2
  clear hat2
  go_wp2
  go_ret2
  exact ⟨rfl, by (repeat' (first | (with_reducible exact Below.refl _ _) | (with_reducible assumption) | (with_reducible refine Below.drew ?_) | (with_reducible refine Below.setCell ?_ ?_ _) | (with_reducible refine bnext ?_ (by assumption)) | (with_reducible refine Below.alloc ?_ ?_ _) | go_size))⟩
set_option maxHeartbeats 1000000 in
theorem muldiv_21 (a b c p q r : Int) (w : World) (hm : ∀ w, Calls Try.prog 21 #[.int .i64 a, .int .i64 b] w (RetW p w))
    (hd : ∀ w h l, At p h l → Calls Try.prog 25 #[.agg #[.int .i64 h, .int .u64 l], .int .i64 c] w (RetD q r 21 w))
    : Calls Try.prog 27 #[.int .i64 a, .int .i64 b, .int .i64 c] w fun e w' => e = .returned (.tuple #[.int .i64 0, .int .i64 21]) ∧ Below w.heap.size w w' := by
  have HM := Lib.hid hm
  clear hm
  have HD := Lib.hid hd
  clear hd
  go_enter Try.func27, Try.ntmps27
  go_wp2_with fail
  refine (HM.out _).mono ?_
  rintro e wx1 ⟨a1, b1, rfl, hat1, hb1⟩
  have hB1 : Below w.heap.size w wx1 := by (repeat' (first | (with_reducible exact Below.refl _ _) | (with_reducible assumption) | (with_reducible refine Below.drew ?_) | (with_reducible refine Below.setCell ?_ ?_ _) | (with_reducible refine bnext ?_ (by assumption)) | (with_reducible refine Below.alloc ?_ ?_ _) | go_size))
  have hS1 : w.heap.size ≤ wx1.heap.size := hB1.size
  have HA1 := Lib.hid hat1
  clear hat1
  go_wp2_with fail
  refine (HD.out _ a1 b1 HA1.out).mono ?_
  rintro e wx2 ⟨a2, b2, rfl, hat2, hb2⟩
  have hB2 : Below w.heap.size w wx2 := by (repeat' (first | (with_reducible exact Below.refl _ _) | (with_reducible assumption) | (with_reducible refine Below.drew ?_) | (with_reducible refine Below.setCell ?_ ?_ _) | (with_reducible refine bnext ?_ (by assumption)) | (with_reducible refine Below.alloc ?_ ?_ _) | go_size))
  have hS2 : w.heap.size ≤ wx2.heap.size := hB2.size
  have HA2 := Lib.hid hat2
  clear hat2
  go_wp2
  go_ret2
  exact ⟨rfl, by (repeat' (first | (with_reducible exact Below.refl _ _) | (with_reducible assumption) | (with_reducible refine Below.drew ?_) | (with_reducible refine Below.setCell ?_ ?_ _) | (with_reducible refine bnext ?_ (by assumption)) | (with_reducible refine Below.alloc ?_ ?_ _) | go_size))⟩
theorem muldiv_zero (a b : Int) (w : World) (ha0 : -9223372036854775808 ≤ a) (ha1 : a ≤ 9223372036854775807) (hb0 : -9223372036854775808 ≤ b) (hb1 : b ≤ 9223372036854775807) :
    Calls Try.prog 27 #[.int .i64 a, .int .i64 b, .int .i64 0] w fun e w' => e = .returned (.tuple #[.int .i64 0, .int .i64 21]) ∧ Below w.heap.size w w' :=
  muldiv_21 a b 0 _ _ _ w (fun w => mul_any a b w ha0 ha1 hb0 hb1) (fun w h l a => div_zero h l w)
theorem muldiv_any (a b c : Int) (w : World) (ha0 : -9223372036854775808 ≤ a) (ha1 : a ≤ 9223372036854775807) (hb0 : -9223372036854775808 ≤ b) (hb1 : b ≤ 9223372036854775807) (hc0 : -9223372036854775808 ≤ c) (hc1 : c ≤ 9223372036854775807) (hc : c ≠ 0) :
    Calls Try.prog 27 #[.int .i64 a, .int .i64 b, .int .i64 c] w fun e w' => e = .returned (.tuple #[.int .i64 (if In64 (dv (a * b) c) then dv (a * b) c else 0), .int .i64 (if In64 (dv (a * b) c) then 0 else 20)]) ∧ Below w.heap.size w w' := by
  have HM := fun w => mul_any a b w ha0 ha1 hb0 hb1
  have HD := fun w h l (hat : At (a * b) h l) => wdiv_any (a * b) h c l w hat hc0 hc1 hc
  by_cases hi : In (dv (a * b) c)
  · have e1 : valE (dv (a * b) c) = dv (a * b) c := if_pos hi
    have e2 : errE (dv (a * b) c) = 0 := if_pos hi
    rw [e1, e2] at HD
    exact muldiv_0 a b c _ _ _ _ _ w HM HD (fun w h l hat => int_any _ h l w hat)
  · have e2 : errE (dv (a * b) c) = 20 := if_neg hi
    rw [e2] at HD
    have h64 : ¬ In64 (dv (a * b) c) := fun h => hi (by unfold In64 at h; unfold In; omega)
    rw [if_neg h64, if_neg h64]
    exact muldiv_20 a b c _ _ _ w HM HD
end Go.Proofs.Ytgkcbadfjhicnaa.Fx
