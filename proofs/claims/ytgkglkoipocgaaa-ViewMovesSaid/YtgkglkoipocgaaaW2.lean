/- Package wide: sizes and signs, numbers without a sign. -/
import Derived.Test.YtgkglkoipocgaaaProg
import Derived.Test.YtgkglkoipocgaaaW0
import Derived.Test.YtgkglkoipocgaaaShelf
import Derived.BigQuiet
set_option linter.unusedVariables false
set_option linter.unusedSimpArgs false
namespace Go.Proofs.Ytgkglkoipocgaaa.Wm
theorem na_at {n h l : Nat} (a : Na n h l) : At (w128 (n : Int)) (((h : Int) + 9223372036854775808) % 18446744073709551616 - 9223372036854775808) l := by
  unfold Na At w128 at *
  omega
theorem w128_neg (z : Int) : w128 (0 - w128 z) = w128 (-z) := by unfold w128; omega
theorem at_na {z h : Int} {l : Nat} (a : At z h l) (hz : 0 ≤ z) : Na z.natAbs (uw h) l := by
  have := uw_eq h
  unfold At Na at *
  omega
theorem at_na_neg {x h : Int} {l : Nat} (hx : In x) (a : At (w128 (0 - x)) h l) (hz : x < 0) : Na x.natAbs (uw h) l := by
  have := uw_eq h
  unfold At Na In w128 at *
  omega
theorem na_lt {n h l : Nat} (a : Na n h l) : n < 340282366920938463463374607431768211456 := by unfold Na at a; omega
theorem na_div {n h l c : Nat} (a : Na n h l) (hc : 0 < c) (hc2 : c < 18446744073709551616) : Na (n / c) (h / c) ((h % c * 18446744073709551616 + l) / c) ∧ n % c = (h % c * 18446744073709551616 + l) % c := by
  obtain ⟨a1, a2, a3⟩ := a
  have e1 := Nat.div_add_mod h c
  have e2 : n = c * (h / c * 18446744073709551616) + (h % c * 18446744073709551616 + l) := by
    rw [a1, ← Nat.mul_assoc, ← Nat.add_assoc, ← Nat.add_mul, e1]
  have hr := Nat.mod_lt h hc
  refine ⟨⟨?_, ?_, ?_⟩, ?_⟩
  · rw [e2, Nat.mul_add_div hc]
  · refine (Nat.div_lt_iff_lt_mul hc).2 ?_
    have : (h % c + 1) * 18446744073709551616 ≤ c * 18446744073709551616 := Nat.mul_le_mul_right _ hr
    rw [Nat.mul_comm 18446744073709551616]
    omega
  · exact Nat.lt_of_le_of_lt (Nat.div_le_self _ _) a3
  · rw [e2, Nat.mul_add_mod]
theorem na_plus {n h l c : Nat} (a : Na n h l) (hc : c < 18446744073709551616) : Na ((n + c) % 340282366920938463463374607431768211456) ((h + (l + c) / 18446744073709551616) % 18446744073709551616) ((l + c) % 18446744073709551616) := by
  unfold Na at *
  omega
end Go.Proofs.Ytgkglkoipocgaaa.Wm
namespace Go.Proofs.Ytgkglkoipocgaaa.Fx
open Go.RowKit Wm
/-- answers the number without a sign n -/
def RetN (n : Nat) (w : World) (e : Ending) (w' : World) : Prop := ∃ h l : Nat, e = .returned (.agg #[.int .u64 h, .int .u64 l]) ∧ Na n h l ∧ Below w.heap.size w w'
theorem sign_pos_w (h l : Nat) (H : Int) (w : World) (e1 : IntKind.i64.wrap (h : Int) = H) :
    Calls Try.prog 71 #[.agg #[.int .u64 h, .int .u64 l], .bool false] w fun e w' => e = .returned (.agg #[.int .i64 H, .int .u64 l]) ∧ Below w.heap.size w w' := by
  go_enter Try.func71, Try.ntmps71
  go_wp2
  refine bodyPost_ret (v := .agg #[.int .i64 H, .int .u64 l]) (by simp [results, Try.results71, go_sem]) rfl ⟨rfl, by go_grown⟩
theorem sign_neg_w (h l : Nat) (H : Int) (Z z : Int) (w : World) (e1 : IntKind.i64.wrap (h : Int) = H) (ha : At Z H l) (hz : Hid (w128 (0 - Z) = z)) :
    Calls Try.prog 71 #[.agg #[.int .u64 h, .int .u64 l], .bool true] w (RetW z w) := by
  have ha0 : At 0 0 0 := by unfold At; omega
  have A0 := Lib.hid ha0
  have A1 := Lib.hid ha
  clear ha0 ha
  go_enter Try.func71, Try.ntmps71
  go_wp2_with fail
  refine (less_any 0 Z 0 H 0 l _ A0.out A1.out).mono ?_
  rintro e w' ⟨a, b, rfl, hat, hb⟩
  obtain ⟨hc, hf⟩ := bcell hb
  have hat := Lib.hid hat
  have hs := hb.size
  simp only [World.size_alloc] at hs
  have hz0 : w.heap.size < w'.heap.size := by omega
  have hz2 : w.heap.size + 1 + 1 < w'.heap.size := by omega
  have hz1 : w.heap.size + 1 < w'.heap.size := by omega
  go_wp2
  refine bodyPost_ret (v := .agg #[.int .i64 a, .int .u64 b]) (by simp [results, Try.results71, go_sem, *]) rfl ⟨_, _, rfl, by rw [← hz.out]; exact hat.out, ?_⟩
  repeat' (first | (with_reducible exact Below.refl _ _) | (with_reducible assumption) | (with_reducible refine Below.drew ?_) | (with_reducible refine Below.setCell ?_ ?_ _) | (with_reducible refine bnext ?_ (by assumption)) | (with_reducible refine Below.alloc ?_ ?_ _) | go_size)
theorem sign_any (n h l : Nat) (b : Bool) (w : World) (a : Na n h l) :
    Calls Try.prog 71 #[.agg #[.int .u64 h, .int .u64 l], .bool b] w (RetW (w128 (if b = true then -(n : Int) else n)) w) := by
  cases b with
  | false => exact (sign_pos_w h l _ w (IntKind.wrap_i64 _)).mono fun e w' ⟨he, hb⟩ => ⟨_, _, he, by simpa using na_at a, hb⟩
  | true => exact sign_neg_w h l _ _ _ w (IntKind.wrap_i64 _) (na_at a) (Lib.hid (by rw [w128_neg]; simp))
theorem sizeOf_pos_w (h : Int) (l p : Nat) (w : World) (Hb : Hid (decide (h < 0) = false)) (e1 : IntKind.u64.wrap h = (p : Int)) :
    Calls Try.prog 66 #[.agg #[.int .i64 h, .int .u64 l]] w fun e w' => e = .returned (.agg #[.int .u64 p, .int .u64 l]) ∧ Below w.heap.size w w' := by
  go_enter Try.func66, Try.ntmps66
  go_wp2_with fail
  refine (below_val h l _ _ Hb).mono ?_
  rintro e w' ⟨rfl, hb⟩
  obtain ⟨hc, hf⟩ := bcell hb
  have hs := hb.size
  simp only [World.size_alloc] at hs
  have hz0 : w.heap.size < w'.heap.size := by omega
  have hz1 : w.heap.size + 1 < w'.heap.size := by omega
  go_wp2
  refine bodyPost_ret (v := .agg #[.int .u64 p, .int .u64 l]) (by simp [results, Try.results66, go_sem, *]) rfl ⟨rfl, ?_⟩
  repeat' (first | (with_reducible exact Below.refl _ _) | (with_reducible assumption) | (with_reducible refine Below.drew ?_) | (with_reducible refine Below.setCell ?_ ?_ _) | (with_reducible refine bnext ?_ (by assumption)) | (with_reducible refine Below.alloc ?_ ?_ _) | go_size)
theorem sizeOf_neg_w (x h : Int) (l n : Nat) (w : World) (Hb : Hid (decide (h < 0) = true)) (ha : At x h l) (hn : ∀ a b, At (w128 (0 - x)) a b → Na n (uw a) b) :
    Calls Try.prog 66 #[.agg #[.int .i64 h, .int .u64 l]] w (RetN n w) := by
  have A0 : Hid (At 0 0 0) := Lib.hid (by unfold At; omega)
  have A1 := Lib.hid ha
  have HN := Lib.hid hn
  clear ha hn
  go_enter Try.func66, Try.ntmps66
  go_wp2_with fail
  refine (below_val h l _ _ Hb).mono ?_
  rintro e w1 ⟨rfl, hb⟩
  obtain ⟨hc, hf⟩ := bcell hb
  have hs := hb.size
  simp only [World.size_alloc] at hs
  have hz0 : w.heap.size < w1.heap.size := by omega
  have hz1 : w.heap.size + 1 < w1.heap.size := by omega
  go_wp2_with fail
  refine (less_any 0 x 0 h 0 l _ A0.out A1.out).mono ?_
  rintro e w2 ⟨a, b, rfl, hat, hb2⟩
  obtain ⟨hc2, hf2⟩ := bcell hb2
  have hs2 := hb2.size
  have hy0 : w.heap.size < w2.heap.size := by omega
  have hy1 : w.heap.size + 1 < w2.heap.size := by omega
  have k0 : w2.cell? ⟨w.heap.size, 0, none⟩ = some (.int .i64 h) := by simp [go_sem, hc2, hc, hz0, hz1]
  have f0 : w2.frozen? ⟨w.heap.size, 0, none⟩ = false := by simp [go_sem, hf2, hf, hz0, hz1]
  have k1 : w2.cell? ⟨w.heap.size, 1, none⟩ = some (.int .u64 l) := by simp [go_sem, hc2, hc, hz0, hz1]
  have f1 : w2.frozen? ⟨w.heap.size, 1, none⟩ = false := by simp [go_sem, hf2, hf, hz0, hz1]
  have k2 : w2.cell? ⟨w.heap.size + 1, 0, none⟩ = some (.int .u64 0) := by simp [go_sem, hc2, hc, hz0, hz1]
  have f2 : w2.frozen? ⟨w.heap.size + 1, 0, none⟩ = false := by simp [go_sem, hf2, hf, hz0, hz1]
  have k3 : w2.cell? ⟨w.heap.size + 1, 1, none⟩ = some (.int .u64 0) := by simp [go_sem, hc2, hc, hz0, hz1]
  have f3 : w2.frozen? ⟨w.heap.size + 1, 1, none⟩ = false := by simp [go_sem, hf2, hf, hz0, hz1]
  clear hc hf hc2 hf2
  have hna := Lib.hid (HN.out _ _ hat)
  have e1 : IntKind.u64.wrap a = (uw a : Int) := by rw [IntKind.wrap_u64, uw_eq]
  generalize uw a = p at *
  clear hat HN
  go_wp2
  refine bodyPost_ret (v := .agg #[.int .u64 p, .int .u64 b]) (by simp [results, Try.results66, go_sem, *]) rfl ⟨_, _, rfl, hna.out, ?_⟩
  repeat' (first | (with_reducible exact Below.refl _ _) | (with_reducible assumption) | (with_reducible refine Below.drew ?_) | (with_reducible refine Below.setCell ?_ ?_ _) | (with_reducible refine bnext ?_ (by assumption)) | (with_reducible refine Below.alloc ?_ ?_ _) | go_size)
theorem sizeOf_any (x h : Int) (l : Nat) (w : World) (a : At x h l) :
    Calls Try.prog 66 #[.agg #[.int .i64 h, .int .u64 l]] w (RetN x.natAbs w) := by
  by_cases hx : x < 0
  · exact sizeOf_neg_w x h l _ w (Lib.hid (by simpa using a.neg.2 hx)) a (fun p q h => at_na_neg a.inn h hx)
  · have hh : ¬ h < 0 := fun h => hx (a.neg.1 h)
    exact (sizeOf_pos_w h l (uw h) w (Lib.hid (by simpa using hh)) (by rw [IntKind.wrap_u64, uw_eq])).mono fun e w' ⟨he, hb⟩ => ⟨_, _, he, at_na a (by omega), hb⟩
theorem plus_w (h l c m k n : Nat) (w : World) (r1 : ∀ w, (callFunc 79 #[.int .u64 l, .int .u64 c, .int .u64 0]).run Try.prog w = .ok (.value (.tuple #[.int .u64 (m : Int), .int .u64 (k : Int)])) w) (e1 : IntKind.u64.wrap ((h : Int) + (k : Int)) = (n : Int)) :
    Calls Try.prog 70 #[.agg #[.int .u64 h, .int .u64 l], .int .u64 c] w fun e w' => e = .returned (.agg #[.int .u64 n, .int .u64 m]) ∧ Below w.heap.size w w' := by
  go_enter Try.func70, Try.ntmps70
  go_wp2
  refine bodyPost_ret (v := .agg #[.int .u64 n, .int .u64 m]) (by simp [results, Try.results70, go_sem]) rfl ⟨rfl, by go_grown⟩
theorem plus_any (x h l c : Nat) (w : World) (a : Na x h l) (hc : c < 18446744073709551616) :
    Calls Try.prog 70 #[.agg #[.int .u64 h, .int .u64 l], .int .u64 c] w (RetN ((x + c) % 340282366920938463463374607431768211456) w) :=
  (plus_w h l c _ _ _ w (run_add64z l c) (by rw [IntKind.wrap_u64]; exact (Int.natCast_emod (h + (l + c) / 18446744073709551616) 18446744073709551616).symm)).mono fun e w' ⟨he, hb⟩ => ⟨_, _, he, na_plus a hc, hb⟩
end Go.Proofs.Ytgkglkoipocgaaa.Fx
