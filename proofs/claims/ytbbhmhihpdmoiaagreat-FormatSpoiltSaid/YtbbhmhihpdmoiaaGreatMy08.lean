import Derived.Laws.Rows
import Derived.Test.YtbbhmhihpdmoiaaGreatProg
import Derived.Laws.Externs
import Derived.Shelf.Spec.BitsCarry
import Derived.WalkKit
import Derived.Handy
import Derived.Lib.Hide
import Derived.Deep.QuietTactic
import Derived.Outline
import Derived.Shelf.Small.Bits
import Derived.Shelf.Strconv.Itoa0
import Derived.Shelf.Bits.Mul64
import Derived.BigQuiet
import Derived.Deep.RegionHeld3
import Derived.Deep.DeepFit
/- Package wide's small functions: plain numbers, and the walks. -/
set_option linter.unusedVariables false
set_option linter.unusedSimpArgs false
namespace Go.Proofs.YtbbhmhihpdmoiaaGreat.Wm
/-- z is the number of 128 bits with the words h, l -/
def At (z h : Int) (l : Nat) : Prop := z = h * 18446744073709551616 + (l : Int) ∧ l < 18446744073709551616 ∧ -9223372036854775808 ≤ h ∧ h < 9223372036854775808
/-- n is the number without a sign with the words h, l -/
def Na (n h l : Nat) : Prop := n = h * 18446744073709551616 + l ∧ l < 18446744073709551616 ∧ h < 18446744073709551616
/-- gone round to 128 bits -/
def w128 (z : Int) : Int := (z + 170141183460469231731687303715884105728) % 340282366920938463463374607431768211456 - 170141183460469231731687303715884105728
/-- may it be? -/
def In (z : Int) : Prop := -170141183460469231731687303715884105728 ≤ z ∧ z < 170141183460469231731687303715884105728
instance (z : Int) : Decidable (In z) := by unfold In; infer_instance
theorem w128_in {z : Int} (h : In z) : w128 z = z := by unfold w128 In at *; omega
theorem At.inn {z h : Int} {l : Nat} (a : At z h l) : In z := by unfold At In at *; omega
theorem At.neg {z h : Int} {l : Nat} (a : At z h l) : h < 0 ↔ z < 0 := by unfold At at *; omega
/-- a word read without its sign -/
def uw (h : Int) : Nat := (h % 18446744073709551616).toNat
theorem uw_eq (h : Int) : (uw h : Int) = h % 18446744073709551616 := by unfold uw; omega
theorem uw_lt (h : Int) : uw h < 18446744073709551616 := by unfold uw; omega
theorem less_at {x y xh yh : Int} {xl yl : Nat} (hx : At x xh xl) (hy : At y yh yl) :
    At (w128 (x - y)) (((((uw xh + 18446744073709551616 - uw yh - (if xl < yl then 1 else 0)) % 18446744073709551616 : Nat) : Int) + 9223372036854775808) % 18446744073709551616 - 9223372036854775808) ((xl + 18446744073709551616 - yl) % 18446744073709551616) := by
  have a := uw_eq xh
  have b := uw_eq yh
  have a' := uw_lt xh
  have b' := uw_lt yh
  generalize uw xh = p at *
  generalize uw yh = q at *
  unfold At w128 at *
  split <;> omega
end Go.Proofs.YtbbhmhihpdmoiaaGreat.Wm
namespace Go.Proofs.YtbbhmhihpdmoiaaGreat.Fx
open Go Go.RowKit Wm
theorem ret_int {k : IntKind} {a b : Int} (h : a = b) : Ending.returned (.int k a) = .returned (.int k b) := by rw [h]
theorem bcell {W w1 : World} (hb : Below W.heap.size W w1) : (∀ b o, b < W.heap.size → w1.cell? ⟨b, o, none⟩ = W.cell? ⟨b, o, none⟩) ∧ (∀ b o, b < W.heap.size → w1.frozen? ⟨b, o, none⟩ = W.frozen? ⟨b, o, none⟩) :=
  ⟨fun b o h => hb.cell (p := ⟨b, o, none⟩) h, fun b o h => hb.frozen (p := ⟨b, o, none⟩) h⟩
theorem bdrew {B : Nat} {w w' : World} (n : Nat) (h : Below B (w.drewN n) w') : Below B w w' := ⟨h.os, h.tape, h.output, h.size, h.block⟩
theorem bdrew0 (B : Nat) (w : World) (n : Nat) : Below B w (w.drewN n) := bdrew n (Below.refl _ _)
theorem bnext {w W1 W2 : World} (h : Below w.heap.size w W1) (k : Below W1.heap.size W1 W2) : Below w.heap.size w W2 := h.trans (k.mono h.size)

theorem run_add64 (x y c : Nat) (hc : c ≤ 1) (w : World) :
    (callFunc 182 #[.int .u64 x, .int .u64 y, .int .u64 c]).run Tryz.prog w =
      .ok (.value (.tuple #[.int .u64 (((x + y + c) % 18446744073709551616 : Nat) : Int), .int .u64 (((x + y + c) / 18446744073709551616 : Nat) : Int)])) w := by
  rw [run_callFunc_extern Tryz.func182 (by kernel_rfl) (by kernel_rfl) (by kernel_rfl) (e := add64Entry) (by kernel_rfl), _root_.Go.run_add64 x y c (by omega) (by omega) (by omega) (by omega)]
  simp only [Result.andThen]
  congr 5 <;> omega
theorem run_sub64 (x y b : Nat) (hb : b ≤ 1) (w : World) :
    (callFunc 186 #[.int .u64 x, .int .u64 y, .int .u64 b]).run Tryz.prog w =
      .ok (.value (.tuple #[.int .u64 (((x + 18446744073709551616 - y - b) % 18446744073709551616 : Nat) : Int), .int .u64 ((if x < y + b then 1 else 0 : Nat) : Int)])) w := by
  rw [run_callFunc_extern Tryz.func186 (by kernel_rfl) (by kernel_rfl) (by kernel_rfl) (e := sub64Entry) (by kernel_rfl), Go.Proofs.run_sub64 x y b hb]
  rfl

theorem run_add64z (x y : Nat) (w : World) :
    (callFunc 182 #[.int .u64 x, .int .u64 y, .int .u64 0]).run Tryz.prog w =
      .ok (.value (.tuple #[.int .u64 (((x + y) % 18446744073709551616 : Nat) : Int), .int .u64 (((x + y) / 18446744073709551616 : Nat) : Int)])) w := run_add64 x y 0 (by omega) w
theorem run_sub64z (x y : Nat) (w : World) :
    (callFunc 186 #[.int .u64 x, .int .u64 y, .int .u64 0]).run Tryz.prog w =
      .ok (.value (.tuple #[.int .u64 (((x + 18446744073709551616 - y) % 18446744073709551616 : Nat) : Int), .int .u64 ((if x < y then 1 else 0 : Nat) : Int)])) w := run_sub64 x y 0 (by omega) w

theorem below_any (h l : Int) (w : World) :
    Calls Tryz.prog 177 #[.agg #[.int .i64 h, .int .u64 l]] w fun e w' => e = .returned (.bool (decide (h < 0))) ∧ Below w.heap.size w w' := by
  go_enter Tryz.func177, Tryz.ntmps177
  go_wp2
  go_ret
  exact ⟨rfl, by go_grown⟩
theorem keep_cell {w w' : World} {a : Addr} {v : Value} (hb : Below w.heap.size w w') (h : w.cell? a = some v) : w'.cell? a = some v := by
  rw [hb.cell]
  · exact h
  · exact block_lt_of_cell h
theorem keep_free {w w' : World} {b o : Nat} (hb : Below w.heap.size w w') (hs : b < w.heap.size) (h : w.frozen? ⟨b, o, none⟩ = false) : w'.frozen? ⟨b, o, none⟩ = false := by
  rw [hb.frozen (p := ⟨b, o, none⟩) hs]
  exact h
theorem below_val (h : Int) (l : Nat) (b : Bool) (w : World) (H : Hid (decide (h < 0) = b)) :
    Calls Tryz.prog 177 #[.agg #[.int .i64 h, .int .u64 l]] w fun e w' => e = .returned (.bool b) ∧ Below w.heap.size w w' := by
  rw [← H.out]
  exact below_any h l w
theorem size_neg (a : Int) (h0 : -9223372036854775808 ≤ a) (h1 : a < 0) : IntKind.u64.wrap (-IntKind.u64.wrap a) = (a.natAbs : Int) := by
  rw [IntKind.wrap_u64, IntKind.wrap_u64]
  omega
theorem size_any (a : Int) (w : World) (hn0 : -9223372036854775808 ≤ a) (hn1 : a ≤ 9223372036854775807) :
    Calls Tryz.prog 176 #[.int .i64 a] w fun e w' => e = .returned (.int .u64 (a.natAbs : Int)) ∧ w = w' := by
  by_cases h1 : a < 0
  · go_enter Tryz.func176, Tryz.ntmps176
    go_wp2
    go_ret
    exact ⟨ret_int (size_neg a hn0 h1), rfl⟩
  · go_enter Tryz.func176, Tryz.ntmps176
    go_wp2
    go_ret
    exact ⟨ret_int (by omega), rfl⟩
/-- answers the number z -/
def RetW (z : Int) (w : World) (e : Ending) (w' : World) : Prop := ∃ h : Int, ∃ l : Nat, e = .returned (.agg #[.int .i64 h, .int .u64 l]) ∧ At z h l ∧ Below w.heap.size w w'
set_option maxHeartbeats 400000 in
theorem less_any (x y xh yh : Int) (xl yl : Nat) (w : World) (hx : At x xh xl) (hy : At y yh yl) :
    Calls Tryz.prog 184 #[.agg #[.int .i64 xh, .int .u64 xl], .agg #[.int .i64 yh, .int .u64 yl]] w (RetW (w128 (x - y)) w) := by
  have r1 := fun w => run_sub64z xl yl w
  have L := less_at hx hy
  have e1 : IntKind.u64.wrap xh = (uw xh : Int) := by rw [IntKind.wrap_u64, uw_eq]
  have e2 : IntKind.u64.wrap yh = (uw yh : Int) := by rw [IntKind.wrap_u64, uw_eq]
  obtain ⟨b, hb, hb1⟩ : ∃ b, (if xl < yl then 1 else 0) = b ∧ b ≤ 1 := ⟨_, rfl, by split <;> omega⟩
  rw [hb] at r1 L
  have r2 := fun w => run_sub64 (uw xh) (uw yh) b hb1 w
  generalize uw xh = p at *
  generalize uw yh = q at *
  obtain ⟨m, hm⟩ : ∃ m, (p + 18446744073709551616 - q - b) % 18446744073709551616 = m := ⟨_, rfl⟩
  obtain ⟨n, hn⟩ : ∃ n, (xl + 18446744073709551616 - yl) % 18446744073709551616 = n := ⟨_, rfl⟩
  rw [hm] at r2 L
  rw [hn] at r1 L
  generalize (if p < q + b then 1 else 0) = b2 at r2
  have L := Lib.hid L
  have e3 : IntKind.i64.wrap (m : Int) = ((m : Int) + 9223372036854775808) % 18446744073709551616 - 9223372036854775808 := IntKind.wrap_i64 _
  generalize ((m : Int) + 9223372036854775808) % 18446744073709551616 - 9223372036854775808 = H at *
  clear hm hn hb hx hy
  go_enter Tryz.func184, Tryz.ntmps184
  go_wp2
  refine bodyPost_ret (v := .agg #[.int .i64 H, .int .u64 n]) (by simp [results, Tryz.results184, go_sem]) rfl ⟨_, _, rfl, L.out, by go_grown⟩
end Go.Proofs.YtbbhmhihpdmoiaaGreat.Fx


/- Contracts of the library at this translation: each one application of a contract of the library of proofs. -/
namespace Go.Proofs
open Go.Shelf
def Tryz.lays134_ren : Go.Shelf.Ren := ⟨fun | 134 => 187 | 129 => 188 | n => n, fun | 53 => 89 | 3 => 3 | 4 => 4 | 46 => 68 | 5 => 5 | 9 => 9 | n => n, fun | n => n⟩
theorem Tryz.lays134 : Go.Proofs.Lays.n134 Tryz.prog Tryz.lays134_ren := {
  mixed := by kernel_rfl
  f129 := Tryz.func188.trans (congrArg some (by kernel_rfl))
  f134 := Tryz.func187.trans (congrArg some (by kernel_rfl))
  t3 := Tryz.underlying3
  a3 := Tryz.isAgg3
  z3 := Tryz.sizeOf3
  v3 := Tryz.zeroValue3
  t4 := Tryz.underlying4
  a4 := Tryz.isAgg4
  z4 := Tryz.sizeOf4
  v4 := Tryz.zeroValue4
  t5 := Tryz.underlying5
  a5 := Tryz.isAgg5
  z5 := Tryz.sizeOf5
  v5 := Tryz.zeroValue5
  t9 := Tryz.underlying9
  a9 := Tryz.isAgg9
  z9 := Tryz.sizeOf9
  v9 := Tryz.zeroValue9
  t46 := Tryz.underlying68
  a46 := Tryz.isAgg68
  z46 := Tryz.sizeOf68
  v46 := Tryz.zeroValue68
  t53 := Tryz.underlying89
  a53 := Tryz.isAgg89
  z53 := Tryz.sizeOf89
  v53 := Tryz.zeroValue89 }
theorem Tryz.bits_LeadingZeros64 (x : Int) (w : World) (h0 : 0 ≤ x) (h1 : x ≤ 18446744073709551615) :
    Calls Tryz.prog 187 #[.int .u64 x] w fun e w' => e = .returned (.int .i64 (64 - (Lib.bitLen x.toNat : Int))) ∧ w' = w := Any.bits_LeadingZeros64 Tryz.lays134 x w h0 h1
def Tryz.lays264_ren : Go.Shelf.Ren := ⟨fun | 264 => 183 | n => n, fun | 53 => 89 | 46 => 68 | n => n, fun | n => n⟩
theorem Tryz.lays264 : Go.Proofs.Lays.n264 Tryz.prog Tryz.lays264_ren := {
  mixed := by kernel_rfl
  f264 := Tryz.func183.trans (congrArg some (by kernel_rfl))
  t46 := Tryz.underlying68
  a46 := Tryz.isAgg68
  z46 := Tryz.sizeOf68
  v46 := Tryz.zeroValue68
  t53 := Tryz.underlying89
  a53 := Tryz.isAgg89
  z53 := Tryz.sizeOf89
  v53 := Tryz.zeroValue89 }
open Go.RowKit Go.Lib in
theorem Tryz.bits_Mul64 (x y : Nat) (hx : x < 18446744073709551616) (hy : y < 18446744073709551616) (w : World) :
    Calls Tryz.prog 183 #[.int .u64 x, .int .u64 y] w fun e w' => e = .returned (.tuple #[.int .u64 ((x * y / 18446744073709551616 : Nat) : Int), .int .u64 ((x * y % 18446744073709551616 : Nat) : Int)]) ∧ w' = w := Any.bits_Mul64 Tryz.lays264 x y hx hy w
end Go.Proofs


/- Package wide: sizes and signs, numbers without a sign. -/
set_option linter.unusedVariables false
set_option linter.unusedSimpArgs false
namespace Go.Proofs.YtbbhmhihpdmoiaaGreat.Wm
theorem na_at {n h l : Nat} (a : Na n h l) : At (w128 (n : Int)) (((h : Int) + 9223372036854775808) % 18446744073709551616 - 9223372036854775808) l := by
  unfold Na At w128 at *
  omega
theorem w128_neg (z : Int) : w128 (0 - w128 z) = w128 (-z) := by unfold w128; omega
theorem at_na {z h : Int} {l : Nat} (a : At z h l) (hz : 0 ≤ z) : Na z.natAbs (uw h) l := by
  have := uw_eq h
  unfold At Na at *
  omega
theorem at_na_neg {x h : Int} {l : Nat} (hx : In x) (a : At (w128 (0 - x)) h l) (hz : x < 0) : Na x.natAbs (uw h) l := by
  have := uw_eq h
  unfold At Na In w128 at *
  omega
theorem na_div {n h l c : Nat} (a : Na n h l) (hc : 0 < c) (hc2 : c < 18446744073709551616) : Na (n / c) (h / c) ((h % c * 18446744073709551616 + l) / c) ∧ n % c = (h % c * 18446744073709551616 + l) % c := by
  obtain ⟨a1, a2, a3⟩ := a
  have e1 := Nat.div_add_mod h c
  have e2 : n = c * (h / c * 18446744073709551616) + (h % c * 18446744073709551616 + l) := by
    rw [a1, ← Nat.mul_assoc, ← Nat.add_assoc, ← Nat.add_mul, e1]
  have hr := Nat.mod_lt h hc
  refine ⟨⟨?_, ?_, ?_⟩, ?_⟩
  · rw [e2, Nat.mul_add_div hc]
  · refine (Nat.div_lt_iff_lt_mul hc).2 ?_
    have : (h % c + 1) * 18446744073709551616 ≤ c * 18446744073709551616 := Nat.mul_le_mul_right _ hr
    rw [Nat.mul_comm 18446744073709551616]
    omega
  · exact Nat.lt_of_le_of_lt (Nat.div_le_self _ _) a3
  · rw [e2, Nat.mul_add_mod]
theorem na_plus {n h l c : Nat} (a : Na n h l) (hc : c < 18446744073709551616) : Na ((n + c) % 340282366920938463463374607431768211456) ((h + (l + c) / 18446744073709551616) % 18446744073709551616) ((l + c) % 18446744073709551616) := by
  unfold Na at *
  omega
end Go.Proofs.YtbbhmhihpdmoiaaGreat.Wm
namespace Go.Proofs.YtbbhmhihpdmoiaaGreat.Fx
open Go.RowKit Wm
/-- answers the number without a sign n -/
def RetN (n : Nat) (w : World) (e : Ending) (w' : World) : Prop := ∃ h l : Nat, e = .returned (.agg #[.int .u64 h, .int .u64 l]) ∧ Na n h l ∧ Below w.heap.size w w'
theorem sign_pos_w (h l : Nat) (H : Int) (w : World) (e1 : IntKind.i64.wrap (h : Int) = H) :
    Calls Tryz.prog 179 #[.agg #[.int .u64 h, .int .u64 l], .bool false] w fun e w' => e = .returned (.agg #[.int .i64 H, .int .u64 l]) ∧ Below w.heap.size w w' := by
  go_enter Tryz.func179, Tryz.ntmps179
  go_wp2
  refine bodyPost_ret (v := .agg #[.int .i64 H, .int .u64 l]) (by simp [results, Tryz.results179, go_sem]) rfl ⟨rfl, by go_grown⟩
theorem sign_neg_w (h l : Nat) (H : Int) (Z z : Int) (w : World) (e1 : IntKind.i64.wrap (h : Int) = H) (ha : At Z H l) (hz : Hid (w128 (0 - Z) = z)) :
    Calls Tryz.prog 179 #[.agg #[.int .u64 h, .int .u64 l], .bool true] w (RetW z w) := by
  have ha0 : At 0 0 0 := by unfold At; omega
  have A0 := Lib.hid ha0
  have A1 := Lib.hid ha
  clear ha0 ha
  go_enter Tryz.func179, Tryz.ntmps179
  go_wp2_with fail
  refine (less_any 0 Z 0 H 0 l _ A0.out A1.out).mono ?_
  rintro e w' ⟨a, b, rfl, hat, hb⟩
  obtain ⟨hc, hf⟩ := bcell hb
  have hat := Lib.hid hat
  have hs := hb.size
  simp only [World.size_alloc] at hs
  have hz0 : w.heap.size < w'.heap.size := by omega
  have hz2 : w.heap.size + 1 + 1 < w'.heap.size := by omega
  have hz1 : w.heap.size + 1 < w'.heap.size := by omega
  go_wp2
  refine bodyPost_ret (v := .agg #[.int .i64 a, .int .u64 b]) (by simp [results, Tryz.results179, go_sem, *]) rfl ⟨_, _, rfl, by rw [← hz.out]; exact hat.out, ?_⟩
  repeat' (first | (with_reducible exact Below.refl _ _) | (with_reducible assumption) | (with_reducible refine Below.drew ?_) | (with_reducible refine Below.setCell ?_ ?_ _) | (with_reducible refine bnext ?_ (by assumption)) | (with_reducible refine Below.alloc ?_ ?_ _) | go_size)
theorem sign_any (n h l : Nat) (b : Bool) (w : World) (a : Na n h l) :
    Calls Tryz.prog 179 #[.agg #[.int .u64 h, .int .u64 l], .bool b] w (RetW (w128 (if b = true then -(n : Int) else n)) w) := by
  cases b with
  | false => exact (sign_pos_w h l _ w (IntKind.wrap_i64 _)).mono fun e w' ⟨he, hb⟩ => ⟨_, _, he, by simpa using na_at a, hb⟩
  | true => exact sign_neg_w h l _ _ _ w (IntKind.wrap_i64 _) (na_at a) (Lib.hid (by rw [w128_neg]; simp))
theorem sizeOf_pos_w (h : Int) (l p : Nat) (w : World) (Hb : Hid (decide (h < 0) = false)) (e1 : IntKind.u64.wrap h = (p : Int)) :
    Calls Tryz.prog 174 #[.agg #[.int .i64 h, .int .u64 l]] w fun e w' => e = .returned (.agg #[.int .u64 p, .int .u64 l]) ∧ Below w.heap.size w w' := by
  go_enter Tryz.func174, Tryz.ntmps174
  go_wp2_with fail
  refine (below_val h l _ _ Hb).mono ?_
  rintro e w' ⟨rfl, hb⟩
  obtain ⟨hc, hf⟩ := bcell hb
  have hs := hb.size
  simp only [World.size_alloc] at hs
  have hz0 : w.heap.size < w'.heap.size := by omega
  have hz1 : w.heap.size + 1 < w'.heap.size := by omega
  go_wp2
  refine bodyPost_ret (v := .agg #[.int .u64 p, .int .u64 l]) (by simp [results, Tryz.results174, go_sem, *]) rfl ⟨rfl, ?_⟩
  repeat' (first | (with_reducible exact Below.refl _ _) | (with_reducible assumption) | (with_reducible refine Below.drew ?_) | (with_reducible refine Below.setCell ?_ ?_ _) | (with_reducible refine bnext ?_ (by assumption)) | (with_reducible refine Below.alloc ?_ ?_ _) | go_size)
theorem sizeOf_neg_w (x h : Int) (l n : Nat) (w : World) (Hb : Hid (decide (h < 0) = true)) (ha : At x h l) (hn : ∀ a b, At (w128 (0 - x)) a b → Na n (uw a) b) :
    Calls Tryz.prog 174 #[.agg #[.int .i64 h, .int .u64 l]] w (RetN n w) := by
  have A0 : Hid (At 0 0 0) := Lib.hid (by unfold At; omega)
  have A1 := Lib.hid ha
  have HN := Lib.hid hn
  clear ha hn
  go_enter Tryz.func174, Tryz.ntmps174
  go_wp2_with fail
  refine (below_val h l _ _ Hb).mono ?_
  rintro e w1 ⟨rfl, hb⟩
  obtain ⟨hc, hf⟩ := bcell hb
  have hs := hb.size
  simp only [World.size_alloc] at hs
  have hz0 : w.heap.size < w1.heap.size := by omega
  have hz1 : w.heap.size + 1 < w1.heap.size := by omega
  go_wp2_with fail
  refine (less_any 0 x 0 h 0 l _ A0.out A1.out).mono ?_
  rintro e w2 ⟨a, b, rfl, hat, hb2⟩
  obtain ⟨hc2, hf2⟩ := bcell hb2
  have hs2 := hb2.size
  have hy0 : w.heap.size < w2.heap.size := by omega
  have hy1 : w.heap.size + 1 < w2.heap.size := by omega
  have k0 : w2.cell? ⟨w.heap.size, 0, none⟩ = some (.int .i64 h) := by simp [go_sem, hc2, hc, hz0, hz1]
  have f0 : w2.frozen? ⟨w.heap.size, 0, none⟩ = false := by simp [go_sem, hf2, hf, hz0, hz1]
  have k1 : w2.cell? ⟨w.heap.size, 1, none⟩ = some (.int .u64 l) := by simp [go_sem, hc2, hc, hz0, hz1]
  have f1 : w2.frozen? ⟨w.heap.size, 1, none⟩ = false := by simp [go_sem, hf2, hf, hz0, hz1]
  have k2 : w2.cell? ⟨w.heap.size + 1, 0, none⟩ = some (.int .u64 0) := by simp [go_sem, hc2, hc, hz0, hz1]
  have f2 : w2.frozen? ⟨w.heap.size + 1, 0, none⟩ = false := by simp [go_sem, hf2, hf, hz0, hz1]
  have k3 : w2.cell? ⟨w.heap.size + 1, 1, none⟩ = some (.int .u64 0) := by simp [go_sem, hc2, hc, hz0, hz1]
  have f3 : w2.frozen? ⟨w.heap.size + 1, 1, none⟩ = false := by simp [go_sem, hf2, hf, hz0, hz1]
  clear hc hf hc2 hf2
  have hna := Lib.hid (HN.out _ _ hat)
  have e1 : IntKind.u64.wrap a = (uw a : Int) := by rw [IntKind.wrap_u64, uw_eq]
  generalize uw a = p at *
  clear hat HN
  go_wp2
  refine bodyPost_ret (v := .agg #[.int .u64 p, .int .u64 b]) (by simp [results, Tryz.results174, go_sem, *]) rfl ⟨_, _, rfl, hna.out, ?_⟩
  repeat' (first | (with_reducible exact Below.refl _ _) | (with_reducible assumption) | (with_reducible refine Below.drew ?_) | (with_reducible refine Below.setCell ?_ ?_ _) | (with_reducible refine bnext ?_ (by assumption)) | (with_reducible refine Below.alloc ?_ ?_ _) | go_size)
theorem sizeOf_any (x h : Int) (l : Nat) (w : World) (a : At x h l) :
    Calls Tryz.prog 174 #[.agg #[.int .i64 h, .int .u64 l]] w (RetN x.natAbs w) := by
  by_cases hx : x < 0
  · exact sizeOf_neg_w x h l _ w (Lib.hid (by simpa using a.neg.2 hx)) a (fun p q h => at_na_neg a.inn h hx)
  · have hh : ¬ h < 0 := fun h => hx (a.neg.1 h)
    exact (sizeOf_pos_w h l (uw h) w (Lib.hid (by simpa using hh)) (by rw [IntKind.wrap_u64, uw_eq])).mono fun e w' ⟨he, hb⟩ => ⟨_, _, he, at_na a (by omega), hb⟩
theorem plus_w (h l c m k n : Nat) (w : World) (r1 : ∀ w, (callFunc 182 #[.int .u64 l, .int .u64 c, .int .u64 0]).run Tryz.prog w = .ok (.value (.tuple #[.int .u64 (m : Int), .int .u64 (k : Int)])) w) (e1 : IntKind.u64.wrap ((h : Int) + (k : Int)) = (n : Int)) :
    Calls Tryz.prog 178 #[.agg #[.int .u64 h, .int .u64 l], .int .u64 c] w fun e w' => e = .returned (.agg #[.int .u64 n, .int .u64 m]) ∧ Below w.heap.size w w' := by
  go_enter Tryz.func178, Tryz.ntmps178
  go_wp2
  refine bodyPost_ret (v := .agg #[.int .u64 n, .int .u64 m]) (by simp [results, Tryz.results178, go_sem]) rfl ⟨rfl, by go_grown⟩
theorem plus_any (x h l c : Nat) (w : World) (a : Na x h l) (hc : c < 18446744073709551616) :
    Calls Tryz.prog 178 #[.agg #[.int .u64 h, .int .u64 l], .int .u64 c] w (RetN ((x + c) % 340282366920938463463374607431768211456) w) :=
  (plus_w h l c _ _ _ w (run_add64z l c) (by rw [IntKind.wrap_u64]; exact (Int.natCast_emod (h + (l + c) / 18446744073709551616) 18446744073709551616).symm)).mono fun e w' ⟨he, hb⟩ => ⟨_, _, he, na_plus a hc, hb⟩
end Go.Proofs.YtbbhmhihpdmoiaaGreat.Fx


/- Package wide: checked numbers and their errors. -/
set_option linter.unusedVariables false
set_option linter.unusedSimpArgs false
namespace Go.Proofs.YtbbhmhihpdmoiaaGreat.Wm
/-- a checked number, and its error -/
def valE (z : Int) : Int := if In z then z else 0
def errE (z : Int) : Int := if In z then 0 else 20
theorem At.zero : At 0 0 0 := by unfold At; omega
theorem add_at {x y xh yh : Int} {xl yl : Nat} (hx : At x xh xl) (hy : At y yh yl) :
    At (w128 (x + y)) (((((uw xh + uw yh + (xl + yl) / 18446744073709551616) % 18446744073709551616 : Nat) : Int) + 9223372036854775808) % 18446744073709551616 - 9223372036854775808) ((xl + yl) % 18446744073709551616) := by
  have a := uw_eq xh
  have b := uw_eq yh
  have a' := uw_lt xh
  have b' := uw_lt yh
  generalize uw xh = p at *
  generalize uw yh = q at *
  unfold At w128 at *
  omega
theorem add_fits {x y z : Int} (hx : In x) (hy : In y) (hz : w128 (x + y) = z) : In (x + y) ↔ ((x < 0 ↔ y < 0) → (z < 0 ↔ x < 0)) := by
  subst hz
  unfold In w128 at *
  omega
end Go.Proofs.YtbbhmhihpdmoiaaGreat.Wm
namespace Go.Proofs.YtbbhmhihpdmoiaaGreat.Fx
open Go.RowKit Wm
/-- answers the number z, or its error -/
def RetE (z : Int) (w : World) (e : Ending) (w' : World) : Prop := ∃ h : Int, ∃ l : Nat, e = .returned (.tuple #[.agg #[.int .i64 h, .int .u64 l], .int .i64 (errE z)]) ∧ At (valE z) h l ∧ Below w.heap.size w w'
theorem ret_e {z z' h : Int} {l : Nat} {w w' : World} (hi : In z) (hz : w128 z = z') (ha : At z' h l) (hb : Below w.heap.size w w') : RetE z w (.returned (.tuple #[.agg #[.int .i64 h, .int .u64 l], .int .i64 0])) w' :=
  ⟨h, l, by rw [errE, if_pos hi], by rw [valE, if_pos hi]; rw [← w128_in hi, hz]; exact ha, hb⟩
theorem ret_no {z : Int} {w w' : World} (hi : ¬ In z) (hb : Below w.heap.size w w') : RetE z w (.returned (.tuple #[.agg #[.int .i64 0, .int .u64 0], .int .i64 20])) w' :=
  ⟨0, 0, by rw [errE, if_neg hi]; rfl, by rw [valE, if_neg hi]; exact At.zero, hb⟩
/-- what a step by words answers, in every world -/
def Words (f : Nat) (x y c s d : Nat) : Prop := ∀ w, (callFunc f #[.int .u64 x, .int .u64 y, .int .u64 c]).run Tryz.prog w = .ok (.value (.tuple #[.int .u64 (s : Int), .int .u64 (d : Int)])) w
def Words0 (f : Nat) (x y s d : Nat) : Prop := ∀ w, (callFunc f #[.int .u64 x, .int .u64 y, .int .u64 0]).run Tryz.prog w = .ok (.value (.tuple #[.int .u64 (s : Int), .int .u64 (d : Int)])) w
end Go.Proofs.YtbbhmhihpdmoiaaGreat.Fx


/- Package wide: numbers of 64 bits, products, comparisons. -/
set_option linter.unusedVariables false
set_option linter.unusedSimpArgs false
namespace Go.Proofs.YtbbhmhihpdmoiaaGreat.Wm
theorem mul_na (a b : Int) (ha0 : -9223372036854775808 ≤ a) (ha1 : a ≤ 9223372036854775807) (hb0 : -9223372036854775808 ≤ b) (hb1 : b ≤ 9223372036854775807) :
    Na (a.natAbs * b.natAbs) (a.natAbs * b.natAbs / 18446744073709551616) (a.natAbs * b.natAbs % 18446744073709551616) ∧ a.natAbs * b.natAbs ≤ 85070591730234615865843651857942052864 := by
  have h : a.natAbs * b.natAbs ≤ 9223372036854775808 * 9223372036854775808 := Nat.mul_le_mul (by omega) (by omega)
  generalize a.natAbs * b.natAbs = n at *
  unfold Na
  omega
theorem mul_sign (a b : Int) : (if (decide (a < 0) != decide (b < 0)) = true then -((a.natAbs * b.natAbs : Nat) : Int) else ((a.natAbs * b.natAbs : Nat) : Int)) = a * b := by
  have ea : a < 0 → a = -(a.natAbs : Int) := by omega
  have ea' : ¬ a < 0 → a = (a.natAbs : Int) := by omega
  have eb : b < 0 → b = -(b.natAbs : Int) := by omega
  have eb' : ¬ b < 0 → b = (b.natAbs : Int) := by omega
  rw [Int.natCast_mul]
  by_cases h1 : a < 0 <;> by_cases h2 : b < 0 <;> simp only [h1, h2]
  · rw [if_neg (by decide)]; conv => rhs; rw [ea h1, eb h2, Int.neg_mul_neg]
  · rw [if_pos (by decide)]; conv => rhs; rw [ea h1, eb' h2, Int.neg_mul]
  · rw [if_pos (by decide)]; conv => rhs; rw [ea' h1, eb h2, Int.mul_neg]
  · rw [if_neg (by decide)]; conv => rhs; rw [ea' h1, eb' h2]
theorem mul_in (a b : Int) (ha0 : -9223372036854775808 ≤ a) (ha1 : a ≤ 9223372036854775807) (hb0 : -9223372036854775808 ≤ b) (hb1 : b ≤ 9223372036854775807) : In (a * b) := by
  have h := (mul_na a b ha0 ha1 hb0 hb1).2
  rw [← mul_sign a b]
  generalize a.natAbs * b.natAbs = n at *
  unfold In
  split <;> omega
end Go.Proofs.YtbbhmhihpdmoiaaGreat.Wm
namespace Go.Proofs.YtbbhmhihpdmoiaaGreat.Fx
open Go.RowKit Wm
theorem of_w (a H : Int) (p : Nat) (w : World) (e1 : a / 9223372036854775808 = H) (e2 : IntKind.u64.wrap a = (p : Int)) :
    Calls Tryz.prog 180 #[.int .i64 a] w fun e w' => e = .returned (.agg #[.int .i64 H, .int .u64 p]) ∧ Below w.heap.size w w' := by
  go_enter Tryz.func180, Tryz.ntmps180
  go_wp2
  refine bodyPost_ret (v := .agg #[.int .i64 H, .int .u64 p]) (by simp [results, Tryz.results180, go_sem, *]) rfl ⟨rfl, ?_⟩
  repeat' (first | (with_reducible exact Below.refl _ _) | (with_reducible assumption) | (with_reducible refine Below.drew ?_) | (with_reducible refine Below.setCell ?_ ?_ _) | (with_reducible refine bnext ?_ (by assumption)) | (with_reducible refine Below.alloc ?_ ?_ _) | go_size)
theorem mul_w (a b : Int) (p q h l : Nat) (s : Bool) (z : Int) (w : World) (ra : ∀ w, Calls Tryz.prog 176 #[.int .i64 a] w fun e w' => e = .returned (.int .u64 (p : Int)) ∧ w = w') (rb : ∀ w, Calls Tryz.prog 176 #[.int .i64 b] w fun e w' => e = .returned (.int .u64 (q : Int)) ∧ w = w')
    (rm : ∀ w, Calls Tryz.prog 183 #[.int .u64 p, .int .u64 q] w fun e w' => e = .returned (.tuple #[.int .u64 (h : Int), .int .u64 (l : Int)]) ∧ w' = w)
    (hs : Hid ((!(decide (a < 0) == decide (b < 0))) = s)) (rs : ∀ w, Calls Tryz.prog 179 #[.agg #[.int .u64 h, .int .u64 l], .bool s] w (RetW z w)) :
    Calls Tryz.prog 173 #[.int .i64 a, .int .i64 b] w (RetW z w) := by
  have RA := Lib.hid ra
  have RB := Lib.hid rb
  have RM := Lib.hid rm
  have RS := Lib.hid rs
  clear ra rb rm rs
  go_enter Tryz.func173, Tryz.ntmps173
  go_wp2_with fail
  refine (RA.out _).mono ?_
  rintro e w' ⟨rfl, rfl⟩
  go_wp2_with fail
  refine (RB.out _).mono ?_
  rintro e w' ⟨rfl, rfl⟩
  go_wp2_with fail
  refine (RM.out _).mono ?_
  rintro e w' ⟨rfl, rfl⟩
  go_wp2_with fail
  rw [hs.out]
  refine (RS.out _).mono ?_
  rintro e w1 ⟨H, n, rfl, hat, hb⟩
  have hat := Lib.hid hat
  obtain ⟨hc, hf⟩ := bcell hb
  have hs := hb.size
  simp only [World.size_alloc] at hs
  have hz0 : w.heap.size < w1.heap.size := by omega
  go_wp2
  refine bodyPost_ret (v := .agg #[.int .i64 H, .int .u64 n]) (by simp [results, Tryz.results173, go_sem, *]) rfl ⟨_, _, rfl, hat.out, ?_⟩
  repeat' (first | (with_reducible exact Below.refl _ _) | (with_reducible assumption) | (with_reducible refine Below.drew ?_) | (with_reducible refine Below.setCell ?_ ?_ _) | (with_reducible refine bnext ?_ (by assumption)) | (with_reducible refine Below.alloc ?_ ?_ _) | go_size)
theorem mul_any (a b : Int) (w : World) (ha0 : -9223372036854775808 ≤ a) (ha1 : a ≤ 9223372036854775807) (hb0 : -9223372036854775808 ≤ b) (hb1 : b ≤ 9223372036854775807) :
    Calls Tryz.prog 173 #[.int .i64 a, .int .i64 b] w (RetW (a * b) w) := by
  have M := (mul_na a b ha0 ha1 hb0 hb1).1
  refine mul_w a b a.natAbs b.natAbs _ _ _ _ w (fun w => size_any a w ha0 ha1) (fun w => size_any b w hb0 hb1) (fun w => Tryz.bits_Mul64 _ _ (by omega) (by omega) w) (Lib.hid rfl) (fun w => ?_)
  have S := sign_any _ _ _ (decide (a < 0) != decide (b < 0)) w M
  rw [mul_sign, w128_in (mul_in a b ha0 ha1 hb0 hb1)] at S
  exact S
end Go.Proofs.YtbbhmhihpdmoiaaGreat.Fx


/- Package wide: comparisons; numbers of 64 bits. -/
set_option linter.unusedVariables false
set_option linter.unusedSimpArgs false
namespace Go.Proofs.YtbbhmhihpdmoiaaGreat.Fx
open Go Go.RowKit Wm
/-- goes into 64 bits -/
def In64 (x : Int) : Prop := -9223372036854775808 ≤ x ∧ x < 9223372036854775808
instance (z : Int) : Decidable (In64 z) := by unfold In64; infer_instance
theorem int_w (h H n : Int) (l : Nat) (r s : Int) (w : World) (e0 : IntKind.i64.wrap (l : Int) = n) (e1 : n / 9223372036854775808 = H) (e2 : IntKind.u64.wrap n = (l : Int))
    (hc : h = H ∧ r = n ∧ s = 0 ∨ (h == H) = false ∧ r = 0 ∧ s = 20) :
    Calls Tryz.prog 163 #[.agg #[.int .i64 h, .int .u64 l]] w fun e w' => e = .returned (.tuple #[.int .i64 r, .int .i64 s]) ∧ Below w.heap.size w w' := by
  have RO := Lib.hid (fun w => of_w n H l w e1 e2)
  clear e1 e2
  rcases hc with ⟨rfl, rfl, rfl⟩ | ⟨c, rfl, rfl⟩
  all_goals
    go_enter Tryz.func163, Tryz.ntmps163
    go_wp2
    go_region_held3 (fun w' => w'.cell? ⟨w.heap.size, 0, none⟩ = some (.int .i64 h) ∧ w'.cell? ⟨w.heap.size, 1, none⟩ = some (.int .u64 l) ∧ Below w.heap.size w w')
      (first | (go_split_ands; refine ⟨keep_cell (by assumption) (by assumption), keep_cell (by assumption) (by assumption), bnext (by assumption) (by assumption)⟩) | (refine ⟨?_, ?_, ?_⟩ <;> first | (with_reducible assumption) | (go_grown; done) | (simp [go_sem, *]; done)))
      ((go_at_call 180; (with_reducible refine (RO.out _).mono ?_); rintro e w' ⟨rfl, hbb⟩))
    go_split_ands
    go_wp2
    go_ret2
    exact ⟨rfl, by repeat' (first | (with_reducible exact Below.refl _ _) | (with_reducible assumption) | (with_reducible refine Below.drew ?_) | (with_reducible refine Below.setCell ?_ ?_ _) | (with_reducible refine bnext ?_ (by assumption)) | (with_reducible refine Below.alloc ?_ ?_ _) | go_size)⟩
theorem int_any (x a : Int) (k : Nat) (w : World) (hx : At x a k) :
    Calls Tryz.prog 163 #[.agg #[.int .i64 a, .int .u64 k]] w fun e w' => e = .returned (.tuple #[.int .i64 (if In64 x then x else 0), .int .i64 (if In64 x then 0 else 20)]) ∧ Below w.heap.size w w' := by
  have hk := hx.2.1
  have e0 : IntKind.i64.wrap (k : Int) = ((k : Int) + 9223372036854775808) % 18446744073709551616 - 9223372036854775808 := IntKind.wrap_i64 _
  obtain ⟨n, hn⟩ : ∃ n, ((k : Int) + 9223372036854775808) % 18446744073709551616 - 9223372036854775808 = n := ⟨_, rfl⟩
  rw [hn] at e0
  refine int_w a _ n k _ _ w e0 rfl (by rw [IntKind.wrap_u64]; omega) ?_
  by_cases h : In64 x
  · left
    rw [if_pos h, if_pos h]
    unfold In64 at h
    unfold At at hx
    omega
  · right
    rw [if_neg h, if_neg h]
    refine ⟨?_, rfl, rfl⟩
    unfold In64 at h
    unfold At at hx
    simp
    omega
end Go.Proofs.YtbbhmhihpdmoiaaGreat.Fx

