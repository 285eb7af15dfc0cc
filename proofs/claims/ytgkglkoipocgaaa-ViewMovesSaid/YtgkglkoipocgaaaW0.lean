/- Package wide's small functions: plain numbers, and the walks. -/
import Derived.Test.YtgkglkoipocgaaaProg
import Derived.Laws.Externs
import Derived.Shelf.Spec.BitsCarry
import Derived.WalkKit
import Derived.Handy
import Derived.Lib.Hide
import Derived.Deep.QuietTactic
import Derived.Outline
set_option linter.unusedVariables false
set_option linter.unusedSimpArgs false
namespace Go.Proofs.Ytgkglkoipocgaaa.Wm
/-- z is the number of 128 bits with the words h, l -/
def At (z h : Int) (l : Nat) : Prop := z = h * 18446744073709551616 + (l : Int) ∧ l < 18446744073709551616 ∧ -9223372036854775808 ≤ h ∧ h < 9223372036854775808
/-- n is the number without a sign with the words h, l -/
def Na (n h l : Nat) : Prop := n = h * 18446744073709551616 + l ∧ l < 18446744073709551616 ∧ h < 18446744073709551616
/-- gone round to 128 bits -/
def w128 (z : Int) : Int := (z + 170141183460469231731687303715884105728) % 340282366920938463463374607431768211456 - 170141183460469231731687303715884105728
/-- may it be? -/
def In (z : Int) : Prop := -170141183460469231731687303715884105728 ≤ z ∧ z < 170141183460469231731687303715884105728
instance (z : Int) : Decidable (In z) := by unfold In; infer_instance
theorem w128_in {z : Int} (h : In z) : w128 z = z := by unfold w128 In at *; omega
theorem in_w128 (z : Int) : In (w128 z) := by unfold w128 In; omega
theorem At.inn {z h : Int} {l : Nat} (a : At z h l) : In z := by unfold At In at *; omega
theorem At.neg {z h : Int} {l : Nat} (a : At z h l) : h < 0 ↔ z < 0 := by unfold At at *; omega
theorem At.ex {z : Int} (h : In z) : ∃ a b, At z a b := by
  refine ⟨z / 18446744073709551616, (z % 18446744073709551616).toNat, ?_⟩
  unfold At In at *
  omega
theorem At.uniq {z a b : Int} {k l : Nat} (h : At z a k) (g : At z b l) : a = b ∧ k = l := by unfold At at *; omega
/-- a word read without its sign -/
def uw (h : Int) : Nat := (h % 18446744073709551616).toNat
theorem uw_eq (h : Int) : (uw h : Int) = h % 18446744073709551616 := by unfold uw; omega
theorem uw_lt (h : Int) : uw h < 18446744073709551616 := by unfold uw; omega
theorem less_at {x y xh yh : Int} {xl yl : Nat} (hx : At x xh xl) (hy : At y yh yl) :
    At (w128 (x - y)) (((((uw xh + 18446744073709551616 - uw yh - (if xl < yl then 1 else 0)) % 18446744073709551616 : Nat) : Int) + 9223372036854775808) % 18446744073709551616 - 9223372036854775808) ((xl + 18446744073709551616 - yl) % 18446744073709551616) := by
  have a := uw_eq xh
  have b := uw_eq yh
  have a' := uw_lt xh
  have b' := uw_lt yh
  generalize uw xh = p at *
  generalize uw yh = q at *
  unfold At w128 at *
  split <;> omega
end Go.Proofs.Ytgkglkoipocgaaa.Wm
namespace Go.Proofs.Ytgkglkoipocgaaa.Fx
open Go Go.RowKit Wm
theorem ret_int {k : IntKind} {a b : Int} (h : a = b) : Ending.returned (.int k a) = .returned (.int k b) := by rw [h]
theorem ret_bool {x y : Bool} (h2 : x = y) : Ending.returned (.bool x) = .returned (.bool y) := by rw [h2]
theorem bcell {W w1 : World} (hb : Below W.heap.size W w1) : (∀ b o, b < W.heap.size → w1.cell? ⟨b, o, none⟩ = W.cell? ⟨b, o, none⟩) ∧ (∀ b o, b < W.heap.size → w1.frozen? ⟨b, o, none⟩ = W.frozen? ⟨b, o, none⟩) :=
  ⟨fun b o h => hb.cell (p := ⟨b, o, none⟩) h, fun b o h => hb.frozen (p := ⟨b, o, none⟩) h⟩
theorem bdrew {B : Nat} {w w' : World} (n : Nat) (h : Below B (w.drewN n) w') : Below B w w' := ⟨h.os, h.tape, h.output, h.size, h.block⟩
theorem bdrew0 (B : Nat) (w : World) (n : Nat) : Below B w (w.drewN n) := bdrew n (Below.refl _ _)
theorem bnext {w W1 W2 : World} (h : Below w.heap.size w W1) (k : Below W1.heap.size W1 W2) : Below w.heap.size w W2 := h.trans (k.mono h.size)

theorem run_add64 (x y c : Nat) (hc : c ≤ 1) (w : World) :
    (callFunc 79 #[.int .u64 x, .int .u64 y, .int .u64 c]).run Try.prog w =
      .ok (.value (.tuple #[.int .u64 (((x + y + c) % 18446744073709551616 : Nat) : Int), .int .u64 (((x + y + c) / 18446744073709551616 : Nat) : Int)])) w := by
  rw [run_callFunc_extern Try.func79 (by kernel_rfl) (by kernel_rfl) (by kernel_rfl) (e := add64Entry) (by kernel_rfl), _root_.Go.run_add64 x y c (by omega) (by omega) (by omega) (by omega)]
  simp only [Result.andThen]
  congr 5 <;> omega
theorem run_sub64 (x y b : Nat) (hb : b ≤ 1) (w : World) :
    (callFunc 81 #[.int .u64 x, .int .u64 y, .int .u64 b]).run Try.prog w =
      .ok (.value (.tuple #[.int .u64 (((x + 18446744073709551616 - y - b) % 18446744073709551616 : Nat) : Int), .int .u64 ((if x < y + b then 1 else 0 : Nat) : Int)])) w := by
  rw [run_callFunc_extern Try.func81 (by kernel_rfl) (by kernel_rfl) (by kernel_rfl) (e := sub64Entry) (by kernel_rfl), Go.Proofs.run_sub64 x y b hb]
  rfl

theorem run_add64z (x y : Nat) (w : World) :
    (callFunc 79 #[.int .u64 x, .int .u64 y, .int .u64 0]).run Try.prog w =
      .ok (.value (.tuple #[.int .u64 (((x + y) % 18446744073709551616 : Nat) : Int), .int .u64 (((x + y) / 18446744073709551616 : Nat) : Int)])) w := run_add64 x y 0 (by omega) w
theorem run_sub64z (x y : Nat) (w : World) :
    (callFunc 81 #[.int .u64 x, .int .u64 y, .int .u64 0]).run Try.prog w =
      .ok (.value (.tuple #[.int .u64 (((x + 18446744073709551616 - y) % 18446744073709551616 : Nat) : Int), .int .u64 ((if x < y then 1 else 0 : Nat) : Int)])) w := run_sub64 x y 0 (by omega) w

theorem below_any (h l : Int) (w : World) :
    Calls Try.prog 69 #[.agg #[.int .i64 h, .int .u64 l]] w fun e w' => e = .returned (.bool (decide (h < 0))) ∧ Below w.heap.size w w' := by
  go_enter Try.func69, Try.ntmps69
  go_wp2
  go_ret
  exact ⟨rfl, by go_grown⟩
theorem keep_cell {w w' : World} {a : Addr} {v : Value} (hb : Below w.heap.size w w') (h : w.cell? a = some v) : w'.cell? a = some v := by
  rw [hb.cell]
  · exact h
  · exact block_lt_of_cell h
theorem keep_free {w w' : World} {b o : Nat} (hb : Below w.heap.size w w') (hs : b < w.heap.size) (h : w.frozen? ⟨b, o, none⟩ = false) : w'.frozen? ⟨b, o, none⟩ = false := by
  rw [hb.frozen (p := ⟨b, o, none⟩) hs]
  exact h
theorem below_val (h : Int) (l : Nat) (b : Bool) (w : World) (H : Hid (decide (h < 0) = b)) :
    Calls Try.prog 69 #[.agg #[.int .i64 h, .int .u64 l]] w fun e w' => e = .returned (.bool b) ∧ Below w.heap.size w w' := by
  rw [← H.out]
  exact below_any h l w
theorem size_neg (a : Int) (h0 : -9223372036854775808 ≤ a) (h1 : a < 0) : IntKind.u64.wrap (-IntKind.u64.wrap a) = (a.natAbs : Int) := by
  rw [IntKind.wrap_u64, IntKind.wrap_u64]
  omega
theorem size_any (a : Int) (w : World) (hn0 : -9223372036854775808 ≤ a) (hn1 : a ≤ 9223372036854775807) :
    Calls Try.prog 68 #[.int .i64 a] w fun e w' => e = .returned (.int .u64 (a.natAbs : Int)) ∧ w = w' := by
  by_cases h1 : a < 0
  · go_enter Try.func68, Try.ntmps68
    go_wp2
    go_ret
    exact ⟨ret_int (size_neg a hn0 h1), rfl⟩
  · go_enter Try.func68, Try.ntmps68
    go_wp2
    go_ret
    exact ⟨ret_int (by omega), rfl⟩
/-- answers the number z -/
def RetW (z : Int) (w : World) (e : Ending) (w' : World) : Prop := ∃ h : Int, ∃ l : Nat, e = .returned (.agg #[.int .i64 h, .int .u64 l]) ∧ At z h l ∧ Below w.heap.size w w'
set_option maxHeartbeats 400000 in
theorem less_any (x y xh yh : Int) (xl yl : Nat) (w : World) (hx : At x xh xl) (hy : At y yh yl) :
    Calls Try.prog 77 #[.agg #[.int .i64 xh, .int .u64 xl], .agg #[.int .i64 yh, .int .u64 yl]] w (RetW (w128 (x - y)) w) := by
  have r1 := fun w => run_sub64z xl yl w
  have L := less_at hx hy
  have e1 : IntKind.u64.wrap xh = (uw xh : Int) := by rw [IntKind.wrap_u64, uw_eq]
  have e2 : IntKind.u64.wrap yh = (uw yh : Int) := by rw [IntKind.wrap_u64, uw_eq]
  obtain ⟨b, hb, hb1⟩ : ∃ b, (if xl < yl then 1 else 0) = b ∧ b ≤ 1 := ⟨_, rfl, by split <;> omega⟩
  rw [hb] at r1 L
  have r2 := fun w => run_sub64 (uw xh) (uw yh) b hb1 w
  generalize uw xh = p at *
  generalize uw yh = q at *
  obtain ⟨m, hm⟩ : ∃ m, (p + 18446744073709551616 - q - b) % 18446744073709551616 = m := ⟨_, rfl⟩
  obtain ⟨n, hn⟩ : ∃ n, (xl + 18446744073709551616 - yl) % 18446744073709551616 = n := ⟨_, rfl⟩
  rw [hm] at r2 L
  rw [hn] at r1 L
  generalize (if p < q + b then 1 else 0) = b2 at r2
  have L := Lib.hid L
  have e3 : IntKind.i64.wrap (m : Int) = ((m : Int) + 9223372036854775808) % 18446744073709551616 - 9223372036854775808 := IntKind.wrap_i64 _
  generalize ((m : Int) + 9223372036854775808) % 18446744073709551616 - 9223372036854775808 = H at *
  clear hm hn hb hx hy
  go_enter Try.func77, Try.ntmps77
  go_wp2
  refine bodyPost_ret (v := .agg #[.int .i64 H, .int .u64 n]) (by simp [results, Try.results77, go_sem]) rfl ⟨_, _, rfl, L.out, by go_grown⟩
end Go.Proofs.Ytgkglkoipocgaaa.Fx
