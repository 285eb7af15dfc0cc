import Derived.Laws.Rows
import Derived.OrdersHeld
import Derived.OrdersIn
import Derived.OwnWalkIn
import Derived.RangeFuncCalls
import Derived.Deep.RegionHeld
import Derived.Test.YtbbhmhihpdmoiaaGreatProg
import Derived.Laws.Externs
import Derived.Shelf.Spec.BitsCarry
import Derived.WalkKit
import Derived.Handy
import Derived.Lib.Hide
import Derived.Deep.QuietTactic
import Derived.Outline
import Derived.Laws.StructEq
import Derived.Deep.MidRow
import Derived.Shelf.Small.Bits
import Derived.Shelf.Strconv.Itoa0
import Derived.Shelf.Bits.Mul64
set_option linter.unusedVariables false
namespace Go.Proofs.YtbbhmhihpdmoiaaGreat.Fx
open Go Go.RowKit
variable {F : Fence} {n : Nat} {P : Program} {ops : Array Oper} {Q : Exit → Act → World → Prop} {md : Region.Mode} {S : World → Prop}
def Calm (ops : Array Oper) : Bool := ops.all fun o => match o.op with
 | .defer _ => false
 | _ => true
theorem calm_at {i : Nat} {o : Oper} (h : Calm ops = true) (hi : ops[i]? = some o) (c : Call) : o.op ≠ .defer c := by
 intro e
 unfold Calm at h
 rw [Array.all_eq_true_iff_forall_mem] at h
 have := h o (Array.mem_of_getElem? hi)
 rw [e] at this
 cases this
theorem held_op (hF : ∀ f, F.fn f) (hd : Calm ops = true) {i : Nat} {o : Oper} {v : Value} {a : Act} (hi : ops[i]? = some o) (hy : YieldsIf P ops S o v a)
  {K : Act → World → Prop} {w : World} (hS : S w) (h : K (a.put o.dst v) w) : wpOpIn F n P ops Q i K a w := by
 unfold Go.wpOpIn
 simp only [hi]
 rcases hy with ⟨hw, hv⟩ | ⟨hw, rfl⟩
 ·simp only [hw, if_true, Oper.wpIn, Oper.semAt_plain F _ _ (calm_at hd hi), hv w hS, Oper.uponIn]
  exact ⟨fun f _ => hF f, h⟩
 ·simp only [hw, Bool.false_eq_true, if_false]
  exact ⟨fun f _ => hF f, h⟩
theorem held_put (hF : ∀ f, F.fn f) (hd : Calm ops = true) {j : Nat} {oi oj : Oper} {v : Value} (hj : ops[j]? = some oj) (hap : oi.apart ops oj = true)
  (hsi : ∀ cs b, oi.op ≠ .select cs b) (hsj : ∀ cs b, oj.op ≠ .select cs b)
  (hQ : ∀ c a w, Q (.panic c) (a.put oi.dst v) w → Q (.panic c) a w) {K : Act → World → Prop} {a : Act} {w : World}
  (hy : YieldsIf P ops S oi v a) (h : wpOpIn F n P ops Q j K (a.put oi.dst v) w) :
  wpOpIn F n P ops Q j (fun a' w' => YieldsIf P ops S oi v a' ∧ K (a'.put oi.dst v) w') a w := by
 obtain ⟨h1, h2, h3⟩ := Oper.apart_spec hap
 have hcj := calm_at hd hj
 have keep : ∀ (a : Act), YieldsIf P ops S oi v a → ∀ u, YieldsIf P ops S oi v (a.put oj.dst u) := fun a hy u =>
  hy.of_same (execOp_put oi hsi a oj.dst u h3) (wanted_put oi a oj.dst u h3)
 unfold wpOpIn at *
 simp only [hj] at *
 rw [wanted_put oj a oi.dst v h1] at h
 split
 ·rename_i hw
  simp only [hw, if_true] at h
  unfold Oper.wpIn at *
  rw [Oper.semAt_plain F _ _ hcj] at h ⊢
  rw [execOp_put oj hsj a oi.dst v h1] at h
  refine ⟨fun f _ => hF f, ?_⟩
  obtain ⟨_, h⟩ := h
  generalize (execOp a.eval oj).run P w = r at *
  cases r with
  | ok x w' =>
   cases x <;> simp only [Oper.uponIn] at h ⊢
   case value u => exact ⟨keep a hy u, by rw [← Act.put_comm a v u h2]; exact h⟩
   case skip => exact ⟨keep a hy _, by rw [← Act.put_comm a v undef h2]; exact h⟩
   case defer d =>
    refine ⟨keep _ (show YieldsIf P ops S oi v { a with defers := d :: a.defers } from hy.of_same rfl rfl) _, ?_⟩
    rw [← Act.put_comm _ v undef h2, ← Act.put_defers]
    exact h
   case enter f args =>
    refine ⟨h.1, CallsIn.mono h.2 fun e w'' he => ?_⟩
    cases e with
    | returned u => exact ⟨keep a hy u, by rw [← Act.put_comm a v u h2]; exact he⟩
    | panicked c => exact hQ _ _ _ he
    | outgrown => exact he
   case row row args => exact ⟨h.1, RowsIn.mono h.2 fun u w'' he => ⟨keep a hy u, by rw [← Act.put_comm a v u h2]; exact he⟩⟩
   case round l f tmps assign body =>
    refine ⟨h.1, RoundIn.mono h.2 fun e w'' he => ?_⟩
    cases e with
    | returned u => exact ⟨keep a hy u, by rw [← Act.put_comm a v u h2]; exact he⟩
    | panicked c => exact hQ _ _ _ he
    | outgrown => exact he
  | halt x w' =>
   cases x <;> simp only [Oper.uponIn] at h ⊢
   case panic u => exact hQ _ _ _ h
 ·rename_i hw
  simp only [hw] at h
  exact ⟨fun f _ => hF f, keep a hy _, by rw [← Act.put_comm a v undef h2]; exact h.2⟩
def HeldIn (F : Fence) (n : Nat) (P : Program) (md : Region.Mode) (ops : Array Oper) (Q : Exit → Act → World → Prop) (S : World → Prop) : Nat → Array Bool → Act → World → Prop
 | 0, listed, a, w => Region.ready md ops listed = [] ∧ Q .normal a w
 | fuel + 1, listed, a, w =>
  (Region.ready md ops listed = [] → Q .normal a w) ∧
  ∀ i ∈ Region.ready md ops listed, wpOpIn F n P ops Q i (fun a' w' => S w' ∧ HeldIn F n P md ops Q S fuel (listed.setIfInBounds i true) a' w') a w
theorem HeldIn.any : ∀ (fuel : Nat) (listed : Array Bool) (a : Act) (w : World), HeldIn F n P md ops Q S fuel listed a w → wpAnyIn F n P md ops Q fuel listed a w
 | 0, _, _, _, h => h
 | fuel + 1, _, _, _, h => ⟨h.1, fun i hi => wpOpIn_mono (fun a' w' h' => HeldIn.any fuel _ a' w' h'.2) (h.2 i hi)⟩
theorem held_first (hF : ∀ f, F.fn f) (hd : Calm ops = true) {i : Nat} {oi : Oper} {v : Value} (hi : ops[i]? = some oi) (hsel : ∀ (j : Nat) (o : Oper) cs b, ops[j]? = some o → o.op ≠ .select cs b)
  (hQ : ∀ c a w, Q (.panic c) (a.put oi.dst v) w → Q (.panic c) a w) (fuel : Nat) :
  ∀ (listed : Array Bool) (a : Act) (w : World),
   (∀ j oj, ops[j]? = some oj → j ≠ i → listed.getD j true = false → (∀ e ∈ oj.after, Region.binds md e = true → e.on ≠ i) → oi.apart ops oj = true) →
   i ∈ Region.ready md ops listed → YieldsIf P ops S oi v a → S w →
   HeldIn F n P md ops Q S fuel (listed.setIfInBounds i true) (a.put oi.dst v) w → HeldIn F n P md ops Q S (fuel + 1) listed a w := by
 induction fuel with
 | zero =>
  intro listed a w _ hr hy hS H
  refine ⟨fun h => (by rw [h] at hr; cases hr), fun j hj => ?_⟩
  by_cases hji : j = i
  ·subst hji; exact held_op hF hd hi hy hS ⟨hS, H⟩
  ·have := ready_mono hj hji
   rw [H.1] at this
   cases this
 | succ fuel ih =>
  intro listed a w hfree hr hy hS H
  refine ⟨fun h => (by rw [h] at hr; cases hr), fun j hj => ?_⟩
  by_cases hji : j = i
  ·subst hji; exact held_op hF hd hi hy hS ⟨hS, H⟩
  ·have h1 := H.2 j (ready_mono hj hji)
   obtain ⟨hjun, oj, hoj, hall⟩ := mem_ready.1 hj
   have hnot : ∀ e ∈ oj.after, Region.binds md e = true → e.on ≠ i := fun e he hb heq => by
    have h1 := hall e he hb
    have h0 := (mem_ready.1 hr).1
    rw [heq] at h1
    rcases Nat.lt_or_ge i listed.size with h' | h'
    ·simp [h'] at h0 h1; rw [h0] at h1; cases h1
    ·simp [Array.getElem?_eq_none h'] at h1
   have h2 := held_put hF hd hoj (hfree j oj hoj hji hjun hnot) (fun cs b => hsel i oi cs b hi) (fun cs b => hsel j oj cs b hoj) hQ hy h1
   refine wpOpIn_mono (fun a' w' h3 => ⟨h3.2.1, ih (listed.setIfInBounds j true) a' w' (fun k ok hk hki hun hno => hfree k ok hk hki ?_ hno) (ready_mono hr (Ne.symm hji)) h3.1 h3.2.1 ?_⟩) h2
   ·by_cases hjk : j = k
    ·subst hjk; exact hjun
    ·rw [getD_set_ne true hjk] at hun; exact hun
   ·rw [Array.setIfInBounds_comm _ _ hji]
    exact h3.2.2
theorem held_take (hF : ∀ f, F.fn f) (hd : Calm ops = true) {i : Nat} {oi : Oper} {v : Value} {fuel : Nat} {listed : Array Bool} {a : Act} {w : World} (hi : ops[i]? = some oi)
  (hs : Region.noSelect ops = true) (hf : Region.free md ops listed i = true) (hr : (Region.ready md ops listed).contains i = true)
  (hQ : ∀ c a w, Q (.panic c) (a.put oi.dst v) w → Q (.panic c) a w) (hS : S w) (hy : YieldsIf P ops S oi v a)
  (h : HeldIn F n P md ops Q S fuel (listed.setIfInBounds i true) (a.put oi.dst v) w) : HeldIn F n P md ops Q S (fuel + 1) listed a w :=
 held_first hF hd hi (Region.noSelect_spec hs) hQ fuel listed a w (Region.free_spec hi hf) (by simpa using hr) hy hS h
theorem held_step (hF : ∀ f, F.fn f) {i : Nat} {o : Oper} {fuel : Nat} {listed : Array Bool} {a : Act} {w : World} (hr : Region.ready md ops listed = [i]) (ho : ops[i]? = some o)
  (h : ∀ K' : Act → World → Prop, Shut (∀ a w, S w → (S w → HeldIn F n P md ops Q S fuel (listed.setIfInBounds i true) a w) → K' a w) → if Region.wanted o (yielded ops a.tmps) = true then Oper.wpIn F n P o a w K' Q else K' (a.put o.dst undef) w) :
  HeldIn F n P md ops Q S (fuel + 1) listed a w := by
 refine ⟨fun h0 => (by rw [hr] at h0; cases h0), fun j hj => ?_⟩
 rw [hr, List.mem_singleton] at hj
 subst hj
 unfold wpOpIn
 simp only [ho]
 have h' := h (fun a' w' => S w' ∧ HeldIn F n P md ops Q S fuel (listed.setIfInBounds j true) a' w') (fun a w hS hW => ⟨hS, hW hS⟩)
 split
 ·rename_i hw
  rw [if_pos hw] at h'
  exact h'
 ·rename_i hw
  rw [if_neg hw] at h'
  exact ⟨fun f _ => hF f, h'⟩
theorem held_step2 (hF : ∀ f, F.fn f) {i j : Nat} {o o2 : Oper} {fuel : Nat} {listed : Array Bool} {a : Act} {w : World} (hr : Region.ready md ops listed = [i, j]) (ho : ops[i]? = some o) (ho2 : ops[j]? = some o2)
  (h : ∀ K' : Act → World → Prop, Shut (∀ a w, S w → (S w → HeldIn F n P md ops Q S fuel (listed.setIfInBounds i true) a w) → K' a w) → if Region.wanted o (yielded ops a.tmps) = true then Oper.wpIn F n P o a w K' Q else K' (a.put o.dst undef) w)
  (h2 : ∀ K' : Act → World → Prop, Shut (∀ a w, S w → (S w → HeldIn F n P md ops Q S fuel (listed.setIfInBounds j true) a w) → K' a w) → if Region.wanted o2 (yielded ops a.tmps) = true then Oper.wpIn F n P o2 a w K' Q else K' (a.put o2.dst undef) w) :
  HeldIn F n P md ops Q S (fuel + 1) listed a w := by
 refine ⟨fun h0 => (by rw [hr] at h0; cases h0), fun k hk => ?_⟩
 rw [hr] at hk
 simp only [List.mem_cons, List.not_mem_nil, or_false] at hk
 rcases hk with rfl | rfl
 ·unfold wpOpIn
  simp only [ho]
  have h' := h (fun a' w' => S w' ∧ HeldIn F n P md ops Q S fuel (listed.setIfInBounds k true) a' w') (fun a w hS hW => ⟨hS, hW hS⟩)
  split
  ·rename_i hw
   rw [if_pos hw] at h'
   exact h'
  ·rename_i hw
   rw [if_neg hw] at h'
   exact ⟨fun f _ => hF f, h'⟩
 ·unfold wpOpIn
  simp only [ho2]
  have h' := h2 (fun a' w' => S w' ∧ HeldIn F n P md ops Q S fuel (listed.setIfInBounds k true) a' w') (fun a w hS hW => ⟨hS, hW hS⟩)
  split
  ·rename_i hw
   rw [if_pos hw] at h'
   exact h'
  ·rename_i hw
   rw [if_neg hw] at h'
   exact ⟨fun f _ => hF f, h'⟩
theorem held_done {listed : Array Bool} {a : Act} {w : World} (hr : Region.ready md ops listed = []) (h : Q .normal a w) : ∀ fuel, HeldIn F n P md ops Q S fuel listed a w
 | 0 => ⟨hr, h⟩
 | _ + 1 => ⟨fun _ => h, by rw [hr]; simp⟩
theorem held_region {id : Nat} {a : Act} {w : World} (hm : P.follows .mixedOrders = true) (hS : S w.drew)
  (h : S w.drew → HeldIn F n P .any ops Q S ops.size (Array.replicate ops.size false) a w.drew) : (Code.region id ops true).wpIn F n P Q a w :=
 wpIn_region_any hm (HeldIn.any _ _ _ _ (h hS))
end Go.Proofs.YtbbhmhihpdmoiaaGreat.Fx

set_option linter.unusedVariables false
set_option linter.unusedSimpArgs false
namespace Go.Proofs.YtbbhmhihpdmoiaaGreat.Wm
def At (z h : Int) (l : Nat) : Prop := z = h * 18446744073709551616 + (l : Int) ∧ l < 18446744073709551616 ∧ -9223372036854775808 ≤ h ∧ h < 9223372036854775808
def Na (n h l : Nat) : Prop := n = h * 18446744073709551616 + l ∧ l < 18446744073709551616 ∧ h < 18446744073709551616
def w128 (z : Int) : Int := (z + 170141183460469231731687303715884105728) % 340282366920938463463374607431768211456 - 170141183460469231731687303715884105728
def In (z : Int) : Prop := -170141183460469231731687303715884105728 ≤ z ∧ z < 170141183460469231731687303715884105728
instance (z : Int) : Decidable (In z) := by unfold In; infer_instance
theorem w128_in {z : Int} (h : In z) : w128 z = z := by unfold w128 In at *; omega
theorem At.inn {z h : Int} {l : Nat} (a : At z h l) : In z := by unfold At In at *; omega
theorem At.neg {z h : Int} {l : Nat} (a : At z h l) : h < 0 ↔ z < 0 := by unfold At at *; omega
theorem At.ex {z : Int} (h : In z) : ∃ a b, At z a b := by
 refine ⟨z / 18446744073709551616, (z % 18446744073709551616).toNat, ?_⟩
 unfold At In at *
 omega
theorem At.uniq {z a b : Int} {k l : Nat} (h : At z a k) (g : At z b l) : a = b ∧ k = l := by unfold At at *; omega
def uw (h : Int) : Nat := (h % 18446744073709551616).toNat
theorem uw_eq (h : Int) : (uw h : Int) = h % 18446744073709551616 := by unfold uw; omega
theorem uw_lt (h : Int) : uw h < 18446744073709551616 := by unfold uw; omega
theorem less_at {x y xh yh : Int} {xl yl : Nat} (hx : At x xh xl) (hy : At y yh yl) :
  At (w128 (x - y)) (((((uw xh + 18446744073709551616 - uw yh - (if xl < yl then 1 else 0)) % 18446744073709551616 : Nat) : Int) + 9223372036854775808) % 18446744073709551616 - 9223372036854775808) ((xl + 18446744073709551616 - yl) % 18446744073709551616) := by
 have a := uw_eq xh
 have b := uw_eq yh
 have a' := uw_lt xh
 have b' := uw_lt yh
 generalize uw xh = p at *
 generalize uw yh = q at *
 unfold At w128 at *
 split <;> omega
end Go.Proofs.YtbbhmhihpdmoiaaGreat.Wm
namespace Go.Proofs.YtbbhmhihpdmoiaaGreat.Fx
open Go Go.RowKit Wm
theorem ret_int {k : IntKind} {a b : Int} (h : a = b) : Ending.returned (.int k a) = .returned (.int k b) := by rw [h]
theorem ret_bool {x y : Bool} (h2 : x = y) : Ending.returned (.bool x) = .returned (.bool y) := by rw [h2]
theorem bcell {W w1 : World} (hb : Below W.heap.size W w1) : (∀ b o, b < W.heap.size → w1.cell? ⟨b, o, none⟩ = W.cell? ⟨b, o, none⟩) ∧ (∀ b o, b < W.heap.size → w1.frozen? ⟨b, o, none⟩ = W.frozen? ⟨b, o, none⟩) :=
 ⟨fun b o h => hb.cell (p := ⟨b, o, none⟩) h, fun b o h => hb.frozen (p := ⟨b, o, none⟩) h⟩
theorem bdrew {B : Nat} {w w' : World} (n : Nat) (h : Below B (w.drewN n) w') : Below B w w' := ⟨h.os, h.tape, h.output, h.size, h.block⟩
theorem bdrew0 (B : Nat) (w : World) (n : Nat) : Below B w (w.drewN n) := bdrew n (Below.refl _ _)
theorem bnext {w W1 W2 : World} (h : Below w.heap.size w W1) (k : Below W1.heap.size W1 W2) : Below w.heap.size w W2 := h.trans (k.mono h.size)
theorem run_add64 (x y c : Nat) (hc : c ≤ 1) (w : World) :
  (callFunc 182 #[.int .u64 x, .int .u64 y, .int .u64 c]).run Tryz.prog w =
   .ok (.value (.tuple #[.int .u64 (((x + y + c) % 18446744073709551616 : Nat) : Int), .int .u64 (((x + y + c) / 18446744073709551616 : Nat) : Int)])) w := by
 rw [run_callFunc_extern Tryz.func182 (by kernel_rfl) (by kernel_rfl) (by kernel_rfl) (e := add64Entry) (by kernel_rfl), _root_.Go.run_add64 x y c (by omega) (by omega) (by omega) (by omega)]
 simp only [Result.andThen]
 congr 5 <;> omega
theorem run_sub64 (x y b : Nat) (hb : b ≤ 1) (w : World) :
  (callFunc 186 #[.int .u64 x, .int .u64 y, .int .u64 b]).run Tryz.prog w =
   .ok (.value (.tuple #[.int .u64 (((x + 18446744073709551616 - y - b) % 18446744073709551616 : Nat) : Int), .int .u64 ((if x < y + b then 1 else 0 : Nat) : Int)])) w := by
 rw [run_callFunc_extern Tryz.func186 (by kernel_rfl) (by kernel_rfl) (by kernel_rfl) (e := sub64Entry) (by kernel_rfl), Go.Proofs.run_sub64 x y b hb]
 rfl
theorem run_add64z (x y : Nat) (w : World) :
  (callFunc 182 #[.int .u64 x, .int .u64 y, .int .u64 0]).run Tryz.prog w =
   .ok (.value (.tuple #[.int .u64 (((x + y) % 18446744073709551616 : Nat) : Int), .int .u64 (((x + y) / 18446744073709551616 : Nat) : Int)])) w := run_add64 x y 0 (by omega) w
theorem run_sub64z (x y : Nat) (w : World) :
  (callFunc 186 #[.int .u64 x, .int .u64 y, .int .u64 0]).run Tryz.prog w =
   .ok (.value (.tuple #[.int .u64 (((x + 18446744073709551616 - y) % 18446744073709551616 : Nat) : Int), .int .u64 ((if x < y then 1 else 0 : Nat) : Int)])) w := run_sub64 x y 0 (by omega) w
theorem below_any (h l : Int) (w : World) :
  Calls Tryz.prog 177 #[.agg #[.int .i64 h, .int .u64 l]] w fun e w' => e = .returned (.bool (decide (h < 0))) ∧ Below w.heap.size w w' := by
 go_enter Tryz.func177, Tryz.ntmps177
 go_wp2
 go_ret
 exact ⟨rfl, by go_grown⟩
theorem keep_cell {w w' : World} {a : Addr} {v : Value} (hb : Below w.heap.size w w') (h : w.cell? a = some v) : w'.cell? a = some v := by
 rw [hb.cell]
 ·exact h
 ·exact block_lt_of_cell h
theorem keep_free {w w' : World} {b o : Nat} (hb : Below w.heap.size w w') (hs : b < w.heap.size) (h : w.frozen? ⟨b, o, none⟩ = false) : w'.frozen? ⟨b, o, none⟩ = false := by
 rw [hb.frozen (p := ⟨b, o, none⟩) hs]
 exact h
theorem below_val (h : Int) (l : Nat) (b : Bool) (w : World) (H : Hid (decide (h < 0) = b)) :
  Calls Tryz.prog 177 #[.agg #[.int .i64 h, .int .u64 l]] w fun e w' => e = .returned (.bool b) ∧ Below w.heap.size w w' := by
 rw [← H.out]
 exact below_any h l w
theorem size_neg (a : Int) (h0 : -9223372036854775808 ≤ a) (h1 : a < 0) : IntKind.u64.wrap (-IntKind.u64.wrap a) = (a.natAbs : Int) := by
 rw [IntKind.wrap_u64, IntKind.wrap_u64]
 omega
theorem size_any (a : Int) (w : World) (hn0 : -9223372036854775808 ≤ a) (hn1 : a ≤ 9223372036854775807) :
  Calls Tryz.prog 176 #[.int .i64 a] w fun e w' => e = .returned (.int .u64 (a.natAbs : Int)) ∧ w = w' := by
 by_cases h1 : a < 0
 ·go_enter Tryz.func176, Tryz.ntmps176
  go_wp2
  go_ret
  exact ⟨ret_int (size_neg a hn0 h1), rfl⟩
 ·go_enter Tryz.func176, Tryz.ntmps176
  go_wp2
  go_ret
  exact ⟨ret_int (by omega), rfl⟩
def RetW (z : Int) (w : World) (e : Ending) (w' : World) : Prop := ∃ h : Int, ∃ l : Nat, e = .returned (.agg #[.int .i64 h, .int .u64 l]) ∧ At z h l ∧ Below w.heap.size w w'
set_option maxHeartbeats 400000 in
theorem less_any (x y xh yh : Int) (xl yl : Nat) (w : World) (hx : At x xh xl) (hy : At y yh yl) :
  Calls Tryz.prog 184 #[.agg #[.int .i64 xh, .int .u64 xl], .agg #[.int .i64 yh, .int .u64 yl]] w (RetW (w128 (x - y)) w) := by
 have r1 := fun w => run_sub64z xl yl w
 have L := less_at hx hy
 have e1 : IntKind.u64.wrap xh = (uw xh : Int) := by rw [IntKind.wrap_u64, uw_eq]
 have e2 : IntKind.u64.wrap yh = (uw yh : Int) := by rw [IntKind.wrap_u64, uw_eq]
 obtain ⟨b, hb, hb1⟩ : ∃ b, (if xl < yl then 1 else 0) = b ∧ b ≤ 1 := ⟨_, rfl, by split <;> omega⟩
 rw [hb] at r1 L
 have r2 := fun w => run_sub64 (uw xh) (uw yh) b hb1 w
 generalize uw xh = p at *
 generalize uw yh = q at *
 obtain ⟨m, hm⟩ : ∃ m, (p + 18446744073709551616 - q - b) % 18446744073709551616 = m := ⟨_, rfl⟩
 obtain ⟨n, hn⟩ : ∃ n, (xl + 18446744073709551616 - yl) % 18446744073709551616 = n := ⟨_, rfl⟩
 rw [hm] at r2 L
 rw [hn] at r1 L
 generalize (if p < q + b then 1 else 0) = b2 at r2
 have L := Lib.hid L
 have e3 : IntKind.i64.wrap (m : Int) = ((m : Int) + 9223372036854775808) % 18446744073709551616 - 9223372036854775808 := IntKind.wrap_i64 _
 generalize ((m : Int) + 9223372036854775808) % 18446744073709551616 - 9223372036854775808 = H at *
 clear hm hn hb hx hy
 go_enter Tryz.func184, Tryz.ntmps184
 go_wp2
 refine bodyPost_ret (v := .agg #[.int .i64 H, .int .u64 n]) (by simp [results, Tryz.results184, go_sem]) rfl ⟨_, _, rfl, L.out, by go_grown⟩
end Go.Proofs.YtbbhmhihpdmoiaaGreat.Fx

set_option linter.unusedVariables false
set_option linter.unusedSimpArgs false
namespace Go.Proofs.YtbbhmhihpdmoiaaGreat.Fx
open Go Go.RowKit Wm
def encN (x : Nat) : Value := .int .u64 (x : Int)
def bigC (neg : Bool) (d : List Nat) : Array Value := (Value.bool neg :: d.map encN).toArray
theorem all_range_nat : ∀ (xs ys : List Nat), xs.length = ys.length → ((List.range xs.length).all fun i => xs.getD i 0 == ys.getD i 0) = (xs == ys)
 | [], [], _ => rfl
 | x :: xs, y :: ys, h => by
  have ih := all_range_nat xs ys (by simpa using h)
  rw [List.length_cons, List.range_succ_eq_map, List.all_cons, List.all_map]
  simp only [List.getD_cons_zero, Function.comp_def, List.getD_cons_succ, ih]
  simp [List.cons_beq_cons]
 | [], _ :: _, h => by simp at h
 | _ :: _, [], h => by simp at h
set_option maxRecDepth 100000 in
theorem eqIn_nats (w : World) (d : Nat) (xs ys : List Nat) (hx : xs.length = 20) (hy : ys.length = 20) :
  (Op.equalIn (d + 2) 212 (.agg (xs.map encN).toArray) (.agg (ys.map encN).toArray)).run Tryz.prog w = .ok (xs == ys) w := by
 have ht := Tryz.underlying212
 have he := Tryz.underlying89
 have hsz := Tryz.sizeOf89
 rw [← all_range_nat xs ys (hx.trans hy.symm), hx, List.range_eq_range', Op.equalIn]
 simp only [Sem.run_bind, run_underlying ht, Result.andThen_ok, hsz, Std.Legacy.Range.forIn_eq_forIn_range', Std.Legacy.Range.size, Nat.sub_zero, Nat.add_sub_cancel, Nat.div_one]
 have hl : ∀ i ∈ List.range' 0 20 1, i < 20 := fun i hi => by simpa using (List.mem_range'_1.1 hi).2
 generalize List.range' 0 20 1 = l at hl ⊢
 induction l with
 | nil => simp
 | cons i l ih =>
  have hi : i < 20 := hl i (by simp)
  have px : (part 89 (xs.map encN).toArray (i * 1)).run Tryz.prog w = .ok (encN (xs.getD i 0)) w := by
   simp [part, isAgg, run_underlying he, List.getD, List.getElem?_eq_getElem (show i < xs.length by omega)]
  have py : (part 89 (ys.map encN).toArray (i * 1)).run Tryz.prog w = .ok (encN (ys.getD i 0)) w := by
   simp [part, isAgg, run_underlying he, List.getD, List.getElem?_eq_getElem (show i < ys.length by omega)]
  have pe : (Op.equalIn (d + 1) 89 (encN (xs.getD i 0)) (encN (ys.getD i 0))).run Tryz.prog w = .ok (xs.getD i 0 == ys.getD i 0) w := by
   rw [encN, encN, run_equalIn_int w d 89 .u64 .u64 _ _ he]
   congr 1
   rw [Bool.eq_iff_iff, beq_iff_eq, beq_iff_eq]
   omega
  simp only [List.forIn_cons, Sem.run_bind, px, py, pe, Result.andThen_ok, List.all_cons]
  cases hb : (xs.getD i 0 == ys.getD i 0)
  ·simp
  ·simp only [Bool.not_true, Bool.false_eq_true, if_false, Sem.run_pure, Result.andThen_ok, Bool.true_and]
   exact ih fun j hj => hl j (by simp [hj])
theorem eql_nats (w : World) (xs ys : List Nat) (hx : xs.length = 20) (hy : ys.length = 20) :
  (binOp .eql 212 (.agg (xs.map encN).toArray) (.agg (ys.map encN).toArray)).run Tryz.prog w = .ok (.bool (xs == ys)) w := by
 rw [run_eql_struct, eqIn_nats w 9998 xs ys hx hy]
 rfl
def zeros : List Nat := List.replicate 20 0
theorem size20 : (Tryz.prog.info? 212).map (·.size) = some 20 := by kernel_rfl
theorem range_of {w : World} {b : Nat} {neg : Bool} {d : List Nat} {t : TypeId} (hb : w.heap[b]? = some (.cells (bigC neg d) t (0, 0))) : w.rangeAt b 1 (d.map encN) := by
 intro j v hv
 rw [cell_of_row w b (1 + j) _ _ _ hb]
 unfold bigC
 rw [List.getElem?_toArray, Nat.add_comm, List.getElem?_cons_succ]
 exact hv
theorem size21 : (Tryz.prog.info? 214).map (·.size) = some 21 := by kernel_rfl
theorem big_size (neg : Bool) (d : List Nat) : (bigC neg d).size = d.length + 1 := by simp [bigC]
theorem big_one (neg : Bool) (d : List Nat) : (bigC neg d).all (·.oneCell') = true := by
 rw [Array.all_eq_true_iff_forall_mem]
 intro v hv
 simp only [bigC, List.mem_toArray, List.mem_cons, List.mem_map] at hv
 rcases hv with rfl | ⟨x, _, rfl⟩ <;> rfl
theorem wpList_store_big {P : Program} {ops : Array Oper} {rest : List Oper} {op : Oper} {a : Act} {w : World} {Q : Exit → Act → World → Prop} (hgd : op.guard = none) (ty : TypeId) (x y : Operand) (ho : op.op = .store ty x y)
  (g : Nat) (t : TypeId) (c c' : Array Value) (hx : a.eval x = .pointer (some ⟨g, 0, none⟩)) (hy : a.eval y = .agg c') (hg : w.heap[g]? = some (.cells c t (0, 0)))
  (hi : (P.info? ty).map (·.size) = some c'.size) (hs : c.size = c'.size) (h1 : c'.all (·.oneCell') = true)
  (h : wpList P ops Q rest (a.put op.dst undef) (w.setRow g c')) : wpList P ops Q (op :: rest) a w := by
 refine wpList_plain hgd fun K hK => ?_
 unfold Oper.wp execOp
 simp only [ho, hx, hy, Instr.storeAt, Instr.sureAddr, Sem.run_bind, Sem.run_pure, Result.andThen_ok, run_storeVar_row w g t ty c c' hg hi hs h1]
 exact hK _ _ h
theorem Below.row {B : Nat} {a w : World} (h : Below B a w) {g : Nat} (hg : B ≤ g) (c : Array Value) : Below B a (w.setRow g c) :=
 ⟨h.os, h.tape, h.output, by simpa using h.size, fun k hk => (setRow_other w g k c (by omega)).trans (h.block k hk)⟩
theorem none_any (neg : Bool) (d : List Nat) (w : World) (hd : d.length = 20) :
  Calls Tryz.prog 164 #[.agg (bigC neg d)] w fun e w' => e = .returned (.bool (d == zeros)) ∧ Below w.heap.size w w' := by
 have hq : ∀ w, (binOp .eql 212 (.agg (d.map encN).toArray) (.agg #[.int .u64 0, .int .u64 0, .int .u64 0, .int .u64 0, .int .u64 0, .int .u64 0, .int .u64 0, .int .u64 0, .int .u64 0, .int .u64 0, .int .u64 0, .int .u64 0, .int .u64 0, .int .u64 0, .int .u64 0, .int .u64 0, .int .u64 0, .int .u64 0, .int .u64 0, .int .u64 0])).run Tryz.prog w = .ok (.bool (d == zeros)) w := fun w => eql_nats w d zeros hd rfl
 have hI : (Tryz.prog.info? 212).map (·.size) = some (d.map encN).length := by rw [size20, List.length_map, hd]
 have hR : (w.alloc (.cells (bigC neg d) 214)).rangeAt w.heap.size 1 (d.map encN) := range_of (heap_alloc_new w _)
 clear hd
 go_enter Tryz.func164, Tryz.ntmps164
 go_wp2_with (refine wpList_load_mid rfl 212 (.tmp 3) rfl w.heap.size 1 rfl (d.map encN) _ hR Tryz.underlying212 rfl hI ?_)
 go_ret
 exact ⟨rfl, by go_grown⟩
end Go.Proofs.YtbbhmhihpdmoiaaGreat.Fx

namespace Go.Proofs
open Go.Shelf
def Tryz.lays134_ren : Go.Shelf.Ren := ⟨fun | 134 => 187 | 129 => 188 | n => n, fun | 53 => 89 | 3 => 3 | 4 => 4 | 46 => 68 | 5 => 5 | 9 => 9 | n => n, fun | n => n⟩
theorem Tryz.lays134 : Go.Proofs.Lays.n134 Tryz.prog Tryz.lays134_ren := {
 mixed := by kernel_rfl
 f129 := Tryz.func188.trans (congrArg some (by kernel_rfl))
 f134 := Tryz.func187.trans (congrArg some (by kernel_rfl))
 t3 := Tryz.underlying3
 a3 := Tryz.isAgg3
 z3 := Tryz.sizeOf3
 v3 := Tryz.zeroValue3
 t4 := Tryz.underlying4
 a4 := Tryz.isAgg4
 z4 := Tryz.sizeOf4
 v4 := Tryz.zeroValue4
 t5 := Tryz.underlying5
 a5 := Tryz.isAgg5
 z5 := Tryz.sizeOf5
 v5 := Tryz.zeroValue5
 t9 := Tryz.underlying9
 a9 := Tryz.isAgg9
 z9 := Tryz.sizeOf9
 v9 := Tryz.zeroValue9
 t46 := Tryz.underlying68
 a46 := Tryz.isAgg68
 z46 := Tryz.sizeOf68
 v46 := Tryz.zeroValue68
 t53 := Tryz.underlying89
 a53 := Tryz.isAgg89
 z53 := Tryz.sizeOf89
 v53 := Tryz.zeroValue89 }
theorem Tryz.bits_LeadingZeros64 (x : Int) (w : World) (h0 : 0 ≤ x) (h1 : x ≤ 18446744073709551615) :
  Calls Tryz.prog 187 #[.int .u64 x] w fun e w' => e = .returned (.int .i64 (64 - (Lib.bitLen x.toNat : Int))) ∧ w' = w := Any.bits_LeadingZeros64 Tryz.lays134 x w h0 h1
def Tryz.lays264_ren : Go.Shelf.Ren := ⟨fun | 264 => 183 | n => n, fun | 53 => 89 | 46 => 68 | n => n, fun | n => n⟩
theorem Tryz.lays264 : Go.Proofs.Lays.n264 Tryz.prog Tryz.lays264_ren := {
 mixed := by kernel_rfl
 f264 := Tryz.func183.trans (congrArg some (by kernel_rfl))
 t46 := Tryz.underlying68
 a46 := Tryz.isAgg68
 z46 := Tryz.sizeOf68
 v46 := Tryz.zeroValue68
 t53 := Tryz.underlying89
 a53 := Tryz.isAgg89
 z53 := Tryz.sizeOf89
 v53 := Tryz.zeroValue89 }
open Go.RowKit Go.Lib in
theorem Tryz.bits_Mul64 (x y : Nat) (hx : x < 18446744073709551616) (hy : y < 18446744073709551616) (w : World) :
  Calls Tryz.prog 183 #[.int .u64 x, .int .u64 y] w fun e w' => e = .returned (.tuple #[.int .u64 ((x * y / 18446744073709551616 : Nat) : Int), .int .u64 ((x * y % 18446744073709551616 : Nat) : Int)]) ∧ w' = w := Any.bits_Mul64 Tryz.lays264 x y hx hy w
end Go.Proofs
