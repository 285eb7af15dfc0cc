import Derived.Laws.Rows
import Derived.Test.YtbbhmhihpdmoiaaGreatProg
import Derived.Maps.AppendAt
import Derived.RangeFuncNested
import Derived.RangeFuncBound
import Derived.RangeFuncCalls
import Derived.RangeFuncLeaves
import Derived.WalkKit
import Derived.Test.YtbbhmhihpdmoiaaGreatMv00
set_option linter.unusedVariables false
set_option linter.unusedSimpArgs false
namespace Go.Proofs.YtbbhmhihpdmoiaaGreat.Pk
open Go Go.RowKit
def putL (l m : List Nat) (lost may : Bool) : List Nat := if lost || !may then l else l ++ m
def putB (lost may : Bool) : Bool := lost || !may
def ZCall (B p : Nat) (l : List Nat) (lost : Bool) (w : World) (e : Ending) (w' : World) : Prop := e = .returned undef ∧ ZW B p l lost w' ∧ w.grownBy w' (some p)
theorem zput_any (B p : Nat) (l m : List Nat) (lost may : Bool) (o : Option Addr) (c : Nat) (w : World) (hB : B ≤ w.heap.size) (hc : o = none → c = 0) (hb : Bs w o m) (hlen : l.length + m.length ≤ 1000000000) (hw : ZW B p l lost w) :
  Calls Tryz.prog 66 #[.pointer (some ⟨p, 0, none⟩), .slice o m.length c, .bool may] w (ZCall B p (putL l m lost may) (putB lost may) w) := by
 by_cases h : lost = true ∨ may = false
 ·refine (zput_off B p l m lost may o c w h hw).mono ?_
  rintro e w' ⟨rfl, _, h2, hg⟩
  have e2 := h2 h
  subst e2
  have hx : (lost || !may) = true := by rcases h with rfl | rfl <;> simp
  obtain ⟨v, hrow, ho⟩ := hw
  refine ⟨rfl, ?_, hg⟩
  unfold putL putB
  rw [hx]
  refine ⟨v, heap_setCell_same _ _ 1 _ _ (.bool true) hrow, ?_⟩
  have ap := ho.apart hrow (by decide)
  exact ho.grown (grown_cell _ _ _ _) (fun k hk h => ap k hk (Option.some.inj h))
 ·obtain rfl : lost = false := by cases lost <;> simp_all
  obtain rfl : may = true := by cases may <;> simp_all
  refine (zput_on B p l m o c w hc hb hlen hw).mono ?_
  rintro e w' ⟨rfl, h1, _, hg⟩
  obtain ⟨v, hr, ho⟩ := h1 rfl rfl
  exact ⟨rfl, ⟨v, hr, ho.mono hB⟩, hg⟩
set_option maxRecDepth 100000 in
set_option maxHeartbeats 1000000 in
theorem zuint_any (B p n : Nat) (l : List Nat) (lost : Bool) (w : World) (hB : B ≤ w.heap.size) (hn : n < 18446744073709551616) (hlen : l.length ≤ 100000000) (hw : ZW B p l lost w) :
  Calls Tryz.prog 38 #[.pointer (some ⟨p, 0, none⟩), .int .u64 (n : Int)] w (ZCall B p (putL l (form n) lost true) (putB lost true) w) := by
 have HW := Lib.hid hw
 have hl := (form_len n).2
 have HL := Lib.hid hl
 clear hw hl
 go_enter Tryz.func38, Tryz.ntmps38
 go_wp2_with fail
 refine (zform_any n hn _).mono ?_
 rintro e w1 ⟨⟨v, rfl, ho⟩, hb⟩
 obtain ⟨o, cap, rfl, hbs, _, _, hn0, _⟩ := ho.open
 have HP := Lib.hid (zput_any B p l (form n) lost true o cap w1 (by have := hb.size; omega) hn0 hbs (by have := HL.out; omega) (HW.out.below hb))
 have HB := Lib.hid (below_grown hb (some p))
 clear ho hb hbs hn0
 go_wp2_with fail
 refine HP.out.mono ?_
 rintro e w2 ⟨rfl, hz, hg⟩
 have HE : Hid (ZCall B p (putL l (form n) lost true) (putB lost true) w (.returned undef) w2) := Lib.hid ⟨rfl, hz, HB.out.trans hg⟩
 clear hz hg HP
 go_wp2_with fail
 exact bodyPost_ret (results_none rfl _ _ _) rfl HE.out
def fold (z : Int) : Nat := if 0 ≤ z then 2 * z.toNat else 2 * (-(z + 1)).toNat + 1
theorem fold_lt {z : Int} (h0 : -9223372036854775808 ≤ z) (h1 : z ≤ 9223372036854775807) : fold z < 18446744073709551616 := by
 unfold fold
 split <;> omega
theorem folded_any (z : Int) (w : World) (h0 : -9223372036854775808 ≤ z) (h1 : z ≤ 9223372036854775807) :
  Calls Tryz.prog 68 #[.int .i64 z] w fun e w' => e = .returned (.int .u64 ((fold z : Nat) : Int)) ∧ w = w' := by
 by_cases h : 0 ≤ z
 ·have e : ((fold z : Nat) : Int) = 2 * z := by unfold fold; rw [if_pos h]; omega
  rw [e]
  go_enter Tryz.func68, Tryz.ntmps68
  go_wp2_with fail
  go_ret
  refine ⟨?_, rfl⟩
  congr 2
 ·have e : ((fold z : Nat) : Int) = 2 * (-(z + 1)) + 1 := by unfold fold; rw [if_neg h]; omega
  rw [e]
  go_enter Tryz.func68, Tryz.ntmps68
  go_wp2_with fail
  go_ret
  refine ⟨?_, rfl⟩
  congr 2
set_option maxRecDepth 100000 in
set_option maxHeartbeats 1000000 in
theorem zint_any (B p : Nat) (z : Int) (l : List Nat) (lost : Bool) (w : World) (hB : B ≤ w.heap.size) (h0 : -9223372036854775808 ≤ z) (h1 : z ≤ 9223372036854775807) (hlen : l.length ≤ 100000000) (hw : ZW B p l lost w) :
  Calls Tryz.prog 37 #[.pointer (some ⟨p, 0, none⟩), .int .i64 z] w (ZCall B p (putL l (form (fold z)) lost true) (putB lost true) w) := by
 have HW := Lib.hid hw
 have hl := (form_len (fold z)).2
 have HL := Lib.hid hl
 have HF := Lib.hid (fun w => folded_any z w h0 h1)
 have HN := Lib.hid (fold_lt h0 h1)
 clear hw hl h0 h1
 go_enter Tryz.func37, Tryz.ntmps37
 go_wp2_with fail
 refine (HF.out _).mono ?_
 rintro e w0 ⟨rfl, rfl⟩
 generalize fold z = n at *
 go_wp2_with fail
 refine (zform_any n HN.out _).mono ?_
 rintro e w1 ⟨⟨v, rfl, ho⟩, hb⟩
 obtain ⟨o, cap, rfl, hbs, _, _, hn0, _⟩ := ho.open
 have HP := Lib.hid (zput_any B p l (form n) lost true o cap w1 (by have := hb.size; omega) hn0 hbs (by have := HL.out; omega) (HW.out.below hb))
 have HB := Lib.hid (below_grown hb (some p))
 clear ho hb hbs hn0
 go_wp2_with fail
 refine HP.out.mono ?_
 rintro e w2 ⟨rfl, hz, hg⟩
 have HE : Hid (ZCall B p (putL l (form n) lost true) (putB lost true) w (.returned undef) w2) := Lib.hid ⟨rfl, hz, HB.out.trans hg⟩
 clear hz hg HP
 go_wp2_with fail
 exact bodyPost_ret (results_none rfl _ _ _) rfl HE.out
def mayB (n most : Int) : Bool := decide (0 ≤ n ∧ n ≤ most)
set_option maxRecDepth 100000 in
set_option maxHeartbeats 2000000 in
theorem zsmall_any (B p : Nat) (n most : Int) (l : List Nat) (lost : Bool) (w : World) (hB : B ≤ w.heap.size) (h0 : -9223372036854775808 ≤ n) (h1 : n ≤ 9223372036854775807) (hlen : l.length ≤ 100000000) (hw : ZW B p l lost w) :
  Calls Tryz.prog 35 #[.pointer (some ⟨p, 0, none⟩), .int .i64 n, .int .i64 most] w (ZCall B p (putL l (form n.toNat) lost (mayB n most)) (putB lost (mayB n most)) w) := by
 have HW := Lib.hid hw
 obtain ⟨N, hN⟩ : ∃ N : Nat, IntKind.u64.wrap n = (N : Int) := ⟨(n % 18446744073709551616).toNat, by rw [IntKind.wrap_u64]; omega⟩
 have hN64 : N < 18446744073709551616 := by rw [IntKind.wrap_u64] at hN; omega
 have hNn : 0 ≤ n → N = n.toNat := fun h => by rw [IntKind.wrap_u64] at hN; omega
 have hl := (form_len N).2
 have HL := Lib.hid hl
 have HNN := Lib.hid hNn
 have HN64 := Lib.hid hN64
 have HX : ∀ (b : Bool) (w1 : World), mayB n most = b → putL l (form N) lost b = putL l (form n.toNat) lost b := fun b _ hb => by
  cases b with
  | false => unfold putL; simp
  | true =>
   have := of_decide_eq_true hb
   rw [HNN.out this.1]
 have HXH := Lib.hid HX
 clear hw hl hN64 hNn HX
 obtain ⟨b, hb0⟩ : ∃ b, mayB n most = b := ⟨_, rfl⟩
 have HBB := Lib.hid hb0
 rw [hb0]
 have tail : ∀ w1 : World, Below w.heap.size w w1 → ∀ o cap, (o = none → cap = 0) → Bs w1 o (form N) → Calls Tryz.prog 66 #[.pointer (some ⟨p, 0, none⟩), .slice o (form N).length cap, .bool b] w1 (ZCall B p (putL l (form n.toNat) lost b) (putB lost b) w) := by
  intro w1 hb o cap hn0 hbs
  refine (zput_any B p l (form N) lost b o cap w1 (by have := hb.size; omega) hn0 hbs (by have := HL.out; omega) (HW.out.below hb)).mono ?_
  rintro e w2 ⟨rfl, hz, hg⟩
  rw [HXH.out b w1 HBB.out] at hz
  exact ⟨rfl, hz, (below_grown hb (some p)).trans hg⟩
 have HT := Lib.hid tail
 clear tail
 by_cases g0 : 0 ≤ n
 ·by_cases g1 : n ≤ most
  ·obtain rfl : b = true := by rw [← HBB.out]; exact decide_eq_true ⟨g0, g1⟩
   clear HBB hb0
   go_enter Tryz.func35, Tryz.ntmps35
   go_wp2_with fail
   ((with_reducible refine (zform_any N HN64.out _).mono ?_))
   rintro e w1 ⟨⟨v, rfl, ho⟩, hb⟩
   obtain ⟨o, cap, rfl, hbs, _, _, hn0, _⟩ := ho.open
   have HP := Lib.hid (HT.out w1 hb o cap hn0 hbs)
   clear ho hb hbs hn0
   go_wp2_with fail
   refine HP.out.mono ?_
   rintro e w2 hz
   have HE := Lib.hid hz
   obtain ⟨rfl, _⟩ := hz
   clear HP
   go_wp2_with fail
   exact bodyPost_ret (results_none rfl _ _ _) rfl HE.out
  ·obtain rfl : b = false := by rw [← HBB.out]; exact decide_eq_false (by omega)
   have d1 : decide (n ≤ most) = false := decide_eq_false g1
   clear HBB hb0
   go_enter Tryz.func35, Tryz.ntmps35
   go_wp2_with fail
   ((with_reducible refine (zform_any N HN64.out _).mono ?_))
   rintro e w1 ⟨⟨v, rfl, ho⟩, hb⟩
   obtain ⟨o, cap, rfl, hbs, _, _, hn0, _⟩ := ho.open
   have HP := Lib.hid (HT.out w1 hb o cap hn0 hbs)
   clear ho hb hbs hn0
   go_wp2_with fail
   refine HP.out.mono ?_
   rintro e w2 hz
   have HE := Lib.hid hz
   obtain ⟨rfl, _⟩ := hz
   clear HP
   go_wp2_with fail
   exact bodyPost_ret (results_none rfl _ _ _) rfl HE.out
 ·obtain rfl : b = false := by rw [← HBB.out]; exact decide_eq_false (by omega)
  clear HBB hb0
  go_enter Tryz.func35, Tryz.ntmps35
  go_wp2_with fail
  ((with_reducible refine (zform_any N HN64.out _).mono ?_))
  rintro e w1 ⟨⟨v, rfl, ho⟩, hb⟩
  obtain ⟨o, cap, rfl, hbs, _, _, hn0, _⟩ := ho.open
  have HP := Lib.hid (HT.out w1 hb o cap hn0 hbs)
  clear ho hb hbs hn0
  go_wp2_with fail
  refine HP.out.mono ?_
  rintro e w2 hz
  have HE := Lib.hid hz
  obtain ⟨rfl, _⟩ := hz
  clear HP
  go_wp2_with fail
  exact bodyPost_ret (results_none rfl _ _ _) rfl HE.out
end Go.Proofs.YtbbhmhihpdmoiaaGreat.Pk

set_option linter.unusedVariables false
set_option linter.unusedSimpArgs false
namespace Go.Proofs.YtbbhmhihpdmoiaaGreat.Pk
open Go Go.RowKit
set_option maxRecDepth 100000 in
set_option maxHeartbeats 2000000 in
theorem zput_wk (p : Nat) (l m : List Nat) (o : Option Addr) (c : Nat) (w : World) (hc : o = none → c = 0) (hb : Bs w o m) (hlen : l.length + m.length ≤ 1000000000) (o1 : Option Addr) (cap1 : Nat) (hrow : w.heap[p]? = some (.cells #[.slice o1 l.length cap1, .bool false] 81 (0, 0))) (hb1 : Bs w o1 l) (hn1 : o1 = none → cap1 = 0) :
  Calls Tryz.prog 66 #[.pointer (some ⟨p, 0, none⟩), .slice o m.length c, .bool true] w (PutPost p l m false true w) := by
 have hp : p < w.heap.size := (Array.getElem?_eq_some_iff.1 hrow).1
 have c0 : w.cell? ⟨p, 0, none⟩ = some (.slice o1 l.length cap1) := by rw [cell_of_row _ _ _ _ _ _ hrow]; rfl
 have c1 : w.cell? ⟨p, 1, none⟩ = some (.bool false) := by rw [cell_of_row _ _ _ _ _ _ hrow]; rfl
 have f0 : w.frozen? ⟨p, 0, none⟩ = false := frozen_row hrow
 have f1 : w.frozen? ⟨p, 1, none⟩ = false := frozen_row hrow
 have R1 : (w.setCell ⟨p, 1, none⟩ (.bool false)).heap[p]? = some (.cells #[.slice o1 l.length cap1, .bool false] 81 (0, 0)) := heap_setCell_same _ _ 1 _ _ (.bool false) hrow
 have B1 : Bs (w.setCell ⟨p, 1, none⟩ (.bool false)) o1 l := hb1.set _ fun b off e hm => by subst e; exact bs_apart hrow (by intro x h; cases h) hb1 hm
 have B2 : Bs (w.setCell ⟨p, 1, none⟩ (.bool false)) o m := hb.set _ fun b off e hm => by subst e; exact bs_apart hrow (by intro x h; cases h) hb hm
 have G1 := grown_cell w p 1 (.bool false)
 have HR1 := Lib.hid R1
 have HB1 := Lib.hid B1
 have HB2 := Lib.hid B2
 have HG1 := Lib.hid G1
 have HN1 := Lib.hid hn1
 have HC := Lib.hid hc
 have HLEN := Lib.hid hlen
 clear hrow hb1 hn1 R1 B1 B2 G1 hc hb hlen
 go_enter Tryz.func66, Tryz.ntmps66
 go_wp2_with (first
  | (at_builtin; refine app_bs rfl (.tmp 22) (.tmp 26) rfl w.heap.size _ [] rfl (World.ownsRow_nil _ _ _ _) o1 l cap1 rfl HN1.out HB1.out (by have := HLEN.out; simp; omega) (by simp) ?_; intro v1 w1 ho1 hg1; have HO1 := Lib.hid ho1; have HGR1 := Lib.hid hg1; clear ho1 hg1)
  | (at_builtin; refine app_bs rfl (.tmp 29) (.tmp 30) rfl w.heap.size v1 l rfl HO1.out o m c rfl HC.out (HB2.out.grown HGR1.out (fun b off e hm h => by cases h)) HLEN.out (by have := HGR1.out.size; simp at this; omega) ?_; intro v2 w2 ho2 hg2
     obtain ⟨q, hq⟩ : ∃ q, l ++ m = q := ⟨_, rfl⟩
     rw [hq] at ho2
     have HQ := Lib.hid hq
     clear hq
     obtain ⟨o2, cap2, rfl, _, _, _, _, _⟩ := ho2.open
     have R2 : w1.heap[p]? = some (.cells #[.slice o1 l.length cap1, .bool false] 81 (0, 0)) := (HGR1.out.block p (by simpa using hp) (by intro h; cases h)).trans HR1.out
     have AP := HO1.out.apart R2 (by decide)
     have R3 : w2.heap[p]? = some (.cells #[.slice o1 l.length cap1, .bool false] 81 (0, 0)) := (hg2.block p (Array.getElem?_eq_some_iff.1 R2).1 (by intro h; exact AP p h.symm rfl)).trans R2
     have d0 : w2.cell? ⟨p, 0, none⟩ = some (.slice o1 l.length cap1) := by rw [cell_of_row _ _ _ _ _ _ R3]; rfl
     have e0 : w2.frozen? ⟨p, 0, none⟩ = false := frozen_row R3
     have HO2 := Lib.hid ho2
     have HG2 := Lib.hid hg2
     have HR3 := Lib.hid R3
     have HAP := Lib.hid AP
     clear ho2 hg2 R2 R3 AP))
 have hne : ∀ k, (Value.slice o2 q.length cap2).ownBlock = some k → k ≠ p := HO2.out.apart HR3.out (by decide)
 have R4 := heap_setCell_same _ _ 0 _ _ (.slice o2 q.length cap2) HR3.out
 have GG : w.grownBy (w2.setCell ⟨p, 0, none⟩ (.slice o2 q.length cap2)) (some p) := by
  refine ⟨?_, ?_, ?_, ?_, ?_⟩
  ·exact (HG2.out.os.trans HGR1.out.os)
  ·exact (HG2.out.tape.trans HGR1.out.tape)
  ·exact (HG2.out.output.trans HGR1.out.output)
  ·have h1 := HGR1.out.size
   have h2 := HG2.out.size
   simp at h1 ⊢
   omega
  ·intro k hk hkp
   have hkp' : k ≠ p := fun e => hkp (by rw [e])
   have h1 := HGR1.out.size
   simp at h1
   rw [heap_setCell_other _ _ _ _ hkp', HG2.out.block k (by omega) (fun e => by have := HO1.out.blk k e.symm; omega), HGR1.out.block k (by simpa using hk) (by intro h; cases h), heap_setCell_other _ _ _ _ hkp']
 refine bodyPost_ret (results_none rfl _ _ _) rfl ⟨rfl, fun _ _ => ⟨_, R4, ?_⟩, fun (h : false = true ∨ true = false) => (by rcases h with h | h <;> cases h), GG⟩
 rw [HQ.out]
 exact HO2.out.grown (grown_cell _ _ _ _) (fun k hk h => hne k hk (Option.some.inj h))
set_option maxRecDepth 100000 in
set_option maxHeartbeats 2000000 in
theorem zsmall_wk (p : Nat) (n most : Int) (l : List Nat) (w : World) (g0 : 0 ≤ n) (g1 : n ≤ most) (h1 : n ≤ 9223372036854775807) (hlen : l.length ≤ 100000000) (o1 : Option Addr) (cap1 : Nat) (hrow : w.heap[p]? = some (.cells #[.slice o1 l.length cap1, .bool false] 81 (0, 0))) (hb1 : Bs w o1 l) (hn1 : o1 = none → cap1 = 0) :
  Calls Tryz.prog 35 #[.pointer (some ⟨p, 0, none⟩), .int .i64 n, .int .i64 most] w (ZCall 0 p (l ++ form n.toNat) false w) := by
 have HRW := Lib.hid hrow
 have HB1 := Lib.hid hb1
 have HN1 := Lib.hid hn1
 obtain ⟨N, hN⟩ : ∃ N : Nat, IntKind.u64.wrap n = (N : Int) := ⟨(n % 18446744073709551616).toNat, by rw [IntKind.wrap_u64]; omega⟩
 have hN64 : N < 18446744073709551616 := by rw [IntKind.wrap_u64] at hN; omega
 have hNn : 0 ≤ n → N = n.toNat := fun h => by rw [IntKind.wrap_u64] at hN; omega
 have hl := (form_len N).2
 have HL := Lib.hid hl
 have HNN := Lib.hid hNn
 have HN64 := Lib.hid hN64
 clear hrow hb1 hn1 hl hN64 hNn
 obtain ⟨b, hb0⟩ : ∃ b, mayB n most = b := ⟨_, rfl⟩
 have HBB := Lib.hid hb0
 have tail : ∀ w1 : World, Below w.heap.size w w1 → ∀ o cap, (o = none → cap = 0) → Bs w1 o (form N) → Calls Tryz.prog 66 #[.pointer (some ⟨p, 0, none⟩), .slice o (form N).length cap, .bool true] w1 (ZCall 0 p (l ++ form n.toNat) false w) := by
  intro w1 hb o cap hn0 hbs
  refine (zput_wk p l (form N) o cap w1 hn0 hbs (by have := HL.out; omega) o1 cap1 (keep_row hb HRW.out) (HB1.out.below hb) HN1.out).mono ?_
  rintro e w2 ⟨rfl, hz, _, hg⟩
  obtain ⟨v, hr, ho⟩ := hz rfl rfl
  rw [HNN.out g0] at ho
  exact ⟨rfl, ⟨v, hr, ho.mono (Nat.zero_le _)⟩, (below_grown hb (some p)).trans hg⟩
 have HT := Lib.hid tail
 clear tail
 obtain rfl : b = true := by rw [← HBB.out]; exact decide_eq_true ⟨g0, g1⟩
 clear HBB hb0
 go_enter Tryz.func35, Tryz.ntmps35
 go_wp2_with fail
 ((with_reducible refine (zform_any N HN64.out _).mono ?_))
 rintro e w1 ⟨⟨v, rfl, ho⟩, hb⟩
 obtain ⟨o, cap, rfl, hbs, _, _, hn0, _⟩ := ho.open
 have HP := Lib.hid (HT.out w1 hb o cap hn0 hbs)
 clear ho hb hbs hn0
 go_wp2_with fail
 refine HP.out.mono ?_
 rintro e w2 hz
 have HE := Lib.hid hz
 obtain ⟨rfl, _⟩ := hz
 clear HP
 go_wp2_with fail
 exact bodyPost_ret (results_none rfl _ _ _) rfl HE.out
end Go.Proofs.YtbbhmhihpdmoiaaGreat.Pk

set_option linter.unusedVariables false
namespace Go.Proofs.YtbbhmhihpdmoiaaGreat.Fx
open Go Go.RowKit
variable {F : Fence} {n : Nat} {P : Program}
structure Kept (B : Nat) (W W' : World) : Prop where
 os : W'.os = W.os
 tape : W'.tape = W.tape
 output : W'.output = W.output
 size : W.heap.size ≤ W'.heap.size
 block : ∀ k o, W.heap[k]? = some o → (k < B ∨ o.isCells = true) → W'.heap[k]? = some o
theorem Kept.of_below {B : Nat} {W W' : World} (h : Below W.heap.size W W') : Kept B W W' :=
 ⟨h.os, h.tape, h.output, h.size, fun k o hk _ => by rw [h.block k (Array.getElem?_eq_some_iff.1 hk).1]; exact hk⟩
theorem Kept.putObj {B l : Nat} {W : World} {o : Obj} (o' : Obj) (hB : B ≤ l) (hl : W.heap[l]? = some o) (ho : o.isCells = false) : Kept B W (W.putObj l o') :=
 ⟨rfl, rfl, rfl, by simp, fun k o1 hk hc => by
  by_cases e : k = l
  ·subst e
   rw [hl] at hk
   cases hk
   rcases hc with hc | hc
   ·omega
   ·rw [ho] at hc; cases hc
  ·exact (World.putObj_heap_other e).trans hk⟩
theorem Kept.below {B : Nat} {w W W' : World} (k : Kept B W W') (hB : w.heap.size ≤ B) (h : Below w.heap.size w W) : Below w.heap.size w W' :=
 ⟨k.os.trans h.os, k.tape.trans h.tape, k.output.trans h.output, Nat.le_trans h.size k.size, fun i hi => by
  have h1 := h.block i hi
  rw [Array.getElem?_eq_getElem hi] at h1 ⊢
  exact k.block i _ h1 (.inl (by omega))⟩
theorem Kept.cells {B : Nat} {W W' : World} (k : Kept B W W') {g : Nat} {c : Array Value} {t : TypeId} {f : Nat × Nat} (h : W.heap[g]? = some (.cells c t f)) : W'.heap[g]? = some (.cells c t f) := k.block g _ h (.inr rfl)
def Hands (F : Fence) (n : Nat) (P : Program) (gf : Nat) (lb : Array Value) (elem : Nat → Array Value) (N : Nat) (M : World → Prop) : Prop :=
 ∀ (l : Nat) (J : Nat → World → Prop) (Jx : World → Prop) (W : World),
  (∀ k W W', J k W → Below W.heap.size W W' → J k W') → (∀ W W', Jx W → Below W.heap.size W W' → Jx W') → (∀ k W, J k W → M W) → (∀ W, Jx W → M W) →
  (∀ k W1, k < N → J k W1 → YieldAt F (n - 1) P l (elem k) W1 fun e W' => (e = .returned (.bool true) ∧ J (k + 1) W') ∨ (e = .returned (.bool false) ∧ Jx W')) →
  J 0 W → CallsIn F n P gf (#[.func (.yield l) #[] #[]] ++ lb) W fun e W' => (∃ v, e = .returned v) ∧ (J N W' ∨ Jx W')
def upPost (B c0 : Nat) (I' Ix : World → Prop) (W : World) : Exit → Act → World → Prop
 | .normal, _, W' => KeepsFrom B W W' ∧ I' W'
 | .exit c, _, W' => c = c0 ∧ KeepsFrom B W W' ∧ Ix W'
 | _, _, _ => False
theorem wpIn_range_num {g : Operand} {ps : Array Tmp} {assign body : Code} {Q : Exit → Act → World → Prop} {a : Act} {w : World}
  (hro : F.round = none) (h1 : 1 ≤ n) {gf : Nat} {lb : Array Value} (hg : a.eval g = .func (.func gf) #[] lb) (hFg : F.fn gf) (eg : ∀ args w, (callFunc gf args).run P w = .ok (.enter gf args) w)
  {elem : Nat → Array Value} {N : Nat} {M : World → Prop} (hseq : Hands F (n - 1) P gf lb elem N M) (hps : ∀ k, (elem k).size = ps.size)
  (c0 : Nat) (I : Nat → World → Prop) (Ix : World → Prop) (Ax : Nat → Act → World → Prop)
  (hI : ∀ k W W', I k W → Kept w.heap.size W W' → I k W') (hIx : ∀ W W', Ix W → Kept w.heap.size W W' → Ix W') (hAx : ∀ k a W W', Ax k a W → Kept w.heap.size W W' → Ax k a W')
  (hIM : ∀ k W, I k W → M W) (hIxM : ∀ W, Ix W → M W) (h0 : I 0 w)
  (hassign : ∀ (l k : Nat) (W : World) (C : Act → World → Prop), k < N → I k W → (∀ a' W', KeepsFrom w.heap.size W W' → Ax k a' W' → C a' W') →
   assign.wpIn (F.inRound l) (n - 1 - 1) P (Exit.then C (fun _ _ _ => False)) { tmps := (ps.zip (elem k)).foldl (fun t (p, v) => t.setIfInBounds p v) a.tmps, defers := [] } W)
  (hbody : ∀ (l k : Nat) (a' : Act) (W : World), k < N → Ax k a' W → body.wpIn (F.inRound l) (n - 1 - 1) P (upPost w.heap.size c0 (I (k + 1)) Ix W) a' W)
  (hdone : ∀ (D : Nat) (W : World), w.heap.size ≤ D → I N W → W.heap[D]? = some (.deferred (some [])) → Q .normal { a with defers := { target := .collected D, args := #[] } :: a.defers } W)
  (hstop : ∀ (D : Nat) (W : World), w.heap.size ≤ D → Ix W → W.heap[D]? = some (.deferred (some [])) → (Code.exit c0).wpIn F n P Q { a with defers := { target := .collected D, args := #[] } :: a.defers } W) :
  (Code.rangeFunc g ps assign body).wpIn F n P Q a w := by
 refine wpIn_rangeFunc fun fn hfn => ?_
 rw [hro]
 obtain ⟨rc, hrc⟩ : ∃ rc : LoopState → Option Code → Loop, rc = fun st pe => { state := st, pending := pe, fn, tmps := a.tmps, params := ps, assign, body, defers := w.heap.size } := ⟨_, rfl⟩
 obtain ⟨V, hV⟩ : ∃ V, (w.alloc (.deferred (some []))).alloc (.loop (rc .ready none)) = V := ⟨_, rfl⟩
 have vL : V.heap[w.heap.size + 1]? = some (.loop (rc .ready none)) := by
  have := World.alloc_heap_new (w.alloc (.deferred (some []))) (.loop (rc .ready none))
  rw [World.size_alloc, hV] at this
  exact this
 have vD : V.heap[w.heap.size]? = some (.deferred (some [])) := by
  rw [← hV]
  exact (Below.heap_alloc _ _ _ (by simp)).trans (World.alloc_heap_new w _)
 have vB : Below w.heap.size w V := by rw [← hV]; exact ((Below.refl _ w).alloc (Nat.le_refl _) _).alloc (by simp) _
 have vI : I 0 V := hI _ _ _ h0 (Kept.of_below vB)
 refine ⟨w.heap.size + 1, [{ target := .collected w.heap.size, args := #[] }], V, { target := .fn (.func gf) lb, args := #[.func (.yield (w.heap.size + 1)) #[] #[]] }, V, gf, #[.func (.yield (w.heap.size + 1)) #[] #[]] ++ lb, V, ?_, ?_, ?_, ?_, fun _ => h1, ?_⟩
 ·rw [← hV, hrc]; exact run_enterLoop_outer _ _ _ _ _
 ·simp only [resolve, hg]
  simp [go_sem]
 ·intro f' hf'
  simp [Target.leads] at hf'
  subst hf'
  exact hFg
 ·simp [invoke, go_sem, eg]
 have stay : ∀ {X : World} {W W' : World} {k : Nat} {o : Obj}, W.heap[k]? = some o → Below W.heap.size W W' → W'.heap[k]? = some o := fun hk hb => by
  rw [hb.block _ (Array.getElem?_eq_some_iff.1 hk).1]; exact hk
 refine (hseq (w.heap.size + 1)
  (fun k W => I k W ∧ W.heap[w.heap.size + 1]? = some (.loop (rc .ready none)) ∧ W.heap[w.heap.size]? = some (.deferred (some [])))
  (fun W => Ix W ∧ W.heap[w.heap.size + 1]? = some (.loop (rc .done (some (.exit c0)))) ∧ W.heap[w.heap.size]? = some (.deferred (some [])))
  V (fun k W W' h hb => ⟨hI _ _ _ h.1 (Kept.of_below hb), stay (X := W) h.2.1 hb, stay (X := W) h.2.2 hb⟩) (fun W W' h hb => ⟨hIx _ _ h.1 (Kept.of_below hb), stay (X := W) h.2.1 hb, stay (X := W) h.2.2 hb⟩)
  (fun k W h => hIM k W h.1) (fun W h => hIxM W h.1) ?round ⟨vI, vL, vD⟩).mono ?behind
 case round =>
  rintro k W hkN ⟨hi, hl, hd⟩
  have hlt : w.heap.size + 1 < W.heap.size := (Array.getElem?_eq_some_iff.1 hl).1
  have hy := run_yield (P := P) (args := elem k) hl (by rw [hrc]; exact hps k)
  rw [hrc] at hy
  refine ⟨fn, _, assign, body, hy, roundIn_of_wpIn hfn (hassign _ k W _ hkN hi ?_)⟩
  intro a' W' hkf hax
  have wL := hkf.same _ _ (by omega) hl rfl
  have wD := hkf.same _ _ (Nat.le_refl _) hd rfl
  refine ⟨_, run_beginRound wL (by rw [hrc]), ?_⟩
  obtain ⟨U, hU⟩ : ∃ U, W'.putObj (w.heap.size + 1) (.loop { rc .ready none with state := .busy }) = U := ⟨_, rfl⟩
  have hlt' : w.heap.size + 1 < W'.heap.size := (Array.getElem?_eq_some_iff.1 wL).1
  have uL : U.heap[w.heap.size + 1]? = some (.loop { rc .ready none with state := .busy }) := by rw [← hU]; exact World.putObj_heap_same hlt'
  have uD : U.heap[w.heap.size]? = some (.deferred (some [])) := by rw [← hU]; exact (World.putObj_heap_other (by omega)).trans wD
  have uA : Ax k a' U := by rw [← hU]; exact hAx _ _ _ _ hax (Kept.putObj _ (by omega) wL rfl)
  rw [hU]
  refine wpIn_mono (hbody _ k a' U hkN uA) ?_
  have ends : ∀ (jump : Option Code) (X : World), KeepsFrom w.heap.size U X → X.heap[w.heap.size + 1]? = some (.loop { rc .ready none with state := .busy }) ∧
    (Instr.endRound (w.heap.size + 1) jump).run P X = .ok (.bool jump.isNone) (X.putObj (w.heap.size + 1) (.loop (rc (if jump.isNone then .ready else .done) jump))) ∧
    (X.putObj (w.heap.size + 1) (.loop (rc (if jump.isNone then .ready else .done) jump))).heap[w.heap.size + 1]? = some (.loop (rc (if jump.isNone then .ready else .done) jump)) ∧
    (X.putObj (w.heap.size + 1) (.loop (rc (if jump.isNone then .ready else .done) jump))).heap[w.heap.size]? = some (.deferred (some [])) := by
   intro jump X hX
   have xL := hX.same _ _ (by omega) uL rfl
   have xr := run_endRound (P := P) jump xL
   have xs := World.putObj_heap_same (o := .loop (rc (if jump.isNone then .ready else .done) jump)) (Array.getElem?_eq_some_iff.1 xL).1
   have xd := (World.putObj_heap_other (o := .loop (rc (if jump.isNone then .ready else .done) jump)) (show w.heap.size ≠ w.heap.size + 1 by omega)).trans (hX.same _ _ (Nat.le_refl _) uD rfl)
   refine ⟨xL, ?_, xs, xd⟩
   rw [hrc] at xr ⊢
   exact xr
  intro e b X hp
  match e, hp with
  | .normal, hp =>
   obtain ⟨hk, hi2⟩ := hp
   obtain ⟨xL, r, s, d⟩ := ends none X hk
   exact ⟨_, _, r, .inl ⟨rfl, hI _ _ _ hi2 (Kept.putObj _ (by omega) xL rfl), s, d⟩⟩
  | .exit c, hp =>
   obtain ⟨rfl, hk, hx⟩ := hp
   obtain ⟨xL, r, s, d⟩ := ends (some (.exit c)) X hk
   exact ⟨_, _, r, .inr ⟨rfl, hIx _ _ hx (Kept.putObj _ (by omega) xL rfl), s, d⟩⟩
 case behind =>
  rintro e X ⟨⟨v, rfl⟩, ⟨hi, hl, hd⟩ | ⟨hx, hl, hd⟩⟩
  ·have h := run_endLoop (P := P) hl (by rw [hrc]; simp)
   rw [hrc] at h
   exact ⟨none, _, h, hdone _ _ (Nat.le_refl _) (hI _ _ _ hi (Kept.putObj _ (by omega) hl rfl)) ((World.putObj_heap_other (by omega)).trans hd)⟩
  ·have h := run_endLoop (P := P) hl (by rw [hrc]; simp)
   rw [hrc] at h
   exact ⟨some (.exit c0), _, h, hstop _ _ (Nat.le_refl _) (hIx _ _ hx (Kept.putObj _ (by omega) hl rfl)) ((World.putObj_heap_other (by omega)).trans hd)⟩
end Go.Proofs.YtbbhmhihpdmoiaaGreat.Fx
set_option linter.unusedVariables false
namespace Go.Proofs.YtbbhmhihpdmoiaaGreat.Fx
open Go Go.RowKit
variable {F : Fence} {n : Nat} {P : Program}
def upPostJ (B : Nat) (cj : Code) (I' Ix : World → Prop) (W : World) : Exit → Act → World → Prop
 | .normal, _, W' => KeepsFrom B W W' ∧ I' W'
 | .exit c, _, W' => cj = .exit c ∧ KeepsFrom B W W' ∧ Ix W'
 | .ret, _, W' => cj = .ret ∧ KeepsFrom B W W' ∧ Ix W'
 | _, _, _ => False
theorem wpIn_range_jump {g : Operand} {ps : Array Tmp} {assign body : Code} {Q : Exit → Act → World → Prop} {a : Act} {w : World}
  (hro : F.round = none) (h1 : 1 ≤ n) {gf : Nat} {lb : Array Value} (hg : a.eval g = .func (.func gf) #[] lb) (hFg : F.fn gf) (eg : ∀ args w, (callFunc gf args).run P w = .ok (.enter gf args) w)
  {elem : Nat → Array Value} {N : Nat} {M : World → Prop} (hseq : Hands F (n - 1) P gf lb elem N M) (hps : ∀ k, (elem k).size = ps.size)
  (cj : Code) (I : Nat → World → Prop) (Ix : World → Prop) (Ax : Nat → Act → World → Prop)
  (hI : ∀ k W W', I k W → Kept w.heap.size W W' → I k W') (hIx : ∀ W W', Ix W → Kept w.heap.size W W' → Ix W') (hAx : ∀ k a W W', Ax k a W → Kept w.heap.size W W' → Ax k a W')
  (hIM : ∀ k W, I k W → M W) (hIxM : ∀ W, Ix W → M W) (h0 : I 0 w)
  (hassign : ∀ (l k : Nat) (W : World) (C : Act → World → Prop), k < N → I k W → (∀ a' W', KeepsFrom w.heap.size W W' → Ax k a' W' → C a' W') →
   assign.wpIn (F.inRound l) (n - 1 - 1) P (Exit.then C (fun _ _ _ => False)) { tmps := (ps.zip (elem k)).foldl (fun t (p, v) => t.setIfInBounds p v) a.tmps, defers := [] } W)
  (hbody : ∀ (l k : Nat) (a' : Act) (W : World), k < N → Ax k a' W → body.wpIn (F.inRound l) (n - 1 - 1) P (upPostJ w.heap.size cj (I (k + 1)) Ix W) a' W)
  (hdone : ∀ (D : Nat) (W : World), w.heap.size ≤ D → I N W → W.heap[D]? = some (.deferred (some [])) → Q .normal { a with defers := { target := .collected D, args := #[] } :: a.defers } W)
  (hstop : ∀ (D : Nat) (W : World), w.heap.size ≤ D → Ix W → W.heap[D]? = some (.deferred (some [])) → cj.wpIn F n P Q { a with defers := { target := .collected D, args := #[] } :: a.defers } W) :
  (Code.rangeFunc g ps assign body).wpIn F n P Q a w := by
 refine wpIn_rangeFunc fun fn hfn => ?_
 rw [hro]
 obtain ⟨rc, hrc⟩ : ∃ rc : LoopState → Option Code → Loop, rc = fun st pe => { state := st, pending := pe, fn, tmps := a.tmps, params := ps, assign, body, defers := w.heap.size } := ⟨_, rfl⟩
 obtain ⟨V, hV⟩ : ∃ V, (w.alloc (.deferred (some []))).alloc (.loop (rc .ready none)) = V := ⟨_, rfl⟩
 have vL : V.heap[w.heap.size + 1]? = some (.loop (rc .ready none)) := by
  have := World.alloc_heap_new (w.alloc (.deferred (some []))) (.loop (rc .ready none))
  rw [World.size_alloc, hV] at this
  exact this
 have vD : V.heap[w.heap.size]? = some (.deferred (some [])) := by
  rw [← hV]
  exact (Below.heap_alloc _ _ _ (by simp)).trans (World.alloc_heap_new w _)
 have vB : Below w.heap.size w V := by rw [← hV]; exact ((Below.refl _ w).alloc (Nat.le_refl _) _).alloc (by simp) _
 have vI : I 0 V := hI _ _ _ h0 (Kept.of_below vB)
 refine ⟨w.heap.size + 1, [{ target := .collected w.heap.size, args := #[] }], V, { target := .fn (.func gf) lb, args := #[.func (.yield (w.heap.size + 1)) #[] #[]] }, V, gf, #[.func (.yield (w.heap.size + 1)) #[] #[]] ++ lb, V, ?_, ?_, ?_, ?_, fun _ => h1, ?_⟩
 ·rw [← hV, hrc]; exact run_enterLoop_outer _ _ _ _ _
 ·simp only [resolve, hg]
  simp [go_sem]
 ·intro f' hf'
  simp [Target.leads] at hf'
  subst hf'
  exact hFg
 ·simp [invoke, go_sem, eg]
 have stay : ∀ {X : World} {W W' : World} {k : Nat} {o : Obj}, W.heap[k]? = some o → Below W.heap.size W W' → W'.heap[k]? = some o := fun hk hb => by
  rw [hb.block _ (Array.getElem?_eq_some_iff.1 hk).1]; exact hk
 refine (hseq (w.heap.size + 1)
  (fun k W => I k W ∧ W.heap[w.heap.size + 1]? = some (.loop (rc .ready none)) ∧ W.heap[w.heap.size]? = some (.deferred (some [])))
  (fun W => Ix W ∧ W.heap[w.heap.size + 1]? = some (.loop (rc .done (some cj))) ∧ W.heap[w.heap.size]? = some (.deferred (some [])))
  V (fun k W W' h hb => ⟨hI _ _ _ h.1 (Kept.of_below hb), stay (X := W) h.2.1 hb, stay (X := W) h.2.2 hb⟩) (fun W W' h hb => ⟨hIx _ _ h.1 (Kept.of_below hb), stay (X := W) h.2.1 hb, stay (X := W) h.2.2 hb⟩)
  (fun k W h => hIM k W h.1) (fun W h => hIxM W h.1) ?round ⟨vI, vL, vD⟩).mono ?behind
 case round =>
  rintro k W hkN ⟨hi, hl, hd⟩
  have hlt : w.heap.size + 1 < W.heap.size := (Array.getElem?_eq_some_iff.1 hl).1
  have hy := run_yield (P := P) (args := elem k) hl (by rw [hrc]; exact hps k)
  rw [hrc] at hy
  refine ⟨fn, _, assign, body, hy, roundIn_of_wpIn hfn (hassign _ k W _ hkN hi ?_)⟩
  intro a' W' hkf hax
  have wL := hkf.same _ _ (by omega) hl rfl
  have wD := hkf.same _ _ (Nat.le_refl _) hd rfl
  refine ⟨_, run_beginRound wL (by rw [hrc]), ?_⟩
  obtain ⟨U, hU⟩ : ∃ U, W'.putObj (w.heap.size + 1) (.loop { rc .ready none with state := .busy }) = U := ⟨_, rfl⟩
  have hlt' : w.heap.size + 1 < W'.heap.size := (Array.getElem?_eq_some_iff.1 wL).1
  have uL : U.heap[w.heap.size + 1]? = some (.loop { rc .ready none with state := .busy }) := by rw [← hU]; exact World.putObj_heap_same hlt'
  have uD : U.heap[w.heap.size]? = some (.deferred (some [])) := by rw [← hU]; exact (World.putObj_heap_other (by omega)).trans wD
  have uA : Ax k a' U := by rw [← hU]; exact hAx _ _ _ _ hax (Kept.putObj _ (by omega) wL rfl)
  rw [hU]
  refine wpIn_mono (hbody _ k a' U hkN uA) ?_
  have ends : ∀ (jump : Option Code) (X : World), KeepsFrom w.heap.size U X → X.heap[w.heap.size + 1]? = some (.loop { rc .ready none with state := .busy }) ∧
    (Instr.endRound (w.heap.size + 1) jump).run P X = .ok (.bool jump.isNone) (X.putObj (w.heap.size + 1) (.loop (rc (if jump.isNone then .ready else .done) jump))) ∧
    (X.putObj (w.heap.size + 1) (.loop (rc (if jump.isNone then .ready else .done) jump))).heap[w.heap.size + 1]? = some (.loop (rc (if jump.isNone then .ready else .done) jump)) ∧
    (X.putObj (w.heap.size + 1) (.loop (rc (if jump.isNone then .ready else .done) jump))).heap[w.heap.size]? = some (.deferred (some [])) := by
   intro jump X hX
   have xL := hX.same _ _ (by omega) uL rfl
   have xr := run_endRound (P := P) jump xL
   have xs := World.putObj_heap_same (o := .loop (rc (if jump.isNone then .ready else .done) jump)) (Array.getElem?_eq_some_iff.1 xL).1
   have xd := (World.putObj_heap_other (o := .loop (rc (if jump.isNone then .ready else .done) jump)) (show w.heap.size ≠ w.heap.size + 1 by omega)).trans (hX.same _ _ (Nat.le_refl _) uD rfl)
   refine ⟨xL, ?_, xs, xd⟩
   rw [hrc] at xr ⊢
   exact xr
  intro e b X hp
  match e, hp with
  | .normal, hp =>
   obtain ⟨hk, hi2⟩ := hp
   obtain ⟨xL, r, s, d⟩ := ends none X hk
   exact ⟨_, _, r, .inl ⟨rfl, hI _ _ _ hi2 (Kept.putObj _ (by omega) xL rfl), s, d⟩⟩
  | .exit c, hp =>
   obtain ⟨rfl, hk, hx⟩ := hp
   obtain ⟨xL, r, s, d⟩ := ends (some (.exit c)) X hk
   exact ⟨_, _, r, .inr ⟨rfl, hIx _ _ hx (Kept.putObj _ (by omega) xL rfl), s, d⟩⟩
  | .ret, hp =>
   obtain ⟨rfl, hk, hx⟩ := hp
   obtain ⟨xL, r, s, d⟩ := ends (some .ret) X hk
   exact ⟨_, _, r, .inr ⟨rfl, hIx _ _ hx (Kept.putObj _ (by omega) xL rfl), s, d⟩⟩
 case behind =>
  rintro e X ⟨⟨v, rfl⟩, ⟨hi, hl, hd⟩ | ⟨hx, hl, hd⟩⟩
  ·have h := run_endLoop (P := P) hl (by rw [hrc]; simp)
   rw [hrc] at h
   exact ⟨none, _, h, hdone _ _ (Nat.le_refl _) (hI _ _ _ hi (Kept.putObj _ (by omega) hl rfl)) ((World.putObj_heap_other (by omega)).trans hd)⟩
  ·have h := run_endLoop (P := P) hl (by rw [hrc]; simp)
   rw [hrc] at h
   exact ⟨some cj, _, h, hstop _ _ (Nat.le_refl _) (hIx _ _ hx (Kept.putObj _ (by omega) hl rfl)) ((World.putObj_heap_other (by omega)).trans hd)⟩
end Go.Proofs.YtbbhmhihpdmoiaaGreat.Fx
