/- The calls of the document's writer, walked. -/
import Derived.Test.YtpbidfmijliehaaProg
import Derived.Test.YtpbidfmijliehaaAw
import Derived.Maps.AppendAt
set_option linter.unusedVariables false
set_option linter.unusedSimpArgs false
namespace Go.Proofs.Ytpbidfmijliehaa.Fx
open Go Go.RowKit
/-- what becomes of a writer's bytes, and of its being spoilt -/
def putL (l m : List Nat) (lost may : Bool) : List Nat := if lost || !may then l else l ++ m
def putB (lost may : Bool) : Bool := lost || !may
def ZCall (B p : Nat) (l : List Nat) (lost : Bool) (w : World) (e : Ending) (w' : World) : Prop := e = .returned undef ∧ ZW B p l lost w' ∧ w.grownBy w' (some p)
theorem zput_any (B p : Nat) (l m : List Nat) (lost may : Bool) (o : Option Addr) (c : Nat) (w : World) (hB : B ≤ w.heap.size) (hc : o = none → c = 0) (hb : Bs w o m) (hlen : l.length + m.length ≤ 1000000000) (hw : ZW B p l lost w) :
    Calls Try.prog 45 #[.pointer (some ⟨p, 0, none⟩), .slice o m.length c, .bool may] w (ZCall B p (putL l m lost may) (putB lost may) w) := by
  by_cases h : lost = true ∨ may = false
  · refine (zput_off B p l m lost may o c w h hw).mono ?_
    rintro e w' ⟨rfl, _, h2, hg⟩
    have e2 := h2 h
    subst e2
    have hx : (lost || !may) = true := by rcases h with rfl | rfl <;> simp
    obtain ⟨v, hrow, ho⟩ := hw
    refine ⟨rfl, ?_, hg⟩
    unfold putL putB
    rw [hx]
    refine ⟨v, heap_setCell_same _ _ 1 _ _ (.bool true) hrow, ?_⟩
    have ap := ho.apart hrow (by decide)
    exact ho.grown (grown_cell _ _ _ _) (fun k hk h => ap k hk (Option.some.inj h))
  · obtain rfl : lost = false := by cases lost <;> simp_all
    obtain rfl : may = true := by cases may <;> simp_all
    refine (zput_on B p l m o c w hc hb hlen hw).mono ?_
    rintro e w' ⟨rfl, h1, _, hg⟩
    obtain ⟨v, hr, ho⟩ := h1 rfl rfl
    exact ⟨rfl, ⟨v, hr, ho.mono hB⟩, hg⟩
set_option maxRecDepth 100000 in
set_option maxHeartbeats 1000000 in
theorem zuint_any (B p n : Nat) (l : List Nat) (lost : Bool) (w : World) (hB : B ≤ w.heap.size) (hn : n < 18446744073709551616) (hlen : l.length ≤ 100000000) (hw : ZW B p l lost w) :
    Calls Try.prog 11 #[.pointer (some ⟨p, 0, none⟩), .int .u64 (n : Int)] w (ZCall B p (putL l (form n) lost true) (putB lost true) w) := by
  have HW := Lib.hid hw
  have hl := (form_len n).2
  have HL := Lib.hid hl
  clear hw hl
  go_enter Try.func11, Try.ntmps11
  go_wp2_with fail
  refine (zform_any n hn _).mono ?_
  rintro e w1 ⟨⟨v, rfl, ho⟩, hb⟩
  obtain ⟨o, cap, rfl, hbs, _, _, hn0, _⟩ := ho.open
  have HP := Lib.hid (zput_any B p l (form n) lost true o cap w1 (by have := hb.size; omega) hn0 hbs (by have := HL.out; omega) (HW.out.below hb))
  have HB := Lib.hid (below_grown hb (some p))
  clear ho hb hbs hn0
  go_wp2_with fail
  refine HP.out.mono ?_
  rintro e w2 ⟨rfl, hz, hg⟩
  have HE : Hid (ZCall B p (putL l (form n) lost true) (putB lost true) w (.returned undef) w2) := Lib.hid ⟨rfl, hz, HB.out.trans hg⟩
  clear hz hg HP
  go_wp2_with fail
  exact bodyPost_ret (results_none rfl _ _ _) rfl HE.out
/-- a signed number as one without a sign -/
def fold (z : Int) : Nat := if 0 ≤ z then 2 * z.toNat else 2 * (-(z + 1)).toNat + 1
theorem fold_lt {z : Int} (h0 : -9223372036854775808 ≤ z) (h1 : z ≤ 9223372036854775807) : fold z < 18446744073709551616 := by
  unfold fold
  split <;> omega
theorem folded_any (z : Int) (w : World) (h0 : -9223372036854775808 ≤ z) (h1 : z ≤ 9223372036854775807) :
    Calls Try.prog 48 #[.int .i64 z] w fun e w' => e = .returned (.int .u64 ((fold z : Nat) : Int)) ∧ w = w' := by
  by_cases h : 0 ≤ z
  · have e : ((fold z : Nat) : Int) = 2 * z := by unfold fold; rw [if_pos h]; omega
    rw [e]
    go_enter Try.func48, Try.ntmps48
    go_wp2_with fail
    go_ret
    refine ⟨?_, rfl⟩
    congr 2
  · have e : ((fold z : Nat) : Int) = 2 * (-(z + 1)) + 1 := by unfold fold; rw [if_neg h]; omega
    rw [e]
    go_enter Try.func48, Try.ntmps48
    go_wp2_with fail
    go_ret
    refine ⟨?_, rfl⟩
    congr 2
set_option maxRecDepth 100000 in
set_option maxHeartbeats 1000000 in
theorem zint_any (B p : Nat) (z : Int) (l : List Nat) (lost : Bool) (w : World) (hB : B ≤ w.heap.size) (h0 : -9223372036854775808 ≤ z) (h1 : z ≤ 9223372036854775807) (hlen : l.length ≤ 100000000) (hw : ZW B p l lost w) :
    Calls Try.prog 13 #[.pointer (some ⟨p, 0, none⟩), .int .i64 z] w (ZCall B p (putL l (form (fold z)) lost true) (putB lost true) w) := by
  have HW := Lib.hid hw
  have hl := (form_len (fold z)).2
  have HL := Lib.hid hl
  have HF := Lib.hid (fun w => folded_any z w h0 h1)
  have HN := Lib.hid (fold_lt h0 h1)
  clear hw hl h0 h1
  go_enter Try.func13, Try.ntmps13
  go_wp2_with fail
  refine (HF.out _).mono ?_
  rintro e w0 ⟨rfl, rfl⟩
  generalize fold z = n at *
  go_wp2_with fail
  refine (zform_any n HN.out _).mono ?_
  rintro e w1 ⟨⟨v, rfl, ho⟩, hb⟩
  obtain ⟨o, cap, rfl, hbs, _, _, hn0, _⟩ := ho.open
  have HP := Lib.hid (zput_any B p l (form n) lost true o cap w1 (by have := hb.size; omega) hn0 hbs (by have := HL.out; omega) (HW.out.below hb))
  have HB := Lib.hid (below_grown hb (some p))
  clear ho hb hbs hn0
  go_wp2_with fail
  refine HP.out.mono ?_
  rintro e w2 ⟨rfl, hz, hg⟩
  have HE : Hid (ZCall B p (putL l (form n) lost true) (putB lost true) w (.returned undef) w2) := Lib.hid ⟨rfl, hz, HB.out.trans hg⟩
  clear hz hg HP
  go_wp2_with fail
  exact bodyPost_ret (results_none rfl _ _ _) rfl HE.out
def mayB (n most : Int) : Bool := decide (0 ≤ n ∧ n ≤ most)
set_option maxRecDepth 100000 in
set_option maxHeartbeats 2000000 in
theorem zsmall_any (B p : Nat) (n most : Int) (l : List Nat) (lost : Bool) (w : World) (hB : B ≤ w.heap.size) (h0 : -9223372036854775808 ≤ n) (h1 : n ≤ 9223372036854775807) (hlen : l.length ≤ 100000000) (hw : ZW B p l lost w) :
    Calls Try.prog 15 #[.pointer (some ⟨p, 0, none⟩), .int .i64 n, .int .i64 most] w (ZCall B p (putL l (form n.toNat) lost (mayB n most)) (putB lost (mayB n most)) w) := by
  have HW := Lib.hid hw
  obtain ⟨N, hN⟩ : ∃ N : Nat, IntKind.u64.wrap n = (N : Int) := ⟨(n % 18446744073709551616).toNat, by rw [IntKind.wrap_u64]; omega⟩
  have hN64 : N < 18446744073709551616 := by rw [IntKind.wrap_u64] at hN; omega
  have hNn : 0 ≤ n → N = n.toNat := fun h => by rw [IntKind.wrap_u64] at hN; omega
  have hl := (form_len N).2
  have HL := Lib.hid hl
  have HNN := Lib.hid hNn
  have HN64 := Lib.hid hN64
  have HX : ∀ (b : Bool) (w1 : World), mayB n most = b → putL l (form N) lost b = putL l (form n.toNat) lost b := fun b _ hb => by
    cases b with
    | false => unfold putL; simp
    | true =>
      have := of_decide_eq_true hb
      rw [HNN.out this.1]
  have HXH := Lib.hid HX
  clear hw hl hN64 hNn HX
  obtain ⟨b, hb0⟩ : ∃ b, mayB n most = b := ⟨_, rfl⟩
  have HBB := Lib.hid hb0
  rw [hb0]
  have tail : ∀ w1 : World, Below w.heap.size w w1 → ∀ o cap, (o = none → cap = 0) → Bs w1 o (form N) → Calls Try.prog 45 #[.pointer (some ⟨p, 0, none⟩), .slice o (form N).length cap, .bool b] w1 (ZCall B p (putL l (form n.toNat) lost b) (putB lost b) w) := by
    intro w1 hb o cap hn0 hbs
    refine (zput_any B p l (form N) lost b o cap w1 (by have := hb.size; omega) hn0 hbs (by have := HL.out; omega) (HW.out.below hb)).mono ?_
    rintro e w2 ⟨rfl, hz, hg⟩
    rw [HXH.out b w1 HBB.out] at hz
    exact ⟨rfl, hz, (below_grown hb (some p)).trans hg⟩
  have HT := Lib.hid tail
  clear tail
  by_cases g0 : 0 ≤ n
  · by_cases g1 : n ≤ most
    · obtain rfl : b = true := by rw [← HBB.out]; exact decide_eq_true ⟨g0, g1⟩
      clear HBB hb0
      go_enter Try.func15, Try.ntmps15
      go_wp2_with fail
      ((with_reducible refine (zform_any N HN64.out _).mono ?_))
      rintro e w1 ⟨⟨v, rfl, ho⟩, hb⟩
      obtain ⟨o, cap, rfl, hbs, _, _, hn0, _⟩ := ho.open
      have HP := Lib.hid (HT.out w1 hb o cap hn0 hbs)
      clear ho hb hbs hn0
      go_wp2_with fail
      refine HP.out.mono ?_
      rintro e w2 hz
      have HE := Lib.hid hz
      obtain ⟨rfl, _⟩ := hz
      clear HP
      go_wp2_with fail
      exact bodyPost_ret (results_none rfl _ _ _) rfl HE.out
    · obtain rfl : b = false := by rw [← HBB.out]; exact decide_eq_false (by omega)
      have d1 : decide (n ≤ most) = false := decide_eq_false g1
      clear HBB hb0
      go_enter Try.func15, Try.ntmps15
      go_wp2_with fail
      ((with_reducible refine (zform_any N HN64.out _).mono ?_))
      rintro e w1 ⟨⟨v, rfl, ho⟩, hb⟩
      obtain ⟨o, cap, rfl, hbs, _, _, hn0, _⟩ := ho.open
      have HP := Lib.hid (HT.out w1 hb o cap hn0 hbs)
      clear ho hb hbs hn0
      go_wp2_with fail
      refine HP.out.mono ?_
      rintro e w2 hz
      have HE := Lib.hid hz
      obtain ⟨rfl, _⟩ := hz
      clear HP
      go_wp2_with fail
      exact bodyPost_ret (results_none rfl _ _ _) rfl HE.out
  · obtain rfl : b = false := by rw [← HBB.out]; exact decide_eq_false (by omega)
    clear HBB hb0
    go_enter Try.func15, Try.ntmps15
    go_wp2_with fail
    ((with_reducible refine (zform_any N HN64.out _).mono ?_))
    rintro e w1 ⟨⟨v, rfl, ho⟩, hb⟩
    obtain ⟨o, cap, rfl, hbs, _, _, hn0, _⟩ := ho.open
    have HP := Lib.hid (HT.out w1 hb o cap hn0 hbs)
    clear ho hb hbs hn0
    go_wp2_with fail
    refine HP.out.mono ?_
    rintro e w2 hz
    have HE := Lib.hid hz
    obtain ⟨rfl, _⟩ := hz
    clear HP
    go_wp2_with fail
    exact bodyPost_ret (results_none rfl _ _ _) rfl HE.out
theorem one_row (w : World) (x : Nat) (v : Value) (hv : v = .int .u8 (x : Int)) : Bs (w.alloc (.cells #[v] 5)) (some ⟨w.heap.size, 0, none⟩) [x] := by
  subst hv
  exact lit_row w [x] _ rfl (0, 0)
set_option maxRecDepth 100000 in
set_option maxHeartbeats 1000000 in
theorem zbit_any (B p : Nat) (is : Bool) (l : List Nat) (lost : Bool) (w : World) (hB : B ≤ w.heap.size) (hlen : l.length ≤ 100000000) (hw : ZW B p l lost w) :
    Calls Try.prog 17 #[.pointer (some ⟨p, 0, none⟩), .bool is] w (ZCall B p (putL l [if is = true then 1 else 0] lost true) (putB lost true) w) := by
  have tail : ∀ (x : Nat) (v : Value), v = .int .u8 (x : Int) → Calls Try.prog 45 #[.pointer (some ⟨p, 0, none⟩), .slice (some ⟨w.heap.size, 0, none⟩) 1 1, .bool true] (w.alloc (.cells #[v] 5)) (ZCall B p (putL l [x] lost true) (putB lost true) w) := by
    intro x v hv
    have hb : Below w.heap.size w (w.alloc (.cells #[v] 5)) := (Below.refl _ _).alloc (Nat.le_refl _) _
    refine (zput_any B p l [x] lost true (some ⟨w.heap.size, 0, none⟩) 1 _ (by have := hb.size; omega) (fun h => by cases h) (one_row w x v hv) (by simp; omega) (hw.below hb)).mono ?_
    rintro e w2 ⟨rfl, hz, hg⟩
    exact ⟨rfl, hz, (below_grown hb (some p)).trans hg⟩
  cases is with
  | true =>
    have HP := Lib.hid (tail 1 _ rfl)
    clear tail hw
    go_enter Try.func17, Try.ntmps17
    go_wp2_with fail
    refine HP.out.mono ?_
    rintro e w2 hz
    have HE := Lib.hid hz
    obtain ⟨rfl, _⟩ := hz
    clear HP
    go_wp2_with fail
    exact bodyPost_ret (results_none rfl _ _ _) rfl HE.out
  | false =>
    have HP := Lib.hid (tail 0 _ rfl)
    clear tail hw
    go_enter Try.func17, Try.ntmps17
    go_wp2_with fail
    refine HP.out.mono ?_
    rintro e w2 hz
    have HE := Lib.hid hz
    obtain ⟨rfl, _⟩ := hz
    clear HP
    go_wp2_with fail
    exact bodyPost_ret (results_none rfl _ _ _) rfl HE.out
end Go.Proofs.Ytpbidfmijliehaa.Fx
