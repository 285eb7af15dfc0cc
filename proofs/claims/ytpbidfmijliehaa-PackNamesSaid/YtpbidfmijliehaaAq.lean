/- The calls of the document's writer once more: its bytes stay, or are new behind all. -/
import Derived.Test.YtpbidfmijliehaaProg
import Derived.Test.YtpbidfmijliehaaAy
set_option linter.unusedVariables false
set_option linter.unusedSimpArgs false
namespace Go.Proofs.Ytpbidfmijliehaa.Fx
open Go Go.RowKit
def ZNew (p : Nat) (w w' : World) : Prop := ∀ v x, w.heap[p]? = some (.cells #[v, x] 29 (0, 0)) → ∃ v' x', w'.heap[p]? = some (.cells #[v', x'] 29 (0, 0)) ∧ (v' = v ∨ ∀ k, v'.ownBlock = some k → w.heap.size ≤ k)
theorem ZNew.below {p : Nat} {w w1 w2 : World} (h : ZNew p w1 w2) (hb : Below w.heap.size w w1) (hp : p < w.heap.size) : ZNew p w w2 := fun v x hx => by
  obtain ⟨v', x', h1, h2⟩ := h v x (keep_row hb hx)
  exact ⟨v', x', h1, h2.imp id (fun g k hk => Nat.le_trans hb.size (g k hk))⟩
def ZCallN (B p : Nat) (l : List Nat) (lost : Bool) (w : World) (e : Ending) (w' : World) : Prop := e = .returned undef ∧ ZW B p l lost w' ∧ w.grownBy w' (some p) ∧ ZNew p w w'
theorem zput_new (B p : Nat) (l m : List Nat) (lost may : Bool) (o : Option Addr) (c : Nat) (w : World) (hB : B ≤ w.heap.size) (hc : o = none → c = 0) (hb : Bs w o m) (hlen : l.length + m.length ≤ 1000000000) (hw : ZW B p l lost w) :
    Calls Try.prog 45 #[.pointer (some ⟨p, 0, none⟩), .slice o m.length c, .bool may] w (ZCallN B p (putL l m lost may) (putB lost may) w) := by
  by_cases h : lost = true ∨ may = false
  · refine (zput_off B p l m lost may o c w h hw).mono ?_
    rintro e w' ⟨rfl, _, h2, hg⟩
    have e2 := h2 h
    subst e2
    have hx : (lost || !may) = true := by rcases h with rfl | rfl <;> simp
    obtain ⟨v, hrow, ho⟩ := hw
    have hzn : ZNew p w (w.setCell ⟨p, 1, none⟩ (.bool true)) := fun v2 x2 h2 => ⟨v2, _, heap_setCell_same _ _ 1 _ _ (.bool true) h2, .inl rfl⟩
    refine ⟨rfl, ?_, hg, hzn⟩
    unfold putL putB
    rw [hx]
    refine ⟨v, heap_setCell_same _ _ 1 _ _ (.bool true) hrow, ?_⟩
    have ap := ho.apart hrow (by decide)
    exact ho.grown (grown_cell _ _ _ _) (fun k hk h => ap k hk (Option.some.inj h))
  · obtain rfl : lost = false := by cases lost <;> simp_all
    obtain rfl : may = true := by cases may <;> simp_all
    refine (zput_on B p l m o c w hc hb hlen hw).mono ?_
    rintro e w' ⟨rfl, h1, _, hg⟩
    obtain ⟨v, hr, ho⟩ := h1 rfl rfl
    exact ⟨rfl, ⟨v, hr, ho.mono hB⟩, hg, fun v2 x2 h2 => ⟨v, _, hr, .inr (fun k hk => ho.blk k hk)⟩⟩

set_option maxRecDepth 100000 in
set_option maxHeartbeats 1000000 in
theorem zuint_new (B p n : Nat) (l : List Nat) (lost : Bool) (w : World) (hB : B ≤ w.heap.size) (hn : n < 18446744073709551616) (hlen : l.length ≤ 100000000) (hw : ZW B p l lost w) :
    Calls Try.prog 11 #[.pointer (some ⟨p, 0, none⟩), .int .u64 (n : Int)] w (ZCallN B p (putL l (form n) lost true) (putB lost true) w) := by
  have HW := Lib.hid hw
  have hl := (form_len n).2
  have HL := Lib.hid hl
  clear hw hl
  go_enter Try.func11, Try.ntmps11
  go_wp2_with fail
  refine (zform_any n hn _).mono ?_
  rintro e w1 ⟨⟨v, rfl, ho⟩, hb⟩
  obtain ⟨o, cap, rfl, hbs, _, _, hn0, _⟩ := ho.open
  have HP := Lib.hid (zput_new B p l (form n) lost true o cap w1 (by have := hb.size; omega) hn0 hbs (by have := HL.out; omega) (HW.out.below hb))
  have HB := Lib.hid (below_grown hb (some p))
  have HBZ := Lib.hid hb
  clear ho hb hbs hn0
  go_wp2_with fail
  refine HP.out.mono ?_
  rintro e w2 ⟨rfl, hz, hg, hzn⟩
  have HE : Hid (ZCallN B p (putL l (form n) lost true) (putB lost true) w (.returned undef) w2) := Lib.hid ⟨rfl, hz, HB.out.trans hg, hzn.below HBZ.out HW.out.lt⟩
  clear hz hg hzn HP
  go_wp2_with fail
  exact bodyPost_ret (results_none rfl _ _ _) rfl HE.out

set_option maxRecDepth 100000 in
set_option maxHeartbeats 1000000 in
theorem zint_new (B p : Nat) (z : Int) (l : List Nat) (lost : Bool) (w : World) (hB : B ≤ w.heap.size) (h0 : -9223372036854775808 ≤ z) (h1 : z ≤ 9223372036854775807) (hlen : l.length ≤ 100000000) (hw : ZW B p l lost w) :
    Calls Try.prog 13 #[.pointer (some ⟨p, 0, none⟩), .int .i64 z] w (ZCallN B p (putL l (form (fold z)) lost true) (putB lost true) w) := by
  have HW := Lib.hid hw
  have hl := (form_len (fold z)).2
  have HL := Lib.hid hl
  have HF := Lib.hid (fun w => folded_any z w h0 h1)
  have HN := Lib.hid (fold_lt h0 h1)
  clear hw hl h0 h1
  go_enter Try.func13, Try.ntmps13
  go_wp2_with fail
  refine (HF.out _).mono ?_
  rintro e w0 ⟨rfl, rfl⟩
  generalize fold z = n at *
  go_wp2_with fail
  refine (zform_any n HN.out _).mono ?_
  rintro e w1 ⟨⟨v, rfl, ho⟩, hb⟩
  obtain ⟨o, cap, rfl, hbs, _, _, hn0, _⟩ := ho.open
  have HP := Lib.hid (zput_new B p l (form n) lost true o cap w1 (by have := hb.size; omega) hn0 hbs (by have := HL.out; omega) (HW.out.below hb))
  have HB := Lib.hid (below_grown hb (some p))
  have HBZ := Lib.hid hb
  clear ho hb hbs hn0
  go_wp2_with fail
  refine HP.out.mono ?_
  rintro e w2 ⟨rfl, hz, hg, hzn⟩
  have HE : Hid (ZCallN B p (putL l (form n) lost true) (putB lost true) w (.returned undef) w2) := Lib.hid ⟨rfl, hz, HB.out.trans hg, hzn.below HBZ.out HW.out.lt⟩
  clear hz hg hzn HP
  go_wp2_with fail
  exact bodyPost_ret (results_none rfl _ _ _) rfl HE.out

set_option maxRecDepth 100000 in
set_option maxHeartbeats 2000000 in
theorem zsmall_new (B p : Nat) (n most : Int) (l : List Nat) (lost : Bool) (w : World) (hB : B ≤ w.heap.size) (h0 : -9223372036854775808 ≤ n) (h1 : n ≤ 9223372036854775807) (hlen : l.length ≤ 100000000) (hw : ZW B p l lost w) :
    Calls Try.prog 15 #[.pointer (some ⟨p, 0, none⟩), .int .i64 n, .int .i64 most] w (ZCallN B p (putL l (form n.toNat) lost (mayB n most)) (putB lost (mayB n most)) w) := by
  have HW := Lib.hid hw
  obtain ⟨N, hN⟩ : ∃ N : Nat, IntKind.u64.wrap n = (N : Int) := ⟨(n % 18446744073709551616).toNat, by rw [IntKind.wrap_u64]; omega⟩
  have hN64 : N < 18446744073709551616 := by rw [IntKind.wrap_u64] at hN; omega
  have hNn : 0 ≤ n → N = n.toNat := fun h => by rw [IntKind.wrap_u64] at hN; omega
  have hl := (form_len N).2
  have HL := Lib.hid hl
  have HNN := Lib.hid hNn
  have HN64 := Lib.hid hN64
  have HX : ∀ (b : Bool) (w1 : World), mayB n most = b → putL l (form N) lost b = putL l (form n.toNat) lost b := fun b _ hb => by
    cases b with
    | false => unfold putL; simp
    | true =>
      have := of_decide_eq_true hb
      rw [HNN.out this.1]
  have HXH := Lib.hid HX
  clear hw hl hN64 hNn HX
  obtain ⟨b, hb0⟩ : ∃ b, mayB n most = b := ⟨_, rfl⟩
  have HBB := Lib.hid hb0
  rw [hb0]
  have tail : ∀ w1 : World, Below w.heap.size w w1 → ∀ o cap, (o = none → cap = 0) → Bs w1 o (form N) → Calls Try.prog 45 #[.pointer (some ⟨p, 0, none⟩), .slice o (form N).length cap, .bool b] w1 (ZCallN B p (putL l (form n.toNat) lost b) (putB lost b) w) := by
    intro w1 hb o cap hn0 hbs
    refine (zput_new B p l (form N) lost b o cap w1 (by have := hb.size; omega) hn0 hbs (by have := HL.out; omega) (HW.out.below hb)).mono ?_
    rintro e w2 ⟨rfl, hz, hg, hzn⟩
    rw [HXH.out b w1 HBB.out] at hz
    exact ⟨rfl, hz, (below_grown hb (some p)).trans hg, hzn.below hb HW.out.lt⟩
  have HT := Lib.hid tail
  clear tail
  by_cases g0 : 0 ≤ n
  · by_cases g1 : n ≤ most
    · obtain rfl : b = true := by rw [← HBB.out]; exact decide_eq_true ⟨g0, g1⟩
      clear HBB hb0
      go_enter Try.func15, Try.ntmps15
      go_wp2_with fail
      ((with_reducible refine (zform_any N HN64.out _).mono ?_))
      rintro e w1 ⟨⟨v, rfl, ho⟩, hb⟩
      obtain ⟨o, cap, rfl, hbs, _, _, hn0, _⟩ := ho.open
      have HP := Lib.hid (HT.out w1 hb o cap hn0 hbs)
      clear ho hb hbs hn0
      go_wp2_with fail
      refine HP.out.mono ?_
      rintro e w2 hz
      have HE := Lib.hid hz
      obtain ⟨rfl, _⟩ := hz
      clear HP
      go_wp2_with fail
      exact bodyPost_ret (results_none rfl _ _ _) rfl HE.out
    · obtain rfl : b = false := by rw [← HBB.out]; exact decide_eq_false (by omega)
      have d1 : decide (n ≤ most) = false := decide_eq_false g1
      clear HBB hb0
      go_enter Try.func15, Try.ntmps15
      go_wp2_with fail
      ((with_reducible refine (zform_any N HN64.out _).mono ?_))
      rintro e w1 ⟨⟨v, rfl, ho⟩, hb⟩
      obtain ⟨o, cap, rfl, hbs, _, _, hn0, _⟩ := ho.open
      have HP := Lib.hid (HT.out w1 hb o cap hn0 hbs)
      clear ho hb hbs hn0
      go_wp2_with fail
      refine HP.out.mono ?_
      rintro e w2 hz
      have HE := Lib.hid hz
      obtain ⟨rfl, _⟩ := hz
      clear HP
      go_wp2_with fail
      exact bodyPost_ret (results_none rfl _ _ _) rfl HE.out
  · obtain rfl : b = false := by rw [← HBB.out]; exact decide_eq_false (by omega)
    clear HBB hb0
    go_enter Try.func15, Try.ntmps15
    go_wp2_with fail
    ((with_reducible refine (zform_any N HN64.out _).mono ?_))
    rintro e w1 ⟨⟨v, rfl, ho⟩, hb⟩
    obtain ⟨o, cap, rfl, hbs, _, _, hn0, _⟩ := ho.open
    have HP := Lib.hid (HT.out w1 hb o cap hn0 hbs)
    clear ho hb hbs hn0
    go_wp2_with fail
    refine HP.out.mono ?_
    rintro e w2 hz
    have HE := Lib.hid hz
    obtain ⟨rfl, _⟩ := hz
    clear HP
    go_wp2_with fail
    exact bodyPost_ret (results_none rfl _ _ _) rfl HE.out

set_option maxRecDepth 100000 in
set_option maxHeartbeats 1000000 in
theorem zbit_new (B p : Nat) (is : Bool) (l : List Nat) (lost : Bool) (w : World) (hB : B ≤ w.heap.size) (hlen : l.length ≤ 100000000) (hw : ZW B p l lost w) :
    Calls Try.prog 17 #[.pointer (some ⟨p, 0, none⟩), .bool is] w (ZCallN B p (putL l [if is = true then 1 else 0] lost true) (putB lost true) w) := by
  have tail : ∀ (x : Nat) (v : Value), v = .int .u8 (x : Int) → Calls Try.prog 45 #[.pointer (some ⟨p, 0, none⟩), .slice (some ⟨w.heap.size, 0, none⟩) 1 1, .bool true] (w.alloc (.cells #[v] 5)) (ZCallN B p (putL l [x] lost true) (putB lost true) w) := by
    intro x v hv
    have hb : Below w.heap.size w (w.alloc (.cells #[v] 5)) := (Below.refl _ _).alloc (Nat.le_refl _) _
    refine (zput_new B p l [x] lost true (some ⟨w.heap.size, 0, none⟩) 1 _ (by have := hb.size; omega) (fun h => by cases h) (one_row w x v hv) (by simp; omega) (hw.below hb)).mono ?_
    rintro e w2 ⟨rfl, hz, hg, hzn⟩
    exact ⟨rfl, hz, (below_grown hb (some p)).trans hg, hzn.below hb hw.lt⟩
  cases is with
  | true =>
    have HP := Lib.hid (tail 1 _ rfl)
    clear tail hw
    go_enter Try.func17, Try.ntmps17
    go_wp2_with fail
    refine HP.out.mono ?_
    rintro e w2 hz
    have HE := Lib.hid hz
    obtain ⟨rfl, _⟩ := hz
    clear HP
    go_wp2_with fail
    exact bodyPost_ret (results_none rfl _ _ _) rfl HE.out
  | false =>
    have HP := Lib.hid (tail 0 _ rfl)
    clear tail hw
    go_enter Try.func17, Try.ntmps17
    go_wp2_with fail
    refine HP.out.mono ?_
    rintro e w2 hz
    have HE := Lib.hid hz
    obtain ⟨rfl, _⟩ := hz
    clear HP
    go_wp2_with fail
    exact bodyPost_ret (results_none rfl _ _ _) rfl HE.out

set_option maxRecDepth 100000 in
set_option maxHeartbeats 1000000 in
theorem ztext_new (B p : Nat) (m : List Nat) (most : Int) (l : List Nat) (lost may : Bool) (o : Option Addr) (c : Nat) (w : World) (hB : B ≤ w.heap.size) (hmay : decide ((m.length : Int) ≤ most) = may) (hc : o = none → c = 0) (hb : Bs w o m) (hm : m.length ≤ 100000000) (hlen : l.length ≤ 100000000) (hw : ZW B p l lost w) :
    Calls Try.prog 19 #[.pointer (some ⟨p, 0, none⟩), .slice o m.length c, .int .i64 most] w (ZCallN B p (putL l (form m.length ++ m) lost may) (putB lost may) w) := by
  have HW := Lib.hid hw
  have HC := Lib.hid hc
  have HBS := Lib.hid hb
  have HLM := Lib.hid hm
  obtain ⟨n, hn⟩ : ∃ n, m.length = n := ⟨_, rfl⟩
  have HN := Lib.hid hn
  have HL := Lib.hid (form_len n).2
  rw [hn] at hmay hm
  have n0 : (0 : Int) ≤ (n : Int) := by omega
  have n1 : (n : Int) ≤ 100000000 := by omega
  have HFN := Lib.hid (fun w => zform_any n (by omega) w)
  rw [hn]
  clear hw hc hb hn hm
  go_enter Try.func19, Try.ntmps19
  go_wp2_with fail
  ((with_reducible refine (HFN.out _).mono ?_))
  rintro e w1 ⟨⟨v, rfl, ho⟩, hb1⟩
  have HO1 := Lib.hid ho
  have HB1 := Lib.hid hb1
  clear ho hb1
  go_wp2_with (at_builtin; refine app_bs rfl (.tmp 10) (.tmp 11) rfl w.heap.size v (form n) rfl HO1.out o m c (by rw [HN.out]; rfl) HC.out (HBS.out.below HB1.out) (by have := HL.out; have := HLM.out; omega) HB1.out.size ?_; intro v2 w2 ho2 hg2; obtain ⟨q, hq⟩ : ∃ q, form n ++ m = q := ⟨_, rfl⟩; rw [hq] at ho2; have HQ := Lib.hid hq; obtain ⟨o2, cap2, rfl, hbs2, _, _, hn2, _⟩ := ho2.open; have HBS2 := Lib.hid hbs2; have HN2 := Lib.hid hn2; have HG2 := Lib.hid hg2; clear ho2 hg2 hq hbs2 hn2)
  have HG : Hid (w.grownBy w2 none) := Lib.hid ⟨HG2.out.os.trans HB1.out.os, HG2.out.tape.trans HB1.out.tape, HG2.out.output.trans HB1.out.output, Nat.le_trans HB1.out.size HG2.out.size, fun k hk _ => (HG2.out.block k (Nat.lt_of_lt_of_le hk HB1.out.size) (fun e => by have := HO1.out.blk k e.symm; omega)).trans (HB1.out.block k hk)⟩
  have hB2 : Below w.heap.size w w2 := ⟨HG.out.os, HG.out.tape, HG.out.output, HG.out.size, fun k hk => HG.out.block k hk (by simp)⟩
  have HP := Lib.hid (zput_new B p l q lost may o2 cap2 w2 (by have := hB2.size; omega) HN2.out HBS2.out (by have h1 := HL.out; have h2 := HLM.out; have h3 := HN.out; have h4 := HQ.out; rw [← h4, List.length_append]; omega) (HW.out.below hB2))
  have HGG := Lib.hid (below_grown hB2 (some p))
  have HBZ := Lib.hid hB2
  clear hB2 HG
  refine HP.out.mono ?_
  rintro e w3 ⟨rfl, hz, hg, hzn⟩
  rw [← HQ.out] at hz
  rw [← HN.out] at hz
  have HE : Hid (ZCallN B p (putL l (form m.length ++ m) lost may) (putB lost may) w (.returned undef) w3) := Lib.hid ⟨rfl, hz, HGG.out.trans hg, hzn.below HBZ.out HW.out.lt⟩
  rw [HN.out] at HE
  clear hz hg hzn HP
  go_wp2_with fail
  exact bodyPost_ret (results_none rfl _ _ _) rfl HE.out
end Go.Proofs.Ytpbidfmijliehaa.Fx
