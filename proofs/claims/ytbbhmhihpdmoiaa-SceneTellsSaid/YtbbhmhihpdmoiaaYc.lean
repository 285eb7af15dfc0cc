/- SceneTells, walked. -/
import Derived.Test.YtbbhmhihpdmoiaaProg
import Derived.Test.YtbbhmhihpdmoiaaXf
import Derived.Test.YtbbhmhihpdmoiaaVp
import Derived.Test.YtbbhmhihpdmoiaaVa
import Derived.Test.YtbbhmhihpdmoiaaVc
import Derived.Test.YtbbhmhihpdmoiaaVt
import Derived.Test.YtbbhmhihpdmoiaaVg
import Derived.Test.YtbbhmhihpdmoiaaYa
import Derived.Test.YtbbhmhihpdmoiaaHg
set_option linter.unusedVariables false
set_option linter.unusedSimpArgs false
namespace Go.Proofs.Ytbbhmhihpdmoiaa.Fx
open Go Go.RowKit Go.Shelf
attribute [local go_sem] Oper.semAt_some
theorem zsame_any (a b : ScR) (w : World) (ha : ScWf a) (hb : ScWf b) (h : ObjsAt w a.oo a.os) (h2 : ObjsAt w b.oo b.os) :
    Calls Try.prog 12 #[.agg (scC a), .agg (scC b)] w (RetBool (decide (sameS a b)) w) := by
  by_cases hno : a.w = b.w ∧ a.h = b.h ∧ a.cam = b.cam ∧ a.os.length = b.os.length
  · obtain ⟨h1, h3, h4, hl⟩ := hno
    have := zsame_yes a b w ha hb h h2 h1 h3 h4 hl
    have e : decide (sameS a b) = decide (a.os.map keyO = b.os.map keyO) := by
      unfold sameS
      simp [h1, h3, h4]
    rw [e]
    exact this
  · have e : decide (sameS a b) = false := decide_eq_false (fun hs => hno ⟨hs.1, hs.2.1, hs.2.2.1, by have := congrArg List.length hs.2.2.2; simpa using this⟩)
    rw [e]
    exact zsame_no a b w ha hb h h2 hno
theorem few_of {s : ScR} (h : greatZ s = false) : Few s := by
  unfold greatZ at h
  rw [Bool.or_eq_false_iff] at h
  refine ⟨by have := of_decide_eq_false h.1; omega, fun x hx => ?_⟩
  have h2 := List.any_eq_false.1 h.2 x hx
  unfold bigZ at h2
  simp only [Bool.or_eq_true, decide_eq_true_eq, not_or] at h2
  omega
structure TlI (s t : ScR) (mm : List Int) (b9 b11 : Nat) (vi : Value) (w W : World) : Prop where
  two : TwoS s t w W
  r9 : RowAt 25 b9 (mC mm) W
  r11 : RowAt 25 b11 (mC mm) W
  own : OwnN W w.heap.size vi (sortedIds s.os)
theorem TlI.up {s t : ScR} {mm : List Int} {b9 b11 : Nat} {vi : Value} {w W X : World} (h : Below W.heap.size W X) (i : TlI s t mm b9 b11 vi w W) : TlI s t mm b9 b11 vi w X :=
  ⟨i.two.up h, i.r9.below h, i.r11.below h, i.own.below h⟩
def TcRel (s t : ScR) (mm : List Int) (b9 b11 : Nat) (vi : Value) (w : World) (n g : Nat) (s18 s19 s20 s67 : Value) (W : World) : Prop :=
  ∃ k : Nat, g = n - k ∧ s67 = .int .i64 (k : Int) ∧ k ≤ n ∧ s18 = .int .i64 ((sumV s.os : Int) - (sumV (s.os.take k) : Int)) ∧ s19 = .int .i64 ((sumT s.os : Int) - (sumT (s.os.take k) : Int)) ∧ TlI s t mm b9 b11 vi w W
def TsRel (B bc : Nat) (c : ScR) (V : World) (n g : Nat) (s23 s24 s97 s116 : Value) (W : World) : Prop :=
  ∃ k : Nat, g = n - k ∧ s97 = .int .i64 (k : Int) ∧ k ≤ n ∧ SpI B bc c V W
def TnRel (B bc : Nat) (c : ScR) (V : World) (n g : Nat) (s24 s116 : Value) (W : World) : Prop :=
  ∃ k : Nat, g = n - k ∧ s116 = .int .i64 (k : Int) ∧ k ≤ n ∧ SpI B bc c V W
set_option maxRecDepth 100000 in
set_option maxHeartbeats 16000000 in
theorem law_sceneTells (s : ScR) (hs : ScWf s) (t : ScR) (ht : ScWf t) (k id : Int) (w : World) (h : ObjsAt w s.oo s.os) (h2 : ObjsAt w t.oo t.os) :
    Calls Try.prog 3 #[.agg (scC s), .agg (scC t), .int .i64 k, .int .i64 id] w (RetBool true w) := by
  have HS := Lib.hid hs
  have HT := Lib.hid ht
  have HI := Lib.hid (TwoS.new h h2)
  obtain ⟨V0, hV0⟩ : ∃ V, ((w.alloc (.cells (scC s) 28)).alloc (.cells (scC t) 28)) = V := ⟨_, rfl⟩
  rw [hV0] at HI
  have HV0 := Lib.hid hV0
  have hall := Lib.hid (sizeS hs)
  have hallt := Lib.hid (sizeS ht)
  have HG1 := Lib.hid (zgreat_any s V0 hs HI.out.oa)
  clear h h2 hs ht hV0
  cases hg : greatZ s with
  | true =>
    rw [hg] at HG1
    clear hg
    go_enter Try.func3, Try.ntmps3
    go_wp2_with (first | (rw [HV0.out]) | (with_reducible refine stop_at (some 25) rfl ?_; refine Lib.hid ?_; refine wpList_load_mid rfl 28 (.tmp 4) rfl w.heap.size 0 rfl (scL s) _ HI.out.sa.all Try.underlying28 rfl hall.out ?_))
    refine HG1.out.mono ?_
    rintro e w1 ⟨rfl, hb⟩
    have HB := Lib.hid (bnext HI.out.bel hb)
    clear hb HG1
    simp only [bI, if_true]
    go_wp2_with fail
    go_ret
    exact ⟨rfl, HB.out⟩
  | false =>
    rw [hg] at HG1
    have HFW := Lib.hid (few_of hg)
    clear hg
    go_enter Try.func3, Try.ntmps3
    go_wp2_with (first | (rw [HV0.out]) | (with_reducible refine stop_at (some 25) rfl ?_; refine Lib.hid ?_; refine wpList_load_mid rfl 28 (.tmp 4) rfl w.heap.size 0 rfl (scL s) _ HI.out.sa.all Try.underlying28 rfl hall.out ?_))
    refine HG1.out.mono ?_
    rintro e w1 ⟨rfl, hb⟩
    have HI1 := Lib.hid (HI.out.up hb)
    have HG2 := Lib.hid (zgreat_any t w1 HT.out HI1.out.ob)
    clear hb HG1 HI HV0
    simp only [bI, Bool.false_eq_true, if_false]
    cases hg2 : greatZ t with
    | true =>
      rw [hg2] at HG2
      clear hg2
      go_wp2_with (with_reducible refine stop_at (some 29) rfl ?_; refine Lib.hid ?_; refine wpList_load_mid_g rfl 28 (.tmp 5) rfl (w.heap.size + 1) 0 rfl (scL t) _ HI1.out.sb.all Try.underlying28 rfl hallt.out ?_)
      refine HG2.out.mono ?_
      rintro e w2 ⟨rfl, hb⟩
      have HB := Lib.hid (bnext HI1.out.bel hb)
      clear hb HG2
      simp only [bI, if_true]
      go_wp2_with fail
      go_ret
      exact ⟨rfl, HB.out⟩
    | false =>
      rw [hg2] at HG2
      clear hg2
      go_wp2_with (with_reducible refine stop_at (some 29) rfl ?_; refine Lib.hid ?_; refine wpList_load_mid_g rfl 28 (.tmp 5) rfl (w.heap.size + 1) 0 rfl (scL t) _ HI1.out.sb.all Try.underlying28 rfl hallt.out ?_)
      refine HG2.out.mono ?_
      rintro e w2 ⟨rfl, hb⟩
      have HI2 := Lib.hid (HI1.out.up hb)
      clear hb HG2 HI1
      simp only [bI, Bool.false_eq_true, if_false]
      have HP := Lib.hid (pboth_any s k w2 HS.out HI2.out.oa)
      have HQ := Lib.hid (fun (W : World) (i : TwoS s t w W) => zboth_any s k W HS.out i.oa)
      have HML := Lib.hid (bothO_len s k)
      unfold RetBoth at HP HQ
      generalize (bothO s k).getD zero16 = mm at HP HQ HML
      generalize (if (bothO s k).isSome = true then (60 - 60 : Int) else 60) = er0 at HP HQ
      generalize (if (bothO s k).isSome = true then (0 : Int) else 60) = er at HP HQ
      have hUA := Lib.hid (show (Try.prog.info? 25).map (·.size) = some (mC mm).size by rw [size16, mC_size, HML.out])
      have hUL := Lib.hid (show 16 = (mC mm).size by rw [mC_size, HML.out])
      have heq : ∀ W, (binOp .eql 25 (.agg (mC mm)) (.agg (mC mm))).run Try.prog W = .ok (.bool true) W := fun W => by rw [eql_mat W mm mm HML.out HML.out]; simp
      have HEQ := Lib.hid heq
      clear heq
      go_wp2_with (with_reducible refine stop_at (some 34) rfl ?_; refine Lib.hid ?_; refine wpList_load_mid rfl 28 (.tmp 4) rfl w.heap.size 0 rfl (scL s) _ HI2.out.sa.all Try.underlying28 rfl hall.out ?_)
      refine HP.out.mono ?_
      rintro e w3 ⟨rfl, hb⟩
      have HI3 := Lib.hid (HI2.out.up hb)
      clear hb HP HI2
      obtain ⟨X3, hX3⟩ : ∃ V, w3.alloc (.cells (mC mm) 25) = V := ⟨_, rfl⟩
      have hb3 : Below w3.heap.size w3 X3 := by rw [← hX3]; exact (Below.refl _ w3).alloc (Nat.le_refl _) _
      have R9 := Lib.hid (show RowAt 25 w3.heap.size (mC mm) X3 by rw [← hX3]; exact RowAt.new _ _ _)
      have HI3b := Lib.hid (HI3.out.up hb3)
      have HX3 := Lib.hid hX3
      clear hb3 hX3 HI3
      go_wp2_with (first | (rw [HX3.out]) | (refine wpList_store_new rfl 25 (.tmp 9) (.tmp 37) rfl w3.heap.size _ _ (mC mm) rfl rfl rfl hUA.out hUL.out (mC_one _) ?_) | (with_reducible refine stop_at (some 40) rfl ?_; refine Lib.hid ?_; refine wpList_load_mid rfl 28 (.tmp 4) rfl w.heap.size 0 rfl (scL s) _ HI3b.out.sa.all Try.underlying28 rfl hall.out ?_))
      clear HX3
      obtain ⟨b9, hb9⟩ : ∃ b, w3.heap.size = b := ⟨_, rfl⟩
      rw [hb9] at R9 ⊢
      clear hb9
      refine (HQ.out _ HI3b.out).mono ?_
      rintro e w4 ⟨rfl, hb⟩
      have HI4 := Lib.hid (HI3b.out.up hb)
      have R9b := Lib.hid (R9.out.below hb)
      clear hb HQ HI3b R9
      obtain ⟨X4, hX4⟩ : ∃ V, w4.alloc (.cells (mC mm) 25) = V := ⟨_, rfl⟩
      have hb4 : Below w4.heap.size w4 X4 := by rw [← hX4]; exact (Below.refl _ w4).alloc (Nat.le_refl _) _
      have R11 := Lib.hid (show RowAt 25 w4.heap.size (mC mm) X4 by rw [← hX4]; exact RowAt.new _ _ _)
      have HI4b := Lib.hid (HI4.out.up hb4)
      have R9c := Lib.hid (R9b.out.below hb4)
      have HX4 := Lib.hid hX4
      clear hb4 hX4 HI4 R9b
      have HFP := Lib.hid (pfind_any s id X4 HS.out HI4b.out.oa)
      have HFZ := Lib.hid (fun (W : World) (i : TwoS s t w W) => zfind_any s id W HS.out i.oa)
      unfold RetFind at HFP HFZ
      generalize findZ s.os id = fo at HFP HFZ
      generalize fo.isSome = fb at HFP HFZ
      generalize ((fo.getD 0 : Nat) : Int) = fz at HFP HFZ
      go_wp2_with (first | (rw [HX4.out]) | (refine wpList_store_new rfl 25 (.tmp 11) (.tmp 43) rfl w4.heap.size _ _ (mC mm) rfl rfl rfl hUA.out hUL.out (mC_one _) ?_) | (with_reducible refine stop_at (some 46) rfl ?_; refine Lib.hid ?_; refine wpList_load_mid rfl 28 (.tmp 4) rfl w.heap.size 0 rfl (scL s) _ HI4b.out.sa.all Try.underlying28 rfl hall.out ?_))
      clear HX4
      obtain ⟨b11, hb11⟩ : ∃ b, w4.heap.size = b := ⟨_, rfl⟩
      rw [hb11] at R11 ⊢
      clear hb11
      refine HFP.out.mono ?_
      rintro e w5 ⟨rfl, hb⟩
      have HI5 := Lib.hid (HI4b.out.up hb)
      have R9d := Lib.hid (R9c.out.below hb)
      have R11b := Lib.hid (R11.out.below hb)
      clear hb HFP HI4b R9c R11
      go_wp2_with (with_reducible refine stop_at (some 52) rfl ?_; refine Lib.hid ?_; refine wpList_load_mid rfl 28 (.tmp 4) rfl w.heap.size 0 rfl (scL s) _ HI5.out.sa.all Try.underlying28 rfl hall.out ?_)
      refine (HFZ.out _ HI5.out).mono ?_
      rintro e w6 ⟨rfl, hb⟩
      have HI6 := Lib.hid (HI5.out.up hb)
      have R9e := Lib.hid (R9d.out.below hb)
      have R11c := Lib.hid (R11b.out.below hb)
      clear hb HFZ HI5 R9d R11b
      have HIP := Lib.hid (pids_any s w6 HS.out HI6.out.oa (by have := HFW.out.many; omega))
      go_wp2_with (with_reducible refine stop_at (some 57) rfl ?_; refine Lib.hid ?_; refine wpList_load_mid rfl 28 (.tmp 4) rfl w.heap.size 0 rfl (scL s) _ HI6.out.sa.all Try.underlying28 rfl hall.out ?_)
      refine HIP.out.mono ?_
      rintro e w7 ⟨vi, rfl, ho, hb⟩
      have hlt : w.heap.size ≤ w6.heap.size := HI6.out.bel.size
      obtain ⟨oi, ci, hvi, _, _⟩ := ho.form
      have H7 := Lib.hid (show TlI s t mm b9 b11 vi w w7 from ⟨HI6.out.up hb, R9e.out.below hb, R11c.out.below hb, ho.base hlt⟩)
      rw [hvi] at H7
      subst hvi
      have HCT := Lib.hid (pcount_any s w7 HS.out H7.out.two.oa HFW.out)
      unfold RetCount at HCT
      clear hb ho hlt HIP HI6 R9e R11c
      go_wp2_with (with_reducible refine stop_at (some 60) rfl ?_; refine Lib.hid ?_; refine wpList_load_mid rfl 28 (.tmp 4) rfl w.heap.size 0 rfl (scL s) _ H7.out.two.sa.all Try.underlying28 rfl hall.out ?_)
      refine HCT.out.mono ?_
      rintro e w8 ⟨rfl, hb⟩
      have H8 := Lib.hid (H7.out.up hb)
      clear hb HCT H7
      obtain ⟨n, hn⟩ : ∃ n, s.os.length = n := ⟨_, rfl⟩
      have HN := Lib.hid hn
      obtain ⟨li, hli⟩ : ∃ l, (sortedIds s.os).length = l := ⟨_, rfl⟩
      have HLI := Lib.hid hli
      rw [hli] at H8 ⊢
      have hn20 : n ≤ 20 := by have := HFW.out.many; omega
      have n0 : (0 : Int) ≤ (n : Int) := by omega
      have n1 : (n : Int) ≤ 20 := by omega
      obtain ⟨sv, hsv⟩ : ∃ z, ((sumV s.os : Nat) : Int) = z := ⟨_, rfl⟩
      obtain ⟨sw, hsw⟩ : ∃ z, ((sumT s.os : Nat) : Int) = z := ⟨_, rfl⟩
      have HSV := Lib.hid hsv
      have HSW := Lib.hid hsw
      rw [hsv, hsw]
      have c18 : w8.cell? ⟨w.heap.size, 18, none⟩ = some (.slice s.oo n s.oc) := by rw [H8.out.two.sa.c18 HS.out, hn]
      clear hn hli hsv hsw
      go_wp2_with fail
      go_loopg [18, 19, 20, 67] n (TcRel s t mm b9 b11 (.slice oi li ci) w n)
      case atStart => exact ⟨0, rfl, rfl, by omega, by rw [HSV.out]; simp [sumV], by rw [HSW.out]; simp [sumT], H8.out⟩
      case round =>
        clear H8 c18
        obtain ⟨j, hg, rfl, hj, rfl, rfl, hi⟩ := hrel
        subst hg
        have H9 := Lib.hid hi
        have c18 : wr.cell? ⟨w.heap.size, 18, none⟩ = some (.slice s.oo n s.oc) := by rw [hi.two.sa.c18 HS.out, HN.out]
        have j0 : (0 : Int) ≤ (j : Int) := by omega
        by_cases hjn : j < n
        · have t1 : (j : Int) < (n : Int) := by omega
          obtain ⟨x, hx⟩ : ∃ x, s.os[j]? = some x := ⟨_, List.getElem?_eq_getElem (by rw [HN.out]; exact hjn)⟩
          obtain ⟨b, off, e, hat⟩ := hi.two.oa j x hx
          rw [e] at c18
          have d17 := hat.c17
          have d18 := hat.c18
          have hfx := HFW.out.each x (List.mem_of_getElem? hx)
          have hsm := HFW.out.sums j (by rw [HN.out]; omega)
          have hsa := HFW.out.sums s.os.length (Nat.le_refl _)
          rw [List.take_length] at hsa
          have HSN1 := Lib.hid (sumV_snoc hx)
          have HSN2 := Lib.hid (sumT_snoc hx)
          have hvc := hat.wf.vcap.1
          have htc := hat.wf.tcap.1
          obtain ⟨m1, hm1⟩ : ∃ m, x.vs.length = m := ⟨_, rfl⟩
          obtain ⟨m2, hm2⟩ : ∃ m, x.ts.length = m := ⟨_, rfl⟩
          rw [hm1] at d17 hvc HSN1 hfx
          rw [hm2] at d18 htc HSN2 hfx
          obtain ⟨z1, hz1⟩ : ∃ z, (sumV s.os : Int) - (sumV (s.os.take j) : Int) = z := ⟨_, rfl⟩
          obtain ⟨z2, hz2⟩ : ∃ z, (sumT s.os : Int) - (sumT (s.os.take j) : Int) = z := ⟨_, rfl⟩
          have HZ1 := Lib.hid (show (sumV s.os : Int) - (sumV (s.os.take (j + 1)) : Int) = z1 - (m1 : Int) by rw [HSN1.out]; omega)
          have HZ2 := Lib.hid (show (sumT s.os : Int) - (sumT (s.os.take (j + 1)) : Int) = z2 - (m2 : Int) by rw [HSN2.out]; omega)
          rw [HN.out] at hsa
          have q1 : -10000 ≤ z1 := by omega
          have q2 : z1 ≤ 10000 := by omega
          have q3 : -10000 ≤ z2 := by omega
          have q4 : z2 ≤ 10000 := by omega
          have p1 : (m1 : Int) ≤ 80 := by omega
          have p2 : (m2 : Int) ≤ 80 := by omega
          have p3 : (0 : Int) ≤ (m1 : Int) := by omega
          have p4 : (0 : Int) ≤ (m2 : Int) := by omega
          rw [hz1, hz2]
          clear hi hx hat e hfx hsm hsa hm1 hm2 hz1 hz2 hvc htc
          go_wp2_with fail
          go_roundg (n - (j + 1))
          case measure => omega
          case rel => exact ⟨j + 1, rfl, by go_num, by omega, by rw [HZ1.out], by rw [HZ2.out], H9.out⟩
        · obtain rfl : j = n := by omega
          have t1 : ¬ (j : Int) < (j : Int) := by omega
          have e1 : (sumV s.os : Int) - (sumV (s.os.take j) : Int) = 0 := by rw [← HN.out, List.take_length]; omega
          have e2 : (sumT s.os : Int) - (sumT (s.os.take j) : Int) = 0 := by rw [← HN.out, List.take_length]; omega
          rw [e1, e2]
          have HCP := Lib.hid (pcopy_any s wr HS.out hi.two.oa (by have := HFW.out.many; omega) (fun x hx => by have := HFW.out.each x hx; omega))
          clear e1 e2 hi c18
          go_wp2_with (with_reducible refine stop_at (some 89) rfl ?_; refine Lib.hid ?_; refine wpList_load_mid rfl 28 (.tmp 4) rfl w.heap.size 0 rfl (scL s) _ H9.out.two.sa.all Try.underlying28 rfl hall.out ?_)
          refine HCP.out.mono ?_
          rintro e w9 ⟨c, rfl, hsc, hfr, hb⟩
          have H10 := Lib.hid (H9.out.up hb)
          have HB9 : Hid (wr.heap.size ≤ w9.heap.size) := Lib.hid hb.size
          have HBW9 := Lib.hid hb
          have HFR := Lib.hid hfr
          have HSC := Lib.hid hsc
          have hcl : c.os.length = j := by
            have := congrArg List.length hsc.2.2.2
            simp only [List.length_map] at this
            rw [this, HN.out]
          have HCL := Lib.hid hcl
          obtain ⟨X9, hX9⟩ : ∃ V, w9.alloc (.cells (scC c) 28) = V := ⟨_, rfl⟩
          have hb9 : Below w9.heap.size w9 X9 := by rw [← hX9]; exact (Below.refl _ w9).alloc (Nat.le_refl _) _
          have RC : Hid (ScAt w9.heap.size c X9) := Lib.hid (by rw [← hX9]; exact ScAt.new w9 c)
          have H11 := Lib.hid (H10.out.up hb9)
          have HBX9 := Lib.hid (bnext HBW9.out hb9)
          have HFRb : Hid (FreshS wr.heap.size c X9) := Lib.hid ⟨hfr.wf, hfr.objs.rows (Rows.of_below hb9), fun x hx => (hfr.each x hx).rows (Rows.of_below hb9) (Rows.of_below hb9)⟩
          have hallc := Lib.hid (sizeS hfr.wf)
          have hone := Lib.hid (twL_one c (.slice c.oo c.os.length c.oc) rfl)
          have hsz := Lib.hid (sizeZ c hfr.wf (.slice c.oo c.os.length c.oc))
          have hl19 := Lib.hid (show 19 = (scC c).size from (twL_len hfr.wf (.slice c.oo c.os.length c.oc)).symm)
          have HSM := Lib.hid (zsame_any c s X9 hfr.wf HS.out HFRb.out.at H11.out.two.oa)
          rw [decide_eq_true hsc] at HSM
          have HX9 := Lib.hid hX9
          clear hb hb9 hX9 hfr hsc HCP H10 HFR hcl HBW9
          go_wp2_with (first | (rw [HX9.out]) | (refine wpList_store_new rfl 28 (.tmp 21) (.tmp 90) rfl w9.heap.size _ _ (scC c) rfl rfl rfl hsz.out hl19.out hone.out ?_) | (with_reducible refine stop_at (some 91) rfl ?_; refine Lib.hid ?_; refine wpList_load_mid rfl 28 (.tmp 21) rfl w9.heap.size 0 rfl (scL c) _ RC.out.all Try.underlying28 rfl hallc.out ?_) | (with_reducible refine stop_at (some 92) rfl ?_; refine Lib.hid ?_; refine wpList_load_mid rfl 28 (.tmp 4) rfl w.heap.size 0 rfl (scL s) _ H11.out.two.sa.all Try.underlying28 rfl hall.out ?_))
          clear HX9
          obtain ⟨bc, hbc⟩ : ∃ b, w9.heap.size = b := ⟨_, rfl⟩
          rw [hbc] at RC HB9 ⊢
          clear hbc
          refine HSM.out.mono ?_
          rintro e w10 ⟨rfl, hb⟩
          have HB10 := Lib.hid (bnext HBX9.out hb)
          have hfrc : FreshS wr.heap.size c w10 := ⟨HFRb.out.wf, HFRb.out.objs.rows (Rows.of_below hb), fun x hx => (HFRb.out.each x hx).rows (Rows.of_below hb) (Rows.of_below hb)⟩
          have hrcb := RC.out.below hb
          have HSP : Hid (SpI wr.heap.size bc c w10 w10) := Lib.hid (SpI.new (Nat.le_refl _) hfrc (Below.refl _ _) HB9.out hrcb)
          have HCW := Lib.hid hfrc.wf
          have HCE := Lib.hid (fun x hx => (hfrc.each x hx).wf)
          have c18 : w10.cell? ⟨bc, 18, none⟩ = some (.slice c.oo j c.oc) := by rw [hrcb.c18 HCW.out, HCL.out]
          clear hb hfrc hrcb HSM H11 HFRb HBX9 HB9 RC
          generalize wr = U at H9 HB10 HSP
          go_wp2_with fail
          go_loopg [23, 24, 97, 116] j (TsRel U.heap.size bc c w10 j)
          case atStart => exact ⟨0, rfl, rfl, by omega, HSP.out⟩
          case round =>
            clear HSP c18
            obtain ⟨i, hg, rfl, hi, hsp⟩ := hrel
            subst hg
            have HP := Lib.hid hsp
            have i0 : (0 : Int) ≤ (i : Int) := by omega
            have c18 : wr.cell? ⟨bc, 18, none⟩ = some (.slice c.oo j c.oc) := by rw [(show ScAt bc c wr from hsp.box).c18 HCW.out, HCL.out]
            by_cases hij : i < j
            · have t2 : (i : Int) < (j : Int) := by omega
              obtain ⟨x, hx⟩ : ∃ x, c.os[i]? = some x := ⟨_, List.getElem?_eq_getElem (by rw [HCL.out]; exact hij)⟩
              obtain ⟨g, off, e, hg1, hg2, hint, h17, h18⟩ := hsp.id i x hx
              have HPUT := Lib.hid (hsp.put hg1 hg2 hint)
              have EO := Lib.hid e
              have HXA := Lib.hid hx
              have hvc := (HCE.out x (List.mem_of_getElem? hx)).vcap.1
              obtain ⟨m, hm⟩ : ∃ m, x.vs.length = m := ⟨_, rfl⟩
              have HM := Lib.hid hm
              have q18 : ∀ z, (wr.setCell ⟨g, off + i * 19, none⟩ (.int .i64 z)).cell? ⟨bc, 18, none⟩ = some (.slice (some ⟨g, off, none⟩) j c.oc) := fun z => slice_put (by rw [c18, e]) hint z
              have q17 : ∀ z, (wr.setCell ⟨g, off + i * 19, none⟩ (.int .i64 z)).cell? ⟨g, off + i * 19 + 17, none⟩ = some (.slice x.vo m x.vc) := fun z => slice_put (by rw [h17, hm]) hint z
              obtain ⟨⟨⟨z, hz⟩, hl⟩, hf⟩ := hint
              rw [e] at c18
              have m0 : (0 : Int) ≤ (m : Int) := by omega
              have m3 : (m : Int) ≤ 9223372036854775807 := by omega
              clear hx hsp h17 h18 hvc hm e hg1 hg2 hl
              go_wp2_with fail
              go_loopg [24, 116] m (TnRel U.heap.size bc c w10 m)
              case atStart => exact ⟨0, rfl, rfl, by omega, HPUT.out _⟩
              case round =>
                clear HPUT c18 q18 q17 hz hf HP
                obtain ⟨l, hg, rfl, hl, hsp⟩ := hrel
                subst hg
                have HP := Lib.hid hsp
                have l0 : (0 : Int) ≤ (l : Int) := by omega
                obtain ⟨g', off', e', _, _, _, h17, _⟩ := hsp.id i x HXA.out
                have eo := EO.out
                rw [e'] at eo
                cases eo
                have c18 : wr.cell? ⟨bc, 18, none⟩ = some (.slice (some ⟨g, off, none⟩) j c.oc) := by rw [(show ScAt bc c wr from hsp.box).c18 HCW.out, HCL.out, e']
                rw [HM.out] at h17
                clear e'
                by_cases hlm : l < m
                · have t3 : (l : Int) < (m : Int) := by omega
                  obtain ⟨g2, off2, e2, hg1, hg2, hint⟩ := hsp.vs x (List.mem_of_getElem? HXA.out) l (by rw [HM.out]; exact hlm)
                  have HIN := Lib.hid hint
                  have HG1 := Lib.hid hg1
                  have HG2 := Lib.hid hg2
                  obtain ⟨⟨⟨z2, hz2⟩, hl2⟩, hf2⟩ := hint
                  rw [e2] at h17
                  clear e2 hsp hg1 hg2 hl2
                  go_wp2_with fail
                  generalize wr = V at HP HIN c18 h17 hz2 hf2 ⊢
                  rename_i K5 hK5
                  refine (wpIn_wide (n := 5)).1 ?_
                  refine heldz_region (S := fun X => X.cell? ⟨bc, 18, none⟩ = some (.slice (some ⟨g, off, none⟩) j c.oc) ∧ X.cell? ⟨g, off + i * 19 + 17, none⟩ = some (.slice (some ⟨g2, off2, none⟩) m x.vc) ∧ X.cell? ⟨g2, off2 + l * 3, none⟩ = some (.int .i64 z2)) (Z := [13]) (by kernel_rfl) ?_
                  refine heldz_take (fun _ => trivial) [13] 0 (?_) (by kernel_rfl) rfl (by kernel_rfl) (fun _ _ _ h => h) ⟨c18, h17, hz2⟩ (by kernel_rfl) ?_ ?_
                  rotate_left
                  · intro wz hSw; (first | (go_simp; done) | (go_simp; with_reducible rfl))
                  (try simp only [Act.put, List.getElem_toArray, List.getElem_cons_zero, List.getElem_cons_succ, List.setIfInBounds_toArray, List.set_cons_zero, List.set_cons_succ])
                  refine heldz_take (fun _ => trivial) [13] 1 (.slice (some ⟨g, off, none⟩) j c.oc) (by kernel_rfl) rfl (by kernel_rfl) (fun _ _ _ h => h) ⟨c18, h17, hz2⟩ (by kernel_rfl) ?_ ?_
                  · intro wz hSw; obtain ⟨q1, q2, q3⟩ := hSw; (first | (go_simp; done) | (go_simp; with_reducible rfl))
                  (try simp only [Act.put, List.getElem_toArray, List.getElem_cons_zero, List.getElem_cons_succ, List.setIfInBounds_toArray, List.set_cons_zero, List.set_cons_succ])
                  refine heldz_take (fun _ => trivial) [13] 2 (?_) (by kernel_rfl) rfl (by kernel_rfl) (fun _ _ _ h => h) ⟨c18, h17, hz2⟩ (by kernel_rfl) ?_ ?_
                  rotate_left
                  · intro wz hSw; (first | (go_simp; done) | (go_simp; with_reducible rfl))
                  (try simp only [Act.put, List.getElem_toArray, List.getElem_cons_zero, List.getElem_cons_succ, List.setIfInBounds_toArray, List.set_cons_zero, List.set_cons_succ])
                  refine heldz_take (fun _ => trivial) [13] 3 (.pointer (some ⟨g, off + i * 19, none⟩)) (by kernel_rfl) rfl (by kernel_rfl) (fun _ _ _ h => h) ⟨c18, h17, hz2⟩ (by kernel_rfl) ?_ ?_
                  · intro wz hSw; (first | (go_simp; done) | (go_simp; with_reducible rfl))
                  (try simp only [Act.put, List.getElem_toArray, List.getElem_cons_zero, List.getElem_cons_succ, List.setIfInBounds_toArray, List.set_cons_zero, List.set_cons_succ])
                  refine heldz_take (fun _ => trivial) [13] 4 (.pointer (some ⟨g, off + i * 19 + 17, none⟩)) (by kernel_rfl) rfl (by kernel_rfl) (fun _ _ _ h => h) ⟨c18, h17, hz2⟩ (by kernel_rfl) ?_ ?_
                  · intro wz hSw; (first | (go_simp; done) | (go_simp; with_reducible rfl))
                  (try simp only [Act.put, List.getElem_toArray, List.getElem_cons_zero, List.getElem_cons_succ, List.setIfInBounds_toArray, List.set_cons_zero, List.set_cons_succ])
                  refine heldz_take (fun _ => trivial) [13] 5 (.slice (some ⟨g2, off2, none⟩) m x.vc) (by kernel_rfl) rfl (by kernel_rfl) (fun _ _ _ h => h) ⟨c18, h17, hz2⟩ (by kernel_rfl) ?_ ?_
                  · intro wz hSw; obtain ⟨q1, q2, q3⟩ := hSw; (first | (go_simp; done) | (go_simp; with_reducible rfl))
                  (try simp only [Act.put, List.getElem_toArray, List.getElem_cons_zero, List.getElem_cons_succ, List.setIfInBounds_toArray, List.set_cons_zero, List.set_cons_succ])
                  refine heldz_take (fun _ => trivial) [13] 6 (?_) (by kernel_rfl) rfl (by kernel_rfl) (fun _ _ _ h => h) ⟨c18, h17, hz2⟩ (by kernel_rfl) ?_ ?_
                  rotate_left
                  · intro wz hSw; (first | (go_simp; done) | (go_simp; with_reducible rfl))
                  (try simp only [Act.put, List.getElem_toArray, List.getElem_cons_zero, List.getElem_cons_succ, List.setIfInBounds_toArray, List.set_cons_zero, List.set_cons_succ])
                  refine heldz_take (fun _ => trivial) [13] 7 (.pointer (some ⟨g2, off2 + l * 3, none⟩)) (by kernel_rfl) rfl (by kernel_rfl) (fun _ _ _ h => h) ⟨c18, h17, hz2⟩ (by kernel_rfl) ?_ ?_
                  · intro wz hSw; (first | (go_simp; done) | (go_simp; with_reducible rfl))
                  (try simp only [Act.put, List.getElem_toArray, List.getElem_cons_zero, List.getElem_cons_succ, List.setIfInBounds_toArray, List.set_cons_zero, List.set_cons_succ])
                  refine heldz_take (fun _ => trivial) [13] 8 (.pointer (some ⟨g2, off2 + l * 3, none⟩)) (by kernel_rfl) rfl (by kernel_rfl) (fun _ _ _ h => h) ⟨c18, h17, hz2⟩ (by kernel_rfl) ?_ ?_
                  · intro wz hSw; (first | (go_simp; done) | (go_simp; with_reducible rfl))
                  (try simp only [Act.put, List.getElem_toArray, List.getElem_cons_zero, List.getElem_cons_succ, List.setIfInBounds_toArray, List.set_cons_zero, List.set_cons_succ])
                  refine heldz_take (fun _ => trivial) [13] 9 (.int .i64 z2) (by kernel_rfl) rfl (by kernel_rfl) (fun _ _ _ h => h) ⟨c18, h17, hz2⟩ (by kernel_rfl) ?_ ?_
                  · intro wz hSw; obtain ⟨q1, q2, q3⟩ := hSw; (first | (go_simp; done) | (go_simp; with_reducible rfl))
                  (try simp only [Act.put, List.getElem_toArray, List.getElem_cons_zero, List.getElem_cons_succ, List.setIfInBounds_toArray, List.set_cons_zero, List.set_cons_succ])
                  refine heldz_take (fun _ => trivial) [13] 10 (?_) (by kernel_rfl) rfl (by kernel_rfl) (fun _ _ _ h => h) ⟨c18, h17, hz2⟩ (by kernel_rfl) ?_ ?_
                  rotate_left
                  · intro wz hSw; (first | (go_simp; done) | (go_simp; with_reducible rfl))
                  (try simp only [Act.put, List.getElem_toArray, List.getElem_cons_zero, List.getElem_cons_succ, List.setIfInBounds_toArray, List.set_cons_zero, List.set_cons_succ])
                  refine heldz_take (fun _ => trivial) [12, 13] 11 (.pointer (some ⟨g2, off2 + l * 3, none⟩)) (by kernel_rfl) rfl (by kernel_rfl) (fun _ _ _ h => h) ⟨c18, h17, hz2⟩ (by kernel_rfl) ?_ ?_
                  · intro wz hSw; (first | (go_simp; done) | (go_simp; with_reducible rfl))
                  (try simp only [Act.put, List.getElem_toArray, List.getElem_cons_zero, List.getElem_cons_succ, List.setIfInBounds_toArray, List.set_cons_zero, List.set_cons_succ])
                  refine heldz_take (fun _ => trivial) [13] 12 (.pointer (some ⟨g2, off2 + l * 3, none⟩)) (by kernel_rfl) rfl (by kernel_rfl) (fun _ _ _ h => h) ⟨c18, h17, hz2⟩ (by kernel_rfl) ?_ ?_
                  · intro wz hSw; (first | (go_simp; done) | (go_simp; with_reducible rfl))
                  (try simp only [Act.put, List.getElem_toArray, List.getElem_cons_zero, List.getElem_cons_succ, List.setIfInBounds_toArray, List.set_cons_zero, List.set_cons_succ])
                  refine heldz_step (fun _ => trivial) 13 (by kernel_rfl) rfl (fun K hK => ?_)
                  go_simp
                  refine hK.out _ _ (fun h => by cases h) ?_
                  clear hK K
                  refine heldz_done (by kernel_rfl) ?_ _
                  refine hK5 _ _ ?_
                  have HP2 : Hid (∀ u, SpI U.heap.size bc c w10 (V.drew.setCell ⟨g2, off2 + l * 3, none⟩ (.int .i64 u))) := Lib.hid (fun u => (HP.out.up' (bdrew0 _ V 1)).put HG1.out HG2.out (HIN.out.below (bdrew0 _ V 1)) u)
                  clear c18 h17 hz2 hf2 hK5 HP HIN
                  go_wp2_with fail
                  go_roundg (m - (l + 1))
                  case measure => omega
                  case rel => exact ⟨l + 1, rfl, by go_num, by omega, HP2.out _⟩
                · obtain rfl : l = m := by omega
                  have t3 : ¬ (l : Int) < (l : Int) := by omega
                  clear hsp h17 c18
                  go_wp2_with fail
                  go_roundg (j - (i + 1))
                  case measure => omega
                  case rel => exact ⟨i + 1, rfl, by go_num, by omega, HP.out⟩
            · obtain rfl : i = j := by omega
              have t2 : ¬ (i : Int) < (i : Int) := by omega
              have HF := Lib.hid (H9.out.up (HB10.out.trans hsp.below))
              clear hsp c18 HP H9 HB10 HCE HCW HCL
              have HPS := Lib.hid (fun (W : World) (i : TlI s t mm b9 b11 (.slice oi li ci) w W) => psame_any s t W HS.out HT.out i.two.oa i.two.ob)
              have HZS := Lib.hid (fun (W : World) (i : TlI s t mm b9 b11 (.slice oi li ci) w W) => zsame_any s t W HS.out HT.out i.two.oa i.two.ob)
              have HSS : Hid (∀ (W : World), TlI s t mm b9 b11 (.slice oi li ci) w W → Calls Try.prog 15 #[.agg (scC s), .agg (scC s)] W (RetBool true W)) := Lib.hid (fun W i => by
                have := psame_any s s W HS.out HS.out i.two.oa i.two.oa
                rw [decide_eq_true (show sameS s s from ⟨rfl, rfl, rfl, rfl⟩)] at this
                exact this)
              have HID := Lib.hid (fun (W : World) (i : TlI s t mm b9 b11 (.slice oi li ci) w W) => zids_any s W HS.out i.two.oa (by have := HFW.out.many; omega))
              have HII : Hid (∀ (W : World) (o2 : Option Addr) (c2 : Nat), TlI s t mm b9 b11 (.slice oi li ci) w W → IntsAt W o2 (idsZ s.os) → (idsZ s.os).length ≤ maxLen → Calls Try.prog 13 #[.slice oi li ci, .slice o2 (idsZ s.os).length c2] W (RetBool true W)) := Lib.hid (fun W o2 c2 i h2 hl2 => by
                obtain ⟨o', c', e', hi', hl'⟩ := i.own.form
                injection e' with e1 e2 e3
                subst e1
                have := zints_any (sortedIds s.os) (idsZ s.os) oi o2 ci c2 W hi' h2 hl' hl2
                rw [← e2] at this
                have he : eqI (sortedIds s.os) (idsZ s.os) = true := decide_eq_true (ids_both s.os).symm
                rw [he] at this
                exact this)
              generalize decide (sameS s t) = bst at HPS HZS
              have hbb : (bst == bst) = true := by simp
              go_wp2_with fail
              generalize wr = V at HF ⊢
              rename_i K5 hK5
              refine (wpIn_wide (n := 5)).1 (give_region (S := fun X => TlI s t mm b9 b11 (.slice oi li ci) w X) (Z := []) (by kernel_rfl) (by kernel_rfl) (fun _ _ h hb => TlI.up hb h) (fun d _ _ _ _ h => by cases d <;> exact h) (HF.out.up (bdrew0 _ _ 1)) (fun hG vw0 hw0 => ?_))
              refine give_pure [] 0 (.agg (mC mm)) hG rfl (by kernel_rfl) hw0 (by kernel_rfl) ?_ ?_
              · intro wz hSw; exact exec_load_row 25 (.tmp 9) (by kernel_rfl) b9 (by kernel_rfl) _ _ _ _ hSw.r9 Try.underlying25 (by kernel_rfl) hUA.out
              intro vw1 hw1
              clear hw0 vw0
              (try simp only [Act.put, List.getElem_toArray, List.getElem_cons_zero, List.getElem_cons_succ, List.setIfInBounds_toArray, List.set_cons_zero, List.set_cons_succ])
              refine give_pure [] 1 (.agg (mC mm)) hG rfl (by kernel_rfl) hw1 (by kernel_rfl) ?_ ?_
              · intro wz hSw; exact exec_load_row 25 (.tmp 11) (by kernel_rfl) b11 (by kernel_rfl) _ _ _ _ hSw.r11 Try.underlying25 (by kernel_rfl) hUA.out
              intro vw2 hw2
              clear hw1 vw1
              (try simp only [Act.put, List.getElem_toArray, List.getElem_cons_zero, List.getElem_cons_succ, List.setIfInBounds_toArray, List.set_cons_zero, List.set_cons_succ])
              refine give_pure [] 2 (.bool true) hG rfl (by kernel_rfl) hw2 (by kernel_rfl) ?_ ?_
              · intro wz hSw; have heq := HEQ.out; (first | (go_simp; done) | (go_simp; with_reducible rfl))
              intro vw3 hw3
              clear hw2 vw2
              (try simp only [Act.put, List.getElem_toArray, List.getElem_cons_zero, List.getElem_cons_succ, List.setIfInBounds_toArray, List.set_cons_zero, List.set_cons_succ])
              refine give_pure [] 3 (?_) hG rfl (by kernel_rfl) hw3 (by kernel_rfl) ?_ ?_
              rotate_left
              · intro wz hSw; (first | (go_simp; done) | (go_simp; with_reducible rfl))
              intro vw4 hw4
              clear hw3 vw3
              (try simp only [Act.put, List.getElem_toArray, List.getElem_cons_zero, List.getElem_cons_succ, List.setIfInBounds_toArray, List.set_cons_zero, List.set_cons_succ])
              refine give_pure [] 4 (?_) hG rfl (by kernel_rfl) hw4 (by kernel_rfl) ?_ ?_
              rotate_left
              · intro wz hSw; (first | (go_simp; done) | (go_simp; with_reducible rfl))
              intro vw5 hw5
              clear hw4 vw4
              (try simp only [Act.put, List.getElem_toArray, List.getElem_cons_zero, List.getElem_cons_succ, List.setIfInBounds_toArray, List.set_cons_zero, List.set_cons_succ])
              refine give_pure [] 5 (?_) hG rfl (by kernel_rfl) hw5 (by kernel_rfl) ?_ ?_
              rotate_left
              · intro wz hSw; (first | (go_simp; done) | (go_simp; with_reducible rfl))
              intro vw6 hw6
              clear hw5 vw5
              (try simp only [Act.put, List.getElem_toArray, List.getElem_cons_zero, List.getElem_cons_succ, List.setIfInBounds_toArray, List.set_cons_zero, List.set_cons_succ])
              refine give_pure [] 6 (?_) hG rfl (by kernel_rfl) hw6 (by kernel_rfl) ?_ ?_
              rotate_left
              · intro wz hSw; (first | (go_simp; done) | (go_simp; with_reducible rfl))
              intro vw7 hw7
              clear hw6 vw6
              (try simp only [Act.put, List.getElem_toArray, List.getElem_cons_zero, List.getElem_cons_succ, List.setIfInBounds_toArray, List.set_cons_zero, List.set_cons_succ])
              refine give_pure [] 7 (?_) hG rfl (by kernel_rfl) hw7 (by kernel_rfl) ?_ ?_
              rotate_left
              · intro wz hSw; (first | (go_simp; done) | (go_simp; with_reducible rfl))
              intro vw8 hw8
              clear hw7 vw7
              (try simp only [Act.put, List.getElem_toArray, List.getElem_cons_zero, List.getElem_cons_succ, List.setIfInBounds_toArray, List.set_cons_zero, List.set_cons_succ])
              refine give_pure [] 8 (?_) hG rfl (by kernel_rfl) hw8 (by kernel_rfl) ?_ ?_
              rotate_left
              · intro wz hSw; (first | (go_simp; done) | (go_simp; with_reducible rfl))
              intro vw9 hw9
              clear hw8 vw8
              (try simp only [Act.put, List.getElem_toArray, List.getElem_cons_zero, List.getElem_cons_succ, List.setIfInBounds_toArray, List.set_cons_zero, List.set_cons_succ])
              refine give_pure [] 9 (?_) hG rfl (by kernel_rfl) hw9 (by kernel_rfl) ?_ ?_
              rotate_left
              · intro wz hSw; (first | (go_simp; done) | (go_simp; with_reducible rfl))
              intro vw10 hw10
              clear hw9 vw9
              (try simp only [Act.put, List.getElem_toArray, List.getElem_cons_zero, List.getElem_cons_succ, List.setIfInBounds_toArray, List.set_cons_zero, List.set_cons_succ])
              refine give_pure [] 10 (?_) hG rfl (by kernel_rfl) hw10 (by kernel_rfl) ?_ ?_
              rotate_left
              · intro wz hSw; (first | (go_simp; done) | (go_simp; with_reducible rfl))
              intro vw11 hw11
              clear hw10 vw10
              (try simp only [Act.put, List.getElem_toArray, List.getElem_cons_zero, List.getElem_cons_succ, List.setIfInBounds_toArray, List.set_cons_zero, List.set_cons_succ])
              refine give_pure [] 11 (?_) hG rfl (by kernel_rfl) hw11 (by kernel_rfl) ?_ ?_
              rotate_left
              · intro wz hSw; (first | (go_simp; done) | (go_simp; with_reducible rfl))
              intro vw12 hw12
              clear hw11 vw11
              (try simp only [Act.put, List.getElem_toArray, List.getElem_cons_zero, List.getElem_cons_succ, List.setIfInBounds_toArray, List.set_cons_zero, List.set_cons_succ])
              refine give_pure [] 12 (?_) hG rfl (by kernel_rfl) hw12 (by kernel_rfl) ?_ ?_
              rotate_left
              · intro wz hSw; (first | (go_simp; done) | (go_simp; with_reducible rfl))
              intro vw13 hw13
              clear hw12 vw12
              (try simp only [Act.put, List.getElem_toArray, List.getElem_cons_zero, List.getElem_cons_succ, List.setIfInBounds_toArray, List.set_cons_zero, List.set_cons_succ])
              refine give_pure [] 13 (?_) hG rfl (by kernel_rfl) hw13 (by kernel_rfl) ?_ ?_
              rotate_left
              · intro wz hSw; (first | (go_simp; done) | (go_simp; with_reducible rfl))
              intro vw14 hw14
              clear hw13 vw13
              (try simp only [Act.put, List.getElem_toArray, List.getElem_cons_zero, List.getElem_cons_succ, List.setIfInBounds_toArray, List.set_cons_zero, List.set_cons_succ])
              refine give_pure [] 14 (?_) hG rfl (by kernel_rfl) hw14 (by kernel_rfl) ?_ ?_
              rotate_left
              · intro wz hSw; (first | (go_simp; done) | (go_simp; with_reducible rfl))
              intro vw15 hw15
              clear hw14 vw14
              (try simp only [Act.put, List.getElem_toArray, List.getElem_cons_zero, List.getElem_cons_succ, List.setIfInBounds_toArray, List.set_cons_zero, List.set_cons_succ])
              refine give_pure [] 15 (?_) hG rfl (by kernel_rfl) hw15 (by kernel_rfl) ?_ ?_
              rotate_left
              · intro wz hSw; (first | (go_simp; done) | (go_simp; with_reducible rfl))
              intro vw16 hw16
              clear hw15 vw15
              (try simp only [Act.put, List.getElem_toArray, List.getElem_cons_zero, List.getElem_cons_succ, List.setIfInBounds_toArray, List.set_cons_zero, List.set_cons_succ])
              refine give_pure [] 16 (?_) hG rfl (by kernel_rfl) hw16 (by kernel_rfl) ?_ ?_
              rotate_left
              · intro wz hSw; (first | (go_simp; done) | (go_simp; with_reducible rfl))
              intro vw17 hw17
              clear hw16 vw16
              (try simp only [Act.put, List.getElem_toArray, List.getElem_cons_zero, List.getElem_cons_succ, List.setIfInBounds_toArray, List.set_cons_zero, List.set_cons_succ])
              refine give_pure [] 17 (?_) hG rfl (by kernel_rfl) hw17 (by kernel_rfl) ?_ ?_
              rotate_left
              · intro wz hSw; (first | (go_simp; done) | (go_simp; with_reducible rfl))
              intro vw18 hw18
              clear hw17 vw17
              (try simp only [Act.put, List.getElem_toArray, List.getElem_cons_zero, List.getElem_cons_succ, List.setIfInBounds_toArray, List.set_cons_zero, List.set_cons_succ])
              refine give_pure [] 18 (?_) hG rfl (by kernel_rfl) hw18 (by kernel_rfl) ?_ ?_
              rotate_left
              · intro wz hSw; (first | (go_simp; done) | (go_simp; with_reducible rfl))
              intro vw19 hw19
              clear hw18 vw18
              (try simp only [Act.put, List.getElem_toArray, List.getElem_cons_zero, List.getElem_cons_succ, List.setIfInBounds_toArray, List.set_cons_zero, List.set_cons_succ])
              refine give_pure [] 19 (?_) hG rfl (by kernel_rfl) hw19 (by kernel_rfl) ?_ ?_
              rotate_left
              · intro wz hSw; (first | (go_simp; done) | (go_simp; with_reducible rfl))
              intro vw20 hw20
              clear hw19 vw19
              (try simp only [Act.put, List.getElem_toArray, List.getElem_cons_zero, List.getElem_cons_succ, List.setIfInBounds_toArray, List.set_cons_zero, List.set_cons_succ])
              refine give_pure [] 20 (.agg (scC s)) hG rfl (by kernel_rfl) hw20 (by kernel_rfl) ?_ ?_
              · intro wz hSw; exact exec_load_mid 28 (.tmp 4) (by kernel_rfl) w.heap.size 0 (by kernel_rfl) (scL s) _ hSw.two.sa.all Try.underlying28 (by kernel_rfl) hall.out
              intro vw21 hw21
              clear hw20 vw20
              (try simp only [Act.put, List.getElem_toArray, List.getElem_cons_zero, List.getElem_cons_succ, List.setIfInBounds_toArray, List.set_cons_zero, List.set_cons_succ])
              refine give_step 21 (by kernel_rfl) rfl (fun K hK => ?_)
              rw [if_pos (by kernel_rfl)]
              refine wpIn_call_any 14 #[.agg (scC s)] (by first | (go_simp; done) | (go_simp; with_reducible rfl)) _ _ _ rfl (HID.out _ hw21) (fun e w' hp => ?_)
              obtain ⟨v2, rfl, ho2, hb2⟩ := hp
              obtain ⟨o2, c2, rfl, hia, hla⟩ := ho2.form
              have T21 := TlI.up hb2 hw21
              refine ⟨_, rfl, hK.out _ _ (fun _ => T21) (fun n21 hbn => ?_)⟩
              have h21 := TlI.up hbn T21
              have hib := IntsAt.below hbn hia
              clear hK K T21 hb2 hbn hia ho2 hw21
              (try simp only [Act.put, List.getElem_toArray, List.getElem_cons_zero, List.getElem_cons_succ, List.setIfInBounds_toArray, List.set_cons_zero, List.set_cons_succ])
              refine give_step 22 (by kernel_rfl) rfl (fun K hK => ?_)
              rw [if_pos (by kernel_rfl)]
              refine wpIn_call_any 13 #[.slice oi li ci, .slice o2 (idsZ s.os).length c2] (by first | (go_simp; done) | (go_simp; with_reducible rfl)) _ _ _ rfl (HII.out _ o2 c2 h21 hib hla) (fun e w' hp => ?_)
              obtain ⟨rfl, hb2⟩ := hp
              have T22 := TlI.up hb2 h21
              refine ⟨_, rfl, hK.out _ _ (fun _ => T22) (fun n22 hbn => ?_)⟩
              have h22 := TlI.up hbn T22
              clear hK K T22 hb2 hbn hib hla h21
              (try simp only [Act.put, List.getElem_toArray, List.getElem_cons_zero, List.getElem_cons_succ, List.setIfInBounds_toArray, List.set_cons_zero, List.set_cons_succ])
              refine give_pure [] 23 (?_) hG rfl (by kernel_rfl) h22 (by kernel_rfl) ?_ ?_
              rotate_left
              · intro wz hSw; (first | (go_simp; done) | (go_simp; with_reducible rfl))
              intro vw22 hw22
              clear h22 n22
              (try simp only [Act.put, List.getElem_toArray, List.getElem_cons_zero, List.getElem_cons_succ, List.setIfInBounds_toArray, List.set_cons_zero, List.set_cons_succ])
              refine give_pure [] 24 (?_) hG rfl (by kernel_rfl) hw22 (by kernel_rfl) ?_ ?_
              rotate_left
              · intro wz hSw; (first | (go_simp; done) | (go_simp; with_reducible rfl))
              intro vw23 hw23
              clear hw22 vw22
              (try simp only [Act.put, List.getElem_toArray, List.getElem_cons_zero, List.getElem_cons_succ, List.setIfInBounds_toArray, List.set_cons_zero, List.set_cons_succ])
              refine give_pure [] 25 (?_) hG rfl (by kernel_rfl) hw23 (by kernel_rfl) ?_ ?_
              rotate_left
              · intro wz hSw; (first | (go_simp; done) | (go_simp; with_reducible rfl))
              intro vw24 hw24
              clear hw23 vw23
              (try simp only [Act.put, List.getElem_toArray, List.getElem_cons_zero, List.getElem_cons_succ, List.setIfInBounds_toArray, List.set_cons_zero, List.set_cons_succ])
              refine give_pure [] 26 (?_) hG rfl (by kernel_rfl) hw24 (by kernel_rfl) ?_ ?_
              rotate_left
              · intro wz hSw; (first | (go_simp; done) | (go_simp; with_reducible rfl))
              intro vw25 hw25
              clear hw24 vw24
              (try simp only [Act.put, List.getElem_toArray, List.getElem_cons_zero, List.getElem_cons_succ, List.setIfInBounds_toArray, List.set_cons_zero, List.set_cons_succ])
              refine give_pure [] 27 (?_) hG rfl (by kernel_rfl) hw25 (by kernel_rfl) ?_ ?_
              rotate_left
              · intro wz hSw; (first | (go_simp; done) | (go_simp; with_reducible rfl))
              intro vw26 hw26
              clear hw25 vw25
              (try simp only [Act.put, List.getElem_toArray, List.getElem_cons_zero, List.getElem_cons_succ, List.setIfInBounds_toArray, List.set_cons_zero, List.set_cons_succ])
              refine give_pure [] 28 (?_) hG rfl (by kernel_rfl) hw26 (by kernel_rfl) ?_ ?_
              rotate_left
              · intro wz hSw; (first | (go_simp; done) | (go_simp; with_reducible rfl))
              intro vw27 hw27
              clear hw26 vw26
              (try simp only [Act.put, List.getElem_toArray, List.getElem_cons_zero, List.getElem_cons_succ, List.setIfInBounds_toArray, List.set_cons_zero, List.set_cons_succ])
              refine give_pure [] 29 (?_) hG rfl (by kernel_rfl) hw27 (by kernel_rfl) ?_ ?_
              rotate_left
              · intro wz hSw; (first | (go_simp; done) | (go_simp; with_reducible rfl))
              intro vw28 hw28
              clear hw27 vw27
              (try simp only [Act.put, List.getElem_toArray, List.getElem_cons_zero, List.getElem_cons_succ, List.setIfInBounds_toArray, List.set_cons_zero, List.set_cons_succ])
              refine give_pure [] 30 (?_) hG rfl (by kernel_rfl) hw28 (by kernel_rfl) ?_ ?_
              rotate_left
              · intro wz hSw; (first | (go_simp; done) | (go_simp; with_reducible rfl))
              intro vw29 hw29
              clear hw28 vw28
              (try simp only [Act.put, List.getElem_toArray, List.getElem_cons_zero, List.getElem_cons_succ, List.setIfInBounds_toArray, List.set_cons_zero, List.set_cons_succ])
              refine give_pure [] 31 (?_) hG rfl (by kernel_rfl) hw29 (by kernel_rfl) ?_ ?_
              rotate_left
              · intro wz hSw; (first | (go_simp; done) | (go_simp; with_reducible rfl))
              intro vw30 hw30
              clear hw29 vw29
              (try simp only [Act.put, List.getElem_toArray, List.getElem_cons_zero, List.getElem_cons_succ, List.setIfInBounds_toArray, List.set_cons_zero, List.set_cons_succ])
              refine give_pure [] 32 (?_) hG rfl (by kernel_rfl) hw30 (by kernel_rfl) ?_ ?_
              rotate_left
              · intro wz hSw; (first | (go_simp; done) | (go_simp; with_reducible rfl))
              intro vw31 hw31
              clear hw30 vw30
              (try simp only [Act.put, List.getElem_toArray, List.getElem_cons_zero, List.getElem_cons_succ, List.setIfInBounds_toArray, List.set_cons_zero, List.set_cons_succ])
              refine give_pure [] 33 (?_) hG rfl (by kernel_rfl) hw31 (by kernel_rfl) ?_ ?_
              rotate_left
              · intro wz hSw; (first | (go_simp; done) | (go_simp; with_reducible rfl))
              intro vw32 hw32
              clear hw31 vw31
              (try simp only [Act.put, List.getElem_toArray, List.getElem_cons_zero, List.getElem_cons_succ, List.setIfInBounds_toArray, List.set_cons_zero, List.set_cons_succ])
              refine give_pure [] 34 (?_) hG rfl (by kernel_rfl) hw32 (by kernel_rfl) ?_ ?_
              rotate_left
              · intro wz hSw; (first | (go_simp; done) | (go_simp; with_reducible rfl))
              intro vw33 hw33
              clear hw32 vw32
              (try simp only [Act.put, List.getElem_toArray, List.getElem_cons_zero, List.getElem_cons_succ, List.setIfInBounds_toArray, List.set_cons_zero, List.set_cons_succ])
              refine give_pure [] 35 (?_) hG rfl (by kernel_rfl) hw33 (by kernel_rfl) ?_ ?_
              rotate_left
              · intro wz hSw; (first | (go_simp; done) | (go_simp; with_reducible rfl))
              intro vw34 hw34
              clear hw33 vw33
              (try simp only [Act.put, List.getElem_toArray, List.getElem_cons_zero, List.getElem_cons_succ, List.setIfInBounds_toArray, List.set_cons_zero, List.set_cons_succ])
              refine give_pure [] 36 (.agg (scC s)) hG rfl (by kernel_rfl) hw34 (by kernel_rfl) ?_ ?_
              · intro wz hSw; exact exec_load_mid 28 (.tmp 4) (by kernel_rfl) w.heap.size 0 (by kernel_rfl) (scL s) _ hSw.two.sa.all Try.underlying28 (by kernel_rfl) hall.out
              intro vw35 hw35
              clear hw34 vw34
              (try simp only [Act.put, List.getElem_toArray, List.getElem_cons_zero, List.getElem_cons_succ, List.setIfInBounds_toArray, List.set_cons_zero, List.set_cons_succ])
              refine give_pure [] 37 (.agg (scC t)) hG rfl (by kernel_rfl) hw35 (by kernel_rfl) ?_ ?_
              · intro wz hSw; exact exec_load_mid 28 (.tmp 5) (by kernel_rfl) (w.heap.size + 1) 0 (by kernel_rfl) (scL t) _ hSw.two.sb.all Try.underlying28 (by kernel_rfl) hallt.out
              intro vw36 hw36
              clear hw35 vw35
              (try simp only [Act.put, List.getElem_toArray, List.getElem_cons_zero, List.getElem_cons_succ, List.setIfInBounds_toArray, List.set_cons_zero, List.set_cons_succ])
              refine give_callS [] 38 15 #[.agg (scC s), .agg (scC t)] (.bool bst) hG rfl (by kernel_rfl) hw36 (by kernel_rfl) ?_ (fun W hSw => HPS.out W hSw) ?_
              · intro wz; (first | (go_simp; done) | (go_simp; with_reducible rfl))
              intro vw37 hw37
              clear hw36 vw36
              (try simp only [Act.put, List.getElem_toArray, List.getElem_cons_zero, List.getElem_cons_succ, List.setIfInBounds_toArray, List.set_cons_zero, List.set_cons_succ])
              refine give_pure [] 39 (.agg (scC s)) hG rfl (by kernel_rfl) hw37 (by kernel_rfl) ?_ ?_
              · intro wz hSw; exact exec_load_mid 28 (.tmp 4) (by kernel_rfl) w.heap.size 0 (by kernel_rfl) (scL s) _ hSw.two.sa.all Try.underlying28 (by kernel_rfl) hall.out
              intro vw38 hw38
              clear hw37 vw37
              (try simp only [Act.put, List.getElem_toArray, List.getElem_cons_zero, List.getElem_cons_succ, List.setIfInBounds_toArray, List.set_cons_zero, List.set_cons_succ])
              refine give_pure [] 40 (.agg (scC t)) hG rfl (by kernel_rfl) hw38 (by kernel_rfl) ?_ ?_
              · intro wz hSw; exact exec_load_mid 28 (.tmp 5) (by kernel_rfl) (w.heap.size + 1) 0 (by kernel_rfl) (scL t) _ hSw.two.sb.all Try.underlying28 (by kernel_rfl) hallt.out
              intro vw39 hw39
              clear hw38 vw38
              (try simp only [Act.put, List.getElem_toArray, List.getElem_cons_zero, List.getElem_cons_succ, List.setIfInBounds_toArray, List.set_cons_zero, List.set_cons_succ])
              refine give_callS [] 41 12 #[.agg (scC s), .agg (scC t)] (.bool bst) hG rfl (by kernel_rfl) hw39 (by kernel_rfl) ?_ (fun W hSw => HZS.out W hSw) ?_
              · intro wz; (first | (go_simp; done) | (go_simp; with_reducible rfl))
              intro vw40 hw40
              clear hw39 vw39
              (try simp only [Act.put, List.getElem_toArray, List.getElem_cons_zero, List.getElem_cons_succ, List.setIfInBounds_toArray, List.set_cons_zero, List.set_cons_succ])
              refine give_pure [] 42 (.bool true) hG rfl (by kernel_rfl) hw40 (by kernel_rfl) ?_ ?_
              · intro wz hSw; (first | (go_simp; done) | (go_simp; with_reducible rfl) | (cases bst <;> (go_simp; done)) | (cases bst <;> go_simp <;> with_reducible rfl))
              intro vw41 hw41
              clear hw40 vw40
              (try simp only [Act.put, List.getElem_toArray, List.getElem_cons_zero, List.getElem_cons_succ, List.setIfInBounds_toArray, List.set_cons_zero, List.set_cons_succ])
              refine give_pure [] 43 (?_) hG rfl (by kernel_rfl) hw41 (by kernel_rfl) ?_ ?_
              rotate_left
              · intro wz hSw; (first | (go_simp; done) | (go_simp; with_reducible rfl))
              intro vw42 hw42
              clear hw41 vw41
              (try simp only [Act.put, List.getElem_toArray, List.getElem_cons_zero, List.getElem_cons_succ, List.setIfInBounds_toArray, List.set_cons_zero, List.set_cons_succ])
              refine give_pure [] 44 (?_) hG rfl (by kernel_rfl) hw42 (by kernel_rfl) ?_ ?_
              rotate_left
              · intro wz hSw; (first | (go_simp; done) | (go_simp; with_reducible rfl))
              intro vw43 hw43
              clear hw42 vw42
              (try simp only [Act.put, List.getElem_toArray, List.getElem_cons_zero, List.getElem_cons_succ, List.setIfInBounds_toArray, List.set_cons_zero, List.set_cons_succ])
              refine give_pure [] 45 (.agg (scC s)) hG rfl (by kernel_rfl) hw43 (by kernel_rfl) ?_ ?_
              · intro wz hSw; exact exec_load_mid 28 (.tmp 4) (by kernel_rfl) w.heap.size 0 (by kernel_rfl) (scL s) _ hSw.two.sa.all Try.underlying28 (by kernel_rfl) hall.out
              intro vw44 hw44
              clear hw43 vw43
              (try simp only [Act.put, List.getElem_toArray, List.getElem_cons_zero, List.getElem_cons_succ, List.setIfInBounds_toArray, List.set_cons_zero, List.set_cons_succ])
              refine give_pure [] 46 (.agg (scC s)) hG rfl (by kernel_rfl) hw44 (by kernel_rfl) ?_ ?_
              · intro wz hSw; exact exec_load_mid 28 (.tmp 4) (by kernel_rfl) w.heap.size 0 (by kernel_rfl) (scL s) _ hSw.two.sa.all Try.underlying28 (by kernel_rfl) hall.out
              intro vw45 hw45
              clear hw44 vw44
              (try simp only [Act.put, List.getElem_toArray, List.getElem_cons_zero, List.getElem_cons_succ, List.setIfInBounds_toArray, List.set_cons_zero, List.set_cons_succ])
              refine give_callS [] 47 15 #[.agg (scC s), .agg (scC s)] (.bool true) hG rfl (by kernel_rfl) hw45 (by kernel_rfl) ?_ (fun W hSw => HSS.out W hSw) ?_
              · intro wz; (first | (go_simp; done) | (go_simp; with_reducible rfl))
              intro vw46 hw46
              clear hw45 vw45
              (try simp only [Act.put, List.getElem_toArray, List.getElem_cons_zero, List.getElem_cons_succ, List.setIfInBounds_toArray, List.set_cons_zero, List.set_cons_succ])
              refine give_pure [] 48 (?_) hG rfl (by kernel_rfl) hw46 (by kernel_rfl) ?_ ?_
              rotate_left
              · intro wz hSw; (first | (go_simp; done) | (go_simp; with_reducible rfl))
              intro vw47 hw47
              clear hw46 vw46
              (try simp only [Act.put, List.getElem_toArray, List.getElem_cons_zero, List.getElem_cons_succ, List.setIfInBounds_toArray, List.set_cons_zero, List.set_cons_succ])
              refine give_pure [] 49 (?_) hG rfl (by kernel_rfl) hw47 (by kernel_rfl) ?_ ?_
              rotate_left
              · intro wz hSw; (first | (go_simp; done) | (go_simp; with_reducible rfl))
              intro vw48 hw48
              clear hw47 vw47
              (try simp only [Act.put, List.getElem_toArray, List.getElem_cons_zero, List.getElem_cons_succ, List.setIfInBounds_toArray, List.set_cons_zero, List.set_cons_succ])
              refine give_done (by kernel_rfl) (?_) _
              refine hK5 _ _ ?_
              have HE := Lib.hid hw48
              clear hw48 hG hK5 HF
              go_wp2_with fail
              go_ret
              exact ⟨rfl, HE.out.two.bel⟩
end Go.Proofs.Ytbbhmhihpdmoiaa.Fx
