/- The helpers of PackNames, walked. -/
import Derived.Test.YtpbidfmijliehaaProg
import Derived.Test.YtpbidfmijliehaaDl
set_option linter.unusedVariables false
set_option linter.unusedSimpArgs false
namespace Go.Proofs.Ytpbidfmijliehaa.Fx
open Go Go.RowKit
theorem conv_own (W : World) (b : Nat) (C : Array Value) (fr : Nat × Nat) (h : W.heap[b]? = some (.cells C 5 fr)) (n c : Nat) : (convert 27 27 (.slice (some ⟨b, 0, none⟩) n c)).run Try.prog W = .ok (.slice (some ⟨b, 0, none⟩) n c) (W.freeze ⟨b, C.size, none⟩ 1) := by
  have hm : (markStringish ⟨b, 0, none⟩).run Try.prog W = .ok () (W.freeze ⟨b, C.size, none⟩ 1) := by
    unfold markStringish Go.shape Go.freeze
    simp only [Sem.run_bind]
    have : (Sem.shape b Sem.pure).run Try.prog W = .ok (some (5, C.size)) W := by
      simp [Sem.run, World.shape?, h]
    rw [this]
    rfl
  unfold convert
  simp [go_sem]
  rw [hm]
  rfl
theorem frz (W : World) (b : Nat) (C : Array Value) (t : TypeId) (fr : Nat × Nat) (h : W.heap[b]? = some (.cells C t fr)) (n : Nat) : (∃ fr', (W.freeze ⟨b, n, none⟩ 1).heap[b]? = some (.cells C t fr')) ∧ W.grownBy (W.freeze ⟨b, n, none⟩ 1) (some b) := by
  refine ⟨?_, rfl, rfl, rfl, by simp [World.freeze], fun k hk hne => ?_⟩
  · obtain ⟨lo, hi⟩ := fr
    refine ⟨if (lo == hi) = true then (n, n + 1) else (min lo n, max hi (n + 1)), ?_⟩
    simp [World.freeze, Array.getElem?_modify, h]
  · simp only [World.freeze]
    rw [if_neg (by omega)]
    simp only [Array.getElem?_modify]
    rw [if_neg (fun e => hne (by rw [e]))]
/-- bytes typed out, and handed on as a string's bytes -/
theorem mark_lit (w : World) (l : List Nat) (C : Array Value) (hC : C = bR l) : ∃ wa, (∀ n c, (convert 27 27 (.slice (some ⟨w.heap.size, 0, none⟩) n c)).run Try.prog (w.alloc (.cells C 5)) = .ok (.slice (some ⟨w.heap.size, 0, none⟩) n c) wa) ∧ Below w.heap.size w wa ∧ Bs wa (some ⟨w.heap.size, 0, none⟩) l ∧ w.heap.size < wa.heap.size := by
  have h := heap_alloc_new w (.cells C 5)
  obtain ⟨⟨fr', h1⟩, hg⟩ := frz _ _ _ _ _ h C.size
  refine ⟨_, fun n c => conv_own _ _ _ _ h n c, ((Below.refl _ w).alloc (Nat.le_refl _) _).grown hg (by simp) (fun k hk => by cases hk; exact Nat.le_refl _), ?_, by have := hg.size; simp at this; omega⟩
  subst hC
  exact Bs.row h1
set_option maxRecDepth 100000 in
set_option maxHeartbeats 1000000 in
theorem wrote_b (s : ByteArray) (L : List Nat) (hs : s = bstr L) (hL : L.length ≤ 1000) (w : World)
    (hc : Hid (∀ (B p : Nat) (v : Value) (W : World), B ≤ W.heap.size → PW B p v [] false W → Calls Try.prog 26 #[.pointer (some ⟨p, 0, none⟩)] W (WroteC B p v L W))) :
    Calls Try.prog 25 #[.string s, .func (.func 26) #[] #[]] w fun e w' => e = .returned (.bool true) ∧ Below w.heap.size w w' := by
  have HN := Lib.hid (new_writer w)
  have HL := Lib.hid hL
  clear hL
  go_enter Try.func25, Try.ntmps25
  go_wp2_with fail
  refine HN.out.mono ?_
  rintro e w1 ⟨rfl, hw1, hw1e⟩
  have hsz : w1.heap.size = w.heap.size + 1 := by rw [hw1e]; simp
  have HB1 : Hid (Below w.heap.size w w1) := Lib.hid (by rw [hw1e]; exact (Below.refl _ w).alloc (Nat.le_refl _) _)
  have HC := Lib.hid (hc.out (w.heap.size + 1) w.heap.size _ w1 (by omega) hw1)
  clear hw1 hw1e HN
  go_wp2_with fail
  refine HC.out.mono ?_
  rintro e w2 ⟨rfl, v2, hw2, t2⟩
  have HP := Lib.hid (pbytes_any (w.heap.size + 1) w.heap.size v2 L false w2 (by have := HL.out; omega) hw2)
  have HB2 : Hid (Below w.heap.size w w2) := Lib.hid ⟨t2.os.trans HB1.out.os, t2.tape.trans HB1.out.tape, t2.output.trans HB1.out.output, Nat.le_trans HB1.out.size t2.size, fun k hk => (t2.block k (by omega) (by omega) (by intro h; cases h)).trans (HB1.out.block k hk)⟩
  clear hw2 t2 HC HB1
  go_wp2_with fail
  refine HP.out.mono ?_
  rintro e w3 ⟨⟨v3, rfl, ho⟩, hb3⟩
  simp only [fl, if_true, Bool.false_eq_true, if_false] at ho ⊢
  obtain ⟨o, cap, rfl, hbs, _, _, _, _⟩ := ho.open
  have hcv := conv_bs cap rfl hbs
  rw [← hs] at hcv
  have HB3 := Lib.hid (bnext HB2.out hb3)
  clear ho hbs hb3 HB2 HP
  go_wp2_with fail
  go_ret
  exact ⟨rfl, HB3.out⟩
set_option maxRecDepth 100000 in
set_option maxHeartbeats 2000000 in
theorem names1_any (B p : Nat) (v : Value) (w : World) (hB : B ≤ w.heap.size) (hw : PW B p v [] false w) :
    Calls Try.prog 26 #[.pointer (some ⟨p, 0, none⟩)] w (WroteC B p v [0, 1, 2, 127, 128, 1] w) := by
  have HW0 := Lib.hid hw
  have HB0 := Lib.hid hB
  have HT0 := Lib.hid (Turn.refl p v w)
  clear hw hB
  go_enter Try.func26, Try.ntmps26
  have hc0 := pint_any B p (0) v [] false w HB0.out (by omega) (by omega) (by simp) HW0.out
  rw [putB_on, show putL [] _ false true = [0] from by rw [putL_on]; rfl] at hc0
  have HC0 := Lib.hid hc0
  clear hc0
  go_wp2_with fail
  refine HC0.out.mono ?_
  rintro e w1 ⟨rfl, v1, hw1, t1⟩
  have HW1 := Lib.hid hw1
  have HB1 := Lib.hid (Nat.le_trans HB0.out t1.size)
  have HT1 := Lib.hid (HT0.out.trans t1)
  clear hw1 t1 HC0 HW0 HB0 HT0
  have hc1 := pint_any B p (-1) v1 [0] false w1 HB1.out (by omega) (by omega) (by simp) HW1.out
  rw [putB_on, show putL [0] _ false true = [0, 1] from by rw [putL_on]; rfl] at hc1
  have HC1 := Lib.hid hc1
  clear hc1
  go_wp2_with fail
  refine HC1.out.mono ?_
  rintro e w2 ⟨rfl, v2, hw2, t2⟩
  have HW2 := Lib.hid hw2
  have HB2 := Lib.hid (Nat.le_trans HB1.out t2.size)
  have HT2 := Lib.hid (HT1.out.trans t2)
  clear hw2 t2 HC1 HW1 HB1 HT1
  have hc2 := pint_any B p (1) v2 [0, 1] false w2 HB2.out (by omega) (by omega) (by simp) HW2.out
  rw [putB_on, show putL [0, 1] _ false true = [0, 1, 2] from by rw [putL_on]; rfl] at hc2
  have HC2 := Lib.hid hc2
  clear hc2
  go_wp2_with fail
  refine HC2.out.mono ?_
  rintro e w3 ⟨rfl, v3, hw3, t3⟩
  have HW3 := Lib.hid hw3
  have HB3 := Lib.hid (Nat.le_trans HB2.out t3.size)
  have HT3 := Lib.hid (HT2.out.trans t3)
  clear hw3 t3 HC2 HW2 HB2 HT2
  have hc3 := pint_any B p (-64) v3 [0, 1, 2] false w3 HB3.out (by omega) (by omega) (by simp) HW3.out
  rw [putB_on, show putL [0, 1, 2] _ false true = [0, 1, 2, 127] from by rw [putL_on]; rfl] at hc3
  have HC3 := Lib.hid hc3
  clear hc3
  go_wp2_with fail
  refine HC3.out.mono ?_
  rintro e w4 ⟨rfl, v4, hw4, t4⟩
  have HW4 := Lib.hid hw4
  have HB4 := Lib.hid (Nat.le_trans HB3.out t4.size)
  have HT4 := Lib.hid (HT3.out.trans t4)
  clear hw4 t4 HC3 HW3 HB3 HT3
  have hc4 := pint_any B p (64) v4 [0, 1, 2, 127] false w4 HB4.out (by omega) (by omega) (by simp) HW4.out
  rw [putB_on, show putL [0, 1, 2, 127] _ false true = [0, 1, 2, 127, 128, 1] from by rw [putL_on]; rfl] at hc4
  have HC4 := Lib.hid hc4
  clear hc4
  go_wp2_with fail
  refine HC4.out.mono ?_
  rintro e w5 ⟨rfl, v5, hw5, t5⟩
  have HW5 := Lib.hid hw5
  have HB5 := Lib.hid (Nat.le_trans HB4.out t5.size)
  have HT5 := Lib.hid (HT4.out.trans t5)
  clear hw5 t5 HC4 HW4 HB4 HT4
  go_wp2_with fail
  go_end0
  exact ⟨rfl, v5, HW5.out, HT5.out⟩
set_option maxRecDepth 100000 in
set_option maxHeartbeats 1000000 in
theorem wrote_c (s : ByteArray) (L : List Nat) (hs : s = bstr L) (hL : L.length ≤ 1000) (w : World)
    (hc : Hid (∀ (B p : Nat) (v : Value) (W : World), B ≤ W.heap.size → PW B p v [] false W → Calls Try.prog 27 #[.pointer (some ⟨p, 0, none⟩)] W (WroteC B p v L W))) :
    Calls Try.prog 25 #[.string s, .func (.func 27) #[] #[]] w fun e w' => e = .returned (.bool true) ∧ Below w.heap.size w w' := by
  have HN := Lib.hid (new_writer w)
  have HL := Lib.hid hL
  clear hL
  go_enter Try.func25, Try.ntmps25
  go_wp2_with fail
  refine HN.out.mono ?_
  rintro e w1 ⟨rfl, hw1, hw1e⟩
  have hsz : w1.heap.size = w.heap.size + 1 := by rw [hw1e]; simp
  have HB1 : Hid (Below w.heap.size w w1) := Lib.hid (by rw [hw1e]; exact (Below.refl _ w).alloc (Nat.le_refl _) _)
  have HC := Lib.hid (hc.out (w.heap.size + 1) w.heap.size _ w1 (by omega) hw1)
  clear hw1 hw1e HN
  go_wp2_with fail
  refine HC.out.mono ?_
  rintro e w2 ⟨rfl, v2, hw2, t2⟩
  have HP := Lib.hid (pbytes_any (w.heap.size + 1) w.heap.size v2 L false w2 (by have := HL.out; omega) hw2)
  have HB2 : Hid (Below w.heap.size w w2) := Lib.hid ⟨t2.os.trans HB1.out.os, t2.tape.trans HB1.out.tape, t2.output.trans HB1.out.output, Nat.le_trans HB1.out.size t2.size, fun k hk => (t2.block k (by omega) (by omega) (by intro h; cases h)).trans (HB1.out.block k hk)⟩
  clear hw2 t2 HC HB1
  go_wp2_with fail
  refine HP.out.mono ?_
  rintro e w3 ⟨⟨v3, rfl, ho⟩, hb3⟩
  simp only [fl, if_true, Bool.false_eq_true, if_false] at ho ⊢
  obtain ⟨o, cap, rfl, hbs, _, _, _, _⟩ := ho.open
  have hcv := conv_bs cap rfl hbs
  rw [← hs] at hcv
  have HB3 := Lib.hid (bnext HB2.out hb3)
  clear ho hbs hb3 HB2 HP
  go_wp2_with fail
  go_ret
  exact ⟨rfl, HB3.out⟩
set_option maxRecDepth 100000 in
set_option maxHeartbeats 2000000 in
theorem names2_any (B p : Nat) (v : Value) (w : World) (hB : B ≤ w.heap.size) (hw : PW B p v [] false w) :
    Calls Try.prog 27 #[.pointer (some ⟨p, 0, none⟩)] w (WroteC B p v [2, 97, 98, 1, 0, 255, 255, 255, 255, 255, 255, 255, 255, 255, 1, 255, 255, 255, 255, 255, 255, 255, 255, 255, 1] w) := by
  obtain ⟨wa, hcv0, hba, hbs, hsz⟩ := mark_lit w [97, 98] #[.int .u8 97, .int .u8 98] rfl
  have hcv := hcv0 2 2
  have hct := ptext_any B p (some ⟨w.heap.size, 0, none⟩) 2 [97, 98] 5 v [] false wa (Nat.le_trans hB hba.size) (by simp) (by simp) (fun h => by cases h) hbs (fun b off e hm => by
    cases e
    exact ⟨by have := hw.lt; omega, fun h => by have := hw.own.lt _ h; omega, hsz⟩) (hw.below hba)
  rw [show mayB (([97, 98] : List Nat).length : Int) 5 = true from by decide, putB_on, show putL [] (form ([97, 98] : List Nat).length ++ [97, 98]) false true = [2, 97, 98] from by rw [putL_on]; rfl] at hct
  have HCT := Lib.hid hct
  have HTA := Lib.hid (Turn.of_below (p := p) (v := v) hba)
  have HBA := Lib.hid (Nat.le_trans hB hba.size)
  clear hct hw hB hba hbs hcv0 hsz
  go_enter Try.func27, Try.ntmps27
  go_wp2_with fail
  refine HCT.out.mono ?_
  rintro e w0 ⟨rfl, v0, hw0, t0⟩
  have HW0 := Lib.hid hw0
  have HB0 := Lib.hid (Nat.le_trans HBA.out t0.size)
  have HT0 := Lib.hid (HTA.out.trans t0)
  clear hw0 t0 HCT HTA HBA
  have hc0 := pbit_any B p true v0 [2, 97, 98] false w0 HB0.out (by simp) HW0.out
  rw [putB_on, show putL [2, 97, 98] _ false true = [2, 97, 98, 1] from by rw [putL_on]; rfl] at hc0
  have HC0 := Lib.hid hc0
  clear hc0
  go_wp2_with fail
  refine HC0.out.mono ?_
  rintro e w1 ⟨rfl, v1, hw1, t1⟩
  have HW1 := Lib.hid hw1
  have HB1 := Lib.hid (Nat.le_trans HB0.out t1.size)
  have HT1 := Lib.hid (HT0.out.trans t1)
  clear hw1 t1 HC0 HW0 HB0 HT0
  have hc1 := pbit_any B p false v1 [2, 97, 98, 1] false w1 HB1.out (by simp) HW1.out
  rw [putB_on, show putL [2, 97, 98, 1] _ false true = [2, 97, 98, 1, 0] from by rw [putL_on]; rfl] at hc1
  have HC1 := Lib.hid hc1
  clear hc1
  go_wp2_with fail
  refine HC1.out.mono ?_
  rintro e w2 ⟨rfl, v2, hw2, t2⟩
  have HW2 := Lib.hid hw2
  have HB2 := Lib.hid (Nat.le_trans HB1.out t2.size)
  have HT2 := Lib.hid (HT1.out.trans t2)
  clear hw2 t2 HC1 HW1 HB1 HT1
  have hc2 := puint_any B p 18446744073709551615 v2 [2, 97, 98, 1, 0] false w2 HB2.out (by omega) (by simp) HW2.out
  rw [putB_on, show putL [2, 97, 98, 1, 0] _ false true = [2, 97, 98, 1, 0, 255, 255, 255, 255, 255, 255, 255, 255, 255, 1] from by rw [putL_on]; rfl] at hc2
  have HC2 := Lib.hid hc2
  clear hc2
  go_wp2_with fail
  refine HC2.out.mono ?_
  rintro e w3 ⟨rfl, v3, hw3, t3⟩
  have HW3 := Lib.hid hw3
  have HB3 := Lib.hid (Nat.le_trans HB2.out t3.size)
  have HT3 := Lib.hid (HT2.out.trans t3)
  clear hw3 t3 HC2 HW2 HB2 HT2
  have hc3 := pint_any B p (-9223372036854775808) v3 [2, 97, 98, 1, 0, 255, 255, 255, 255, 255, 255, 255, 255, 255, 1] false w3 HB3.out (by omega) (by omega) (by simp) HW3.out
  rw [putB_on, show putL [2, 97, 98, 1, 0, 255, 255, 255, 255, 255, 255, 255, 255, 255, 1] _ false true = [2, 97, 98, 1, 0, 255, 255, 255, 255, 255, 255, 255, 255, 255, 1, 255, 255, 255, 255, 255, 255, 255, 255, 255, 1] from by rw [putL_on]; rfl] at hc3
  have HC3 := Lib.hid hc3
  clear hc3
  go_wp2_with fail
  refine HC3.out.mono ?_
  rintro e w4 ⟨rfl, v4, hw4, t4⟩
  have HW4 := Lib.hid hw4
  have HB4 := Lib.hid (Nat.le_trans HB3.out t4.size)
  have HT4 := Lib.hid (HT3.out.trans t4)
  clear hw4 t4 HC3 HW3 HB3 HT3
  go_wp2_with fail
  go_end0
  exact ⟨rfl, v4, HW4.out, HT4.out⟩
theorem ask3 (o : Option Addr) (c : Nat) (L : List Nat) (p : Nat) (w : World) (k : RdOk L 0) (h : PR o c L p 0 false w) (hr : rq false 18446744073709551615 (L.drop 0) = none) :
    Calls Try.prog 28 #[.pointer (some ⟨p, 0, none⟩)] w fun e w' => e = .returned undef ∧ PR o c L p 0 true w' ∧ w.grownBy w' (some p) := by
  have hc := pruint_any o c L p 0 false w k h
  rw [hr] at hc
  have HC := Lib.hid hc
  clear hc h k hr
  go_enter Try.func28, Try.ntmps28
  go_wp2_with fail
  refine HC.out.mono ?_
  rintro e w1 ⟨rfl, hz, hg⟩
  have HZ : Hid (PR o c L p 0 true w1) := Lib.hid hz
  have HG := Lib.hid hg
  clear hz hg HC
  go_wp2_with fail
  go_end0
  exact ⟨rfl, HZ.out, HG.out⟩
theorem ask4 (o : Option Addr) (c : Nat) (L : List Nat) (p : Nat) (w : World) (k : RdOk L 0) (h : PR o c L p 0 false w) (hr : rq false 1 (L.drop 0) = none) :
    Calls Try.prog 30 #[.pointer (some ⟨p, 0, none⟩)] w fun e w' => e = .returned undef ∧ PR o c L p 0 true w' ∧ w.grownBy w' (some p) := by
  have hc := prbit_any o c L p 0 false w k h
  rw [hr] at hc
  have HC := Lib.hid hc
  clear hc h k hr
  go_enter Try.func30, Try.ntmps30
  go_wp2_with fail
  refine HC.out.mono ?_
  rintro e w1 ⟨rfl, hz, hg⟩
  have HZ : Hid (PR o c L p 0 true w1) := Lib.hid hz
  have HG := Lib.hid hg
  clear hz hg HC
  go_wp2_with fail
  go_end0
  exact ⟨rfl, HZ.out, HG.out⟩
theorem ask5 (o : Option Addr) (c : Nat) (L : List Nat) (p : Nat) (w : World) (k : RdOk L 0) (h : PR o c L p 0 false w) (hr : rz false 4 (L.drop 0) = none) :
    Calls Try.prog 33 #[.pointer (some ⟨p, 0, none⟩)] w fun e w' => e = .returned undef ∧ PR o c L p 0 true w' ∧ w.grownBy w' (some p) := by
  have hc := prsmall_any o c L p 0 4 false w k (by omega) h
  rw [hr] at hc
  have HC := Lib.hid hc
  clear hc h k hr
  go_enter Try.func33, Try.ntmps33
  go_wp2_with fail
  refine HC.out.mono ?_
  rintro e w1 ⟨rfl, hz, hg⟩
  have HZ : Hid (PR o c L p 0 true w1) := Lib.hid hz
  have HG := Lib.hid hg
  clear hz hg HC
  go_wp2_with fail
  go_end0
  exact ⟨rfl, HZ.out, HG.out⟩
theorem ask6 (o : Option Addr) (c : Nat) (L : List Nat) (p : Nat) (w : World) (k : RdOk L 0) (h : PR o c L p 0 false w) (hr : txR false 9 L 0 = none) :
    Calls Try.prog 35 #[.pointer (some ⟨p, 0, none⟩)] w fun e w' => e = .returned undef ∧ PR o c L p 0 true w' ∧ w.grownBy w' (some p) := by
  have hc := prtext_any o c L p 0 9 false w k (by omega) h
  rw [hr] at hc
  have HC := Lib.hid hc
  clear hc h k hr
  go_enter Try.func35, Try.ntmps35
  go_wp2_with fail
  refine HC.out.mono ?_
  rintro e w1 ⟨⟨v, rfl, _⟩, hz, hg⟩
  have HZ : Hid (PR o c L p 0 true w1) := Lib.hid hz
  have HG := Lib.hid hg
  clear hz hg HC
  go_wp2_with fail
  go_end0
  exact ⟨rfl, HZ.out, HG.out⟩
set_option maxRecDepth 100000 in
set_option maxHeartbeats 1000000 in
theorem spoilt3 (o : Option Addr) (c : Nat) (L : List Nat) (w : World) (hc : o = none → c = 0) (hb : Bs w o L) (k : RdOk L 0)
    (ha : ∀ (o c p w), PR o c L p 0 false w → Calls Try.prog 28 #[.pointer (some ⟨p, 0, none⟩)] w fun e w' => e = .returned undef ∧ PR o c L p 0 true w' ∧ w.grownBy w' (some p)) :
    Calls Try.prog 32 #[.func (.func 28) #[] #[], .slice o L.length c] w fun e w' => e = .returned (.bool true) ∧ Below w.heap.size w w' := by
  have HN := Lib.hid (new_reader o c L w hc k.len hb)
  have HA := Lib.hid ha
  have HK := Lib.hid k
  clear hc hb ha k
  go_enter Try.func32, Try.ntmps32
  go_wp2_with fail
  refine HN.out.mono ?_
  rintro e w1 ⟨p, o2, c2, rfl, hr, hp, _, hb1⟩
  have HC := Lib.hid (HA.out o2 c2 p w1 hr)
  have HB1 := Lib.hid hb1
  have HP := Lib.hid hp
  clear hr hp hb1 HN
  go_wp2_with fail
  refine HC.out.mono ?_
  rintro e w2 ⟨rfl, hr2, hg2⟩
  have HEN := Lib.hid (pend_any o2 c2 L p 0 true w2 HK.out hr2)
  have HR2 := Lib.hid hr2
  have HB2 := Lib.hid (HB1.out.grown hg2 HB1.out.size (fun q hq => by cases hq; exact HP.out))
  clear hr2 hg2 HC HB1
  go_wp2_with fail
  refine HEN.out.mono ?_
  rintro e w3 ⟨rfl, hb3⟩
  rw [show endV true L.length 0 = 50 from rfl]
  have HL := Lib.hid (pleft_any o2 c2 L p 0 true w3 HK.out (HR2.out.below hb3))
  have HR3 := Lib.hid (HR2.out.below hb3)
  have HB3 := Lib.hid (bnext HB2.out hb3)
  clear hb3 HEN HR2 HB2
  go_wp2_with fail
  refine HL.out.mono ?_
  rintro e w4 ⟨rfl, hb4⟩
  rw [show lfV true L 0 = 0 from rfl]
  have HU := Lib.hid (pruint_any o2 c2 L p 0 true w4 HK.out (HR3.out.below hb4))
  have HB4 := Lib.hid (bnext HB3.out hb4)
  clear hb4 HL HR3 HB3
  go_wp2_with fail
  refine HU.out.mono ?_
  rintro e w5 ⟨rfl, hr5, hg5⟩
  rw [show upV (rq true 18446744073709551615 (L.drop 0)) = 0 from rfl]
  have HB5 := Lib.hid (HB4.out.grown hg5 HB4.out.size (fun q hq => by cases hq; exact HP.out))
  clear hr5 hg5 HU HB4
  go_wp2_with fail
  go_ret
  exact ⟨rfl, HB5.out⟩
set_option maxRecDepth 100000 in
set_option maxHeartbeats 1000000 in
theorem spoilt4 (o : Option Addr) (c : Nat) (L : List Nat) (w : World) (hc : o = none → c = 0) (hb : Bs w o L) (k : RdOk L 0)
    (ha : ∀ (o c p w), PR o c L p 0 false w → Calls Try.prog 30 #[.pointer (some ⟨p, 0, none⟩)] w fun e w' => e = .returned undef ∧ PR o c L p 0 true w' ∧ w.grownBy w' (some p)) :
    Calls Try.prog 32 #[.func (.func 30) #[] #[], .slice o L.length c] w fun e w' => e = .returned (.bool true) ∧ Below w.heap.size w w' := by
  have HN := Lib.hid (new_reader o c L w hc k.len hb)
  have HA := Lib.hid ha
  have HK := Lib.hid k
  clear hc hb ha k
  go_enter Try.func32, Try.ntmps32
  go_wp2_with fail
  refine HN.out.mono ?_
  rintro e w1 ⟨p, o2, c2, rfl, hr, hp, _, hb1⟩
  have HC := Lib.hid (HA.out o2 c2 p w1 hr)
  have HB1 := Lib.hid hb1
  have HP := Lib.hid hp
  clear hr hp hb1 HN
  go_wp2_with fail
  refine HC.out.mono ?_
  rintro e w2 ⟨rfl, hr2, hg2⟩
  have HEN := Lib.hid (pend_any o2 c2 L p 0 true w2 HK.out hr2)
  have HR2 := Lib.hid hr2
  have HB2 := Lib.hid (HB1.out.grown hg2 HB1.out.size (fun q hq => by cases hq; exact HP.out))
  clear hr2 hg2 HC HB1
  go_wp2_with fail
  refine HEN.out.mono ?_
  rintro e w3 ⟨rfl, hb3⟩
  rw [show endV true L.length 0 = 50 from rfl]
  have HL := Lib.hid (pleft_any o2 c2 L p 0 true w3 HK.out (HR2.out.below hb3))
  have HR3 := Lib.hid (HR2.out.below hb3)
  have HB3 := Lib.hid (bnext HB2.out hb3)
  clear hb3 HEN HR2 HB2
  go_wp2_with fail
  refine HL.out.mono ?_
  rintro e w4 ⟨rfl, hb4⟩
  rw [show lfV true L 0 = 0 from rfl]
  have HU := Lib.hid (pruint_any o2 c2 L p 0 true w4 HK.out (HR3.out.below hb4))
  have HB4 := Lib.hid (bnext HB3.out hb4)
  clear hb4 HL HR3 HB3
  go_wp2_with fail
  refine HU.out.mono ?_
  rintro e w5 ⟨rfl, hr5, hg5⟩
  rw [show upV (rq true 18446744073709551615 (L.drop 0)) = 0 from rfl]
  have HB5 := Lib.hid (HB4.out.grown hg5 HB4.out.size (fun q hq => by cases hq; exact HP.out))
  clear hr5 hg5 HU HB4
  go_wp2_with fail
  go_ret
  exact ⟨rfl, HB5.out⟩
set_option maxRecDepth 100000 in
set_option maxHeartbeats 1000000 in
theorem spoilt5 (o : Option Addr) (c : Nat) (L : List Nat) (w : World) (hc : o = none → c = 0) (hb : Bs w o L) (k : RdOk L 0)
    (ha : ∀ (o c p w), PR o c L p 0 false w → Calls Try.prog 33 #[.pointer (some ⟨p, 0, none⟩)] w fun e w' => e = .returned undef ∧ PR o c L p 0 true w' ∧ w.grownBy w' (some p)) :
    Calls Try.prog 32 #[.func (.func 33) #[] #[], .slice o L.length c] w fun e w' => e = .returned (.bool true) ∧ Below w.heap.size w w' := by
  have HN := Lib.hid (new_reader o c L w hc k.len hb)
  have HA := Lib.hid ha
  have HK := Lib.hid k
  clear hc hb ha k
  go_enter Try.func32, Try.ntmps32
  go_wp2_with fail
  refine HN.out.mono ?_
  rintro e w1 ⟨p, o2, c2, rfl, hr, hp, _, hb1⟩
  have HC := Lib.hid (HA.out o2 c2 p w1 hr)
  have HB1 := Lib.hid hb1
  have HP := Lib.hid hp
  clear hr hp hb1 HN
  go_wp2_with fail
  refine HC.out.mono ?_
  rintro e w2 ⟨rfl, hr2, hg2⟩
  have HEN := Lib.hid (pend_any o2 c2 L p 0 true w2 HK.out hr2)
  have HR2 := Lib.hid hr2
  have HB2 := Lib.hid (HB1.out.grown hg2 HB1.out.size (fun q hq => by cases hq; exact HP.out))
  clear hr2 hg2 HC HB1
  go_wp2_with fail
  refine HEN.out.mono ?_
  rintro e w3 ⟨rfl, hb3⟩
  rw [show endV true L.length 0 = 50 from rfl]
  have HL := Lib.hid (pleft_any o2 c2 L p 0 true w3 HK.out (HR2.out.below hb3))
  have HR3 := Lib.hid (HR2.out.below hb3)
  have HB3 := Lib.hid (bnext HB2.out hb3)
  clear hb3 HEN HR2 HB2
  go_wp2_with fail
  refine HL.out.mono ?_
  rintro e w4 ⟨rfl, hb4⟩
  rw [show lfV true L 0 = 0 from rfl]
  have HU := Lib.hid (pruint_any o2 c2 L p 0 true w4 HK.out (HR3.out.below hb4))
  have HB4 := Lib.hid (bnext HB3.out hb4)
  clear hb4 HL HR3 HB3
  go_wp2_with fail
  refine HU.out.mono ?_
  rintro e w5 ⟨rfl, hr5, hg5⟩
  rw [show upV (rq true 18446744073709551615 (L.drop 0)) = 0 from rfl]
  have HB5 := Lib.hid (HB4.out.grown hg5 HB4.out.size (fun q hq => by cases hq; exact HP.out))
  clear hr5 hg5 HU HB4
  go_wp2_with fail
  go_ret
  exact ⟨rfl, HB5.out⟩
set_option maxRecDepth 100000 in
set_option maxHeartbeats 1000000 in
theorem spoilt6 (o : Option Addr) (c : Nat) (L : List Nat) (w : World) (hc : o = none → c = 0) (hb : Bs w o L) (k : RdOk L 0)
    (ha : ∀ (o c p w), PR o c L p 0 false w → Calls Try.prog 35 #[.pointer (some ⟨p, 0, none⟩)] w fun e w' => e = .returned undef ∧ PR o c L p 0 true w' ∧ w.grownBy w' (some p)) :
    Calls Try.prog 32 #[.func (.func 35) #[] #[], .slice o L.length c] w fun e w' => e = .returned (.bool true) ∧ Below w.heap.size w w' := by
  have HN := Lib.hid (new_reader o c L w hc k.len hb)
  have HA := Lib.hid ha
  have HK := Lib.hid k
  clear hc hb ha k
  go_enter Try.func32, Try.ntmps32
  go_wp2_with fail
  refine HN.out.mono ?_
  rintro e w1 ⟨p, o2, c2, rfl, hr, hp, _, hb1⟩
  have HC := Lib.hid (HA.out o2 c2 p w1 hr)
  have HB1 := Lib.hid hb1
  have HP := Lib.hid hp
  clear hr hp hb1 HN
  go_wp2_with fail
  refine HC.out.mono ?_
  rintro e w2 ⟨rfl, hr2, hg2⟩
  have HEN := Lib.hid (pend_any o2 c2 L p 0 true w2 HK.out hr2)
  have HR2 := Lib.hid hr2
  have HB2 := Lib.hid (HB1.out.grown hg2 HB1.out.size (fun q hq => by cases hq; exact HP.out))
  clear hr2 hg2 HC HB1
  go_wp2_with fail
  refine HEN.out.mono ?_
  rintro e w3 ⟨rfl, hb3⟩
  rw [show endV true L.length 0 = 50 from rfl]
  have HL := Lib.hid (pleft_any o2 c2 L p 0 true w3 HK.out (HR2.out.below hb3))
  have HR3 := Lib.hid (HR2.out.below hb3)
  have HB3 := Lib.hid (bnext HB2.out hb3)
  clear hb3 HEN HR2 HB2
  go_wp2_with fail
  refine HL.out.mono ?_
  rintro e w4 ⟨rfl, hb4⟩
  rw [show lfV true L 0 = 0 from rfl]
  have HU := Lib.hid (pruint_any o2 c2 L p 0 true w4 HK.out (HR3.out.below hb4))
  have HB4 := Lib.hid (bnext HB3.out hb4)
  clear hb4 HL HR3 HB3
  go_wp2_with fail
  refine HU.out.mono ?_
  rintro e w5 ⟨rfl, hr5, hg5⟩
  rw [show upV (rq true 18446744073709551615 (L.drop 0)) = 0 from rfl]
  have HB5 := Lib.hid (HB4.out.grown hg5 HB4.out.size (fun q hq => by cases hq; exact HP.out))
  clear hr5 hg5 HU HB4
  go_wp2_with fail
  go_ret
  exact ⟨rfl, HB5.out⟩
set_option maxHeartbeats 1000000 in
theorem read7_any (o : Option Addr) (c : Nat) (l : List Nat) (p at0 : Nat) (lost : Bool) (w : World) (k : RdOk l at0) (h : PR o c l p at0 lost w) :
    Calls Try.prog 38 #[.pointer (some ⟨p, 0, none⟩)] w (PNum o c l p at0 (rq lost 18446744073709551615 (l.drop at0)) (.int .i64 (unf (upV (rq lost 18446744073709551615 (l.drop at0))))) w) := by
  have HU := Lib.hid (print_any o c l p at0 lost w k h)
  clear k h
  generalize rq lost 18446744073709551615 (l.drop at0) = r at *
  obtain ⟨z, hz⟩ : ∃ z, unf (upV r) = z := ⟨_, rfl⟩
  rw [hz] at HU ⊢
  clear hz
  go_enter Try.func38, Try.ntmps38
  go_wp2_with fail
  refine HU.out.mono ?_
  rintro e w1 ⟨rfl, hz, hg⟩
  have HZ := Lib.hid hz
  have HG := Lib.hid hg
  clear hz hg HU
  go_wp2_with fail
  go_ret
  exact ⟨rfl, HZ.out, HG.out⟩
set_option maxRecDepth 100000 in
set_option maxHeartbeats 8000000 in
theorem pmany_n (o : Option Addr) (c : Nat) (l : List Nat) (p at0 : Nat) (most : Int) (lost : Bool) (w : World) (k : RdOk l at0) (h1 : most ≤ 9223372036854775807) (h : PR o c l p at0 lost w) (hob : ∀ b off, o = some ⟨b, off, none⟩ → 0 < l.length → b < w.heap.size) :
    Calls Try.prog 37 #[.pointer (some ⟨p, 0, none⟩), .int .i64 most, .func (.func 38) #[] #[]] w (PMany o c l p (manyR lost most l at0) w) := by
  obtain ⟨i0, hi, hz0, hz1, hz2⟩ := info_parts infoI
  have hmf : ∀ (fn : Fn) (first cap : Array Value) (w : World), (Instr.makeFunc fn first cap).run Try.prog w = .ok (.func fn first cap) w := fun _ _ _ _ => rfl
  have hp := h.lt
  obtain ⟨W1, hW1⟩ : ∃ W1, (w.alloc (.cells #[.pointer (some ⟨p, 0, none⟩)] 41)).alloc (.cells #[.slice none 0 0] 58) = W1 := ⟨_, rfl⟩
  have hb1 : Below w.heap.size w W1 := by rw [← hW1]; exact ((Below.refl _ w).alloc (Nat.le_refl _) _).alloc (by simp) _
  have hs := prsmall_any o c l p at0 most lost W1 k h1 (h.below hb1)
  have hms : MS o c l p at0 lost (.slice none 0 0) [] w W1 := by
    refine ⟨?_, ?_, h.below hb1, World.ownsRow_nil _ _ _ _, below_grown hb1 (some p)⟩
    · rw [← hW1]; exact step_row (heap_alloc_new _ _)
    · rw [← hW1]
      have := heap_alloc_new (w.alloc (.cells #[.pointer (some ⟨p, 0, none⟩)] 41)) (.cells #[.slice none 0 0] 58)
      rw [World.size_alloc] at this
      exact this
  have HS := Lib.hid hs
  have HMS := Lib.hid hms
  have HK := Lib.hid k
  have HP := Lib.hid hp
  have HOB := Lib.hid hob
  have HW1 := Lib.hid hW1
  clear hs hms h hob hb1 hW1 k hp
  have hrl : ∀ q, rz lost most (l.drop at0) = some q → q.1 ≤ most.toNat ∧ at0 + q.2 ≤ l.length := fun q hr => by
    have hdl : (l.drop at0).length = l.length - at0 := by simp
    have := HK.out.at'
    unfold rz at hr
    split at hr
    · cases hr
    · have := rd_le hr
      omega
  obtain ⟨R, hR⟩ : ∃ R, rz lost most (l.drop at0) = R := ⟨_, rfl⟩
  have HMR := Lib.hid (manyR_eq lost most l at0)
  rw [hR] at HS hrl HMR
  have HRL := Lib.hid hrl
  obtain ⟨r, hr⟩ : ∃ r, manyR lost most l at0 = r := ⟨_, rfl⟩
  rw [hr] at HMR ⊢
  clear hR hrl hr
  cases R with
  | none =>
    have hrn : r = none := HMR.out
    subst hrn
    go_enter_defers Try.func37, Try.ntmps37
    go_wp2_with fail
    rw [HW1.out]
    refine HS.out.mono ?_
    rintro e w1 ⟨rfl, hr1, hg1⟩
    simp only [upV, upA, upB, Option.isNone_none] at hr1 ⊢
    have hm1 := HMS.out.read HP.out hr1 hg1
    obtain ⟨c0, c1, f1⟩ := hm1.facts
    have HFIN := Lib.hid (hm1.strike HP.out HOB.out)
    have HPOST : Hid (PMany o c l p none w (.returned (.slice none 0 0)) (w1.setCell ⟨w.heap.size + 1, 0, none⟩ (.slice none 0 0))) := Lib.hid ⟨HFIN.out.grow, fun _ => ⟨rfl, at0, HK.out.at', HFIN.out.rd⟩, fun zs a h => by cases h⟩
    clear hr1 hg1 hm1 HS HMS
    go_wp2_with fail
    go_loopg [12] 0 (fun g s12 wr => g = 0 ∧ s12 = .int .i64 0 ∧ wr = w1)
    case atStart => exact ⟨rfl, rfl, rfl⟩
    case round =>
      obtain ⟨_, rfl, rfl⟩ := hrel
      go_wp2_with fail
      refine leaves_cons (f := 64) (args := #[.pointer (some ⟨w.heap.size, 0, none⟩), .pointer (some ⟨w.heap.size + 1, 0, none⟩)]) (by simp) (by simp [go_sem]) ?_
      refine (many_idle ⟨w.heap.size, 0, none⟩ ⟨w.heap.size + 1, 0, none⟩ _).mono ?_
      rintro e u' w'' ⟨rfl, rfl, rfl⟩
      obtain ⟨_, dr, _⟩ := HFIN.out.facts
      simp only [Leaves, settle]
      refine ⟨_, (by simp [results, Try.results37, go_sem, dr]; rfl), ?_⟩
      exact HPOST.out
  | some q =>
    obtain ⟨n, j⟩ := q
    have hrm : r = mnF l n (at0 + j) := HMR.out
    obtain ⟨hnm, hal⟩ := HRL.out (n, j) rfl
    dsimp only at hnm hal
    obtain ⟨at1, hat1⟩ : ∃ at1, at0 + j = at1 := ⟨_, rfl⟩
    rw [hat1] at hrm hal
    have HRM := Lib.hid hrm
    have HAT := Lib.hid hat1
    have n0 : (0 : Int) ≤ (n : Int) := by omega
    have n9 : (n : Int) ≤ 9223372036854775807 := by omega
    clear HMR HRL hrm hnm hat1
    go_enter_defers Try.func37, Try.ntmps37
    go_wp2_with fail
    rw [HW1.out]
    refine HS.out.mono ?_
    rintro e w1 ⟨rfl, hr1, hg1⟩
    simp only [upV, upA, upB, Option.isNone_some] at hr1 ⊢
    rw [HAT.out] at hr1
    have HM1 := Lib.hid (HMS.out.read HP.out hr1 hg1)
    clear hr1 hg1 HS HMS
    go_wp2_with fail
    go_loopg [12] n (fun g s12 wr => ∃ (i a : Nat) (v : Value) (zs : List Int), g = n - i ∧ i ≤ n ∧ s12 = .int .i64 (i : Int) ∧ a ≤ l.length ∧ zs.length = i ∧ at1 + i ≤ a ∧ r = (mnF l (n - i) a).map (fun q => (zs ++ q.1, q.2)) ∧ MS o c l p a false v zs w wr)
    case atStart => exact ⟨0, at1, _, [], rfl, by omega, rfl, hal, rfl, by omega, by rw [HRM.out]; (cases mnF l (n - 0) at1 <;> rfl), HM1.out⟩
    case round =>
      clear HM1
      obtain ⟨i, a, v, zs, hgi, hi2, rfl, haa, hzs, hia, hrr, hms⟩ := hrel
      subst hgi
      obtain ⟨c0, c1, f1⟩ := hms.facts
      have HMS := Lib.hid hms
      have HRR := Lib.hid hrr
      have HZS := Lib.hid hzs
      have HK1 : Hid (RdOk l a) := Lib.hid ⟨HK.out.by', HK.out.len, haa⟩
      have i00 : (0 : Int) ≤ (i : Int) := by omega
      clear hms hrr hzs
      by_cases hin : i < n
      · have t1 : (i : Int) < (n : Int) := by omega
        have hone := read7_any o c l p a false wr HK1.out HMS.out.rd
        have hnk : n - i = (n - (i + 1)) + 1 := by omega
        have hr2 := HRR.out
        rw [hnk, mnF] at hr2
        obtain ⟨R2, hR2⟩ : ∃ R2, rq false 18446744073709551615 (l.drop a) = R2 := ⟨_, rfl⟩
        have hR3 : rd M64 (l.drop a) = R2 := hR2
        rw [hR2] at hone
        rw [hR3] at hr2
        have HONE := Lib.hid hone
        have HR2 := Lib.hid hr2
        have HR3 := Lib.hid hR3
        clear hone hnk hr2 hR2 hR3 HRR
        cases R2 with
        | none =>
          have HRN : Hid (r = none) := Lib.hid HR2.out
          go_wp2_with fail
          refine HONE.out.mono ?_
          rintro e w2 ⟨rfl, hr2, hg2⟩
          simp only [upA, upB, Option.isNone_none] at hr2
          have hm2 := HMS.out.read HP.out hr2 hg2
          obtain ⟨d0, d1, e1⟩ := hm2.facts
          obtain ⟨g0, g1, _⟩ := hm2.rd.facts
          have HF := Lib.hid (reader_fault p true true w2 g0 g1)
          have HFIN := Lib.hid (hm2.strike HP.out HOB.out)
          have HPOST : Hid (PMany o c l p r w (.returned (.slice none 0 0)) (w2.setCell ⟨w.heap.size + 1, 0, none⟩ (.slice none 0 0))) := Lib.hid ⟨HFIN.out.grow, fun _ => ⟨rfl, a, haa, HFIN.out.rd⟩, fun zs a h => by rw [HRN.out] at h; cases h⟩
          clear hr2 hg2 hm2 HONE HMS HR2 HRN c0 c1 f1 g0 g1
          obtain ⟨z, hz⟩ : ∃ z, unf (upV none) = z := ⟨_, rfl⟩
          (try rw [hz])
          clear hz
          go_wp2_with fail
          refine HF.out.mono ?_
          rintro e w3 ⟨rfl, rfl⟩
          simp only [fl, if_true]
          go_wp2_with fail
          refine leaves_cons (f := 64) (args := #[.pointer (some ⟨w.heap.size, 0, none⟩), .pointer (some ⟨w.heap.size + 1, 0, none⟩)]) (by simp) (by simp [go_sem]) ?_
          refine (many_idle ⟨w.heap.size, 0, none⟩ ⟨w.heap.size + 1, 0, none⟩ _).mono ?_
          rintro e u' w'' ⟨rfl, rfl, rfl⟩
          obtain ⟨_, dr, _⟩ := HFIN.out.facts
          simp only [Leaves, settle]
          refine ⟨_, (by simp [results, Try.results37, go_sem, dr]; rfl), ?_⟩
          exact HPOST.out
        | some q2 =>
          obtain ⟨x, jj⟩ := q2
          obtain ⟨z, hz⟩ : ∃ z, unf x = z := ⟨_, rfl⟩
          have hle := rd_le HR3.out
          have hdl : (l.drop a).length = l.length - a := by simp
          have HZ := Lib.hid hz
          have hone2 := HONE.out
          unfold PNum at hone2
          simp only [upV, upA, upB, Option.isNone_some, hz] at hone2
          have HONE2 := Lib.hid hone2
          have HLE : Hid (a + jj ≤ l.length ∧ 0 < jj) := Lib.hid (by omega)
          clear hone2 hle hdl HONE hz
          go_wp2_with fail
          refine HONE2.out.mono ?_
          rintro e w2 ⟨rfl, hr2, hg2⟩
          have hm2 := HMS.out.read HP.out hr2 hg2
          obtain ⟨g0, g1, _⟩ := hm2.rd.facts
          have HF := Lib.hid (reader_fault p true false w2 g0 g1)
          obtain ⟨ov, cv, rfl⟩ := hm2.own.open
          obtain ⟨d0, d1, e1⟩ := hm2.facts
          have HM2 := Lib.hid hm2
          have HMA := Lib.hid (hm2.alloc (.cells #[.int .i64 z] 2))
          have HSZ : Hid (w.heap.size + 2 ≤ w2.heap.size) := Lib.hid (by have := (Array.getElem?_eq_some_iff.1 hm2.res).1; omega)
          clear hr2 hg2 hm2 HONE2 HMS c0 c1 f1 g0 g1
          go_wp2_with fail
          refine HF.out.mono ?_
          rintro e w3 ⟨rfl, rfl⟩
          simp only [fl, if_true, Bool.false_eq_true, if_false]
          clear HF
          go_wp2_with (at_builtin; refine wpList_append_own _ rfl _ _ 58 rfl (w.heap.size + 2) 2 i0 (.int .i64 0) 1 8 Try.underlying58 hi hz0 hz1 hz2 rfl (by decide) (.slice ov zs.length cv) zs.length (zs.map encI) rfl HMA.out.own ⟨w2.heap.size, 0, none⟩ 1 1 [.int .i64 z] rfl rfl (cell_one_newI _ _ _) (by simp [Value.oneCell']) (by have := HZS.out; have := HK.out.len; unfold maxLen; omega) (by have := HZS.out; have := HK.out.len; omega) (by have := HSZ.out; simp; omega) ?_; intro v' w4 hown hgrow _; have ho4 : OwnI w4 (w.heap.size + 2) v' (zs ++ [z]) := (by unfold OwnI; rw [List.length_append, List.map_append]; exact hown); obtain ⟨hres4, hm4⟩ := HMA.out.app HP.out HOB.out ho4 hgrow; obtain ⟨o4, cap4, rfl⟩ := ho4.open; have q1 : w4.cell? ⟨w.heap.size + 1, 0, none⟩ = some (.slice ov zs.length cv) := (cell_of_row _ _ 0 _ _ _ hres4).trans rfl; have q2 : w4.frozen? ⟨w.heap.size + 1, 0, none⟩ = false := frozen_row hres4; have HM4 := Lib.hid hm4; clear hown hgrow ho4 hres4 hm4 HMA HM2)
          go_roundg (n - (i + 1))
          case measure => omega
          case rel =>
            have e5 : (zs ++ [z]).length = zs.length + 1 := by simp
            have hm5 := HM4.out
            rw [e5] at hm5
            refine ⟨i + 1, a + jj, _, zs ++ [z], rfl, by omega, by go_num, HLE.out.1, by simp [HZS.out], by have := HLE.out.2; omega, ?_, hm5⟩
            rw [HR2.out]
            rw [← HZ.out]
            (try dsimp only)
            cases mnF l (n - (i + 1)) (a + jj) with
            | none => rfl
            | some q => simp
      · have t1 : ¬ (i : Int) < (n : Int) := by omega
        have HRX : Hid (r = some (zs, a)) := Lib.hid (by
          have := HRR.out
          rw [show n - i = 0 by omega] at this
          rw [this]
          simp [mnF])
        obtain ⟨ov, cv, rfl⟩ := HMS.out.own.open
        have hfin := (HMS.out.app HP.out HOB.out HMS.out.own (World.grownBy.refl _ _)).2
        have HFIN := Lib.hid hfin
        have HPOST : Hid (PMany o c l p r w (.returned (.slice ov zs.length cv)) (wr.setCell ⟨w.heap.size + 1, 0, none⟩ (.slice ov zs.length cv))) := Lib.hid ⟨hfin.grow, (fun h => by rw [HRX.out] at h; cases h), fun zs' a' h => by rw [HRX.out] at h; cases h; exact ⟨⟨_, rfl, hfin.own.mono (by omega)⟩, haa, hfin.rd⟩⟩
        clear HRR HMS hfin HRX
        go_wp2_with fail
        refine leaves_cons (f := 64) (args := #[.pointer (some ⟨w.heap.size, 0, none⟩), .pointer (some ⟨w.heap.size + 1, 0, none⟩)]) (by simp) (by simp [go_sem]) ?_
        refine (many_idle ⟨w.heap.size, 0, none⟩ ⟨w.heap.size + 1, 0, none⟩ _).mono ?_
        rintro e u' w'' ⟨rfl, rfl, rfl⟩
        obtain ⟨_, dr, _⟩ := HFIN.out.facts
        simp only [Leaves, settle]
        refine ⟨_, (by simp [results, Try.results37, go_sem, dr]; rfl), ?_⟩
        exact HPOST.out
end Go.Proofs.Ytpbidfmijliehaa.Fx
