/- The statements' helpers, walked: what calls write; the first examples. -/
import Derived.Test.YtpbidfmijliehaaProg
import Derived.Test.YtpbidfmijliehaaCg
import Derived.Test.YtpbidfmijliehaaBz
set_option linter.unusedVariables false
set_option linter.unusedSimpArgs false
namespace Go.Proofs.Ytpbidfmijliehaa.Fx
open Go Go.RowKit
/-- what calls leave, of a writer that has no bytes -/
def WroteC (B p : Nat) (v : Value) (L : List Nat) (W : World) (e : Ending) (w' : World) : Prop := e = .returned undef ∧ ∃ v', PW B p v' L false w' ∧ Turn p v v' W w'
theorem putL_on (l m : List Nat) : putL l m false true = l ++ m := rfl
theorem putB_on : putB false true = false := rfl
set_option maxRecDepth 100000 in
set_option maxHeartbeats 1000000 in
theorem wrote_a (s : ByteArray) (L : List Nat) (hs : s = bstr L) (hL : L.length ≤ 1000) (w : World)
    (hc : Hid (∀ (B p : Nat) (v : Value) (W : World), B ≤ W.heap.size → PW B p v [] false W → Calls Try.prog 66 #[.pointer (some ⟨p, 0, none⟩)] W (WroteC B p v L W))) :
    Calls Try.prog 25 #[.string s, .func (.func 66) #[] #[]] w fun e w' => e = .returned (.bool true) ∧ Below w.heap.size w w' := by
  have HN := Lib.hid (new_writer w)
  have HL := Lib.hid hL
  clear hL
  go_enter Try.func25, Try.ntmps25
  go_wp2_with fail
  refine HN.out.mono ?_
  rintro e w1 ⟨rfl, hw1, hw1e⟩
  have hsz : w1.heap.size = w.heap.size + 1 := by rw [hw1e]; simp
  have HB1 : Hid (Below w.heap.size w w1) := Lib.hid (by rw [hw1e]; exact (Below.refl _ w).alloc (Nat.le_refl _) _)
  have HC := Lib.hid (hc.out (w.heap.size + 1) w.heap.size _ w1 (by omega) hw1)
  clear hw1 hw1e HN
  go_wp2_with fail
  refine HC.out.mono ?_
  rintro e w2 ⟨rfl, v2, hw2, t2⟩
  have HP := Lib.hid (pbytes_any (w.heap.size + 1) w.heap.size v2 L false w2 (by have := HL.out; omega) hw2)
  have HB2 : Hid (Below w.heap.size w w2) := Lib.hid ⟨t2.os.trans HB1.out.os, t2.tape.trans HB1.out.tape, t2.output.trans HB1.out.output, Nat.le_trans HB1.out.size t2.size, fun k hk => (t2.block k (by omega) (by omega) (by intro h; cases h)).trans (HB1.out.block k hk)⟩
  clear hw2 t2 HC HB1
  go_wp2_with fail
  refine HP.out.mono ?_
  rintro e w3 ⟨⟨v3, rfl, ho⟩, hb3⟩
  simp only [fl, if_true, Bool.false_eq_true, if_false] at ho ⊢
  obtain ⟨o, cap, rfl, hbs, _, _, _, _⟩ := ho.open
  have hcv := conv_bs cap rfl hbs
  rw [← hs] at hcv
  have HB3 := Lib.hid (bnext HB2.out hb3)
  clear ho hbs hb3 HB2 HP
  go_wp2_with fail
  go_ret
  exact ⟨rfl, HB3.out⟩
set_option maxRecDepth 100000 in
set_option maxHeartbeats 2000000 in
theorem alive1_any (B p : Nat) (v : Value) (w : World) (hB : B ≤ w.heap.size) (hw : PW B p v [] false w) :
    Calls Try.prog 66 #[.pointer (some ⟨p, 0, none⟩)] w (WroteC B p v [0, 127, 128, 1, 172, 2] w) := by
  have HW0 := Lib.hid hw
  have HB0 := Lib.hid hB
  have HT0 := Lib.hid (Turn.refl p v w)
  clear hw hB
  go_enter Try.func66, Try.ntmps66
  have hc0 := puint_any B p 0 v [] false w HB0.out (by omega) (by simp) HW0.out
  rw [putB_on, show putL [] _ false true = [0] from by rw [putL_on]; rfl] at hc0
  have HC0 := Lib.hid hc0
  clear hc0
  go_wp2_with fail
  refine HC0.out.mono ?_
  rintro e w1 ⟨rfl, v1, hw1, t1⟩
  have HW1 := Lib.hid hw1
  have HB1 := Lib.hid (Nat.le_trans HB0.out t1.size)
  have HT1 := Lib.hid (HT0.out.trans t1)
  clear hw1 t1 HC0 HW0 HB0 HT0
  have hc1 := puint_any B p 127 v1 [0] false w1 HB1.out (by omega) (by simp) HW1.out
  rw [putB_on, show putL [0] _ false true = [0, 127] from by rw [putL_on]; rfl] at hc1
  have HC1 := Lib.hid hc1
  clear hc1
  go_wp2_with fail
  refine HC1.out.mono ?_
  rintro e w2 ⟨rfl, v2, hw2, t2⟩
  have HW2 := Lib.hid hw2
  have HB2 := Lib.hid (Nat.le_trans HB1.out t2.size)
  have HT2 := Lib.hid (HT1.out.trans t2)
  clear hw2 t2 HC1 HW1 HB1 HT1
  have hc2 := puint_any B p 128 v2 [0, 127] false w2 HB2.out (by omega) (by simp) HW2.out
  rw [putB_on, show putL [0, 127] _ false true = [0, 127, 128, 1] from by rw [putL_on]; rfl] at hc2
  have HC2 := Lib.hid hc2
  clear hc2
  go_wp2_with fail
  refine HC2.out.mono ?_
  rintro e w3 ⟨rfl, v3, hw3, t3⟩
  have HW3 := Lib.hid hw3
  have HB3 := Lib.hid (Nat.le_trans HB2.out t3.size)
  have HT3 := Lib.hid (HT2.out.trans t3)
  clear hw3 t3 HC2 HW2 HB2 HT2
  have hc3 := puint_any B p 300 v3 [0, 127, 128, 1] false w3 HB3.out (by omega) (by simp) HW3.out
  rw [putB_on, show putL [0, 127, 128, 1] _ false true = [0, 127, 128, 1, 172, 2] from by rw [putL_on]; rfl] at hc3
  have HC3 := Lib.hid hc3
  clear hc3
  go_wp2_with fail
  refine HC3.out.mono ?_
  rintro e w4 ⟨rfl, v4, hw4, t4⟩
  have HW4 := Lib.hid hw4
  have HB4 := Lib.hid (Nat.le_trans HB3.out t4.size)
  have HT4 := Lib.hid (HT3.out.trans t4)
  clear hw4 t4 HC3 HW3 HB3 HT3
  go_wp2_with fail
  go_end0
  exact ⟨rfl, v4, HW4.out, HT4.out⟩
set_option maxRecDepth 100000 in
set_option maxHeartbeats 2000000 in
theorem alive_any (w : World) : Calls Try.prog 42 #[] w fun e w' => e = .returned (.bool true) ∧ Below w.heap.size w w' := by
  have HW := Lib.hid (wrote_a ⟨#[0, 127, 128, 1, 172, 2]⟩ [0, 127, 128, 1, 172, 2] rfl (by decide) w (Lib.hid alive1_any))
  go_enter Try.func42, Try.ntmps42
  go_wp2_with fail
  refine HW.out.mono ?_
  rintro e w1 ⟨rfl, hb1⟩
  have HB1 := Lib.hid hb1
  have HR := Lib.hid (new_reader (some ⟨w1.heap.size, 0, none⟩) 2 [172, 2] (w1.alloc (.cells #[.int .u8 172, .int .u8 2] 5)) (fun h => by cases h) (by decide) (lit_row w1 [172, 2] _ rfl (0, 0)))
  have HB2 : Hid (Below w.heap.size w (w1.alloc (.cells #[.int .u8 172, .int .u8 2] 5))) := Lib.hid (hb1.alloc hb1.size _)
  clear hb1 HW HB1
  go_wp2_with fail
  refine HR.out.mono ?_
  rintro e w2 ⟨p, o2, c2, rfl, hr, hp, ho2, hb2⟩
  have HB3 := Lib.hid (bnext HB2.out hb2)
  have hpw : w.heap.size ≤ p := Nat.le_trans HB2.out.size hp
  have k0 : RdOk [172, 2] 0 := ⟨By.of rfl, by decide, by decide⟩
  have HU := pruint_any o2 c2 [172, 2] p 0 false w2 k0 hr
  rw [show rq false 18446744073709551615 (List.drop 0 [172, 2]) = some (300, 2) from by decide] at HU
  have HU := Lib.hid HU
  clear hr hb2 HB2 HR k0
  go_wp2_with fail
  refine HU.out.mono ?_
  rintro e w3 ⟨rfl, hr3, hg3⟩
  simp only [upV, upA, upB, Option.isNone_some, Nat.zero_add] at hr3 ⊢
  have k2 : RdOk [172, 2] 2 := ⟨By.of rfl, by decide, by decide⟩
  have HEN := Lib.hid (pend_any o2 c2 [172, 2] p 2 false w3 k2 hr3)
  have HB4 : Hid (Below w.heap.size w w3) := Lib.hid (HB3.out.grown hg3 HB3.out.size (fun k hk => by cases hk; exact hpw))
  clear hr3 hg3 HU HB3 k2
  go_wp2_with fail
  refine HEN.out.mono ?_
  rintro e w4 ⟨rfl, hb4⟩
  rw [show endV false (List.length [172, 2]) 2 = 0 from rfl]
  have HB5 := Lib.hid (bnext HB4.out hb4)
  clear hb4 HEN HB4
  go_wp2_with fail
  go_ret
  exact ⟨rfl, HB5.out⟩
end Go.Proofs.Ytpbidfmijliehaa.Fx
