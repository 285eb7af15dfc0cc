/- The document's writer's Text, walked. -/
import Derived.Test.YtpbidfmijliehaaProg
import Derived.Test.YtpbidfmijliehaaAx
set_option linter.unusedVariables false
set_option linter.unusedSimpArgs false
namespace Go.Proofs.Ytpbidfmijliehaa.Fx
open Go Go.RowKit
set_option maxRecDepth 100000 in
set_option maxHeartbeats 1000000 in
theorem ztext_any (B p : Nat) (m : List Nat) (most : Int) (l : List Nat) (lost may : Bool) (o : Option Addr) (c : Nat) (w : World) (hB : B ≤ w.heap.size) (hmay : decide ((m.length : Int) ≤ most) = may) (hc : o = none → c = 0) (hb : Bs w o m) (hm : m.length ≤ 100000000) (hlen : l.length ≤ 100000000) (hw : ZW B p l lost w) :
    Calls Try.prog 19 #[.pointer (some ⟨p, 0, none⟩), .slice o m.length c, .int .i64 most] w (ZCall B p (putL l (form m.length ++ m) lost may) (putB lost may) w) := by
  have HW := Lib.hid hw
  have HC := Lib.hid hc
  have HBS := Lib.hid hb
  have HLM := Lib.hid hm
  obtain ⟨n, hn⟩ : ∃ n, m.length = n := ⟨_, rfl⟩
  have HN := Lib.hid hn
  have HL := Lib.hid (form_len n).2
  rw [hn] at hmay hm
  have n0 : (0 : Int) ≤ (n : Int) := by omega
  have n1 : (n : Int) ≤ 100000000 := by omega
  have HFN := Lib.hid (fun w => zform_any n (by omega) w)
  rw [hn]
  clear hw hc hb hn hm
  go_enter Try.func19, Try.ntmps19
  go_wp2_with fail
  ((with_reducible refine (HFN.out _).mono ?_))
  rintro e w1 ⟨⟨v, rfl, ho⟩, hb1⟩
  have HO1 := Lib.hid ho
  have HB1 := Lib.hid hb1
  clear ho hb1
  go_wp2_with (at_builtin; refine app_bs rfl (.tmp 10) (.tmp 11) rfl w.heap.size v (form n) rfl HO1.out o m c (by rw [HN.out]; rfl) HC.out (HBS.out.below HB1.out) (by have := HL.out; have := HLM.out; omega) HB1.out.size ?_; intro v2 w2 ho2 hg2; obtain ⟨q, hq⟩ : ∃ q, form n ++ m = q := ⟨_, rfl⟩; rw [hq] at ho2; have HQ := Lib.hid hq; obtain ⟨o2, cap2, rfl, hbs2, _, _, hn2, _⟩ := ho2.open; have HBS2 := Lib.hid hbs2; have HN2 := Lib.hid hn2; have HG2 := Lib.hid hg2; clear ho2 hg2 hq hbs2 hn2)
  have HG : Hid (w.grownBy w2 none) := Lib.hid ⟨HG2.out.os.trans HB1.out.os, HG2.out.tape.trans HB1.out.tape, HG2.out.output.trans HB1.out.output, Nat.le_trans HB1.out.size HG2.out.size, fun k hk _ => (HG2.out.block k (Nat.lt_of_lt_of_le hk HB1.out.size) (fun e => by have := HO1.out.blk k e.symm; omega)).trans (HB1.out.block k hk)⟩
  have hB2 : Below w.heap.size w w2 := ⟨HG.out.os, HG.out.tape, HG.out.output, HG.out.size, fun k hk => HG.out.block k hk (by simp)⟩
  have HP := Lib.hid (zput_any B p l q lost may o2 cap2 w2 (by have := hB2.size; omega) HN2.out HBS2.out (by have h1 := HL.out; have h2 := HLM.out; have h3 := HN.out; have h4 := HQ.out; rw [← h4, List.length_append]; omega) (HW.out.below hB2))
  have HGG := Lib.hid (below_grown hB2 (some p))
  clear hB2 HG
  refine HP.out.mono ?_
  rintro e w3 ⟨rfl, hz, hg⟩
  rw [← HQ.out] at hz
  rw [← HN.out] at hz
  have HE : Hid (ZCall B p (putL l (form m.length ++ m) lost may) (putB lost may) w (.returned undef) w3) := Lib.hid ⟨rfl, hz, HGG.out.trans hg⟩
  rw [HN.out] at HE
  clear hz hg HP
  go_wp2_with fail
  exact bodyPost_ret (results_none rfl _ _ _) rfl HE.out
end Go.Proofs.Ytpbidfmijliehaa.Fx
