import Derived.Laws.Rows
import Derived.Test.YtbbhmhihpdmoiaaGreatProg
import Derived.Test.YtbbhmhihpdmoiaaGreatMv41
set_option linter.unusedVariables false
set_option linter.unusedSimpArgs false
namespace Go.Proofs.YtbbhmhihpdmoiaaGreat.Fx
open Go Go.RowKit Go.Lib
open Go.Proofs.YtbbhmhihpdmoiaaGreat.Pk (Bs By)
theorem great_not {s : ScR} (h : greatZ s = false) : s.os.length ≤ 1000 ∧ ∀ x ∈ s.os, x.vs.length ≤ 1000 ∧ x.ts.length ≤ 1000 := by
 unfold greatZ at h
 rw [Bool.or_eq_false_iff] at h
 have h1 := of_decide_eq_false h.1
 refine ⟨by omega, fun x hx => ?_⟩
 have h2 := List.any_eq_false.1 h.2 x hx
 unfold bigZ at h2
 simp only [Bool.or_eq_true, decide_eq_true_eq, not_or] at h2
 omega
set_option maxRecDepth 100000 in
set_option maxHeartbeats 16000000 in
theorem law_formatWrites (s : ScR) (hs : ScWf s) (w : World) (h : ObjsAt w s.oo s.os) :
  Calls Tryz.prog 3 #[.agg (scC s)] w (RetBool true w) := by
 obtain ⟨V0, hV0⟩ : ∃ V, w.alloc (.cells (scC s) 28) = V := ⟨_, rfl⟩
 have hb0 : Below w.heap.size w V0 := by rw [← hV0]; exact (Below.refl _ _).alloc (Nat.le_refl _) _
 have HI1 := Lib.hid (show SkI s w V0 from ⟨by rw [← hV0]; exact ScAt.new _ _, h.below hb0, hb0⟩)
 have HV0 := Lib.hid hV0
 have HS := Lib.hid hs
 have hi := Lib.hid (show (Tryz.prog.info? 28).map (·.size) = some (scL s).length by simp only [scL, List.length_cons, List.length_append, List.length_map, hs.len, List.length_nil]; kernel_rfl)
 clear hs h hb0 hV0
 have HG := Lib.hid (show Calls Tryz.prog 10 #[.agg (scL s).toArray] V0 _ from zgreat_any s V0 HS.out HI1.out.oa)
 have HX1 : Hid (V0.rangeAt w.heap.size 0 (scL s)) := Lib.hid (fun j u hj => by rw [Nat.zero_add]; exact HI1.out.box.at.trans hj)
 cases hg : greatZ s with
 | true =>
  rw [hg, show bI true = 1 from rfl] at HG
  clear hg
  go_enter Tryz.func3, Tryz.ntmps3
  go_wp2_with (first | (rw [HV0.out]) | (with_reducible refine stop_at (some 10) rfl ?_; refine Lib.hid ?_; refine wpList_load_mid rfl 28 (.tmp 1) rfl w.heap.size 0 rfl (scL s) _ HX1.out Tryz.underlying28 rfl hi.out ?_))
  refine HG.out.mono ?_
  rintro e w2 ⟨rfl, hb2⟩
  have HE := Lib.hid (bnext HI1.out.bel hb2)
  clear hb2 HG HI1
  go_wp2_with fail
  go_ret
  exact ⟨rfl, HE.out⟩
 | false =>
  obtain ⟨hg1, hg2⟩ := great_not hg
  rw [hg, show bI false = 0 from rfl] at HG
  clear hg
  have HG1 := Lib.hid hg1
  have HG2 := Lib.hid hg2
  clear hg1 hg2
  go_enter Tryz.func3, Tryz.ntmps3
  go_wp2_with (first | (rw [HV0.out]) | (with_reducible refine stop_at (some 10) rfl ?_; refine Lib.hid ?_; refine wpList_load_mid rfl 28 (.tmp 1) rfl w.heap.size 0 rfl (scL s) _ HX1.out Tryz.underlying28 rfl hi.out ?_))
  refine HG.out.mono ?_
  rintro e w2 ⟨rfl, hb2⟩
  have HI2 := Lib.hid (HI1.out.up hb2)
  have HX2 : Hid (w2.rangeAt w.heap.size 0 (scL s)) := Lib.hid (range_below hb2 HX1.out)
  have HTW := Lib.hid (show Calls Tryz.prog 11 #[.agg (scL s).toArray] w2 (RetTw s w2) from twin7_any s w2 HS.out HI2.out.oa HG1.out HG2.out)
  clear hb2 HG HI1 HX1 HV0 HG1 HG2
  unfold RetTw at HTW
  go_wp2_with (with_reducible refine stop_at (some 13) rfl ?_; refine Lib.hid ?_; refine wpList_load_mid rfl 28 (.tmp 1) rfl w.heap.size 0 rfl (scL s) _ HX2.out Tryz.underlying28 rfl hi.out ?_)
  refine HTW.out.mono ?_
  rintro e x1 ⟨t, rfl, hkey, hfr, hbx⟩
  have HIX := Lib.hid (HI2.out.up hbx)
  have HKT := Lib.hid hkey
  clear hkey hbx HTW HI2 HX2
  obtain ⟨PT5, hPT5⟩ : ∃ V, x1.alloc (.cells #[.int .i64 0, .int .i64 0, .int .i64 0, .int .i64 0, .int .i64 0, .int .i64 0, .int .i64 0, .int .i64 0, .int .i64 0, .int .i64 0, .int .i64 0, .int .i64 0, .int .i64 0, .int .i64 0, .int .i64 0, .int .i64 0, .int .i64 0, .int .i64 0, .slice none 0 0] 28) = V := ⟨_, rfl⟩
  obtain ⟨PT6, hPT6⟩ : ∃ V, PT5.setRow x1.heap.size (scC t) = V := ⟨_, rfl⟩
  have r5 : RowAt 28 x1.heap.size #[.int .i64 0, .int .i64 0, .int .i64 0, .int .i64 0, .int .i64 0, .int .i64 0, .int .i64 0, .int .i64 0, .int .i64 0, .int .i64 0, .int .i64 0, .int .i64 0, .int .i64 0, .int .i64 0, .int .i64 0, .int .i64 0, .int .i64 0, .int .i64 0, .slice none 0 0] PT5 := by rw [← hPT5]; exact RowAt.new _ _ _
  have r6 : PT6.heap[x1.heap.size]? = some (.cells (scC t) 28 (0, 0)) := by rw [← hPT6]; exact setRow_heap _ _ _ _ _ _ r5
  have b6 : Below x1.heap.size x1 PT6 := by rw [← hPT6, ← hPT5]; exact Below.row ((Below.refl _ _).alloc (Nat.le_refl _) _) (Nat.le_refl _) _
  have HRPT := Lib.hid (show ScAt x1.heap.size t PT6 from r6)
  have HRQPT := Lib.hid r5
  have HFPT := Lib.hid (show FreshS _ t PT6 from hfr.rows (Rows.of_below b6) (Rows.of_below b6) (Rows.of_below b6))
  have HIPT := Lib.hid ((HIX.out).up b6)
  have hiPT := Lib.hid (sizeZ t hfr.wf (.slice (t).oo (t).os.length (t).oc))
  have hsPT := Lib.hid (show 19 = (scC t).size from (twL_len hfr.wf (.slice (t).oo (t).os.length (t).oc)).symm)
  have hoPT := Lib.hid (show (scC t).all (·.oneCell') = true from twL_one t (.slice (t).oo (t).os.length (t).oc) rfl)
  have HPT5 := Lib.hid hPT5
  have HPT6 := Lib.hid hPT6
  clear r5 r6 b6 hPT5 hPT6 hfr
  have HXT : Hid (PT6.rangeAt x1.heap.size 0 (scL t)) := Lib.hid (fun j u hj => by rw [Nat.zero_add]; exact HRPT.out.at.trans hj)
  have hiT := Lib.hid (show (Tryz.prog.info? 28).map (·.size) = some (scL t).length by have := hiPT.out; rw [this]; simp [twL, scL])
  have HEN := Lib.hid (show Calls Tryz.prog 12 #[.agg (scL t).toArray] PT6 (RetEn (encO s) PT6) from encO_key HKT.out ▸ pencode_any t PT6 HFPT.out.wf HFPT.out.at)
  unfold RetEn at HEN
  obtain ⟨L, hL⟩ : ∃ L, (encO s).getD [] = L := ⟨_, rfl⟩
  obtain ⟨er, her⟩ : ∃ z, erE (encO s) = z := ⟨_, rfl⟩
  have HLL := Lib.hid hL
  have HER := Lib.hid her
  rw [hL, her] at HEN
  clear hL her
  go_wp2_with (first | (rw [HPT5.out]) | (refine wpList_store_big rfl 28 (.tmp 3) (.tmp 14) rfl x1.heap.size _ _ (scC t) rfl rfl HRQPT.out hiPT.out hsPT.out hoPT.out ?_) | (rw [HPT6.out]) | (with_reducible refine stop_at (some 16) rfl ?_; refine Lib.hid ?_; refine wpList_load_mid rfl 28 (.tmp 3) rfl x1.heap.size 0 rfl (scL t) _ HXT.out Tryz.underlying28 rfl hiT.out ?_))
  refine HEN.out.mono ?_
  rintro e y1 ⟨⟨v1, rfl, hown1⟩, hb1⟩
  obtain ⟨o1, c1, rfl, hbs1, _⟩ := hown1.open
  have HI3 := Lib.hid (HIPT.out.up hb1)
  have HF3 := Lib.hid (HFPT.out.rows (Rows.of_below hb1) (Rows.of_below hb1) (Rows.of_below hb1))
  have HR3 := Lib.hid (HRPT.out.below hb1)
  have HBS1 := Lib.hid hbs1
  have HX3 : Hid (y1.rangeAt w.heap.size 0 (scL s)) := Lib.hid (fun j u hj => by rw [Nat.zero_add]; exact HI3.out.box.at.trans hj)
  have HZE := Lib.hid (show Calls Tryz.prog 13 #[.agg (scL s).toArray] y1 (RetZe s y1) from zencode_any s y1 HS.out HI3.out.oa)
  unfold RetZe at HZE
  rw [HLL.out, HER.out] at HZE
  clear hown1 hbs1 hb1 HEN HIPT HFPT HRPT HRQPT hiPT hsPT hoPT HPT5 HPT6 HXT HIX
  go_wp2_with (with_reducible refine stop_at (some 21) rfl ?_; refine Lib.hid ?_; refine wpList_load_mid rfl 28 (.tmp 1) rfl w.heap.size 0 rfl (scL s) _ HX3.out Tryz.underlying28 rfl hi.out ?_)
  refine HZE.out.mono ?_
  rintro e y2 ⟨⟨v2, rfl, hown2⟩, hb2⟩
  obtain ⟨o2, c2, rfl, hbs2, _⟩ := hown2.open
  have HI4 := Lib.hid (HI3.out.up hb2)
  have HF4 := Lib.hid (HF3.out.rows (Rows.of_below hb2) (Rows.of_below hb2) (Rows.of_below hb2))
  have HR4 := Lib.hid (HR3.out.below hb2)
  have HBS2 := Lib.hid hbs2
  have HBS3 := Lib.hid (HBS1.out.below hb2)
  have HX4 : Hid (y2.rangeAt x1.heap.size 0 (scL t)) := Lib.hid (fun j u hj => by rw [Nat.zero_add]; exact HR4.out.at.trans hj)
  have HSZ := Lib.hid (show Calls Tryz.prog 14 #[.agg (scL t).toArray] y2 (RetSz (encO s) y2) from encO_key HKT.out ▸ psize_any t y2 HF4.out.wf HF4.out.at)
  unfold RetSz at HSZ
  rw [HLL.out, HER.out] at HSZ
  clear hown2 hbs2 hb2 HZE HI3 HF3 HR3 HBS1 HX3
  go_wp2_with (with_reducible refine stop_at (some 26) rfl ?_; refine Lib.hid ?_; refine wpList_load_mid rfl 28 (.tmp 3) rfl x1.heap.size 0 rfl (scL t) _ HX4.out Tryz.underlying28 rfl hiT.out ?_)
  refine HSZ.out.mono ?_
  rintro e y3 ⟨rfl, hb3⟩
  have HI5 := Lib.hid (HI4.out.up hb3)
  have HF5 := Lib.hid (HF4.out.rows (Rows.of_below hb3) (Rows.of_below hb3) (Rows.of_below hb3))
  have HR5 := Lib.hid (HR4.out.below hb3)
  have q1 := Pk.conv_bs (W := y3) c1 rfl (HBS3.out.below hb3)
  have q2 := Pk.conv_bs (W := y3) c2 rfl (HBS2.out.below hb3)
  have HXS : Hid (y3.rangeAt w.heap.size 0 (scL s)) := Lib.hid (fun j u hj => by rw [Nat.zero_add]; exact HI5.out.box.at.trans hj)
  have HXU : Hid (y3.rangeAt x1.heap.size 0 (scL t)) := Lib.hid (fun j u hj => by rw [Nat.zero_add]; exact HR5.out.at.trans hj)
  have HSM := Lib.hid (show Calls Tryz.prog 15 #[.agg (scL t).toArray, .agg (scL s).toArray] y3 (RetBool true y3) from by
   have := zsame_any t s y3 HF5.out.wf HS.out HF5.out.at HI5.out.oa
   rw [decide_eq_true ((keyS_same t s).2 HKT.out)] at this
   exact this)
  generalize Pk.bstr L = sl at q1 q2
  generalize L.length = nl at q1 q2 ⊢
  clear hb3 HSZ HI4 HF4 HR4 HBS2 HBS3 HX4
  go_wp2_with (first | (with_reducible refine stop_at (some 52) rfl ?_; refine Lib.hid ?_; refine wpList_load_mid_g rfl 28 (.tmp 3) rfl x1.heap.size 0 rfl (scL t) _ HXU.out Tryz.underlying28 rfl hiT.out ?_) | (with_reducible refine stop_at (some 53) rfl ?_; refine Lib.hid ?_; refine wpList_load_mid_g rfl 28 (.tmp 1) rfl w.heap.size 0 rfl (scL s) _ HXS.out Tryz.underlying28 rfl hi.out ?_))
  refine HSM.out.mono ?_
  rintro e y4 ⟨rfl, hb4⟩
  have HE := Lib.hid (bnext HI5.out.bel hb4)
  clear hb4 HSM HI5
  go_wp2_with fail
  go_ret
  exact ⟨by simp, HE.out⟩
end Go.Proofs.YtbbhmhihpdmoiaaGreat.Fx
