import Derived.Laws.Rows
import Derived.Test.YtbbhmhihpdmoiaaGreatProg
import Derived.Test.YtbbhmhihpdmoiaaGreatMz40
/- FormatBack, walked. -/
set_option linter.unusedVariables false
set_option linter.unusedSimpArgs false
namespace Go.Proofs.YtbbhmhihpdmoiaaGreat.Fx
open Go Go.RowKit Go.Lib
open Go.Proofs.YtbbhmhihpdmoiaaGreat.Pk (Bs By cutA)
theorem seal_by {m : List Nat} (h : By m) : By (sealL m) := by
  unfold sealL
  intro x hx
  rcases List.mem_append.1 hx with hx | hx
  · exact h x hx
  · exact Cx.le4_by _ x hx
theorem bytes_ok {k : KeyS} (h : dSc k) : By (bytesK k) ∧ (bytesK k).length ≤ 900000 := by
  have h1 := goodSc.bytes k h
  have h2 := (fSc_len h).2
  refine ⟨seal_by (fun x hx => ?_), ?_⟩
  · rcases List.mem_append.1 hx with hx | hx
    · exact mark1_by x hx
    · exact h1 x hx
  · unfold bytesK sealL
    rw [List.length_append, le4_four, List.length_append]
    have : mark1.length = 4 := rfl
    omega
/-- the scene in its box, its lists, the bytes -/
structure BkI (s : ScR) (l : List Nat) (o : Option Addr) (w W : World) : Prop where
  box : ScAt w.heap.size s W
  oa : ObjsAt W s.oo s.os
  bs : Bs W o l
  bel : Below w.heap.size w W
theorem BkI.up {s : ScR} {l : List Nat} {o : Option Addr} {w W X : World} (i : BkI s l o w W) (h : Below W.heap.size W X) : BkI s l o w X := ⟨i.box.below h, i.oa.below h, i.bs.below h, bnext i.bel h⟩
set_option maxRecDepth 100000 in
set_option maxHeartbeats 16000000 in
theorem law_formatBack (s : ScR) (hs : ScWf s) (l : List Nat) (o : Option Addr) (c : Nat) (hl : By l) (hq : l.length ≤ c ∧ c ≤ 9223372036854775807 ∧ (o = none → c = 0)) (w : World) (h : ObjsAt w s.oo s.os) (hb : Bs w o l) :
    Calls Tryz.prog 7 #[.agg (scC s), .slice o l.length c] w (RetBool true w) := by
  obtain ⟨V0, hV0⟩ : ∃ V, w.alloc (.cells (scC s) 28) = V := ⟨_, rfl⟩
  have hb0 : Below w.heap.size w V0 := by rw [← hV0]; exact (Below.refl _ _).alloc (Nat.le_refl _) _
  have HI0 := Lib.hid (show BkI s l o w V0 from ⟨by rw [← hV0]; exact ScAt.new _ _, h.below hb0, hb.below hb0, hb0⟩)
  have HV0 := Lib.hid hV0
  have HS := Lib.hid hs
  have HQ := Lib.hid hq
  have HBY := Lib.hid hl
  have HAL := Lib.hid (alive7_any V0)
  have hi := Lib.hid (show (Tryz.prog.info? 28).map (·.size) = some (scL s).length by simp only [scL, List.length_cons, List.length_append, List.length_map, hs.len, List.length_nil]; kernel_rfl)
  clear hs hl hq h hb hb0 hV0
  go_enter Tryz.func7, Tryz.ntmps7
  go_wp2_with (rw [HV0.out])
  refine HAL.out.mono ?_
  rintro e w1 ⟨rfl, hb1⟩
  have HI1 := Lib.hid (HI0.out.up hb1)
  have HG := Lib.hid (show Calls Tryz.prog 10 #[.agg (scL s).toArray] w1 _ from zgreat_any s w1 HS.out HI1.out.oa)
  have HX1 : Hid (w1.rangeAt w.heap.size 0 (scL s)) := Lib.hid (fun j u hj => by rw [Nat.zero_add]; exact HI1.out.box.at.trans hj)
  clear hb1 HI0 HAL HV0
  cases hg : greatZ s with
  | true =>
    rw [hg, show bI true = 1 from rfl] at HG
    clear hg
    go_wp2_with (with_reducible refine stop_at (some 19) rfl ?_; refine Lib.hid ?_; refine wpList_load_mid rfl 28 (.tmp 2) rfl w.heap.size 0 rfl (scL s) _ HX1.out Tryz.underlying28 rfl hi.out ?_)
    refine HG.out.mono ?_
    rintro e w2 ⟨rfl, hb2⟩
    have HE := Lib.hid (bnext HI1.out.bel hb2)
    clear hb2 HG HI1
    go_wp2_with fail
    go_ret
    exact ⟨rfl, HE.out⟩
  | false =>
    rw [hg, show bI false = 0 from rfl] at HG
    clear hg
    by_cases hn : (20000 : Int) < (l.length : Int)
    · go_wp2_with (with_reducible refine stop_at (some 19) rfl ?_; refine Lib.hid ?_; refine wpList_load_mid rfl 28 (.tmp 2) rfl w.heap.size 0 rfl (scL s) _ HX1.out Tryz.underlying28 rfl hi.out ?_)
      refine HG.out.mono ?_
      rintro e w2 ⟨rfl, hb2⟩
      have HE := Lib.hid (bnext HI1.out.bel hb2)
      clear hb2 HG HI1
      go_wp2_with fail
      go_ret
      exact ⟨rfl, HE.out⟩
    · have hn2 : decide ((20000 : Int) < (l.length : Int)) = false := by simpa using hn
      have HLN := Lib.hid (show l.length ≤ 20000 by omega)
      go_wp2_with (with_reducible refine stop_at (some 19) rfl ?_; refine Lib.hid ?_; refine wpList_load_mid rfl 28 (.tmp 2) rfl w.heap.size 0 rfl (scL s) _ HX1.out Tryz.underlying28 rfl hi.out ?_)
      refine HG.out.mono ?_
      rintro e w2 ⟨rfl, hb2⟩
      have HI2 := Lib.hid (HI1.out.up hb2)
      have HX2 : Hid (w2.rangeAt w.heap.size 0 (scL s)) := Lib.hid (range_below hb2 HX1.out)
      clear hb2 HG HI1 HX1
      cases ho : encO s with
      | none =>
        have HEN := Lib.hid (show Calls Tryz.prog 12 #[.agg (scL s).toArray] w2 (RetEn none w2) from ho ▸ pencode_any s w2 HS.out HI2.out.oa)
        unfold RetEn erE at HEN
        simp only [Option.isSome_none, Bool.false_eq_true, if_false, Option.getD_none] at HEN
        clear ho
        go_wp2_with (with_reducible refine stop_at (some 33) rfl ?_; refine Lib.hid ?_; refine wpList_load_mid rfl 28 (.tmp 2) rfl w.heap.size 0 rfl (scL s) _ HX2.out Tryz.underlying28 rfl hi.out ?_)
        refine HEN.out.mono ?_
        rintro e w3 ⟨⟨v3, rfl, _⟩, hb3⟩
        have HI3 := Lib.hid (HI2.out.up hb3)
        have HPD := Lib.hid (pdecode_any l o c w3 HBY.out (by have := HLN.out; omega) HQ.out.1 HQ.out.2.1 HI3.out.bs)
        clear hb3 HEN HI2 HX2 hn hn2
        unfold RetDe at HPD
        go_wp2_with fail
        refine HPD.out.mono ?_
        rintro e x1 ⟨⟨t, rfl, hfr, hkey⟩, hbx⟩
        have HIX := Lib.hid (HI3.out.up hbx)
        have HKT := Lib.hid hkey
        obtain ⟨PT5, hPT5⟩ : ∃ V, x1.alloc (.cells #[.int .i64 0, .int .i64 0, .int .i64 0, .int .i64 0, .int .i64 0, .int .i64 0, .int .i64 0, .int .i64 0, .int .i64 0, .int .i64 0, .int .i64 0, .int .i64 0, .int .i64 0, .int .i64 0, .int .i64 0, .int .i64 0, .int .i64 0, .int .i64 0, .slice none 0 0] 28) = V := ⟨_, rfl⟩
        obtain ⟨PT6, hPT6⟩ : ∃ V, PT5.setRow x1.heap.size (scC t) = V := ⟨_, rfl⟩
        have r5 : RowAt 28 x1.heap.size #[.int .i64 0, .int .i64 0, .int .i64 0, .int .i64 0, .int .i64 0, .int .i64 0, .int .i64 0, .int .i64 0, .int .i64 0, .int .i64 0, .int .i64 0, .int .i64 0, .int .i64 0, .int .i64 0, .int .i64 0, .int .i64 0, .int .i64 0, .int .i64 0, .slice none 0 0] PT5 := by rw [← hPT5]; exact RowAt.new _ _ _
        have r6 : PT6.heap[x1.heap.size]? = some (.cells (scC t) 28 (0, 0)) := by rw [← hPT6]; exact setRow_heap _ _ _ _ _ _ r5
        have b6 : Below x1.heap.size x1 PT6 := by rw [← hPT6, ← hPT5]; exact Below.row ((Below.refl _ _).alloc (Nat.le_refl _) _) (Nat.le_refl _) _
        have HRPT := Lib.hid (show ScAt x1.heap.size t PT6 from r6)
        have HRQPT := Lib.hid r5
        have HFPT := Lib.hid (show FreshS _ t PT6 from hfr.rows (Rows.of_below b6) (Rows.of_below b6) (Rows.of_below b6))
        have HIPT := Lib.hid ((HIX.out).up b6)
        have hiPT := Lib.hid (sizeZ t hfr.wf (.slice (t).oo (t).os.length (t).oc))
        have hsPT := Lib.hid (show 19 = (scC t).size from (twL_len hfr.wf (.slice (t).oo (t).os.length (t).oc)).symm)
        have hoPT := Lib.hid (show (scC t).all (·.oneCell') = true from twL_one t (.slice (t).oo (t).os.length (t).oc) rfl)
        have HPT5 := Lib.hid hPT5
        have HPT6 := Lib.hid hPT6
        clear r5 r6 b6 hPT5 hPT6 hfr
        cases hd : decK l with
        | mk kk ec =>
          rw [hd] at HKT
          cases kk with
          | none =>
            have hec := dec_err hd
            have h0 : t.os.length = 0 ∧ t.w = 0 := by
              have h := HKT.out
              simp only [Option.getD_none] at h
              unfold keyS zeroK at h
              simp only [Prod.mk.injEq, List.map_eq_nil_iff] at h
              exact ⟨by rw [h.2.2.2]; rfl, h.1⟩
            obtain ⟨e1, e2⟩ := h0
            have c0 := HRPT.out.c0
            have c18 := HRPT.out.c18 HFPT.out.wf
            rw [e2] at c0
            rw [e1] at c18
            have HE := Lib.hid HIPT.out.bel
            clear hd HKT HFPT HIPT HIX e1 e2
            dsimp only
            clear HPD
            go_wp2_with (first | (rw [HPT5.out]) | (refine wpList_store_big rfl 28 (.tmp 14) (.tmp 85) rfl x1.heap.size _ _ (scC t) rfl rfl HRQPT.out hiPT.out hsPT.out hoPT.out ?_) | (rw [HPT6.out]))
            go_ret
            exact ⟨rfl, HE.out⟩
          | some k =>
            obtain ⟨hbk, hec, hok⟩ := bytes_dec HBY.out hd
            subst hec
            have hkt : keyS t = k := HKT.out
            have hot : okZ t = true := by rw [ok_key, hkt]; exact hok
            have HEN2 := Lib.hid (show Calls Tryz.prog 12 #[.agg (scL t).toArray] PT6 (RetEn (some l) PT6) from by
              have := pencode_any t PT6 HFPT.out.wf HFPT.out.at
              rw [show encO t = some l from by unfold encO; rw [if_pos hot, hkt, hbk]] at this
              exact this)
            unfold RetEn erE at HEN2
            simp only [Option.isSome_some, if_true, Option.getD_some] at HEN2
            have HXT : Hid (PT6.rangeAt x1.heap.size 0 (scL t)) := Lib.hid (fun j u hj => (HRPT.out.at).trans hj |> fun q => by rw [Nat.zero_add]; exact q)
            have hiT := Lib.hid (show (Tryz.prog.info? 28).map (·.size) = some (scL t).length by have := hiPT.out; rw [this]; simp [twL, scL])
            clear hd HKT hbk hok hkt hot HFPT HIX
            dsimp only
            clear HPD
            go_wp2_with (first | (rw [HPT5.out]) | (refine wpList_store_big rfl 28 (.tmp 14) (.tmp 85) rfl x1.heap.size _ _ (scC t) rfl rfl HRQPT.out hiPT.out hsPT.out hoPT.out ?_) | (rw [HPT6.out]) | (with_reducible refine stop_at (some 102) rfl ?_; refine Lib.hid ?_; refine wpList_load_mid rfl 28 (.tmp 14) rfl x1.heap.size 0 rfl (scL t) _ HXT.out Tryz.underlying28 rfl hiT.out ?_))
            refine HEN2.out.mono ?_
            rintro e x2 ⟨⟨v2, rfl, hown⟩, hby⟩
            obtain ⟨oo2, cc2, rfl, hbs2, _⟩ := hown.open
            have q1 := Pk.conv_bs (W := x2) cc2 rfl hbs2
            have q2 := Pk.conv_bs (W := x2) c rfl (HIPT.out.bs.below hby)
            have HE := Lib.hid (bnext HIPT.out.bel hby)
            generalize Pk.bstr l = sl at q1 q2
            clear hown hbs2 hby HEN2 HIPT
            go_wp2_with fail
            go_ret
            exact ⟨by simp, HE.out⟩
      | some L =>
        have hok : okZ s = true := by
          unfold encO at ho
          split at ho
          · assumption
          · cases ho
        have hLk : bytesK (keyS s) = L := by
          unfold encO at ho
          rw [if_pos hok] at ho
          exact Option.some.inj ho
        have hds : dSc (keyS s) := ok_dSc HS.out HI2.out.oa hok
        have hby := bytes_ok hds
        have hdc := dec_bytes hds
        rw [← ok_key, if_pos hok] at hdc
        have hhd := head_bytes hds
        rw [hLk] at hby hdc hhd
        rw [show (keyS s).2.2.2.length = s.os.length from List.length_map _] at hhd
        have HLB := Lib.hid hby
        have HDC := Lib.hid hdc
        have HHD := Lib.hid hhd
        have HEN := Lib.hid (show Calls Tryz.prog 12 #[.agg (scL s).toArray] w2 (RetEn (some L) w2) from ho ▸ pencode_any s w2 HS.out HI2.out.oa)
        unfold RetEn erE at HEN
        simp only [Option.isSome_some, if_true, Option.getD_some] at HEN
        clear ho hok hLk hds hby hdc hhd
        go_wp2_with (with_reducible refine stop_at (some 33) rfl ?_; refine Lib.hid ?_; refine wpList_load_mid rfl 28 (.tmp 2) rfl w.heap.size 0 rfl (scL s) _ HX2.out Tryz.underlying28 rfl hi.out ?_)
        refine HEN.out.mono ?_
        rintro e w3 ⟨⟨v3, rfl, hown3⟩, hb3⟩
        obtain ⟨o3, c3, rfl, hbs3, hc3, hc3m, _⟩ := hown3.open
        have HI3 := Lib.hid (HI2.out.up hb3)
        have HPD1 := Lib.hid (pdecode_any L o3 c3 w3 HLB.out.1 HLB.out.2 hc3 hc3m hbs3)
        unfold RetDe at HPD1
        rw [HDC.out] at HPD1
        have HBS3 := Lib.hid hbs3
        have HC3 := Lib.hid (show L.length ≤ c3 ∧ c3 ≤ 9223372036854775807 from ⟨hc3, hc3m⟩)
        clear hown3 hbs3 hc3 hc3m hb3 HEN HI2 HX2 hn hn2
        go_wp2_with fail
        refine HPD1.out.mono ?_
        rintro e y1 ⟨⟨u, rfl, hfr, hkey⟩, hby1⟩
        have HIY := Lib.hid (HI3.out.up hby1)
        have HBSY := Lib.hid (HBS3.out.below hby1)
        have hb16 : Below y1.heap.size y1 ((y1.alloc (.cells #[.int .i64 0, .int .i64 0, .int .i64 0, .int .i64 0, .int .i64 0, .int .i64 0, .int .i64 0, .int .i64 0, .int .i64 0, .int .i64 0, .int .i64 0, .int .i64 0, .int .i64 0, .int .i64 0, .int .i64 0, .int .i64 0, .int .i64 0, .int .i64 0, .slice none 0 0] 28)).setRow y1.heap.size (scC u)) := Below.row ((Below.refl _ _).alloc (Nat.le_refl _) _) (Nat.le_refl _) _
        obtain ⟨PU5, hPU5⟩ : ∃ V, y1.alloc (.cells #[.int .i64 0, .int .i64 0, .int .i64 0, .int .i64 0, .int .i64 0, .int .i64 0, .int .i64 0, .int .i64 0, .int .i64 0, .int .i64 0, .int .i64 0, .int .i64 0, .int .i64 0, .int .i64 0, .int .i64 0, .int .i64 0, .int .i64 0, .int .i64 0, .slice none 0 0] 28) = V := ⟨_, rfl⟩
        obtain ⟨PU6, hPU6⟩ : ∃ V, PU5.setRow y1.heap.size (scC u) = V := ⟨_, rfl⟩
        have r5 : RowAt 28 y1.heap.size #[.int .i64 0, .int .i64 0, .int .i64 0, .int .i64 0, .int .i64 0, .int .i64 0, .int .i64 0, .int .i64 0, .int .i64 0, .int .i64 0, .int .i64 0, .int .i64 0, .int .i64 0, .int .i64 0, .int .i64 0, .int .i64 0, .int .i64 0, .int .i64 0, .slice none 0 0] PU5 := by rw [← hPU5]; exact RowAt.new _ _ _
        have r6 : PU6.heap[y1.heap.size]? = some (.cells (scC u) 28 (0, 0)) := by rw [← hPU6]; exact setRow_heap _ _ _ _ _ _ r5
        have b6 : Below y1.heap.size y1 PU6 := by rw [← hPU6, ← hPU5]; exact Below.row ((Below.refl _ _).alloc (Nat.le_refl _) _) (Nat.le_refl _) _
        have HRPU := Lib.hid (show ScAt y1.heap.size u PU6 from r6)
        have HRQPU := Lib.hid r5
        have HFPU := Lib.hid (show FreshS _ u PU6 from hfr.rows (Rows.of_below b6) (Rows.of_below b6) (Rows.of_below b6))
        have HIPU := Lib.hid ((HIY.out).up b6)
        have hiPU := Lib.hid (sizeZ u hfr.wf (.slice (u).oo (u).os.length (u).oc))
        have hsPU := Lib.hid (show 19 = (scC u).size from (twL_len hfr.wf (.slice (u).oo (u).os.length (u).oc)).symm)
        have hoPU := Lib.hid (show (scC u).all (·.oneCell') = true from twL_one u (.slice (u).oo (u).os.length (u).oc) rfl)
        have HPU5 := Lib.hid hPU5
        have HPU6 := Lib.hid hPU6
        clear r5 r6 b6 hPU5 hPU6 hfr
        have HBSU : Hid (Bs PU6 o3 L) := Lib.hid (by
          rw [HPU5.out, HPU6.out] at hb16
          exact HBSY.out.below hb16)
        have HKU := Lib.hid (show keyS u = keyS s from hkey)
        have HPH := Lib.hid (phead_any L o3 c3 PU6 HLB.out.1 HLB.out.2 HC3.out.1 HC3.out.2 HBSU.out)
        unfold RetHd at HPH
        rw [HHD.out] at HPH
        dsimp only [keyS] at HPH
        clear hb16 hkey hby1 HPD1 HBS3 HBSY HI3 HBSU HDC HHD
        go_wp2_with (first | (rw [HPU5.out]) | (refine wpList_store_big rfl 28 (.tmp 8) (.tmp 42) rfl y1.heap.size _ _ (scC u) rfl rfl HRQPU.out hiPU.out hsPU.out hoPU.out ?_) | (rw [HPU6.out]))
        refine HPH.out.mono ?_
        rintro e y2 ⟨rfl, hby2⟩
        have HI5 := Lib.hid (HIPU.out.up hby2)
        have HFU := Lib.hid (HFPU.out.rows (Rows.of_below hby2) (Rows.of_below hby2) (Rows.of_below hby2))
        have HBU := Lib.hid (HRPU.out.below hby2)
        have HXS : Hid (y2.rangeAt w.heap.size 0 (scL s)) := Lib.hid (fun j u hj => by rw [Nat.zero_add]; exact HI5.out.box.at.trans hj)
        have HXU : Hid (y2.rangeAt y1.heap.size 0 (scL u)) := Lib.hid (fun j u hj => by rw [Nat.zero_add]; exact HBU.out.at.trans hj)
        have hiU := Lib.hid (show (Tryz.prog.info? 28).map (·.size) = some (scL u).length by have := hiPU.out; rw [this]; simp [twL, scL])
        have HSM := Lib.hid (show Calls Tryz.prog 15 #[.agg (scL s).toArray, .agg (scL u).toArray] y2 (RetBool true y2) from by
          have := zsame_any s u y2 HS.out HFU.out.wf HI5.out.oa HFU.out.at
          rw [decide_eq_true ((keyS_same s u).2 HKU.out.symm)] at this
          exact this)
        clear hby2 HPH HIPU HFPU HRPU HRQPU hiPU hsPU hoPU HPU5 HPU6 HIY HLB HKU
        go_wp2_with (first | (with_reducible refine stop_at (some 54) rfl ?_; refine Lib.hid ?_; refine wpList_load_mid_g rfl 28 (.tmp 2) rfl w.heap.size 0 rfl (scL s) _ HXS.out Tryz.underlying28 rfl hi.out ?_) | (with_reducible refine stop_at (some 55) rfl ?_; refine Lib.hid ?_; refine wpList_load_mid_g rfl 28 (.tmp 8) rfl y1.heap.size 0 rfl (scL u) _ HXU.out Tryz.underlying28 rfl hiU.out ?_))
        refine HSM.out.mono ?_
        rintro e y3 ⟨rfl, hby3⟩
        have HI6 := Lib.hid (HI5.out.up hby3)
        have c0 := HI6.out.box.c0
        have c1 := HI6.out.box.c1
        have c18 := HI6.out.box.c18 HS.out
        have HPD := Lib.hid (pdecode_any l o c y3 HBY.out (by have := HLN.out; omega) HQ.out.1 HQ.out.2.1 HI6.out.bs)
        unfold RetDe at HPD
        clear hby3 HSM HI5 HFU HBU HXS HXU hiU
        go_wp2_with fail
        clear c0 c1 c18
        refine HPD.out.mono ?_
        rintro e x1 ⟨⟨t, rfl, hfr, hkey⟩, hbx⟩
        have HIX := Lib.hid (HI6.out.up hbx)
        have HKT := Lib.hid hkey
        obtain ⟨PT5, hPT5⟩ : ∃ V, x1.alloc (.cells #[.int .i64 0, .int .i64 0, .int .i64 0, .int .i64 0, .int .i64 0, .int .i64 0, .int .i64 0, .int .i64 0, .int .i64 0, .int .i64 0, .int .i64 0, .int .i64 0, .int .i64 0, .int .i64 0, .int .i64 0, .int .i64 0, .int .i64 0, .int .i64 0, .slice none 0 0] 28) = V := ⟨_, rfl⟩
        obtain ⟨PT6, hPT6⟩ : ∃ V, PT5.setRow x1.heap.size (scC t) = V := ⟨_, rfl⟩
        have r5 : RowAt 28 x1.heap.size #[.int .i64 0, .int .i64 0, .int .i64 0, .int .i64 0, .int .i64 0, .int .i64 0, .int .i64 0, .int .i64 0, .int .i64 0, .int .i64 0, .int .i64 0, .int .i64 0, .int .i64 0, .int .i64 0, .int .i64 0, .int .i64 0, .int .i64 0, .int .i64 0, .slice none 0 0] PT5 := by rw [← hPT5]; exact RowAt.new _ _ _
        have r6 : PT6.heap[x1.heap.size]? = some (.cells (scC t) 28 (0, 0)) := by rw [← hPT6]; exact setRow_heap _ _ _ _ _ _ r5
        have b6 : Below x1.heap.size x1 PT6 := by rw [← hPT6, ← hPT5]; exact Below.row ((Below.refl _ _).alloc (Nat.le_refl _) _) (Nat.le_refl _) _
        have HRPT := Lib.hid (show ScAt x1.heap.size t PT6 from r6)
        have HRQPT := Lib.hid r5
        have HFPT := Lib.hid (show FreshS _ t PT6 from hfr.rows (Rows.of_below b6) (Rows.of_below b6) (Rows.of_below b6))
        have HIPT := Lib.hid ((HIX.out).up b6)
        have hiPT := Lib.hid (sizeZ t hfr.wf (.slice (t).oo (t).os.length (t).oc))
        have hsPT := Lib.hid (show 19 = (scC t).size from (twL_len hfr.wf (.slice (t).oo (t).os.length (t).oc)).symm)
        have hoPT := Lib.hid (show (scC t).all (·.oneCell') = true from twL_one t (.slice (t).oo (t).os.length (t).oc) rfl)
        have HPT5 := Lib.hid hPT5
        have HPT6 := Lib.hid hPT6
        clear r5 r6 b6 hPT5 hPT6 hfr
        cases hd : decK l with
        | mk kk ec =>
          rw [hd] at HKT
          cases kk with
          | none =>
            have hec := dec_err hd
            have h0 : t.os.length = 0 ∧ t.w = 0 := by
              have h := HKT.out
              simp only [Option.getD_none] at h
              unfold keyS zeroK at h
              simp only [Prod.mk.injEq, List.map_eq_nil_iff] at h
              exact ⟨by rw [h.2.2.2]; rfl, h.1⟩
            obtain ⟨e1, e2⟩ := h0
            have c0 := HRPT.out.c0
            have c18 := HRPT.out.c18 HFPT.out.wf
            rw [e2] at c0
            rw [e1] at c18
            have HE := Lib.hid HIPT.out.bel
            clear hd HKT HFPT HIPT HIX e1 e2
            dsimp only
            clear HPD
            go_wp2_with (first | (rw [HPT5.out]) | (refine wpList_store_big rfl 28 (.tmp 14) (.tmp 85) rfl x1.heap.size _ _ (scC t) rfl rfl HRQPT.out hiPT.out hsPT.out hoPT.out ?_) | (rw [HPT6.out]))
            go_ret
            exact ⟨rfl, HE.out⟩
          | some k =>
            obtain ⟨hbk, hec, hok⟩ := bytes_dec HBY.out hd
            subst hec
            have hkt : keyS t = k := HKT.out
            have hot : okZ t = true := by rw [ok_key, hkt]; exact hok
            have HEN2 := Lib.hid (show Calls Tryz.prog 12 #[.agg (scL t).toArray] PT6 (RetEn (some l) PT6) from by
              have := pencode_any t PT6 HFPT.out.wf HFPT.out.at
              rw [show encO t = some l from by unfold encO; rw [if_pos hot, hkt, hbk]] at this
              exact this)
            unfold RetEn erE at HEN2
            simp only [Option.isSome_some, if_true, Option.getD_some] at HEN2
            have HXT : Hid (PT6.rangeAt x1.heap.size 0 (scL t)) := Lib.hid (fun j u hj => (HRPT.out.at).trans hj |> fun q => by rw [Nat.zero_add]; exact q)
            have hiT := Lib.hid (show (Tryz.prog.info? 28).map (·.size) = some (scL t).length by have := hiPT.out; rw [this]; simp [twL, scL])
            clear hd HKT hbk hok hkt hot HFPT HIX
            dsimp only
            clear HPD
            go_wp2_with (first | (rw [HPT5.out]) | (refine wpList_store_big rfl 28 (.tmp 14) (.tmp 85) rfl x1.heap.size _ _ (scC t) rfl rfl HRQPT.out hiPT.out hsPT.out hoPT.out ?_) | (rw [HPT6.out]) | (with_reducible refine stop_at (some 102) rfl ?_; refine Lib.hid ?_; refine wpList_load_mid rfl 28 (.tmp 14) rfl x1.heap.size 0 rfl (scL t) _ HXT.out Tryz.underlying28 rfl hiT.out ?_))
            refine HEN2.out.mono ?_
            rintro e x2 ⟨⟨v2, rfl, hown⟩, hby⟩
            obtain ⟨oo2, cc2, rfl, hbs2, _⟩ := hown.open
            have q1 := Pk.conv_bs (W := x2) cc2 rfl hbs2
            have q2 := Pk.conv_bs (W := x2) c rfl (HIPT.out.bs.below hby)
            have HE := Lib.hid (bnext HIPT.out.bel hby)
            generalize Pk.bstr l = sl at q1 q2
            clear hown hbs2 hby HEN2 HIPT
            go_wp2_with fail
            go_ret
            exact ⟨by simp, HE.out⟩
end Go.Proofs.YtbbhmhihpdmoiaaGreat.Fx

