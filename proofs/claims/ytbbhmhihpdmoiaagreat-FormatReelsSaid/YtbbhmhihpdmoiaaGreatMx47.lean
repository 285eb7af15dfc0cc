import Derived.Laws.Rows
import Derived.Test.YtbbhmhihpdmoiaaGreatProg
import Derived.Test.YtbbhmhihpdmoiaaGreatMx43
import Derived.Test.YtbbhmhihpdmoiaaGreatMx46
/- Films and bytes undo one another; FormatReels, walked. -/
set_option linter.unusedVariables false
set_option linter.unusedSimpArgs false
namespace Go.Proofs.YtbbhmhihpdmoiaaGreat.Fx
open Go Go.RowKit Go.Lib
open Go.Proofs.YtbbhmhihpdmoiaaGreat.Pk (Bs By)
theorem film_many (ks : List KeyS) : filmL ks = fMany fText (ks.map bytesK) := by
  unfold filmL fMany
  rw [List.length_map, List.flatMap_map]
  rfl
theorem reel_bytes {ks : List KeyS} (h : ∀ k ∈ ks, dSc k ∧ okK k = true) : reelF (ks.map bytesK) = (some ks, 0) := by
  induction ks with
  | nil => rfl
  | cons k ks ih =>
    have h0 := h k (List.mem_cons_self ..)
    rw [List.map_cons]
    unfold reelF
    rw [dec_bytes h0.1, if_pos h0.2, ih (fun x hx => h x (List.mem_cons_of_mem _ hx))]
    rfl
theorem split_bytes {ks : List KeyS} (h : ∀ k ∈ ks, dSc k ∧ okK k = true) (hn : ks.length ≤ 100) : splitK (bytesF ks) = (some ks, 0) := by
  unfold splitK bytesF
  rw [behind_mark]
  dsimp only
  have hp := goodF.put (ks.map bytesK) ⟨by rw [List.length_map]; exact hn, fun m hm => by
    obtain ⟨k, hk, rfl⟩ := List.mem_map.1 hm
    exact ⟨(bytes_ok (h k hk).1).1, by have := bytesK_len (h k hk).1; omega⟩⟩ (filmL ks) 0 [] (Nat.zero_le _) (by rw [List.drop_zero, List.append_nil, film_many])
  rw [hp]
  dsimp only
  rw [if_pos (by rw [Nat.zero_add, ← film_many])]
  exact reel_bytes h
theorem reel_back : ∀ {ts : List (List Nat)} {ks : List KeyS} {e : Int}, (∀ t ∈ ts, By t) → reelF ts = (some ks, e) → ts = ks.map bytesK ∧ e = 0 ∧ ∀ k ∈ ks, okK k = true
  | [], ks, e, _, h => by
    unfold reelF at h
    cases h
    exact ⟨rfl, rfl, fun k hk => by simp at hk⟩
  | t :: ts, ks, e, hb, h => by
    unfold reelF at h
    cases hd : decK t with
    | mk kk ec =>
      rw [hd] at h
      cases kk with
      | none => cases h
      | some k =>
        obtain ⟨h1, h2, h3⟩ := bytes_dec (hb t (List.mem_cons_self ..)) hd
        dsimp only at h
        cases hr : reelF ts with
        | mk kk2 e2 =>
          rw [hr] at h
          cases kk2 with
          | none => cases h
          | some ks2 =>
            obtain ⟨g1, g2, g3⟩ := reel_back (fun x hx => hb x (List.mem_cons_of_mem _ hx)) hr
            cases h
            refine ⟨by rw [List.map_cons, h1, ← g1], g2, fun x hx => ?_⟩
            rcases List.mem_cons.1 hx with rfl | hx
            · exact h3
            · exact g3 x hx
theorem reel_err : ∀ {ts : List (List Nat)} {e : Int}, reelF ts = (none, e) → e ≠ 0
  | [], e, h => by unfold reelF at h; cases h
  | t :: ts, e, h => by
    unfold reelF at h
    cases hd : decK t with
    | mk kk ec =>
      rw [hd] at h
      cases kk with
      | none =>
        cases h
        exact dec_err hd
      | some k =>
        dsimp only at h
        cases hr : reelF ts with
        | mk kk2 e2 =>
          rw [hr] at h
          cases kk2 with
          | none =>
            cases h
            exact reel_err hr
          | some ks2 => cases h
theorem split_err {l : List Nat} {e : Int} (h : splitK l = (none, e)) : e ≠ 0 := by
  unfold splitK at h
  cases hb : behind markF l with
  | none =>
    rw [hb] at h
    cases h
    exact begE_ne hb
  | some r =>
    rw [hb] at h
    dsimp only at h
    split at h
    · cases h
      decide
    · split at h
      · exact reel_err h
      · cases h
        decide
theorem split_join {l : List Nat} {ks : List KeyS} {e : Int} (hl : By l) (h : splitK l = (some ks, e)) : bytesF ks = l ∧ e = 0 ∧ (∀ k ∈ ks, okK k = true) ∧ ks.length ≤ 100 := by
  unfold splitK at h
  cases hb : behind markF l with
  | none => rw [hb] at h; cases h
  | some r =>
    rw [hb] at h
    dsimp only at h
    cases hp : pMany 100 pText r 0 with
    | none => rw [hp] at h; cases h
    | some q =>
      obtain ⟨ts, b⟩ := q
      rw [hp] at h
      dsimp only at h
      split at h
      · rename_i hbr
        subst hbr
        have hbyr := behind_by hl hb
        obtain ⟨⟨g0, g1⟩, g2, g3, _⟩ := goodF.get r 0 ts _ hbyr (Nat.zero_le _) hp
        obtain ⟨h1, h2, h3⟩ := reel_back (fun t ht => (g1 t ht).1) h
        refine ⟨?_, h2, h3, by rw [h1, List.length_map] at g0; exact g0⟩
        unfold bytesF
        rw [film_many, ← h1]
        have hr : r = fMany fText ts := by rw [List.drop_zero, List.drop_length, List.append_nil] at g2; exact g2
        rw [← hr]
        exact behind_seal hb
      · cases h
theorem scs_of {W : World} {B C : Nat} {v : Value} {zs : List ScR} (h : OwnG 28 19 scL W B v zs) (hf : ∀ z ∈ zs, FreshS C z W) : ∃ o c, v = .slice o zs.length c ∧ CapOk o zs.length c ∧ ScsAt W o zs := by
  obtain ⟨o, c, e, hc, hl⟩ := h.form (fun z hz => scL_len (hf z hz).wf)
  refine ⟨o, c, e, hc, fun k z hk => ?_⟩
  obtain ⟨g, cur, e1, _, _, _, h5⟩ := hl.at_ k z hk
  have hz := hf z (List.mem_of_getElem? hk)
  exact ⟨g, 0, e1, h5, hz.at, hz.wf⟩
/-- the film, the bytes -/
structure RkI (xs : List ScR) (o : Option Addr) (l : List Nat) (ob : Option Addr) (w W : World) : Prop where
  sc : ScsAt W o xs
  bs : Bs W ob l
  bel : Below w.heap.size w W
theorem RkI.up {xs : List ScR} {o ob : Option Addr} {l : List Nat} {w W X : World} (i : RkI xs o l ob w W) (h : Below W.heap.size W X) : RkI xs o l ob w X := ⟨i.sc.below h, i.bs.below h, bnext i.bel h⟩
set_option maxRecDepth 100000 in
set_option maxHeartbeats 16000000 in
theorem law_formatReels (xs : List ScR) (o : Option Addr) (c : Nat) (hc : CapOk o xs.length c) (l : List Nat) (ob : Option Addr) (cb : Nat) (hl : By l) (hq : l.length ≤ cb ∧ cb ≤ 9223372036854775807 ∧ (ob = none → cb = 0)) (w : World) (h : ScsAt w o xs) (hb : Bs w ob l) :
    Calls Tryz.prog 8 #[.slice o xs.length c, .slice ob l.length cb] w (RetBool true w) := by
  have HI0 := Lib.hid (show RkI xs o l ob w w from ⟨h, hb, Below.refl _ _⟩)
  have HC := Lib.hid hc
  have HQ := Lib.hid hq
  have HBY := Lib.hid hl
  have HAL := Lib.hid (alive7_any w)
  have hc1 := hc.1
  clear hc hl hq h hb
  go_enter Tryz.func8, Tryz.ntmps8
  go_wp2_with fail
  refine HAL.out.mono ?_
  rintro e w1 ⟨rfl, hb1⟩
  have HI1 := Lib.hid (HI0.out.up hb1)
  have HG := Lib.hid (great_film xs o c w1 HC.out HI1.out.sc)
  clear hb1 HI0 HAL
  cases hg : greatF xs with
  | true =>
    rw [hg] at HG
    clear hg
    go_wp2_with fail
    refine HG.out.mono ?_
    rintro e w2 ⟨rfl, hb2⟩
    have HE := Lib.hid (bnext HI1.out.bel hb2)
    clear hb2 HG HI1
    go_wp2_with fail
    go_ret
    exact ⟨rfl, HE.out⟩
  | false =>
    have hx6 : xs.length ≤ 6 := by
      unfold greatF at hg
      rw [Bool.or_eq_false_iff] at hg
      have := of_decide_eq_false hg.1
      omega
    rw [hg] at HG
    clear hg
    have HX6 := Lib.hid hx6
    clear hx6
    by_cases hn : (20000 : Int) < (l.length : Int)
    · go_wp2_with fail
      refine HG.out.mono ?_
      rintro e w2 ⟨rfl, hb2⟩
      have HE := Lib.hid (bnext HI1.out.bel hb2)
      clear hb2 HG HI1
      go_wp2_with fail
      go_ret
      exact ⟨rfl, HE.out⟩
    · have hn2 : decide ((20000 : Int) < (l.length : Int)) = false := by simpa using hn
      have HLN := Lib.hid (show l.length ≤ 20000 by omega)
      go_wp2_with fail
      refine HG.out.mono ?_
      rintro e w2 ⟨rfl, hb2⟩
      have HI2 := Lib.hid (HI1.out.up hb2)
      have HDS : Hid (xs.all okZ = true → ∀ k ∈ xs.map keyS, dSc k ∧ okK k = true) := Lib.hid (fun ha k hk => by
        obtain ⟨z, hz, rfl⟩ := List.mem_map.1 hk
        obtain ⟨i, hi⟩ := List.getElem?_of_mem hz
        obtain ⟨b, off, _, hat⟩ := HI2.out.sc i z hi
        have hk := List.all_eq_true.1 ha z hz
        exact ⟨ok_dSc hat.wf hat.objs hk, by rw [← ok_key]; exact hk⟩)
      have HFL : Hid (xs.all okZ = true → (filmL (xs.map keyS)).length ≤ 400000) := Lib.hid (fun ha => by
        unfold filmL
        rw [List.length_append]
        have h1 := fU_len ((xs.map keyS).length : Int)
        have h2 := flat_len (fun k hk => (HDS.out ha k hk).1)
        have h3 : (xs.map keyS).length ≤ 6 := by rw [List.length_map]; exact HX6.out
        omega)
      have HJ := Lib.hid (pjoin_any xs o c w2 HC.out HI2.out.sc (fun _ ha => by have := HFL.out ha; omega))
      unfold RetJo at HJ
      clear hb2 HG HI1
      cases hall : xs.all okZ with
      | false =>
        have hj : joinZ xs = (none, 60) := by unfold joinZ; rw [if_neg (by have := HX6.out; omega), if_neg (by rw [hall]; decide)]
        rw [hj] at HJ
        clear hj hall HDS HFL
        go_wp2_with fail
        refine HJ.out.mono ?_
        rintro e w3 ⟨⟨v3, rfl, _⟩, hb3⟩
        have HI3 := Lib.hid (HI2.out.up hb3)
        have HPS := Lib.hid (psplit_any l ob cb w3 HBY.out (by have := HLN.out; omega) HQ.out.1 HQ.out.2.1 (HI3.out).bs)
        unfold RetSp at HPS
        clear hb3 HJ HI2
        go_wp2_with fail
        refine HPS.out.mono ?_
        rintro e x1 ⟨⟨v1, zs, rfl, hown, hfr, hkey⟩, hbx⟩
        have HIX := Lib.hid ((HI3.out).up hbx)
        obtain ⟨oz, cz, rfl, hcz, hsz⟩ := scs_of hown hfr
        have HCZ := Lib.hid hcz
        have HSZ := Lib.hid hsz
        have hcz1 := hcz.1
        clear hown hfr hbx HPS hcz hsz
        cases hd : splitK l with
        | mk kk ec =>
          rw [hd] at hkey
          cases kk with
          | none =>
            have hec := split_err hd
            have hz0 : zs.length = 0 := by have := congrArg List.length hkey; simpa using this
            have HE := Lib.hid HIX.out.bel
            rw [hz0]
            rw [hz0] at hcz1
            clear hd hkey HIX HCZ HSZ
            dsimp only
            go_wp2_with fail
            go_ret
            exact ⟨rfl, HE.out⟩
          | some ks =>
            obtain ⟨hbk, hec, hok, hks⟩ := split_join HBY.out hd
            subst hec
            have hkz : zs.map keyS = ks := hkey
            have hall : zs.all okZ = true := by
              rw [List.all_eq_true]
              intro z hz
              rw [ok_key]
              exact hok _ (by rw [← hkz]; exact List.mem_map.2 ⟨z, hz, rfl⟩)
            have hzl : zs.length ≤ 100 := by rw [← hkz, List.length_map] at hks; exact hks
            have hjz : joinZ zs = (some l, 0) := by
              unfold joinZ
              rw [if_neg (by omega), if_pos hall, hkz, hbk]
            have HJ2 := Lib.hid (pjoin_any zs oz cz x1 HCZ.out HSZ.out (fun _ _ => by
              rw [hkz]
              have := congrArg List.length hbk
              unfold bytesF sealL at this
              simp only [List.length_append] at this
              have := HLN.out
              omega))
            unfold RetJo at HJ2
            rw [hjz] at HJ2
            simp only [Option.getD_some] at HJ2
            clear hd hkey hbk hok hks hkz hall hzl hjz HCZ HSZ
            generalize zs.length = nz at HJ2 hcz1 ⊢
            dsimp only
            go_wp2_with fail
            refine HJ2.out.mono ?_
            rintro e x2 ⟨⟨v2, rfl, hown2⟩, hby⟩
            obtain ⟨oo2, cc2, rfl, hbs2, _⟩ := hown2.open
            have q1 := Pk.conv_bs (W := x2) cc2 rfl hbs2
            have q2 := Pk.conv_bs (W := x2) cb rfl (HIX.out.bs.below hby)
            have HE := Lib.hid (bnext HIX.out.bel hby)
            generalize Pk.bstr l = sl at q1 q2
            clear hown2 hbs2 hby HJ2 HIX
            go_wp2_with fail
            go_ret
            exact ⟨by simp, HE.out⟩
      | true =>
        obtain ⟨L, hL⟩ : ∃ L, bytesF (xs.map keyS) = L := ⟨_, rfl⟩
        have hj : joinZ xs = (some L, 0) := by unfold joinZ; rw [if_neg (by have := HX6.out; omega), if_pos hall, hL]
        have hsp : splitK L = (some (xs.map keyS), 0) := by rw [← hL]; exact split_bytes (HDS.out hall) (by rw [List.length_map]; have := HX6.out; omega)
        have hLl : L.length ≤ 900000 := by
          rw [← hL]
          have := HFL.out hall
          unfold bytesF sealL
          rw [List.length_append, le4_four, List.length_append]
          have : markF.length = 4 := rfl
          omega
        have hLb : By L := by
          rw [← hL]
          unfold bytesF
          refine seal_by (fun x hx => ?_)
          rcases List.mem_append.1 hx with hx | hx
          · exact markF_by x hx
          · unfold filmL at hx
            rcases List.mem_append.1 hx with hx | hx
            · exact Pk.form_bytes (by rw [List.length_map]; have := HX6.out; omega) x hx
            · exact flat_by (fun k hk => (HDS.out hall k hk).1) x hx
        have HSP := Lib.hid hsp
        have HLL := Lib.hid hLl
        have HLB := Lib.hid hLb
        rw [hj] at HJ
        simp only [Option.getD_some] at HJ
        clear hj hsp hLl hLb hall hL HDS HFL
        go_wp2_with fail
        refine HJ.out.mono ?_
        rintro e w3 ⟨⟨v3, rfl, hown3⟩, hb3⟩
        obtain ⟨o3, c3, rfl, hbs3, hc3, hc3m, _⟩ := hown3.open
        have HI3 := Lib.hid (HI2.out.up hb3)
        have HPS1 := Lib.hid (psplit_any L o3 c3 w3 HLB.out HLL.out hc3 hc3m hbs3)
        unfold RetSp at HPS1
        rw [HSP.out] at HPS1
        simp only [Option.getD_some] at HPS1
        clear hown3 hbs3 hc3 hc3m hb3 HJ HI2 HSP HLL HLB
        go_wp2_with fail
        refine HPS1.out.mono ?_
        rintro e w4 ⟨⟨v4, ys, rfl, hown4, hfr4, hkey4⟩, hb4⟩
        obtain ⟨o4, c4, rfl, hc4, hs4⟩ := scs_of hown4 hfr4
        have HI4 := Lib.hid (HI3.out.up hb4)
        have HFI := Lib.hid (films_any ys xs o4 o c4 c w4 hc4 HC.out hs4 HI4.out.sc (by have := congrArg List.length hkey4; rw [List.length_map, List.length_map] at this; have := HX6.out; omega) true ⟨fun _ => hkey4, fun _ => rfl⟩)
        clear hown4 hfr4 hkey4 hb4 hc4 hs4 HPS1 HI3
        go_wp2_with fail
        refine HFI.out.mono ?_
        rintro e w5 ⟨rfl, hb5⟩
        have HI5 := Lib.hid (HI4.out.up hb5)
        clear hb5 HFI HI4
        have HPS := Lib.hid (psplit_any l ob cb w5 HBY.out (by have := HLN.out; omega) HQ.out.1 HQ.out.2.1 (HI5.out).bs)
        unfold RetSp at HPS
        go_wp2_with fail
        refine HPS.out.mono ?_
        rintro e x1 ⟨⟨v1, zs, rfl, hown, hfr, hkey⟩, hbx⟩
        have HIX := Lib.hid ((HI5.out).up hbx)
        obtain ⟨oz, cz, rfl, hcz, hsz⟩ := scs_of hown hfr
        have HCZ := Lib.hid hcz
        have HSZ := Lib.hid hsz
        have hcz1 := hcz.1
        clear hown hfr hbx HPS hcz hsz
        cases hd : splitK l with
        | mk kk ec =>
          rw [hd] at hkey
          cases kk with
          | none =>
            have hec := split_err hd
            have hz0 : zs.length = 0 := by have := congrArg List.length hkey; simpa using this
            have HE := Lib.hid HIX.out.bel
            rw [hz0]
            rw [hz0] at hcz1
            clear hd hkey HIX HCZ HSZ
            dsimp only
            go_wp2_with fail
            go_ret
            exact ⟨rfl, HE.out⟩
          | some ks =>
            obtain ⟨hbk, hec, hok, hks⟩ := split_join HBY.out hd
            subst hec
            have hkz : zs.map keyS = ks := hkey
            have hall : zs.all okZ = true := by
              rw [List.all_eq_true]
              intro z hz
              rw [ok_key]
              exact hok _ (by rw [← hkz]; exact List.mem_map.2 ⟨z, hz, rfl⟩)
            have hzl : zs.length ≤ 100 := by rw [← hkz, List.length_map] at hks; exact hks
            have hjz : joinZ zs = (some l, 0) := by
              unfold joinZ
              rw [if_neg (by omega), if_pos hall, hkz, hbk]
            have HJ2 := Lib.hid (pjoin_any zs oz cz x1 HCZ.out HSZ.out (fun _ _ => by
              rw [hkz]
              have := congrArg List.length hbk
              unfold bytesF sealL at this
              simp only [List.length_append] at this
              have := HLN.out
              omega))
            unfold RetJo at HJ2
            rw [hjz] at HJ2
            simp only [Option.getD_some] at HJ2
            clear hd hkey hbk hok hks hkz hall hzl hjz HCZ HSZ
            generalize zs.length = nz at HJ2 hcz1 ⊢
            dsimp only
            go_wp2_with fail
            refine HJ2.out.mono ?_
            rintro e x2 ⟨⟨v2, rfl, hown2⟩, hby⟩
            obtain ⟨oo2, cc2, rfl, hbs2, _⟩ := hown2.open
            have q1 := Pk.conv_bs (W := x2) cc2 rfl hbs2
            have q2 := Pk.conv_bs (W := x2) cb rfl (HIX.out.bs.below hby)
            have HE := Lib.hid (bnext HIX.out.bel hby)
            generalize Pk.bstr l = sl at q1 q2
            clear hown2 hbs2 hby HJ2 HIX
            go_wp2_with fail
            go_ret
            exact ⟨by simp, HE.out⟩
end Go.Proofs.YtbbhmhihpdmoiaaGreat.Fx

