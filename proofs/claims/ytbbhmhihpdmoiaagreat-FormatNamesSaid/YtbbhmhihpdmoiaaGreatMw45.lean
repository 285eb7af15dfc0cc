import Derived.Laws.Rows
import Derived.Test.YtbbhmhihpdmoiaaGreatProg
import Derived.WalkMore
import Derived.Test.YtbbhmhihpdmoiaaGreatMw42
import Derived.Test.YtbbhmhihpdmoiaaGreatMw44
set_option linter.unusedVariables false
set_option linter.unusedSimpArgs false
namespace Go.Proofs.YtbbhmhihpdmoiaaGreat.Fx
open Go Go.RowKit Go.Lib
open Go.Proofs.YtbbhmhihpdmoiaaGreat.Pk (Bs By PR RdOk)
theorem infoGs : InfoG 28 19 168 := InfoG.of (by omega) (by omega) (by kernel_rfl)
theorem sc_one1 (x : ScR) : ∀ u ∈ scL x, u.oneCell' = true := fun v hv => by
 simp only [scL, List.mem_cons, List.mem_append, List.mem_map, List.not_mem_nil, or_false] at hv
 rcases hv with rfl | rfl | ⟨z, _, rfl⟩ | rfl <;> rfl
def reelF : List (List Nat) → Option (List KeyS) × Int
 | [] => (some [], 0)
 | t :: ts => match decK t with
  | (none, e) => (none, e)
  | (some k, _) => ((reelF ts).1.map (k :: ·), (reelF ts).2)
def splitK (l : List Nat) : Option (List KeyS) × Int := match behind markF l with
 | none => (none, begE markF l)
 | some r => match pMany 100 pText r 0 with
  | none => (none, 70)
  | some (ts, b) => if b = r.length then reelF ts else (none, 70)
def RetSp (l : List Nat) (w : World) (e : Ending) (w' : World) : Prop := (∃ (v : Value) (zs : List ScR), e = .returned (.tuple #[v, .int .i64 (splitK l).2]) ∧ OwnG 28 19 scL w' w.heap.size v zs ∧ (∀ z ∈ zs, FreshS w.heap.size z w') ∧ zs.map keyS = (splitK l).1.getD []) ∧ Below w.heap.size w w'
theorem goodF : Good (pMany 100 pText) (fMany fText) (fun ks => ks.length ≤ 100 ∧ ∀ k ∈ ks, By k ∧ k.length ≤ 65536) := goodT.many (by omega)
theorem FreshS.low {B C : Nat} {c : ScR} {W : World} (h : FreshS B c W) (hc : C ≤ B) : FreshS C c W :=
 ⟨h.wf, h.objs.base hc, fun x hx => ⟨(h.each x hx).wf, (h.each x hx).v.base hc, (h.each x hx).t.base hc, (h.each x hx).vw, (h.each x hx).tw⟩⟩
theorem reelF_fail {ts : List (List Nat)} {k : Nat} {x : List Nat} {e : Int} {g : List KeyS} (hx : ts[k]? = some x) (hd : decK x = (none, e)) (h : reelF ts = ((reelF (ts.drop k)).1.map (g ++ ·), (reelF (ts.drop k)).2)) : reelF ts = (none, e) := by
 obtain ⟨hl, he⟩ := List.getElem?_eq_some_iff.1 hx
 rw [List.drop_eq_getElem_cons hl, he] at h
 rw [h]
 simp only [reelF, hd]
 rfl
theorem reelF_next {ts : List (List Nat)} {k : Nat} {x : List Nat} {e : Int} {y : KeyS} {g : List KeyS} (hx : ts[k]? = some x) (hd : decK x = (some y, e)) (h : reelF ts = ((reelF (ts.drop k)).1.map (g ++ ·), (reelF (ts.drop k)).2)) : reelF ts = ((reelF (ts.drop (k + 1))).1.map ((g ++ [y]) ++ ·), (reelF (ts.drop (k + 1))).2) := by
 obtain ⟨hl, he⟩ := List.getElem?_eq_some_iff.1 hx
 rw [List.drop_eq_getElem_cons hl, he] at h
 rw [h]
 simp only [reelF, hd]
 cases (reelF (ts.drop (k + 1))).1 <;> simp
theorem reelF_end {ts : List (List Nat)} {g : List KeyS} (h : reelF ts = ((reelF (ts.drop ts.length)).1.map (g ++ ·), (reelF (ts.drop ts.length)).2)) : reelF ts = (some g, 0) := by
 rw [List.drop_length] at h
 rw [h]
 simp [reelF]
theorem end_film {r : List Nat} {ts : List (List Nat)} {a2 : Nat} {lo2 : Bool} (h2 : runP false (pMany 100 pText) r 0 = opt lo2 (ts, a2)) (hl : a2 ≤ r.length) :
  (Pk.endV lo2 r.length a2 = 0 → pMany 100 pText r 0 = some (ts, r.length)) ∧ (Pk.endV lo2 r.length a2 ≠ 0 → ∀ k b, pMany 100 pText r 0 = some (k, b) → b ≠ r.length) := by
 have e1 : runP false (pMany 100 pText) r 0 = pMany 100 pText r 0 := rfl
 rw [e1] at h2
 unfold Pk.endV
 cases lo2
 ·simp only [opt, Bool.false_eq_true, if_false, false_or] at h2 ⊢
  refine ⟨fun h => ?_, fun h k b hk => ?_⟩
  ·split at h
   ·cases h
   ·rw [h2, show a2 = r.length by omega]
  ·split at h
   ·rw [h2] at hk
    cases hk
    omega
   ·exact absurd rfl h
 ·simp only [opt, if_true, true_or] at h2 ⊢
  exact ⟨fun h => (by cases h), fun _ k b hk => by rw [h2] at hk; cases hk⟩
theorem split_70 {l r : List Nat} (h : behind markF l = some r) (hn : ∀ k b, pMany 100 pText r 0 = some (k, b) → b ≠ r.length) : splitK l = (none, 70) := by
 unfold splitK
 rw [h]
 dsimp only
 cases hp : pMany 100 pText r 0 with
 | none => rfl
 | some q =>
  obtain ⟨k, b⟩ := q
  dsimp only
  rw [if_neg (hn k b hp)]
theorem split_end {l r : List Nat} (h : behind markF l = some r) {ts : List (List Nat)} (hn : pMany 100 pText r 0 = some (ts, r.length)) : splitK l = reelF ts := by
 unfold splitK
 rw [h]
 dsimp only
 rw [hn]
 dsimp only
 rw [if_pos rfl]
structure SpI7 (zs : List TxR) (W0 : World) (v : Value) (fs : List ScR) (W : World) : Prop where
 bel : Below W0.heap.size W0 W
 own : OwnG 28 19 scL W W0.heap.size v fs
 each : ∀ z ∈ fs, FreshS W0.heap.size z W
theorem SpI7.up {zs : List TxR} {W0 : World} {v : Value} {fs : List ScR} {W X : World} (i : SpI7 zs W0 v fs W) (h : Below W.heap.size W X) : SpI7 zs W0 v fs X :=
 ⟨bnext i.bel h, i.own.below h, fun z hz => (i.each z hz).rows (Rows.of_below h) (Rows.of_below h) (Rows.of_below h)⟩
theorem SpI7.app {zs : List TxR} {W0 : World} {v v' : Value} {fs : List ScR} {t : ScR} {W X : World} (i : SpI7 zs W0 v fs W) (hf : FreshS W0.heap.size t W) (ho : OwnG 28 19 scL X W0.heap.size v' (fs ++ [t])) (hg : W.grownBy X v.ownBlock) : SpI7 zs W0 v' (fs ++ [t]) X := by
 have hr : ∀ {u : TypeId}, u ≠ 28 → Rows u W X := fun hne => Rows.of_grown hg (fun k hk => i.own.row k hk) hne
 refine ⟨i.bel.grown hg i.bel.size (fun k hk => i.own.blk k hk), ho, fun z hz => ?_⟩
 rcases List.mem_append.1 hz with hz | hz
 ·exact (i.each z hz).rows (hr (by decide)) (hr (by decide)) (hr (by decide))
 ·simp at hz
  subst hz
  exact hf.rows (hr (by decide)) (hr (by decide)) (hr (by decide))
set_option maxRecDepth 100000 in
set_option maxHeartbeats 8000000 in
theorem psplit_any (l : List Nat) (o : Option Addr) (c : Nat) (w : World) (hl : By l) (hlen : l.length ≤ 900000) (hc : l.length ≤ c) (hc2 : c ≤ 9223372036854775807) (hb : Bs w o l) :
  Calls Tryz.prog 24 #[.slice o l.length c] w (RetSp l w) := by
 have HO := Lib.hid (popened_any markF markF_by (by decide) l o c w hl hlen hc hc2 hb)
 rw [show Pk.bstr markF = ⟨#[109, 117, 108, 102]⟩ from rfl] at HO
 have HBY := Lib.hid (show ∀ r, behind markF l = some r → By r ∧ r.length ≤ 900000 from fun r hr => by
  refine ⟨behind_by hl hr, ?_⟩
  have := behind_seal hr
  have := congrArg List.length this
  unfold sealL at this
  simp only [List.length_append] at this
  omega)
 have HBAD : Hid (∀ ec X, splitK l = (none, ec) → Below w.heap.size w X → RetSp l w (.returned (.tuple #[.slice none 0 0, .int .i64 ec])) X) := Lib.hid (fun ec X he hb => by
  unfold RetSp
  rw [he]
  exact ⟨⟨_, [], rfl, OwnG.nil _ _ _ _ _, fun z hz => by simp at hz, rfl⟩, hb⟩)
 have HGOOD : Hid (∀ v fs X, splitK l = (some (fs.map keyS), 0) → OwnG 28 19 scL X w.heap.size v fs → (∀ z ∈ fs, FreshS w.heap.size z X) → Below w.heap.size w X → RetSp l w (.returned (.tuple #[v, .int .i64 0])) X) := Lib.hid (fun v fs X he ho hf hb => by
  unfold RetSp
  rw [he]
  exact ⟨⟨_, fs, rfl, ho, hf, rfl⟩, hb⟩)
 clear hl hlen hc hc2 hb
 unfold RetOp at HO
 cases hbh : behind markF l with
 | none =>
  have HE : Hid (splitK l = (none, begE markF l)) := Lib.hid (by unfold splitK; rw [hbh])
  have hnz := begE_ne hbh
  simp only [hbh] at HO
  generalize begE markF l = ec at HO hnz HE
  clear hbh HGOOD HBY
  have HR := Lib.hid (HBAD.out ec · HE.out)
  generalize l.length = n at *
  go_enter Tryz.func24, Tryz.ntmps24
  go_wp2_with (first | go_step3 | fail)
  refine HO.out.mono ?_
  rintro e w1 ⟨hb1, rfl⟩
  have HB := Lib.hid hb1
  clear hb1 HO
  go_wp2_with (first | go_step3 | fail)
  try rw [Exit.noGoto_ret]
  go_ret2
  exact HR.out _ HB.out
 | some r =>
  have hbr := HBY.out r hbh
  simp only [hbh] at HO
  have HKB := Lib.hid hbr
  have HBH := Lib.hid hbh
  clear hbr HBY hbh
  go_enter Tryz.func24, Tryz.ntmps24
  go_wp2_with (first | go_step3 | fail)
  refine HO.out.mono ?_
  rintro e w1 ⟨hb1, p, o1, c1, rfl, hpr, hp, hob⟩
  have k0 : RdOk r 0 := ⟨HKB.out.1, by have := HKB.out.2; omega, by omega⟩
  have HM := Lib.hid (pmany_x w.heap.size o1 c1 r p 0 false w1 hb1.size k0 hpr (PR_hob hpr))
  have HK := Lib.hid k0
  have HB1 := Lib.hid hb1
  have HPL := Lib.hid hp
  clear hb1 hpr hp hob k0 HO
  go_wp2_with (first | go_step3 | fail)
  refine HM.out.mono ?_
  rintro e w4 h4
  obtain ⟨hg4, v4, zs, a2, lo2, rfl, ho4, he4, hp4, hl4, hrun4⟩ := h4.use
  obtain ⟨oo, oc, rfl, hcap, hlies⟩ := ho4.form (fun z hz => rfl)
  have hb4 : Below w.heap.size w w4 := below_grown2 (Nat.le_refl _) HB1.out hg4 (fun k e => by cases e; have := HPL.out; omega)
  have hend := end_film hrun4 hl4
  have HEN := Lib.hid (Pk.pend_any o1 c1 r p a2 lo2 w4 (rd_ok HK.out hl4) hp4)
  have HB4 := Lib.hid hb4
  have HEND := Lib.hid hend
  have HLI := Lib.hid hlies
  have HEL := Lib.hid he4
  obtain ⟨n, hn⟩ : ∃ n, zs.length = n := ⟨_, rfl⟩
  have hcap1 := hcap.1
  rw [hn] at hcap1 ⊢
  have HN := Lib.hid hn
  clear h4 hg4 ho4 hp4 hl4 hrun4 hcap hlies hb4 hend he4 hn HM HB1 HPL
  generalize hec : Pk.endV lo2 r.length a2 = ec at HEN HEND
  clear hec
  by_cases hz : ec = 0
  ·subst hz
   have hps := HEND.out.1 rfl
   have HSK := Lib.hid (split_end HBH.out hps)
   have hgf := (goodF.get r 0 _ _ HKB.out.1 (Nat.zero_le _) hps).1
   have HGF : Hid (∀ x ∈ zs, By x.l ∧ x.l.length ≤ 65536) := Lib.hid (fun x hx => hgf.2 x.l (List.mem_map.2 ⟨x, hx, rfl⟩))
   have n100 : n ≤ 100 := by have := hgf.1; rw [List.length_map, HN.out] at this; exact this
   have n0 : (0 : Int) ≤ (n : Int) := by omega
   have n1 : (n : Int) ≤ 100 := by omega
   obtain ⟨ts, hts⟩ : ∃ ts, zs.map TxR.l = ts := ⟨_, rfl⟩
   rw [hts] at HSK
   have HTS := Lib.hid hts
   clear hps HEND HBH hgf hts
   go_wp2_with (first | go_step3 | fail)
   refine HEN.out.mono ?_
   rintro e w5 ⟨rfl, hb5⟩
   have HB5 := Lib.hid (bnext HB4.out hb5)
   have HLI5 : Hid (LiesG 31 1 txL w5 w1.heap.size oo zs) := Lib.hid ⟨fun k z hk => by
    obtain ⟨g, cur, e1, e2, e3, e4, e5⟩ := HLI.out.at_ k z hk
    exact ⟨g, cur, e1, e2, keep_row hb5 e3, e4, range_below hb5 e5⟩⟩
   have HEL5 : Hid (∀ z ∈ zs, TxEl z w5) := Lib.hid (fun z hz => (HEL.out z hz).rows (Rows.of_below hb5))
   clear hb5 HEN HLI HEL HB4
   go_wp2_with (first | go_step3 | fail)
   go_loopg [5, 7, 27] n (fun g s5 s7 s27 wx => ∃ (k : Nat) (v : Value) (fs : List ScR), g = n - k ∧ s27 = .int .i64 (k : Int) ∧ k ≤ n ∧ s5 = .int .i64 0 ∧ s7 = v ∧ fs.length = k ∧ reelF ts = ((reelF (ts.drop k)).1.map (fs.map keyS ++ ·), (reelF (ts.drop k)).2) ∧ SpI7 zs w5 v fs wx)
   case atStart => exact ⟨0, _, [], rfl, rfl, by omega, rfl, rfl, rfl, by simp, ⟨Below.refl _ _, OwnG.nil _ _ _ _ _, fun z hz => by simp at hz⟩⟩
   case round =>
    obtain ⟨k, v, fs, rfl, rfl, hk, rfl, rfl, hfl, hdf, hi⟩ := hrel
    have HFL := Lib.hid hfl
    have HDF := Lib.hid hdf
    have HI := Lib.hid hi
    obtain ⟨of, cf, rfl, _, _⟩ := hi.own.form (fun z hz => by simp [scL, (hi.each z hz).wf.len])
    clear hfl hdf hi
    have k0 : (0 : Int) ≤ (k : Int) := by omega
    by_cases hkn : k < n
    ·have t2 : (k : Int) < (n : Int) := by omega
     obtain ⟨x, hx⟩ : ∃ x, zs[k]? = some x := ⟨_, List.getElem?_eq_getElem (by rw [HN.out]; exact hkn)⟩
     obtain ⟨gt, cur, hoo, _, hrow, _, hrng⟩ := HLI5.out.at_ k x hx
     have c0 : wr.cell? ⟨gt, k, none⟩ = some (.slice x.o x.l.length x.c) := by
      have h1 : w5.cell? ⟨gt, 0 + k * 1 + 0, none⟩ = some (.slice x.o x.l.length x.c) := hrng 0 _ rfl
      have h2 := keep_cell HI.out.bel h1
      simpa using h2
     have hxm := List.mem_of_getElem? hx
     have hel : TxEl x wr := (HEL5.out x hxm).rows (Rows.of_below HI.out.bel)
     obtain ⟨hbsx, hcx1, hcx2⟩ := hel.bs
     obtain ⟨hbyx, hlx⟩ := HGF.out x hxm
     have HPD := Lib.hid (pdecode_any x.l x.o x.c wr hbyx (by omega) hcx1 hcx2 hbsx)
     unfold RetDe at HPD
     have HXT : Hid (ts[k]? = some x.l) := Lib.hid (by rw [← HTS.out, List.getElem?_map, hx]; rfl)
     obtain ⟨xl, hxl⟩ : ∃ m, x.l.length = m := ⟨_, rfl⟩
     rw [hxl] at HPD c0 hcx1
     subst hoo
     clear hx hrow hrng hxm hel hbsx hbyx hlx hxl
     go_wp2_with fail
     refine HPD.out.mono ?_
     rintro e w6 ⟨⟨t, rfl, hfr, hkey⟩, hb6⟩
     obtain ⟨V1, hV1⟩ : ∃ V, w6.alloc (.cells #[.int .i64 0, .int .i64 0, .int .i64 0, .int .i64 0, .int .i64 0, .int .i64 0, .int .i64 0, .int .i64 0, .int .i64 0, .int .i64 0, .int .i64 0, .int .i64 0, .int .i64 0, .int .i64 0, .int .i64 0, .int .i64 0, .int .i64 0, .int .i64 0, .slice none 0 0] 28) = V := ⟨_, rfl⟩
     obtain ⟨V2, hV2⟩ : ∃ V, V1.setRow w6.heap.size (scC t) = V := ⟨_, rfl⟩
     have r1 : RowAt 28 w6.heap.size #[.int .i64 0, .int .i64 0, .int .i64 0, .int .i64 0, .int .i64 0, .int .i64 0, .int .i64 0, .int .i64 0, .int .i64 0, .int .i64 0, .int .i64 0, .int .i64 0, .int .i64 0, .int .i64 0, .int .i64 0, .int .i64 0, .int .i64 0, .int .i64 0, .slice none 0 0] V1 := by rw [← hV1]; exact RowAt.new _ _ _
     have r2 : V2.heap[w6.heap.size]? = some (.cells (scC t) 28 (0, 0)) := by rw [← hV2]; exact setRow_heap _ _ _ _ _ _ r1
     have b2 : Below w6.heap.size w6 V2 := by rw [← hV2, ← hV1]; exact Below.row ((Below.refl _ _).alloc (Nat.le_refl _) _) (Nat.le_refl _) _
     have HRQ := Lib.hid r1
     have HXR : Hid (V2.rangeAt w6.heap.size 0 (scL t)) := Lib.hid (fun j u hj => by rw [Nat.zero_add]; exact (show ScAt w6.heap.size t V2 from r2).at.trans hj)
     have HIV := Lib.hid ((HI.out.up hb6).up b2)
     have HFV : Hid (FreshS w5.heap.size t V2) := Lib.hid ((hfr.rows (Rows.of_below b2) (Rows.of_below b2) (Rows.of_below b2)).low HI.out.bel.size)
     have hi := Lib.hid (info19 hfr.wf)
     have hiq := Lib.hid (sizeZ t hfr.wf (.slice t.oo t.os.length t.oc))
     have hsq := Lib.hid (show 19 = (scC t).size from (twL_len hfr.wf (.slice t.oo t.os.length t.oc)).symm)
     have hoq := Lib.hid (show (scC t).all (·.oneCell') = true from twL_one t (.slice t.oo t.os.length t.oc) rfl)
     have HLT : Hid ((scL t).length = 19) := Lib.hid (scL_len hfr.wf)
     have HV1 := Lib.hid hV1
     have HV2 := Lib.hid hV2
     have HKT := Lib.hid hkey
     clear r1 r2 b2 hfr hkey hb6 hV1 hV2 HPD HI
     cases hd : decK x.l with
     | mk kk ec =>
      rw [hd] at HKT
      cases kk with
      | none =>
       have hec := dec_err hd
       have HSF := Lib.hid (HSK.out.trans (reelF_fail HXT.out hd HDF.out))
       have HR := Lib.hid (HBAD.out ec V2 HSF.out (bnext HB5.out HIV.out.bel))
       clear hd HKT HSF HIV HFV
       dsimp only
       go_wp2_with (first | (rw [HV1.out]) | (rw [HV2.out]) | (refine wpList_store_big rfl 28 (.tmp 10) (.tmp 34) rfl w6.heap.size _ _ (scC t) rfl rfl HRQ.out hiq.out hsq.out hoq.out ?_) | go_step3)
       try rw [Exit.noGoto_ret]
       go_ret2
       exact HR.out
      | some y =>
       have hec : ec = 0 := by
        unfold decK at hd
        split at hd
        ·cases hd
        ·split at hd
         ·cases hd
         ·split at hd
          ·split at hd
           ·cases hd; rfl
           ·cases hd
          ·cases hd
       subst hec
       have hky : keyS t = y := HKT.out
       have HDN := Lib.hid (reelF_next HXT.out hd HDF.out)
       have HKY := Lib.hid hky
       clear hd HKT hky HDF
       obtain ⟨V3, hV3⟩ : ∃ V, V2.alloc (.cells (scL t).toArray 28) = V := ⟨_, rfl⟩
       have hb3 : Below V2.heap.size V2 V3 := by rw [← hV3]; exact (Below.refl _ _).alloc (Nat.le_refl _) _
       have HRN := Lib.hid (show V3.heap[V2.heap.size]? = some (.cells (scL t).toArray 28 (0, 0)) by rw [← hV3]; exact heap_alloc_new _ _)
       have HIA := Lib.hid (HIV.out.up hb3)
       have HFA : Hid (FreshS w5.heap.size t V3) := Lib.hid (HFV.out.rows (Rows.of_below hb3) (Rows.of_below hb3) (Rows.of_below hb3))
       have HV3 := Lib.hid hV3
       clear hV3 hb3
       dsimp only
       go_wp2_with (first | (rw [HV1.out]) | (rw [HV2.out]) | (refine wpList_store_big rfl 28 (.tmp 10) (.tmp 34) rfl w6.heap.size _ _ (scC t) rfl rfl HRQ.out hiq.out hsq.out hoq.out ?_) | (rw [HV3.out]) | (with_reducible refine stop_at (some 40) rfl ?_; refine Lib.hid ?_; refine wpList_load_mid rfl 28 (.tmp 10) rfl w6.heap.size 0 rfl (scL t) _ HXR.out Tryz.underlying28 rfl hi.out ?_) | (with_reducible refine stop_at (some 41) rfl ?_; refine Lib.hid ?_; refine build_one infoGs (by omega) rfl (.tmp 40) 52 rfl Tryz.underlying52 (scL t).toArray rfl (by rw [List.size_toArray]; exact HLT.out) ?_) | (at_builtin; refine app_G infoGs rfl (.tmp 39) (.tmp 41) 52 rfl Tryz.underlying52 w5.heap.size (.slice of fs.length cf) fs [t] rfl HIA.out.bel.size HIA.out.own (some ⟨V2.heap.size, 0, none⟩) 1 rfl (fun h => by cases h) (one_src HRN.out) (fun z hz => by simp at hz; subst hz; exact HLT.out) (fun z _ => sc_one1 z) (by have := HFL.out; simp; omega) ?_))
       intro v' w7 ho7 hg7
       refine Lib.hid ?_
       have HI7 : Hid (SpI7 zs w5 v' (fs ++ [t]) w7) := Lib.hid (HIA.out.app HFA.out ho7 hg7)
       obtain ⟨ow, cw, hvw, _, _⟩ := ho7.form (fun z hz => by simp [scL, (HI7.out.each z hz).wf.len])
       subst hvw
       clear ho7 hg7 HIA HFA
       obtain ⟨ml, hml⟩ : ∃ ml, (fs ++ [t]).length = ml := ⟨_, rfl⟩
       have HML := Lib.hid hml
       rw [hml] at HI7 ⊢
       clear hml
       go_wp2_with fail
       go_roundg (n - (k + 1))
       case measure => omega
       case rel => exact ⟨k + 1, _, fs ++ [t], rfl, by go_num, by omega, rfl, rfl, by simp [HFL.out], by rw [HDN.out, List.map_append]; simp [HKY.out], HI7.out⟩
    ·obtain rfl : k = n := by omega
     have t2 : ¬ (k : Int) < (k : Int) := by omega
     have hsk : splitK l = (some (fs.map keyS), 0) := HSK.out.trans (reelF_end (by
      have h1 : ts.length = k := by rw [← HTS.out, List.length_map, HN.out]
      rw [h1]
      exact HDF.out))
     have HR := Lib.hid (HGOOD.out _ fs wr hsk (HI.out.own.base HB5.out.size) (fun z hz => (HI.out.each z hz).low HB5.out.size) (bnext HB5.out HI.out.bel))
     clear hsk HI
     go_wp2_with (first | go_step3 | fail)
     try rw [Exit.noGoto_ret]
     go_ret2
     exact HR.out
  ·have HSK := Lib.hid (split_70 HBH.out (HEND.out.2 hz))
   clear HEND HBH
   go_wp2_with (first | go_step3 | fail)
   refine HEN.out.mono ?_
   rintro e w5 ⟨rfl, hb5⟩
   have HR := Lib.hid (HBAD.out 70 w5 HSK.out (bnext HB4.out hb5))
   clear hb5 HEN
   go_wp2_with (first | go_step3 | fail)
   try rw [Exit.noGoto_ret]
   go_ret2
   exact HR.out
end Go.Proofs.YtbbhmhihpdmoiaaGreat.Fx

set_option linter.unusedVariables false
set_option linter.unusedSimpArgs false
namespace Go.Proofs.YtbbhmhihpdmoiaaGreat.Fx
open Go Go.RowKit Go.Lib
open Go.Proofs.YtbbhmhihpdmoiaaGreat.Pk (Bs By)
theorem film_many (ks : List KeyS) : filmL ks = fMany fText (ks.map bytesK) := by
 unfold filmL fMany
 rw [List.length_map, List.flatMap_map]
 rfl
theorem reel_bytes {ks : List KeyS} (h : ∀ k ∈ ks, dSc k ∧ okK k = true) : reelF (ks.map bytesK) = (some ks, 0) := by
 induction ks with
 | nil => rfl
 | cons k ks ih =>
  have h0 := h k (List.mem_cons_self ..)
  rw [List.map_cons]
  unfold reelF
  rw [dec_bytes h0.1, if_pos h0.2, ih (fun x hx => h x (List.mem_cons_of_mem _ hx))]
  rfl
theorem split_bytes {ks : List KeyS} (h : ∀ k ∈ ks, dSc k ∧ okK k = true) (hn : ks.length ≤ 100) : splitK (bytesF ks) = (some ks, 0) := by
 unfold splitK bytesF
 rw [behind_mark]
 dsimp only
 have hp := goodF.put (ks.map bytesK) ⟨by rw [List.length_map]; exact hn, fun m hm => by
  obtain ⟨k, hk, rfl⟩ := List.mem_map.1 hm
  exact ⟨(bytes_ok (h k hk).1).1, by have := bytesK_len (h k hk).1; omega⟩⟩ (filmL ks) 0 [] (Nat.zero_le _) (by rw [List.drop_zero, List.append_nil, film_many])
 rw [hp]
 dsimp only
 rw [if_pos (by rw [Nat.zero_add, ← film_many])]
 exact reel_bytes h
theorem scs_of {W : World} {B C : Nat} {v : Value} {zs : List ScR} (h : OwnG 28 19 scL W B v zs) (hf : ∀ z ∈ zs, FreshS C z W) : ∃ o c, v = .slice o zs.length c ∧ CapOk o zs.length c ∧ ScsAt W o zs := by
 obtain ⟨o, c, e, hc, hl⟩ := h.form (fun z hz => scL_len (hf z hz).wf)
 refine ⟨o, c, e, hc, fun k z hk => ?_⟩
 obtain ⟨g, cur, e1, _, _, _, h5⟩ := hl.at_ k z hk
 have hz := hf z (List.mem_of_getElem? hk)
 exact ⟨g, 0, e1, h5, hz.at, hz.wf⟩
structure RkI (xs : List ScR) (o : Option Addr) (l : List Nat) (ob : Option Addr) (w W : World) : Prop where
 sc : ScsAt W o xs
 bs : Bs W ob l
 bel : Below w.heap.size w W
theorem RkI.up {xs : List ScR} {o ob : Option Addr} {l : List Nat} {w W X : World} (i : RkI xs o l ob w W) (h : Below W.heap.size W X) : RkI xs o l ob w X := ⟨i.sc.below h, i.bs.below h, bnext i.bel h⟩
end Go.Proofs.YtbbhmhihpdmoiaaGreat.Fx

set_option linter.unusedVariables false
set_option linter.unusedSimpArgs false
namespace Go.Proofs.YtbbhmhihpdmoiaaGreat.Fx
open Go Go.RowKit Go.Lib
open Go.Proofs.YtbbhmhihpdmoiaaGreat.Pk (Bs By cutA)
theorem by_all {l : List Nat} (h : l.all (fun c => decide (c < 256)) = true) : By l := fun c hc => of_decide_eq_true (List.all_eq_true.1 h c hc)
theorem lit_bs {W : World} {g : Nat} {t : TypeId} {f : Nat × Nat} {l : List Nat} (h : W.heap[g]? = some (.cells (l.map Pk.encB).toArray t f)) : Bs W (some ⟨g, 0, none⟩) l := fun j hj => ⟨g, 0, rfl, by
 rw [Nat.zero_add, cell_of_row _ _ _ _ _ _ h]
 simp [hj, Pk.encB, List.getD]⟩
theorem dec_seal (x : List Nat) : decK (sealL (mark1 ++ x)) = match pSc x 0 with
  | none => (none, 70)
  | some (k, b) => if b = x.length then (if okK k = true then (some k, 0) else (none, 60)) else (none, 70) := by
 unfold decK
 rw [behind_mark]
 try rfl
theorem head_seal (x : List Nat) : headK (sealL (mark1 ++ x)) = match pSeq pFrame (pU 16) x 0 with
  | none => (0, 0, 0, 70)
  | some ((f, n), _) => (f.1, f.2.1, n, 0) := by
 unfold headK
 rw [behind_mark]
 try rfl
def X9 : List Nat := [109, 117, 108, 49, 5, 6] ++ List.replicate 16 0 ++ [2]
theorem dec2 : decK [] = (none, 40) := by
 unfold decK behind begE
 rw [Cx.opened_short (by simp)]
theorem dec3 : decK (sealL [109, 117, 108, 50]) = (none, 70) := by
 unfold decK behind begE
 rw [opened_seal]
 rfl
theorem dec4 : decK (sealL ([109, 117, 108, 49, 0, 1] ++ List.replicate 17 0 : List Nat)) = (none, 60) := by
 rw [show ([109, 117, 108, 49, 0, 1] ++ List.replicate 17 0 : List Nat) = mark1 ++ ([0, 1] ++ List.replicate 17 0) from rfl, dec_seal, show pSc ([0, 1] ++ List.replicate 17 0) 0 = some ((0, 1, zero16, []), 19) by kernel_rfl]
 dsimp only
 rw [if_pos (show 19 = ([0, 1] ++ List.replicate 17 0 : List Nat).length from rfl), if_neg (by rw [show okK (0, 1, zero16, []) = false by kernel_rfl]; decide)]
theorem dec5 : decK (sealL (([109, 117, 108, 49, 1, 1] ++ List.replicate 17 0 : List Nat) ++ [0])) = (none, 70) := by
 rw [show ([109, 117, 108, 49, 1, 1] ++ List.replicate 17 0 : List Nat) ++ [0] = mark1 ++ ([1, 1] ++ List.replicate 17 0 ++ [0]) from rfl, dec_seal, show pSc ([1, 1] ++ List.replicate 17 0 ++ [0]) 0 = some (oneK, 19) by kernel_rfl]
 dsimp only
 rw [if_neg (by decide)]
theorem dec6 : decK (sealL (([109, 117, 108, 49, 1, 1] ++ List.replicate 17 0 : List Nat).take 22)) = (none, 70) := by
 rw [show (([109, 117, 108, 49, 1, 1] ++ List.replicate 17 0 : List Nat).take 22 : List Nat) = mark1 ++ ([1, 1] ++ List.replicate 16 0) from rfl, dec_seal, show pSc ([1, 1] ++ List.replicate 16 0) 0 = none by kernel_rfl]
theorem dec7 : decK (sealL ([109, 117, 108, 49, 65, 1] ++ List.replicate 17 0 : List Nat)) = (none, 70) := by
 rw [show ([109, 117, 108, 49, 65, 1] ++ List.replicate 17 0 : List Nat) = mark1 ++ ([65, 1] ++ List.replicate 17 0) from rfl, dec_seal, show pSc ([65, 1] ++ List.replicate 17 0) 0 = none by kernel_rfl]
theorem head9 : headK (sealL X9) = (5, 6, 2, 0) := by
 rw [show X9 = mark1 ++ ([5, 6] ++ List.replicate 16 0 ++ [2]) from rfl, head_seal, show pSeq pFrame (pU 16) ([5, 6] ++ List.replicate 16 0 ++ [2]) 0 = some (((5, 6, zero16), 2), 19) by kernel_rfl]
theorem head10 : headK (sealL (X9.take 22)) = (0, 0, 0, 70) := by
 rw [show X9.take 22 = mark1 ++ ([5, 6] ++ List.replicate 16 0) from rfl, head_seal, show pSeq pFrame (pU 16) ([5, 6] ++ List.replicate 16 0) 0 = none by kernel_rfl]
theorem dec11 : decK (sealL X9) = (none, 70) := by
 rw [show X9 = mark1 ++ ([5, 6] ++ List.replicate 16 0 ++ [2]) from rfl, dec_seal, show pSc ([5, 6] ++ List.replicate 16 0 ++ [2]) 0 = none by kernel_rfl]
theorem spl13 : splitK (bytesF []) = (some [], 0) := split_bytes (fun k hk => by simp at hk) (by simp)
theorem split_seal (x : List Nat) : splitK (sealL (markF ++ x)) = match pMany 100 pText x 0 with
  | none => (none, 70)
  | some (ts, b) => if b = x.length then reelF ts else (none, 70) := by
 unfold splitK
 rw [behind_mark]
 try rfl
theorem spl16 : splitK (sealL [109, 117, 108, 102, 1, 0]) = (none, 40) := by
 rw [show [109, 117, 108, 102, 1, 0] = markF ++ [1, 0] from rfl, split_seal, show pMany 100 pText [1, 0] 0 = some ([[]], 2) by kernel_rfl]
 dsimp only
 rw [if_pos (show 2 = ([1, 0] : List Nat).length from rfl)]
 unfold reelF
 rw [dec2]
theorem spl17 : splitK (sealL [109, 117, 108, 102, 1]) = (none, 70) := by
 rw [show [109, 117, 108, 102, 1] = markF ++ [1] from rfl, split_seal, show pMany 100 pText [1] 0 = none by kernel_rfl]
theorem join12 : joinZ [] = (some (bytesF []), 0) := rfl
theorem bytesF0_len : (bytesF []).length = 9 := by kernel_rfl
theorem bytesF0_take : (bytesF []).take 5 = [109, 117, 108, 102, 0] := by kernel_rfl
def idL : List Int := [65536, 0, 0, 0, 0, 65536, 0, 0, 0, 0, 65536, 0, 0, 0, 0, 65536]
def idAt (k : Nat) : ScR := ⟨1, 1, (List.range 16).map fun j => if j % 5 = 0 ∧ j < 5 * k then 65536 else 0, none, [], 0⟩
def idS : ScR := ⟨1, 1, idL, none, [], 0⟩
def s65 : ScR := ⟨65, 1, zero16, none, [], 0⟩
theorem num_list {m : List Int} (h : m.all (fun z => decide (-9223372036854775808 ≤ z) && decide (z ≤ 9223372036854775807)) = true) : ∀ j, Num (m.getD j 0) := fun j => by
 rw [List.getD_eq_getElem?_getD]
 cases hz : m[j]? with
 | none => exact ⟨by simp, by simp⟩
 | some z =>
  have := List.all_eq_true.1 h z (List.mem_of_getElem? hz)
  rw [Bool.and_eq_true] at this
  exact ⟨of_decide_eq_true this.1, of_decide_eq_true this.2⟩
theorem idS_wf : ScWf idS := ⟨⟨by decide, by decide⟩, ⟨by decide, by decide⟩, rfl, num_list (by kernel_rfl), zeroS_wf.cap⟩
theorem idS_ok : okZ idS = true := by kernel_rfl
theorem idS_len : (bytesK (keyS idS)).length = 35 := by kernel_rfl
theorem idS_enc : encO idS = some (bytesK (keyS idS)) := by unfold encO; rw [idS_ok]; rfl
theorem s65_wf : ScWf s65 := ⟨⟨by decide, by decide⟩, ⟨by decide, by decide⟩, rfl, zeroS_wf.num, zeroS_wf.cap⟩
theorem s65_enc : encO s65 = none := by unfold encO; rw [show okZ s65 = false by kernel_rfl]; rfl
theorem film0_len : (filmL []).length = 1 := by kernel_rfl
theorem zero_no : ([zeroS] : List ScR).all okZ = false := by kernel_rfl
theorem join15 : joinZ [zeroS] = (none, 60) := by
 unfold joinZ
 rw [if_neg (by decide), if_neg (by rw [zero_no]; decide)]
theorem zero_scs {W : World} {g : Nat} (h : W.heap[g]? = some (.cells (scC zeroS) 28 (0, 0))) : ScsAt W (some ⟨g, 0, none⟩) [zeroS] := fun k z hk => by
 have h0 : k = 0 := by have := (List.getElem?_eq_some_iff.1 hk).1; simp at this; omega
 subst h0
 simp at hk
 subst hk
 refine ⟨g, 0, rfl, fun j u hj => ?_, oneS_at W, zeroS_wf⟩
 rw [cell_of_row _ _ _ _ _ _ h]
 simpa [scC] using hj
def mk101 : Array Value := madeCells (Value.agg (scC zeroS)).cells (101 * 19)
theorem make_all (w : World) (n : Nat) (hn : n ≤ 1000) : (Instr.makeSlice 52 (.int .i64 (n : Int)) (.int .i64 (n : Int))).run Tryz.prog w = .ok (.slice (some ⟨w.heap.size, 0, none⟩) n n) (w.alloc (.cells (madeCells (Value.agg (scC zeroS)).cells (n * 19)) 28)) := by
 have hm : (Tryz.prog.info? 28).map (fun i => (i.zero, i.size, i.bytes)) = some (some (.agg (scC zeroS)), 19, 168) := by kernel_rfl
 cases hi : Tryz.prog.info? 28 with
 | none => rw [hi] at hm; cases hm
 | some i =>
  rw [hi] at hm
  simp only [Option.map_some, Option.some.injEq, Prod.mk.injEq] at hm
  obtain ⟨hz, hs, hb⟩ := hm
  have := run_make w 52 28 i _ Tryz.underlying52 hi hz .i64 .i64 (n : Int) (n : Int) (by omega) (by omega) (by rw [hb]; omega) (by omega)
  rw [hs] at this
  exact this
theorem makeS101 (w : World) : (Instr.makeSlice 52 (.int .i64 101) (.int .i64 101)).run Tryz.prog w = .ok (.slice (some ⟨w.heap.size, 0, none⟩) 101 101) (w.alloc (.cells mk101 28)) := make_all w 101 (by omega)
theorem makeS1 (w : World) : (Instr.makeSlice 52 (.int .i64 1) (.int .i64 1)).run Tryz.prog w = .ok (.slice (some ⟨w.heap.size, 0, none⟩) 1 1) (w.alloc (.cells (scC zeroS) 28)) := by
 have := make_all w 1 (by omega)
 rw [show madeCells (Value.agg (scC zeroS)).cells (1 * 19) = scC zeroS by kernel_rfl] at this
 exact this
theorem bs_cells {W : World} {g : Nat} {l : List Nat} (h : Bs W (some ⟨g, 0, none⟩) l) : ∀ (j : Nat) (u : Value), (l.map Pk.encB)[j]? = some u → W.cell? ((⟨g, 0, none⟩ : Addr).add j) = some u := fun j u hj => by
 rw [List.getElem?_map] at hj
 obtain ⟨c, hc, rfl⟩ := Option.map_eq_some_iff.1 hj
 obtain ⟨hl, he⟩ := List.getElem?_eq_some_iff.1 hc
 obtain ⟨b, off, e1, e2⟩ := h j hl
 cases e1
 rw [Addr.add_lit, e2]
 simp [Pk.encB, List.getD, hc]
set_option maxRecDepth 100000 in
set_option maxHeartbeats 1000000 in
theorem pjoin_many (n : Nat) (o : Option Addr) (c : Nat) (w : World) (h1 : 100 < n) (h2 : n ≤ c) (h3 : c ≤ 9223372036854775807) :
  Calls Tryz.prog 22 #[.slice o n c] w fun e w' => e = .returned (.tuple #[.slice none 0 0, .int .i64 2]) ∧ Below w.heap.size w w' := by
 have t1 : (100 : Int) < (n : Int) := by omega
 go_enter Tryz.func22, Tryz.ntmps22
 go_wp2_with fail
 go_ret2
 exact ⟨rfl, Below.refl _ _⟩
end Go.Proofs.YtbbhmhihpdmoiaaGreat.Fx
