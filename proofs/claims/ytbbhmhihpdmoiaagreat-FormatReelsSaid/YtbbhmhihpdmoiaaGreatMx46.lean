import Derived.Laws.Rows
import Derived.Test.YtbbhmhihpdmoiaaGreatProg
import Derived.WalkMore
import Derived.Test.YtbbhmhihpdmoiaaGreatMx45
/- Bytes as films: the program's Split, walked. -/
set_option linter.unusedVariables false
set_option linter.unusedSimpArgs false
namespace Go.Proofs.YtbbhmhihpdmoiaaGreat.Fx
open Go Go.RowKit Go.Lib
open Go.Proofs.YtbbhmhihpdmoiaaGreat.Pk (Bs By PR RdOk)
theorem infoGs : InfoG 28 19 168 := InfoG.of (by omega) (by omega) (by kernel_rfl)
theorem sc_one1 (x : ScR) : ∀ u ∈ scL x, u.oneCell' = true := fun v hv => by
  simp only [scL, List.mem_cons, List.mem_append, List.mem_map, List.not_mem_nil, or_false] at hv
  rcases hv with rfl | rfl | ⟨z, _, rfl⟩ | rfl <;> rfl
def reelF : List (List Nat) → Option (List KeyS) × Int
  | [] => (some [], 0)
  | t :: ts => match decK t with
    | (none, e) => (none, e)
    | (some k, _) => ((reelF ts).1.map (k :: ·), (reelF ts).2)
/-- what scenes film bytes are, or what is wrong with them -/
def splitK (l : List Nat) : Option (List KeyS) × Int := match behind markF l with
  | none => (none, begE markF l)
  | some r => match pMany 100 pText r 0 with
    | none => (none, 70)
    | some (ts, b) => if b = r.length then reelF ts else (none, 70)
def RetSp (l : List Nat) (w : World) (e : Ending) (w' : World) : Prop := (∃ (v : Value) (zs : List ScR), e = .returned (.tuple #[v, .int .i64 (splitK l).2]) ∧ OwnG 28 19 scL w' w.heap.size v zs ∧ (∀ z ∈ zs, FreshS w.heap.size z w') ∧ zs.map keyS = (splitK l).1.getD []) ∧ Below w.heap.size w w'
theorem goodF : Good (pMany 100 pText) (fMany fText) (fun ks => ks.length ≤ 100 ∧ ∀ k ∈ ks, By k ∧ k.length ≤ 65536) := goodT.many (by omega)
theorem FreshS.low {B C : Nat} {c : ScR} {W : World} (h : FreshS B c W) (hc : C ≤ B) : FreshS C c W :=
  ⟨h.wf, h.objs.base hc, fun x hx => ⟨(h.each x hx).wf, (h.each x hx).v.base hc, (h.each x hx).t.base hc, (h.each x hx).vw, (h.each x hx).tw⟩⟩
theorem reelF_fail {ts : List (List Nat)} {k : Nat} {x : List Nat} {e : Int} {g : List KeyS} (hx : ts[k]? = some x) (hd : decK x = (none, e)) (h : reelF ts = ((reelF (ts.drop k)).1.map (g ++ ·), (reelF (ts.drop k)).2)) : reelF ts = (none, e) := by
  obtain ⟨hl, he⟩ := List.getElem?_eq_some_iff.1 hx
  rw [List.drop_eq_getElem_cons hl, he] at h
  rw [h]
  simp only [reelF, hd]
  rfl
theorem reelF_next {ts : List (List Nat)} {k : Nat} {x : List Nat} {e : Int} {y : KeyS} {g : List KeyS} (hx : ts[k]? = some x) (hd : decK x = (some y, e)) (h : reelF ts = ((reelF (ts.drop k)).1.map (g ++ ·), (reelF (ts.drop k)).2)) : reelF ts = ((reelF (ts.drop (k + 1))).1.map ((g ++ [y]) ++ ·), (reelF (ts.drop (k + 1))).2) := by
  obtain ⟨hl, he⟩ := List.getElem?_eq_some_iff.1 hx
  rw [List.drop_eq_getElem_cons hl, he] at h
  rw [h]
  simp only [reelF, hd]
  cases (reelF (ts.drop (k + 1))).1 <;> simp
theorem reelF_end {ts : List (List Nat)} {g : List KeyS} (h : reelF ts = ((reelF (ts.drop ts.length)).1.map (g ++ ·), (reelF (ts.drop ts.length)).2)) : reelF ts = (some g, 0) := by
  rw [List.drop_length] at h
  rw [h]
  simp [reelF]
/-- the end's number -/
theorem end_film {r : List Nat} {ts : List (List Nat)} {a2 : Nat} {lo2 : Bool} (h2 : runP false (pMany 100 pText) r 0 = opt lo2 (ts, a2)) (hl : a2 ≤ r.length) :
    (Pk.endV lo2 r.length a2 = 0 → pMany 100 pText r 0 = some (ts, r.length)) ∧ (Pk.endV lo2 r.length a2 ≠ 0 → ∀ k b, pMany 100 pText r 0 = some (k, b) → b ≠ r.length) := by
  have e1 : runP false (pMany 100 pText) r 0 = pMany 100 pText r 0 := rfl
  rw [e1] at h2
  unfold Pk.endV
  cases lo2
  · simp only [opt, Bool.false_eq_true, if_false, false_or] at h2 ⊢
    refine ⟨fun h => ?_, fun h k b hk => ?_⟩
    · split at h
      · cases h
      · rw [h2, show a2 = r.length by omega]
    · split at h
      · rw [h2] at hk
        cases hk
        omega
      · exact absurd rfl h
  · simp only [opt, if_true, true_or] at h2 ⊢
    exact ⟨fun h => (by cases h), fun _ k b hk => by rw [h2] at hk; cases hk⟩
theorem split_70 {l r : List Nat} (h : behind markF l = some r) (hn : ∀ k b, pMany 100 pText r 0 = some (k, b) → b ≠ r.length) : splitK l = (none, 70) := by
  unfold splitK
  rw [h]
  dsimp only
  cases hp : pMany 100 pText r 0 with
  | none => rfl
  | some q =>
    obtain ⟨k, b⟩ := q
    dsimp only
    rw [if_neg (hn k b hp)]
theorem split_end {l r : List Nat} (h : behind markF l = some r) {ts : List (List Nat)} (hn : pMany 100 pText r 0 = some (ts, r.length)) : splitK l = reelF ts := by
  unfold splitK
  rw [h]
  dsimp only
  rw [hn]
  dsimp only
  rw [if_pos rfl]
/-- the texts as they were read, the film so far -/
structure SpI7 (zs : List TxR) (W0 : World) (v : Value) (fs : List ScR) (W : World) : Prop where
  bel : Below W0.heap.size W0 W
  own : OwnG 28 19 scL W W0.heap.size v fs
  each : ∀ z ∈ fs, FreshS W0.heap.size z W
theorem SpI7.up {zs : List TxR} {W0 : World} {v : Value} {fs : List ScR} {W X : World} (i : SpI7 zs W0 v fs W) (h : Below W.heap.size W X) : SpI7 zs W0 v fs X :=
  ⟨bnext i.bel h, i.own.below h, fun z hz => (i.each z hz).rows (Rows.of_below h) (Rows.of_below h) (Rows.of_below h)⟩
theorem SpI7.app {zs : List TxR} {W0 : World} {v v' : Value} {fs : List ScR} {t : ScR} {W X : World} (i : SpI7 zs W0 v fs W) (hf : FreshS W0.heap.size t W) (ho : OwnG 28 19 scL X W0.heap.size v' (fs ++ [t])) (hg : W.grownBy X v.ownBlock) : SpI7 zs W0 v' (fs ++ [t]) X := by
  have hr : ∀ {u : TypeId}, u ≠ 28 → Rows u W X := fun hne => Rows.of_grown hg (fun k hk => i.own.row k hk) hne
  refine ⟨i.bel.grown hg i.bel.size (fun k hk => i.own.blk k hk), ho, fun z hz => ?_⟩
  rcases List.mem_append.1 hz with hz | hz
  · exact (i.each z hz).rows (hr (by decide)) (hr (by decide)) (hr (by decide))
  · simp at hz
    subst hz
    exact hf.rows (hr (by decide)) (hr (by decide)) (hr (by decide))
set_option maxRecDepth 100000 in
set_option maxHeartbeats 8000000 in
theorem psplit_any (l : List Nat) (o : Option Addr) (c : Nat) (w : World) (hl : By l) (hlen : l.length ≤ 900000) (hc : l.length ≤ c) (hc2 : c ≤ 9223372036854775807) (hb : Bs w o l) :
    Calls Tryz.prog 24 #[.slice o l.length c] w (RetSp l w) := by
  have HO := Lib.hid (popened_any markF markF_by (by decide) l o c w hl hlen hc hc2 hb)
  rw [show Pk.bstr markF = ⟨#[109, 117, 108, 102]⟩ from rfl] at HO
  have HBY := Lib.hid (show ∀ r, behind markF l = some r → By r ∧ r.length ≤ 900000 from fun r hr => by
    refine ⟨behind_by hl hr, ?_⟩
    have := behind_seal hr
    have := congrArg List.length this
    unfold sealL at this
    simp only [List.length_append] at this
    omega)
  have HBAD : Hid (∀ ec X, splitK l = (none, ec) → Below w.heap.size w X → RetSp l w (.returned (.tuple #[.slice none 0 0, .int .i64 ec])) X) := Lib.hid (fun ec X he hb => by
    unfold RetSp
    rw [he]
    exact ⟨⟨_, [], rfl, OwnG.nil _ _ _ _ _, fun z hz => by simp at hz, rfl⟩, hb⟩)
  have HGOOD : Hid (∀ v fs X, splitK l = (some (fs.map keyS), 0) → OwnG 28 19 scL X w.heap.size v fs → (∀ z ∈ fs, FreshS w.heap.size z X) → Below w.heap.size w X → RetSp l w (.returned (.tuple #[v, .int .i64 0])) X) := Lib.hid (fun v fs X he ho hf hb => by
    unfold RetSp
    rw [he]
    exact ⟨⟨_, fs, rfl, ho, hf, rfl⟩, hb⟩)
  clear hl hlen hc hc2 hb
  unfold RetOp at HO
  cases hbh : behind markF l with
  | none =>
    have HE : Hid (splitK l = (none, begE markF l)) := Lib.hid (by unfold splitK; rw [hbh])
    have hnz := begE_ne hbh
    simp only [hbh] at HO
    generalize begE markF l = ec at HO hnz HE
    clear hbh HGOOD HBY
    have HR := Lib.hid (HBAD.out ec · HE.out)
    generalize l.length = n at *
    go_enter Tryz.func24, Tryz.ntmps24
    go_wp2_with (first | go_step3 | fail)
    refine HO.out.mono ?_
    rintro e w1 ⟨hb1, rfl⟩
    have HB := Lib.hid hb1
    clear hb1 HO
    go_wp2_with (first | go_step3 | fail)
    try rw [Exit.noGoto_ret]
    go_ret2
    exact HR.out _ HB.out
  | some r =>
    have hbr := HBY.out r hbh
    simp only [hbh] at HO
    have HKB := Lib.hid hbr
    have HBH := Lib.hid hbh
    clear hbr HBY hbh
    go_enter Tryz.func24, Tryz.ntmps24
    go_wp2_with (first | go_step3 | fail)
    refine HO.out.mono ?_
    rintro e w1 ⟨hb1, p, o1, c1, rfl, hpr, hp, hob⟩
    have k0 : RdOk r 0 := ⟨HKB.out.1, by have := HKB.out.2; omega, by omega⟩
    have HM := Lib.hid (pmany_x w.heap.size o1 c1 r p 0 false w1 hb1.size k0 hpr (PR_hob hpr))
    have HK := Lib.hid k0
    have HB1 := Lib.hid hb1
    have HPL := Lib.hid hp
    clear hb1 hpr hp hob k0 HO
    go_wp2_with (first | go_step3 | fail)
    refine HM.out.mono ?_
    rintro e w4 h4
    obtain ⟨hg4, v4, zs, a2, lo2, rfl, ho4, he4, hp4, hl4, hrun4⟩ := h4.use
    obtain ⟨oo, oc, rfl, hcap, hlies⟩ := ho4.form (fun z hz => rfl)
    have hb4 : Below w.heap.size w w4 := below_grown2 (Nat.le_refl _) HB1.out hg4 (fun k e => by cases e; have := HPL.out; omega)
    have hend := end_film hrun4 hl4
    have HEN := Lib.hid (Pk.pend_any o1 c1 r p a2 lo2 w4 (rd_ok HK.out hl4) hp4)
    have HB4 := Lib.hid hb4
    have HEND := Lib.hid hend
    have HLI := Lib.hid hlies
    have HEL := Lib.hid he4
    obtain ⟨n, hn⟩ : ∃ n, zs.length = n := ⟨_, rfl⟩
    have hcap1 := hcap.1
    rw [hn] at hcap1 ⊢
    have HN := Lib.hid hn
    clear h4 hg4 ho4 hp4 hl4 hrun4 hcap hlies hb4 hend he4 hn HM HB1 HPL
    generalize hec : Pk.endV lo2 r.length a2 = ec at HEN HEND
    clear hec
    by_cases hz : ec = 0
    · subst hz
      have hps := HEND.out.1 rfl
      have HSK := Lib.hid (split_end HBH.out hps)
      have hgf := (goodF.get r 0 _ _ HKB.out.1 (Nat.zero_le _) hps).1
      have HGF : Hid (∀ x ∈ zs, By x.l ∧ x.l.length ≤ 65536) := Lib.hid (fun x hx => hgf.2 x.l (List.mem_map.2 ⟨x, hx, rfl⟩))
      have n100 : n ≤ 100 := by have := hgf.1; rw [List.length_map, HN.out] at this; exact this
      have n0 : (0 : Int) ≤ (n : Int) := by omega
      have n1 : (n : Int) ≤ 100 := by omega
      obtain ⟨ts, hts⟩ : ∃ ts, zs.map TxR.l = ts := ⟨_, rfl⟩
      rw [hts] at HSK
      have HTS := Lib.hid hts
      clear hps HEND HBH hgf hts
      go_wp2_with (first | go_step3 | fail)
      refine HEN.out.mono ?_
      rintro e w5 ⟨rfl, hb5⟩
      have HB5 := Lib.hid (bnext HB4.out hb5)
      have HLI5 : Hid (LiesG 31 1 txL w5 w1.heap.size oo zs) := Lib.hid ⟨fun k z hk => by
        obtain ⟨g, cur, e1, e2, e3, e4, e5⟩ := HLI.out.at_ k z hk
        exact ⟨g, cur, e1, e2, keep_row hb5 e3, e4, range_below hb5 e5⟩⟩
      have HEL5 : Hid (∀ z ∈ zs, TxEl z w5) := Lib.hid (fun z hz => (HEL.out z hz).rows (Rows.of_below hb5))
      clear hb5 HEN HLI HEL HB4
      go_wp2_with (first | go_step3 | fail)
      go_loopg [5, 7, 27] n (fun g s5 s7 s27 wx => ∃ (k : Nat) (v : Value) (fs : List ScR), g = n - k ∧ s27 = .int .i64 (k : Int) ∧ k ≤ n ∧ s5 = .int .i64 0 ∧ s7 = v ∧ fs.length = k ∧ reelF ts = ((reelF (ts.drop k)).1.map (fs.map keyS ++ ·), (reelF (ts.drop k)).2) ∧ SpI7 zs w5 v fs wx)
      case atStart => exact ⟨0, _, [], rfl, rfl, by omega, rfl, rfl, rfl, by simp, ⟨Below.refl _ _, OwnG.nil _ _ _ _ _, fun z hz => by simp at hz⟩⟩
      case round =>
        obtain ⟨k, v, fs, rfl, rfl, hk, rfl, rfl, hfl, hdf, hi⟩ := hrel
        have HFL := Lib.hid hfl
        have HDF := Lib.hid hdf
        have HI := Lib.hid hi
        obtain ⟨of, cf, rfl, _, _⟩ := hi.own.form (fun z hz => by simp [scL, (hi.each z hz).wf.len])
        clear hfl hdf hi
        have k0 : (0 : Int) ≤ (k : Int) := by omega
        by_cases hkn : k < n
        · have t2 : (k : Int) < (n : Int) := by omega
          obtain ⟨x, hx⟩ : ∃ x, zs[k]? = some x := ⟨_, List.getElem?_eq_getElem (by rw [HN.out]; exact hkn)⟩
          obtain ⟨gt, cur, hoo, _, hrow, _, hrng⟩ := HLI5.out.at_ k x hx
          have c0 : wr.cell? ⟨gt, k, none⟩ = some (.slice x.o x.l.length x.c) := by
            have h1 : w5.cell? ⟨gt, 0 + k * 1 + 0, none⟩ = some (.slice x.o x.l.length x.c) := hrng 0 _ rfl
            have h2 := keep_cell HI.out.bel h1
            simpa using h2
          have hxm := List.mem_of_getElem? hx
          have hel : TxEl x wr := (HEL5.out x hxm).rows (Rows.of_below HI.out.bel)
          obtain ⟨hbsx, hcx1, hcx2⟩ := hel.bs
          obtain ⟨hbyx, hlx⟩ := HGF.out x hxm
          have HPD := Lib.hid (pdecode_any x.l x.o x.c wr hbyx (by omega) hcx1 hcx2 hbsx)
          unfold RetDe at HPD
          have HXT : Hid (ts[k]? = some x.l) := Lib.hid (by rw [← HTS.out, List.getElem?_map, hx]; rfl)
          obtain ⟨xl, hxl⟩ : ∃ m, x.l.length = m := ⟨_, rfl⟩
          rw [hxl] at HPD c0 hcx1
          subst hoo
          clear hx hrow hrng hxm hel hbsx hbyx hlx hxl
          go_wp2_with fail
          refine HPD.out.mono ?_
          rintro e w6 ⟨⟨t, rfl, hfr, hkey⟩, hb6⟩
          obtain ⟨V1, hV1⟩ : ∃ V, w6.alloc (.cells #[.int .i64 0, .int .i64 0, .int .i64 0, .int .i64 0, .int .i64 0, .int .i64 0, .int .i64 0, .int .i64 0, .int .i64 0, .int .i64 0, .int .i64 0, .int .i64 0, .int .i64 0, .int .i64 0, .int .i64 0, .int .i64 0, .int .i64 0, .int .i64 0, .slice none 0 0] 28) = V := ⟨_, rfl⟩
          obtain ⟨V2, hV2⟩ : ∃ V, V1.setRow w6.heap.size (scC t) = V := ⟨_, rfl⟩
          have r1 : RowAt 28 w6.heap.size #[.int .i64 0, .int .i64 0, .int .i64 0, .int .i64 0, .int .i64 0, .int .i64 0, .int .i64 0, .int .i64 0, .int .i64 0, .int .i64 0, .int .i64 0, .int .i64 0, .int .i64 0, .int .i64 0, .int .i64 0, .int .i64 0, .int .i64 0, .int .i64 0, .slice none 0 0] V1 := by rw [← hV1]; exact RowAt.new _ _ _
          have r2 : V2.heap[w6.heap.size]? = some (.cells (scC t) 28 (0, 0)) := by rw [← hV2]; exact setRow_heap _ _ _ _ _ _ r1
          have b2 : Below w6.heap.size w6 V2 := by rw [← hV2, ← hV1]; exact Below.row ((Below.refl _ _).alloc (Nat.le_refl _) _) (Nat.le_refl _) _
          have HRQ := Lib.hid r1
          have HXR : Hid (V2.rangeAt w6.heap.size 0 (scL t)) := Lib.hid (fun j u hj => by rw [Nat.zero_add]; exact (show ScAt w6.heap.size t V2 from r2).at.trans hj)
          have HIV := Lib.hid ((HI.out.up hb6).up b2)
          have HFV : Hid (FreshS w5.heap.size t V2) := Lib.hid ((hfr.rows (Rows.of_below b2) (Rows.of_below b2) (Rows.of_below b2)).low HI.out.bel.size)
          have hi := Lib.hid (info19 hfr.wf)
          have hiq := Lib.hid (sizeZ t hfr.wf (.slice t.oo t.os.length t.oc))
          have hsq := Lib.hid (show 19 = (scC t).size from (twL_len hfr.wf (.slice t.oo t.os.length t.oc)).symm)
          have hoq := Lib.hid (show (scC t).all (·.oneCell') = true from twL_one t (.slice t.oo t.os.length t.oc) rfl)
          have HLT : Hid ((scL t).length = 19) := Lib.hid (scL_len hfr.wf)
          have HV1 := Lib.hid hV1
          have HV2 := Lib.hid hV2
          have HKT := Lib.hid hkey
          clear r1 r2 b2 hfr hkey hb6 hV1 hV2 HPD HI
          cases hd : decK x.l with
          | mk kk ec =>
            rw [hd] at HKT
            cases kk with
            | none =>
              have hec := dec_err hd
              have HSF := Lib.hid (HSK.out.trans (reelF_fail HXT.out hd HDF.out))
              have HR := Lib.hid (HBAD.out ec V2 HSF.out (bnext HB5.out HIV.out.bel))
              clear hd HKT HSF HIV HFV
              dsimp only
              go_wp2_with (first | (rw [HV1.out]) | (rw [HV2.out]) | (refine wpList_store_big rfl 28 (.tmp 10) (.tmp 34) rfl w6.heap.size _ _ (scC t) rfl rfl HRQ.out hiq.out hsq.out hoq.out ?_) | go_step3)
              try rw [Exit.noGoto_ret]
              go_ret2
              exact HR.out
            | some y =>
              have hec : ec = 0 := by
                unfold decK at hd
                split at hd
                · cases hd
                · split at hd
                  · cases hd
                  · split at hd
                    · split at hd
                      · cases hd; rfl
                      · cases hd
                    · cases hd
              subst hec
              have hky : keyS t = y := HKT.out
              have HDN := Lib.hid (reelF_next HXT.out hd HDF.out)
              have HKY := Lib.hid hky
              clear hd HKT hky HDF
              obtain ⟨V3, hV3⟩ : ∃ V, V2.alloc (.cells (scL t).toArray 28) = V := ⟨_, rfl⟩
              have hb3 : Below V2.heap.size V2 V3 := by rw [← hV3]; exact (Below.refl _ _).alloc (Nat.le_refl _) _
              have HRN := Lib.hid (show V3.heap[V2.heap.size]? = some (.cells (scL t).toArray 28 (0, 0)) by rw [← hV3]; exact heap_alloc_new _ _)
              have HIA := Lib.hid (HIV.out.up hb3)
              have HFA : Hid (FreshS w5.heap.size t V3) := Lib.hid (HFV.out.rows (Rows.of_below hb3) (Rows.of_below hb3) (Rows.of_below hb3))
              have HV3 := Lib.hid hV3
              clear hV3 hb3
              dsimp only
              go_wp2_with (first | (rw [HV1.out]) | (rw [HV2.out]) | (refine wpList_store_big rfl 28 (.tmp 10) (.tmp 34) rfl w6.heap.size _ _ (scC t) rfl rfl HRQ.out hiq.out hsq.out hoq.out ?_) | (rw [HV3.out]) | (with_reducible refine stop_at (some 40) rfl ?_; refine Lib.hid ?_; refine wpList_load_mid rfl 28 (.tmp 10) rfl w6.heap.size 0 rfl (scL t) _ HXR.out Tryz.underlying28 rfl hi.out ?_) | (with_reducible refine stop_at (some 41) rfl ?_; refine Lib.hid ?_; refine build_one infoGs (by omega) rfl (.tmp 40) 52 rfl Tryz.underlying52 (scL t).toArray rfl (by rw [List.size_toArray]; exact HLT.out) ?_) | (at_builtin; refine app_G infoGs rfl (.tmp 39) (.tmp 41) 52 rfl Tryz.underlying52 w5.heap.size (.slice of fs.length cf) fs [t] rfl HIA.out.bel.size HIA.out.own (some ⟨V2.heap.size, 0, none⟩) 1 rfl (fun h => by cases h) (one_src HRN.out) (fun z hz => by simp at hz; subst hz; exact HLT.out) (fun z _ => sc_one1 z) (by have := HFL.out; simp; omega) ?_))
              intro v' w7 ho7 hg7
              refine Lib.hid ?_
              have HI7 : Hid (SpI7 zs w5 v' (fs ++ [t]) w7) := Lib.hid (HIA.out.app HFA.out ho7 hg7)
              obtain ⟨ow, cw, hvw, _, _⟩ := ho7.form (fun z hz => by simp [scL, (HI7.out.each z hz).wf.len])
              subst hvw
              clear ho7 hg7 HIA HFA
              obtain ⟨ml, hml⟩ : ∃ ml, (fs ++ [t]).length = ml := ⟨_, rfl⟩
              have HML := Lib.hid hml
              rw [hml] at HI7 ⊢
              clear hml
              go_wp2_with fail
              go_roundg (n - (k + 1))
              case measure => omega
              case rel => exact ⟨k + 1, _, fs ++ [t], rfl, by go_num, by omega, rfl, rfl, by simp [HFL.out], by rw [HDN.out, List.map_append]; simp [HKY.out], HI7.out⟩
        · obtain rfl : k = n := by omega
          have t2 : ¬ (k : Int) < (k : Int) := by omega
          have hsk : splitK l = (some (fs.map keyS), 0) := HSK.out.trans (reelF_end (by
            have h1 : ts.length = k := by rw [← HTS.out, List.length_map, HN.out]
            rw [h1]
            exact HDF.out))
          have HR := Lib.hid (HGOOD.out _ fs wr hsk (HI.out.own.base HB5.out.size) (fun z hz => (HI.out.each z hz).low HB5.out.size) (bnext HB5.out HI.out.bel))
          clear hsk HI
          go_wp2_with (first | go_step3 | fail)
          try rw [Exit.noGoto_ret]
          go_ret2
          exact HR.out
    · have HSK := Lib.hid (split_70 HBH.out (HEND.out.2 hz))
      clear HEND HBH
      go_wp2_with (first | go_step3 | fail)
      refine HEN.out.mono ?_
      rintro e w5 ⟨rfl, hb5⟩
      have HR := Lib.hid (HBAD.out 70 w5 HSK.out (bnext HB4.out hb5))
      clear hb5 HEN
      go_wp2_with (first | go_step3 | fail)
      try rw [Exit.noGoto_ret]
      go_ret2
      exact HR.out
end Go.Proofs.YtbbhmhihpdmoiaaGreat.Fx

