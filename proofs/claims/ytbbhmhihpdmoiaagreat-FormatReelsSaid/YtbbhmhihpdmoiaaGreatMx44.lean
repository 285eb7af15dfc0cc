import Derived.Laws.Rows
import Derived.Test.YtbbhmhihpdmoiaaGreatProg
import Derived.Test.YtbbhmhihpdmoiaaGreatMx22
import Derived.Test.YtbbhmhihpdmoiaaGreatMx28
import Derived.Test.YtbbhmhihpdmoiaaGreatMx30
import Derived.Test.YtbbhmhihpdmoiaaGreatMx43
/- Films: which are great, and whether two are the same. -/
set_option linter.unusedVariables false
set_option linter.unusedSimpArgs false
namespace Go.Proofs.YtbbhmhihpdmoiaaGreat.Fx
open Go Go.RowKit
theorem info19 {s : ScR} (h : ScWf s) : (Tryz.prog.info? 28).map (·.size) = some (scL s).length := by rw [scL_len h]; kernel_rfl
def greatF (l : List ScR) : Bool := decide (6 < l.length) || l.any greatZ
set_option maxRecDepth 100000 in
set_option maxHeartbeats 4000000 in
theorem great_film (xs : List ScR) (o : Option Addr) (c : Nat) (w : World) (hc : CapOk o xs.length c) (h : ScsAt w o xs) :
    Calls Tryz.prog 21 #[.slice o xs.length c] w (RetBool (greatF xs) w) := by
  obtain ⟨n, hn⟩ : ∃ n, xs.length = n := ⟨_, rfl⟩
  have HN := Lib.hid hn
  have hc1 := hc.1
  rw [hn] at hc1 ⊢
  by_cases h6 : 6 < n
  · have t1 : (6 : Int) < (n : Int) := by omega
    have e : greatF xs = true := by unfold greatF; rw [hn, decide_eq_true h6]; rfl
    rw [e]
    clear h hc hc1 hn e h6
    go_enter Tryz.func21, Tryz.ntmps21
    go_wp2_with fail
    go_ret
    exact ⟨rfl, Below.refl _ _⟩
  · have t1 : ¬ (6 : Int) < (n : Int) := by omega
    have HG : Hid (greatF xs = xs.any greatZ) := Lib.hid (by unfold greatF; rw [hn, decide_eq_false h6]; rfl)
    have HS := Lib.hid h
    have n6 : n ≤ 6 := by omega
    have n0 : (0 : Int) ≤ (n : Int) := by omega
    have n7 : (n : Int) ≤ 6 := by omega
    clear h hc hn h6
    go_enter Tryz.func21, Tryz.ntmps21
    go_wp2_with fail
    go_loopg [3, 9] n (fun g s3 s9 wx => ∃ k : Nat, g = n - k ∧ s9 = .int .i64 (k : Int) ∧ k ≤ n ∧ (xs.take k).any greatZ = false ∧ Below w.heap.size w wx)
    case atStart => exact ⟨0, rfl, rfl, by omega, rfl, Below.refl _ _⟩
    case round =>
      obtain ⟨k, rfl, rfl, hk, ha, hb⟩ := hrel
      have HA := Lib.hid ha
      have HB := Lib.hid hb
      clear ha hb
      have k0 : (0 : Int) ≤ (k : Int) := by omega
      by_cases hkn : k < n
      · have t2 : (k : Int) < (n : Int) := by omega
        obtain ⟨x, hx⟩ : ∃ x, xs[k]? = some x := ⟨_, List.getElem?_eq_getElem (by rw [HN.out]; exact hkn)⟩
        obtain ⟨b, off, rfl, hat0⟩ := HS.out k x hx
        have hat := hat0.below HB.out
        have HT : Hid ((xs.take (k + 1)).any greatZ = greatZ x) := Lib.hid (by rw [List.take_add_one, hx, List.any_append, HA.out]; simp)
        have HXX : Hid (greatZ x = true → greatF xs = true) := Lib.hid (fun h => by rw [HG.out, List.any_eq_true]; exact ⟨x, List.mem_of_getElem? hx, h⟩)
        have HX := Lib.hid hat
        have HC := Lib.hid (show Calls Tryz.prog 10 #[.agg (scL x).toArray] wr _ from zgreat_any x wr hat.wf hat.objs)
        have hi := Lib.hid (info19 hat.wf)
        clear hx hat0 hat
        cases hgx : greatZ x with
        | true =>
          rw [hgx, show bI true = 1 from rfl] at HC
          have HF := Lib.hid (HXX.out hgx)
          clear hgx
          go_wp2_with (with_reducible refine stop_at (some 15) rfl ?_; refine Lib.hid ?_; refine wpList_load_mid rfl 28 (.tmp 14) rfl b (off + k * 19) rfl (scL x) _ HX.out.cells Tryz.underlying28 rfl hi.out ?_)
          refine HC.out.mono ?_
          rintro e w2 ⟨rfl, hb2⟩
          have HE := Lib.hid (bnext HB.out hb2)
          clear hb2 HC
          go_wp2_with fail
          go_ret
          exact ⟨by rw [HF.out]; rfl, HE.out⟩
        | false =>
          rw [hgx, show bI false = 0 from rfl] at HC
          rw [hgx] at HT
          clear hgx
          go_wp2_with (with_reducible refine stop_at (some 15) rfl ?_; refine Lib.hid ?_; refine wpList_load_mid rfl 28 (.tmp 14) rfl b (off + k * 19) rfl (scL x) _ HX.out.cells Tryz.underlying28 rfl hi.out ?_)
          refine HC.out.mono ?_
          rintro e w2 ⟨rfl, hb2⟩
          have HE := Lib.hid (bnext HB.out hb2)
          clear hb2 HC
          go_wp2_with fail
          go_roundg (n - (k + 1))
          case measure => omega
          case rel => exact ⟨k + 1, rfl, by go_num, by omega, HT.out, HE.out⟩
      · obtain rfl : k = n := by omega
        have t2 : ¬ (k : Int) < (k : Int) := by omega
        have HE : Hid (greatF xs = false) := Lib.hid (by rw [HG.out]; have := HA.out; rw [List.take_of_length_le (by rw [HN.out]; omega)] at this; exact this)
        go_wp2_with fail
        go_ret
        exact ⟨by rw [HE.out]; rfl, HB.out⟩
set_option maxRecDepth 100000 in
set_option maxHeartbeats 4000000 in
theorem films_any (xs ys : List ScR) (o q : Option Addr) (c d : Nat) (w : World) (hc : CapOk o xs.length c) (hd : CapOk q ys.length d) (h : ScsAt w o xs) (h2 : ScsAt w q ys) (hm : xs.length ≤ 1000000) (b : Bool) (hbk : b = true ↔ xs.map keyS = ys.map keyS) :
    Calls Tryz.prog 26 #[.slice o xs.length c, .slice q ys.length d] w (RetBool b w) := by
  obtain ⟨n, hn⟩ : ∃ n, xs.length = n := ⟨_, rfl⟩
  obtain ⟨m, hm2⟩ : ∃ m, ys.length = m := ⟨_, rfl⟩
  have hc1 := hc.1
  have hd1 := hd.1
  have HBK := Lib.hid hbk
  clear hbk
  rw [hn] at hc1 hm ⊢
  rw [hm2] at hd1 ⊢
  by_cases hnm : n = m
  · subst hnm
    have HN := Lib.hid hn
    have HM := Lib.hid hm2
    have HS := Lib.hid h
    have HT := Lib.hid h2
    have n0 : (0 : Int) ≤ (n : Int) := by omega
    have n7 : (n : Int) ≤ 1000000 := by omega
    clear h h2 hc hd hn hm2
    go_enter Tryz.func26, Tryz.ntmps26
    go_wp2_with fail
    go_loopg [5, 6] n (fun g s5 s6 wx => ∃ k : Nat, g = n - k ∧ s5 = .int .i64 (k : Int) ∧ k ≤ n ∧ (xs.take k).map keyS = (ys.take k).map keyS ∧ Below w.heap.size w wx)
    case atStart => exact ⟨0, rfl, rfl, by omega, rfl, Below.refl _ _⟩
    case round =>
      obtain ⟨i, rfl, rfl, hk, ha, hb⟩ := hrel
      have HA := Lib.hid ha
      have HB := Lib.hid hb
      clear ha hb
      have k0 : (0 : Int) ≤ (i : Int) := by omega
      by_cases hkn : i < n
      · have t2 : (i : Int) < (n : Int) := by omega
        obtain ⟨x, hx⟩ : ∃ x, xs[i]? = some x := ⟨_, List.getElem?_eq_getElem (by rw [HN.out]; exact hkn)⟩
        obtain ⟨y, hy⟩ : ∃ y, ys[i]? = some y := ⟨_, List.getElem?_eq_getElem (by rw [HM.out]; exact hkn)⟩
        obtain ⟨b1, o1, rfl, hat0⟩ := HS.out i x hx
        obtain ⟨b2, o2, rfl, hbt0⟩ := HT.out i y hy
        have hat := hat0.below HB.out
        have hbt := hbt0.below HB.out
        have HX := Lib.hid hat
        have HY := Lib.hid hbt
        have hx19 := Lib.hid (info19 hat.wf)
        have hy19 := Lib.hid (info19 hbt.wf)
        obtain ⟨sm, hsm⟩ : ∃ sm, decide (sameS x y) = sm := ⟨_, rfl⟩
        have HSM : Hid (∀ X, Below wr.heap.size wr X → Calls Tryz.prog 15 #[.agg (scL x).toArray, .agg (scL y).toArray] X fun e X' => e = .returned (.bool sm) ∧ Below X.heap.size X X') := Lib.hid (fun X hX => by
          have := zsame_any x y X HX.out.wf HY.out.wf (HX.out.objs.below hX) (HY.out.objs.below hX)
          rw [hsm] at this
          exact this)
        have HXT := Lib.hid hx
        have HYT := Lib.hid hy
        have HSE := Lib.hid hsm
        clear hx hy hat0 hbt0 hat hbt hsm
        go_wp2_with fail
        refine (wpIn_wide (n := 5)).1 (give_region (S := fun X => Below wr.heap.size wr X) (Z := []) (by kernel_rfl) (by kernel_rfl) below_mono (fun d _ _ _ _ h => by cases d <;> exact h) (bdrewN _ (Below.refl _ _)) (fun hG vw0 hw0 => ?_))
        refine give_pure [] 0 (?_) hG rfl (by kernel_rfl) hw0 (by kernel_rfl) ?_ ?_
        rotate_left
        · intro wz hSw; (first | (go_simp; done) | (go_simp; with_reducible rfl))
        intro vw1 hw1
        clear hw0 vw0
        (try simp only [Act.put, List.getElem_toArray, List.getElem_cons_zero, List.getElem_cons_succ, List.setIfInBounds_toArray, List.set_cons_zero, List.set_cons_succ])
        refine give_pure [] 1 (?_) hG rfl (by kernel_rfl) hw1 (by kernel_rfl) ?_ ?_
        rotate_left
        · intro wz hSw; (first | (go_simp; done) | (go_simp; with_reducible rfl))
        intro vw2 hw2
        clear hw1 vw1
        (try simp only [Act.put, List.getElem_toArray, List.getElem_cons_zero, List.getElem_cons_succ, List.setIfInBounds_toArray, List.set_cons_zero, List.set_cons_succ])
        refine give_pure [] 2 (?_) hG rfl (by kernel_rfl) hw2 (by kernel_rfl) ?_ ?_
        rotate_left
        · intro wz hSw; (first | (go_simp; done) | (go_simp; with_reducible rfl))
        intro vw3 hw3
        clear hw2 vw2
        (try simp only [Act.put, List.getElem_toArray, List.getElem_cons_zero, List.getElem_cons_succ, List.setIfInBounds_toArray, List.set_cons_zero, List.set_cons_succ])
        refine give_pure [] 3 (.agg (scL x).toArray) hG rfl (by kernel_rfl) hw3 (by kernel_rfl) ?_ ?_
        · intro wz hSw; exact exec_load_mid 28 (.tmp 20) (by kernel_rfl) b1 (o1 + i * 19) (by kernel_rfl) (scL x) _ (range_below hSw HX.out.cells) Tryz.underlying28 (by kernel_rfl) hx19.out
        intro vw4 hw4
        clear hw3 vw3
        (try simp only [Act.put, List.getElem_toArray, List.getElem_cons_zero, List.getElem_cons_succ, List.setIfInBounds_toArray, List.set_cons_zero, List.set_cons_succ])
        refine give_pure [] 4 (?_) hG rfl (by kernel_rfl) hw4 (by kernel_rfl) ?_ ?_
        rotate_left
        · intro wz hSw; (first | (go_simp; done) | (go_simp; with_reducible rfl))
        intro vw5 hw5
        clear hw4 vw4
        (try simp only [Act.put, List.getElem_toArray, List.getElem_cons_zero, List.getElem_cons_succ, List.setIfInBounds_toArray, List.set_cons_zero, List.set_cons_succ])
        refine give_pure [] 5 (?_) hG rfl (by kernel_rfl) hw5 (by kernel_rfl) ?_ ?_
        rotate_left
        · intro wz hSw; (first | (go_simp; done) | (go_simp; with_reducible rfl))
        intro vw6 hw6
        clear hw5 vw5
        (try simp only [Act.put, List.getElem_toArray, List.getElem_cons_zero, List.getElem_cons_succ, List.setIfInBounds_toArray, List.set_cons_zero, List.set_cons_succ])
        refine give_pure [] 6 (?_) hG rfl (by kernel_rfl) hw6 (by kernel_rfl) ?_ ?_
        rotate_left
        · intro wz hSw; (first | (go_simp; done) | (go_simp; with_reducible rfl))
        intro vw7 hw7
        clear hw6 vw6
        (try simp only [Act.put, List.getElem_toArray, List.getElem_cons_zero, List.getElem_cons_succ, List.setIfInBounds_toArray, List.set_cons_zero, List.set_cons_succ])
        refine give_pure [] 7 (.agg (scL y).toArray) hG rfl (by kernel_rfl) hw7 (by kernel_rfl) ?_ ?_
        · intro wz hSw; exact exec_load_mid 28 (.tmp 24) (by kernel_rfl) b2 (o2 + i * 19) (by kernel_rfl) (scL y) _ (range_below hSw HY.out.cells) Tryz.underlying28 (by kernel_rfl) hy19.out
        intro vw8 hw8
        clear hw7 vw7
        (try simp only [Act.put, List.getElem_toArray, List.getElem_cons_zero, List.getElem_cons_succ, List.setIfInBounds_toArray, List.set_cons_zero, List.set_cons_succ])
        refine give_callS [] 8 15 #[.agg (scL x).toArray, .agg (scL y).toArray] (.bool sm) hG rfl (by kernel_rfl) hw8 (by kernel_rfl) ?_ (HSM.out) ?_
        · intro wz; (first | (go_simp; done) | (go_simp; with_reducible rfl))
        intro vw9 hw9
        clear hw8 vw8
        (try simp only [Act.put, List.getElem_toArray, List.getElem_cons_zero, List.getElem_cons_succ, List.setIfInBounds_toArray, List.set_cons_zero, List.set_cons_succ])
        refine give_pure [] 9 (?_) hG rfl (by kernel_rfl) hw9 (by kernel_rfl) ?_ ?_
        rotate_left
        · intro wz hSw; (first | (go_simp; done) | (go_simp; with_reducible rfl))
        intro vw10 hw10
        clear hw9 vw9
        (try simp only [Act.put, List.getElem_toArray, List.getElem_cons_zero, List.getElem_cons_succ, List.setIfInBounds_toArray, List.set_cons_zero, List.set_cons_succ])
        refine give_done (by kernel_rfl) (?_) _
        have HZ := Lib.hid (bnext HB.out hw10)
        cases sm with
        | true =>
          have hks : keyS x = keyS y := (keyS_same x y).1 (of_decide_eq_true HSE.out)
          have HT2 : Hid ((xs.take (i + 1)).map keyS = (ys.take (i + 1)).map keyS) := Lib.hid (by rw [List.take_add_one, List.take_add_one, HXT.out, HYT.out, List.map_append, List.map_append, HA.out]; simp [hks])
          clear hks
          go_wp2_with fail
          go_roundg (n - (i + 1))
          case measure => omega
          case rel => exact ⟨i + 1, rfl, by go_num, by omega, HT2.out, HZ.out⟩
        | false =>
          have HF : Hid (b = false) := Lib.hid (Bool.eq_false_iff.2 (fun h0 => (fun (h : xs.map keyS = ys.map keyS) => (of_decide_eq_false HSE.out) ((keyS_same x y).2 (by
            have h1 : (xs.map keyS)[i]? = (ys.map keyS)[i]? := by rw [h]
            rw [List.getElem?_map, List.getElem?_map, HXT.out, HYT.out] at h1
            simpa using h1))) (HBK.out.1 h0)))
          go_wp2_with fail
          go_ret
          exact ⟨by rw [HF.out]; rfl, HZ.out⟩
      · obtain rfl : i = n := by omega
        have t2 : ¬ (i : Int) < (i : Int) := by omega
        have HE : Hid (b = true) := Lib.hid (HBK.out.2 (by have := HA.out; rw [List.take_of_length_le (by rw [HN.out]; omega), List.take_of_length_le (by rw [HM.out]; omega)] at this; exact this))
        go_wp2_with fail
        go_ret
        exact ⟨by rw [HE.out]; rfl, HB.out⟩
  · have t1 : ¬ ((n : Int) = (m : Int)) := by omega
    have HE : Hid (b = false) := Lib.hid (Bool.eq_false_iff.2 (fun h => hnm (by have := congrArg List.length (HBK.out.1 h); simpa [hn, hm2] using this)))
    clear h h2 hc hd hn hm2 hnm
    go_enter Tryz.func26, Tryz.ntmps26
    go_wp2_with fail
    go_ret
    exact ⟨by rw [HE.out]; rfl, Below.refl _ _⟩
end Go.Proofs.YtbbhmhihpdmoiaaGreat.Fx


/- FormatBack, walked. -/
set_option linter.unusedVariables false
set_option linter.unusedSimpArgs false
namespace Go.Proofs.YtbbhmhihpdmoiaaGreat.Fx
open Go Go.RowKit Go.Lib
open Go.Proofs.YtbbhmhihpdmoiaaGreat.Pk (Bs By cutA)
theorem seal_by {m : List Nat} (h : By m) : By (sealL m) := by
  unfold sealL
  intro x hx
  rcases List.mem_append.1 hx with hx | hx
  · exact h x hx
  · exact Cx.le4_by _ x hx
theorem bytes_ok {k : KeyS} (h : dSc k) : By (bytesK k) ∧ (bytesK k).length ≤ 900000 := by
  have h1 := goodSc.bytes k h
  have h2 := (fSc_len h).2
  refine ⟨seal_by (fun x hx => ?_), ?_⟩
  · rcases List.mem_append.1 hx with hx | hx
    · exact mark1_by x hx
    · exact h1 x hx
  · unfold bytesK sealL
    rw [List.length_append, le4_four, List.length_append]
    have : mark1.length = 4 := rfl
    omega
/-- the scene in its box, its lists, the bytes -/
structure BkI (s : ScR) (l : List Nat) (o : Option Addr) (w W : World) : Prop where
  box : ScAt w.heap.size s W
  oa : ObjsAt W s.oo s.os
  bs : Bs W o l
  bel : Below w.heap.size w W
theorem BkI.up {s : ScR} {l : List Nat} {o : Option Addr} {w W X : World} (i : BkI s l o w W) (h : Below W.heap.size W X) : BkI s l o w X := ⟨i.box.below h, i.oa.below h, i.bs.below h, bnext i.bel h⟩
end Go.Proofs.YtbbhmhihpdmoiaaGreat.Fx


/- Films as bytes: the program's Join, walked. -/
set_option linter.unusedVariables false
set_option linter.unusedSimpArgs false
namespace Go.Proofs.YtbbhmhihpdmoiaaGreat.Fx
open Go Go.RowKit Go.Lib
open Go.Proofs.YtbbhmhihpdmoiaaGreat.Pk (Bs By PW PCall Turn)
def fText (m : List Nat) : List Nat := fU (m.length : Int) ++ m
def fScT (k : KeyS) : List Nat := fText (bytesK k)
def filmL (ks : List KeyS) : List Nat := fU (ks.length : Int) ++ ks.flatMap fScT
def bytesF (ks : List KeyS) : List Nat := sealL (markF ++ filmL ks)
def joinZ (xs : List ScR) : Option (List Nat) × Int := if 100 < xs.length then (none, 2) else if xs.all okZ = true then (some (bytesF (xs.map keyS)), 0) else (none, 60)
def RetJo (xs : List ScR) (w : World) (e : Ending) (w' : World) : Prop := (∃ v, e = .returned (.tuple #[v, .int .i64 (joinZ xs).2]) ∧ Pk.Own w' w.heap.size v ((joinZ xs).1.getD [])) ∧ Below w.heap.size w w'
theorem wtext_any (p : Nat) (o : Option Addr) (c : Nat) (m l : List Nat) (W0 w : World) (hl : l.length ≤ 90000000) (hm : m.length ≤ 65536) (hc : o = none → c = 0) (hb : Bs w o m) (hlow : ∀ b off, o = some ⟨b, off, none⟩ → W0.heap.size ≤ b ∧ b < w.heap.size) (h : WSt p l W0) (hB : Below W0.heap.size W0 w) :
    Calls Tryz.prog 53 #[.pointer (some ⟨p, 0, none⟩), .slice o m.length c, .int .i64 65536] w (WPost p (l ++ fText m) w) := by
  obtain ⟨v, h⟩ := h
  have hp := h.lt
  have hv : ∀ k, v.ownBlock = some k → k < W0.heap.size := fun k hk => by
    obtain ⟨_, cur, hcur⟩ := own_row h.own k hk
    exact (Array.getElem?_eq_some_iff.1 hcur).1
  have hw := h.below hB
  have := Pk.ptext_any (p + 1) p o c m 65536 v l false w hw.lt hl (by omega) hc hb (fun b off e _ => ⟨by have := (hlow b off e).1; omega, fun e2 => by have := hv b e2; have := (hlow b off e).1; omega, (hlow b off e).2⟩) hw
  have e : Pk.mayB (m.length : Int) 65536 = true := decide_eq_true ⟨by omega, by omega⟩
  rw [e] at this
  exact this.mono fun e w' hc => WPost.of hw hc
theorem fText_len (m : List Nat) : (fText m).length ≤ m.length + 11 := by
  unfold fText
  rw [List.length_append]
  have := fU_len (m.length : Int)
  omega
theorem fU_one {z : Int} (h0 : 0 ≤ z) (h1 : z ≤ 63) : (fU z).length = 1 := by
  unfold fU
  rw [Pk.form_small (by omega)]
  rfl
theorem fTri_len2 {t : TriR} (h : dTri t) : (fTri t).length ≤ 14 := by
  unfold fTri
  simp only [List.length_append]
  have := fU_one h.1.1 h.1.2
  have := fU_one h.2.1.1 h.2.1.2
  have := fU_one h.2.2.1.1 h.2.2.1.2
  have := fU_len t.col
  omega
theorem fObj_len2 {x : Int × List Int × List (List Int) × List TriR} (h : dObj x) : (fObj x).length ≤ 3300 := by
  unfold fObj fMany
  simp only [List.length_append]
  have h1 := fU_len x.1
  have h2 := fNums_len x.2.1
  have h2' := h.2.1.1
  have h3 := fU_len (x.2.2.1.length : Int)
  have h4 := flat_le (f := fNums) (c := 33) x.2.2.1 (fun y hy => by
    have := fNums_len y
    have h3 : y.length = 3 := (h.2.2.1.2 y hy).1
    omega)
  have h5 := fU_len (x.2.2.2.length : Int)
  have h6 := flat_le (f := fTri) (c := 14) x.2.2.2 (fun y hy => fTri_len2 (h.2.2.2.2 y hy))
  have h7 := h.2.2.1.1
  have h8 := h.2.2.2.1
  omega
theorem fSc_len2 {k : KeyS} (h : dSc k) : (fSc k).length ≤ 53200 := by
  unfold fSc fMany
  simp only [List.length_append]
  have h1 := fU_len k.1
  have h2 := fU_len k.2.1
  have h3 := fNums_len k.2.2.1
  have h3' := h.2.2.1.1
  have h4 := fU_len (k.2.2.2.length : Int)
  have h5 := flat_le (f := fObj) (c := 3300) k.2.2.2 (fun y hy => fObj_len2 (h.2.2.2.2 y hy))
  have h6 := h.2.2.2.1
  omega
theorem bytesK_len {k : KeyS} (h : dSc k) : (bytesK k).length ≤ 53208 := by
  have h2 := fSc_len2 h
  unfold bytesK sealL
  rw [List.length_append, le4_four, List.length_append]
  have : mark1.length = 4 := rfl
  omega
theorem fScT_by {k : KeyS} (h : dSc k) : By (fScT k) := fun x hx => by
  unfold fScT fText at hx
  rcases List.mem_append.1 hx with hx | hx
  · exact Pk.form_bytes (by have := bytesK_len h; omega) x hx
  · exact (bytes_ok h).1 x hx
theorem flat_by {l : List KeyS} (h : ∀ k ∈ l, dSc k) : By (l.flatMap fScT) := fun x hx => by
  obtain ⟨k, hk, hx⟩ := List.mem_flatMap.1 hx
  exact fScT_by (h k hk) x hx
theorem flat_len {l : List KeyS} (h : ∀ k ∈ l, dSc k) : (l.flatMap fScT).length ≤ 53219 * l.length := by
  induction l with
  | nil => simp
  | cons k l ih =>
    rw [List.flatMap_cons, List.length_append, List.length_cons]
    have h1 := ih (fun x hx => h x (List.mem_cons_of_mem _ hx))
    have h2 : (fScT k).length ≤ 53219 := by
      have := fText_len (bytesK k)
      have := bytesK_len (h k (List.mem_cons_self ..))
      unfold fScT
      omega
    omega
/-- the writer has the first ones, and what was there stays -/
structure JoI (p : Nat) (l : List Nat) (w W : World) : Prop where
  wr : WSt p l W
  bel : Below p w W
  lt : p < W.heap.size
theorem JoI.up {p : Nat} {l : List Nat} {w W X : World} (i : JoI p l w W) (h : Below W.heap.size W X) : JoI p l w X :=
  ⟨i.wr.below h, i.bel.trans ⟨h.os, h.tape, h.output, h.size, fun k hk => h.block k (by have := i.lt; omega)⟩, Nat.lt_of_lt_of_le i.lt h.size⟩
theorem JoI.post {p : Nat} {l l' : List Nat} {w W X : World} {e : Ending} (i : JoI p l w W) (h : WPost p l' W e X) : JoI p l' w X :=
  ⟨h.2.1, i.bel.trans h.2.2.below, h.2.1.lt⟩
def joB (n : Nat) (xs : List ScR) (k : Nat) : List Nat := fU (n : Int) ++ ((xs.take k).map keyS).flatMap fScT
theorem joB_succ {n : Nat} {xs : List ScR} {k : Nat} {x : ScR} (h : xs[k]? = some x) : joB n xs (k + 1) = joB n xs k ++ fText (bytesK (keyS x)) := by
  unfold joB
  rw [List.take_add_one, h, Option.toList_some, List.map_append, List.flatMap_append, ← List.append_assoc]
  simp [fScT]
set_option maxRecDepth 100000 in
set_option maxHeartbeats 8000000 in
theorem pjoin_any (xs : List ScR) (o : Option Addr) (c : Nat) (w : World) (hc : CapOk o xs.length c) (h : ScsAt w o xs) (hm : xs.length ≤ 100 → xs.all okZ = true → (filmL (xs.map keyS)).length ≤ 900000) :
    Calls Tryz.prog 22 #[.slice o xs.length c] w (RetJo xs w) := by
  obtain ⟨n, hn⟩ : ∃ n, xs.length = n := ⟨_, rfl⟩
  have HN := Lib.hid hn
  have hc1 := hc.1
  by_cases h1 : 100 < n
  · have t1 : (100 : Int) < (n : Int) := by omega
    have HE : Hid (RetJo xs w (.returned (.tuple #[.slice none 0 0, .int .i64 2])) w) := Lib.hid (by
      have e : joinZ xs = (none, 2) := by unfold joinZ; rw [if_pos (by omega)]
      unfold RetJo
      rw [e]
      exact ⟨⟨_, rfl, World.ownsRow_nil _ _ _ _⟩, Below.refl _ _⟩)
    rw [hn] at hc1 ⊢
    clear h hc hm hn h1
    go_enter Tryz.func22, Tryz.ntmps22
    go_wp2_with fail
    go_ret2
    exact HE.out
  · have t1 : ¬ (100 : Int) < (n : Int) := by omega
    have n100 : n ≤ 100 := by omega
    have n0 : (0 : Int) ≤ (n : Int) := by omega
    have n1 : (n : Int) ≤ 100 := by omega
    have HBAD : Hid (∀ X, xs.all okZ = false → Below w.heap.size w X → RetJo xs w (.returned (.tuple #[.slice none 0 0, .int .i64 60])) X) := Lib.hid (fun X ha hb => by
      have e : joinZ xs = (none, 60) := by unfold joinZ; rw [if_neg (by omega), if_neg (by rw [ha]; decide)]
      unfold RetJo
      rw [e]
      exact ⟨⟨_, rfl, World.ownsRow_nil _ _ _ _⟩, hb⟩)
    have HGOOD : Hid (∀ X v, xs.all okZ = true → Pk.Own X w.heap.size v (sealL (markF ++ joB n xs n)) → Below w.heap.size w X → RetJo xs w (.returned (.tuple #[v, .int .i64 0])) X) := Lib.hid (fun X v ha ho hb => by
      have e : joinZ xs = (some (bytesF (xs.map keyS)), 0) := by unfold joinZ; rw [if_neg (by omega), if_pos ha]
      unfold RetJo
      rw [e]
      refine ⟨⟨_, rfl, ?_⟩, hb⟩
      have : joB n xs n = filmL (xs.map keyS) := by unfold joB filmL; rw [List.take_of_length_le (by omega), List.length_map, hn]
      rw [this] at ho
      exact ho)
    have HML : Hid (xs.all okZ = true → (joB n xs n).length ≤ 900000) := Lib.hid (fun ha => by
      have := hm (by omega) ha
      rwa [show filmL (xs.map keyS) = joB n xs n by unfold joB filmL; rw [List.take_of_length_le (by omega), List.length_map, hn]] at this)
    have HXS := Lib.hid h
    have HDS : Hid (∀ k, (xs.take k).all okZ = true → ∀ z ∈ (xs.take k).map keyS, dSc z) := Lib.hid (fun k ha z hz => by
      obtain ⟨s, hs, rfl⟩ := List.mem_map.1 hz
      obtain ⟨i, hi⟩ := List.getElem?_of_mem (List.mem_of_mem_take hs)
      obtain ⟨b, off, _, hat⟩ := h i s hi
      exact ok_dSc hat.wf hat.objs (List.all_eq_true.1 ha s hs))
    have HFU := Lib.hid (fU_len (n : Int))
    rw [hn] at hc1 ⊢
    clear h hc hm hn h1
    go_enter Tryz.func22, Tryz.ntmps22
    go_wp2_with fail
    refine (Pk.new_writer _).mono ?_
    rintro e w2 ⟨rfl, hpw, hw2⟩
    have hb2 : Below w.heap.size w w2 := by rw [hw2]; exact (Below.refl _ _).alloc (Nat.le_refl _) _
    have HJ2 : Hid (JoI w.heap.size [] w w2) := Lib.hid ⟨⟨_, hpw⟩, hb2, hpw.lt⟩
    have HSM := Lib.hid (wsmall_any w.heap.size (n : Int) 100 [] w2 (by omega) (by omega) (by omega) (by simp) ⟨_, hpw⟩)
    clear hpw hw2 hb2
    go_wp2_with fail
    refine HSM.out.mono ?_
    rintro e w3 hp3
    obtain rfl := hp3.1
    have HJ3 := Lib.hid (HJ2.out.post hp3)
    clear hp3 HSM HJ2
    go_wp2_with fail
    go_loopg [19] n (fun g s19 wx => ∃ k : Nat, g = n - k ∧ s19 = .int .i64 (k : Int) ∧ k ≤ n ∧ (xs.take k).all okZ = true ∧ JoI w.heap.size (joB n xs k) w wx)
    case atStart => exact ⟨0, rfl, rfl, by omega, rfl, by have := HJ3.out; unfold joB; simpa using this⟩
    case round =>
      obtain ⟨k, rfl, rfl, hk, ha, hj⟩ := hrel
      have HA := Lib.hid ha
      have HJ := Lib.hid hj
      clear ha hj HJ3
      have k0 : (0 : Int) ≤ (k : Int) := by omega
      have HL9 : Hid ((joB n xs k).length ≤ 90000000) := Lib.hid (by
        have h1 := flat_len (HDS.out k HA.out)
        have h2 : ((xs.take k).map keyS).length ≤ 100 := by rw [List.length_map, List.length_take]; omega
        have h3 := HFU.out
        unfold joB
        rw [List.length_append]
        omega)
      by_cases hkn : k < n
      · have t2 : (k : Int) < (n : Int) := by omega
        obtain ⟨x, hx⟩ : ∃ x, xs[k]? = some x := ⟨_, List.getElem?_eq_getElem (by rw [HN.out]; exact hkn)⟩
        obtain ⟨b, off, rfl, hat0⟩ := HXS.out k x hx
        have hat := hat0.below HJ.out.bel
        have HX := Lib.hid hat
        have hi := Lib.hid (info19 hat.wf)
        obtain ⟨V1, hV1⟩ : ∃ V, wr.alloc (.cells #[.int .i64 0, .int .i64 0, .int .i64 0, .int .i64 0, .int .i64 0, .int .i64 0, .int .i64 0, .int .i64 0, .int .i64 0, .int .i64 0, .int .i64 0, .int .i64 0, .int .i64 0, .int .i64 0, .int .i64 0, .int .i64 0, .int .i64 0, .int .i64 0, .slice none 0 0] 28) = V := ⟨_, rfl⟩
        obtain ⟨V2, hV2⟩ : ∃ V, V1.setRow wr.heap.size (scC x) = V := ⟨_, rfl⟩
        have r1 : RowAt 28 wr.heap.size #[.int .i64 0, .int .i64 0, .int .i64 0, .int .i64 0, .int .i64 0, .int .i64 0, .int .i64 0, .int .i64 0, .int .i64 0, .int .i64 0, .int .i64 0, .int .i64 0, .int .i64 0, .int .i64 0, .int .i64 0, .int .i64 0, .int .i64 0, .int .i64 0, .slice none 0 0] V1 := by rw [← hV1]; exact RowAt.new _ _ _
        have r2 : V2.heap[wr.heap.size]? = some (.cells (scC x) 28 (0, 0)) := by rw [← hV2]; exact setRow_heap _ _ _ _ _ _ r1
        have b2 : Below wr.heap.size wr V2 := by rw [← hV2, ← hV1]; exact Below.row ((Below.refl _ _).alloc (Nat.le_refl _) _) (Nat.le_refl _) _
        have HRQ := Lib.hid r1
        have HXR : Hid (V2.rangeAt wr.heap.size 0 (scL x)) := Lib.hid (fun j u hj => by rw [Nat.zero_add]; exact (show ScAt wr.heap.size x V2 from r2).at.trans hj)
        have HJV := Lib.hid (HJ.out.up b2)
        have hatV := hat.below b2
        have HEN := Lib.hid (show Calls Tryz.prog 12 #[.agg (scL x).toArray] V2 (RetEn (encO x) V2) from pencode_any x V2 hatV.wf hatV.objs)
        have hiq := Lib.hid (sizeZ x hat.wf (.slice x.oo x.os.length x.oc))
        have hsq := Lib.hid (show 19 = (scC x).size from (twL_len hat.wf (.slice x.oo x.os.length x.oc)).symm)
        have hoq := Lib.hid (show (scC x).all (·.oneCell') = true from twL_one x (.slice x.oo x.os.length x.oc) rfl)
        have HV1 := Lib.hid hV1
        have HV2 := Lib.hid hV2
        have HDX := Lib.hid (fun (ho : okZ x = true) => ok_dSc hat.wf hat.objs ho)
        have HSU := Lib.hid (joB_succ (n := n) hx)
        have HAS : Hid ((xs.take (k + 1)).all okZ = okZ x) := Lib.hid (by rw [List.take_add_one, hx, List.all_append, HA.out]; simp)
        have HNA : Hid (okZ x = false → xs.all okZ = false) := Lib.hid (fun h0 => by
          rw [List.all_eq_false]
          exact ⟨x, List.mem_of_getElem? hx, by rw [h0]; decide⟩)
        clear r1 r2 b2 hat0 hat hatV hx hV1 hV2
        cases hok : okZ x with
        | false =>
          have he : encO x = none := by unfold encO; rw [hok]; rfl
          rw [he] at HEN
          unfold RetEn erE at HEN
          simp only [Option.isSome_none, Bool.false_eq_true, if_false, Option.getD_none] at HEN
          have HB2 := Lib.hid (HBAD.out · (HNA.out hok))
          clear hok he
          go_wp2_with (first | (rw [HV1.out]) | (rw [HV2.out]) | (with_reducible refine stop_at (some 22) rfl ?_; refine Lib.hid ?_; refine wpList_load_mid rfl 28 (.tmp 21) rfl b (off + k * 19) rfl (scL x) _ HX.out.cells Tryz.underlying28 rfl hi.out ?_) | (refine wpList_store_big rfl 28 (.tmp 6) (.tmp 22) rfl wr.heap.size _ _ (scC x) rfl rfl HRQ.out hiq.out hsq.out hoq.out ?_) | (with_reducible refine stop_at (some 24) rfl ?_; refine Lib.hid ?_; refine wpList_load_mid rfl 28 (.tmp 6) rfl wr.heap.size 0 rfl (scL x) _ HXR.out Tryz.underlying28 rfl hi.out ?_))
          refine HEN.out.mono ?_
          rintro e w4 ⟨⟨v4, rfl, _⟩, hb4⟩
          have HR := Lib.hid (HB2.out w4 ((HJV.out.up hb4).bel))
          clear hb4 HEN
          go_wp2_with fail
          go_ret2
          exact HR.out
        | true =>
          obtain ⟨L, hL⟩ : ∃ L, bytesK (keyS x) = L := ⟨_, rfl⟩
          have he : encO x = some L := by unfold encO; rw [hok, ← hL]; rfl
          have hLl : L.length ≤ 65536 := by have := bytesK_len (HDX.out hok); rw [← hL]; omega
          rw [he] at HEN
          rw [hL] at HSU
          rw [hok] at HAS
          unfold RetEn erE at HEN
          simp only [Option.isSome_some, if_true, Option.getD_some] at HEN
          have HLL := Lib.hid hLl
          clear hok he hL hLl
          go_wp2_with (first | (rw [HV1.out]) | (rw [HV2.out]) | (with_reducible refine stop_at (some 22) rfl ?_; refine Lib.hid ?_; refine wpList_load_mid rfl 28 (.tmp 21) rfl b (off + k * 19) rfl (scL x) _ HX.out.cells Tryz.underlying28 rfl hi.out ?_) | (refine wpList_store_big rfl 28 (.tmp 6) (.tmp 22) rfl wr.heap.size _ _ (scC x) rfl rfl HRQ.out hiq.out hsq.out hoq.out ?_) | (with_reducible refine stop_at (some 24) rfl ?_; refine Lib.hid ?_; refine wpList_load_mid rfl 28 (.tmp 6) rfl wr.heap.size 0 rfl (scL x) _ HXR.out Tryz.underlying28 rfl hi.out ?_))
          refine HEN.out.mono ?_
          rintro e w4 ⟨⟨v4, rfl, hown4⟩, hb4⟩
          obtain ⟨o4, c4, rfl, hbs4, hc4, hc4m, hn4, hsp4⟩ := hown4.open
          have HTX := Lib.hid (wtext_any w.heap.size o4 c4 L (joB n xs k) V2 w4 HL9.out HLL.out hn4 hbs4 (fun b' off' e' => by
            obtain ⟨g, hg, h1, h2, _⟩ := hsp4 _ e'
            cases hg
            exact ⟨h1, h2⟩) HJV.out.wr hb4)
          have HJ4 := Lib.hid (HJV.out.up hb4)
          obtain ⟨m4, hm4⟩ : ∃ m, L.length = m := ⟨_, rfl⟩
          rw [hm4] at HTX hc4 ⊢
          clear hown4 hbs4 hc4m hn4 hsp4 hb4 HEN HJV HJ hm4
          go_wp2_with fail
          refine HTX.out.mono ?_
          rintro e w5 hp5
          obtain rfl := hp5.1
          have HJ5 : Hid (JoI w.heap.size (joB n xs (k + 1)) w w5) := Lib.hid (by
            rw [HSU.out]
            exact HJ4.out.post hp5)
          clear hp5 HTX
          go_wp2_with fail
          go_roundg (n - (k + 1))
          case measure => omega
          case rel => exact ⟨k + 1, rfl, by go_num, by omega, HAS.out, HJ5.out⟩
      · obtain rfl : k = n := by omega
        have t2 : ¬ (k : Int) < (k : Int) := by omega
        have hall : xs.all okZ = true := by have := HA.out; rwa [List.take_of_length_le (by rw [HN.out]; omega)] at this
        have hby : By (joB k xs k) := by
          unfold joB
          intro z hz
          rcases List.mem_append.1 hz with hz | hz
          · exact Pk.form_bytes (by omega) z hz
          · exact flat_by (HDS.out k HA.out) z hz
        have h0 : 0 < (joB k xs k).length := by
          unfold joB
          rw [List.length_append]
          have : 1 ≤ (fU (k : Int)).length := (Pk.form_len _).1
          omega
        have hse := psealed_any markF markF_by w.heap.size (joB k xs k) wr hby h0 (by have := HML.out hall; show 4 + _ ≤ _; omega) HJ.out.wr
        rw [show Pk.bstr markF = ⟨#[109, 117, 108, 102]⟩ from rfl] at hse
        have HSE := Lib.hid hse
        have HG := Lib.hid (fun X v => HGOOD.out X v hall)
        clear hse hall hby h0
        go_wp2_with fail
        refine HSE.out.mono ?_
        rintro e w6 ⟨⟨v6, rfl, ho6⟩, hb6⟩
        have HR := Lib.hid (HG.out w6 v6 (ho6.mono (by have := HJ.out.lt; omega)) ((HJ.out.up hb6).bel))
        clear ho6 hb6 HSE
        go_wp2_with fail
        go_ret2
        exact HR.out
end Go.Proofs.YtbbhmhihpdmoiaaGreat.Fx

