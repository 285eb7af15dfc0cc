import Derived.Laws.Rows
import Derived.Test.YtbbhmhihpdmoiaaGreatProg
import Derived.Test.YtbbhmhihpdmoiaaGreatMw08
import Derived.Test.YtbbhmhihpdmoiaaGreatMw42
set_option linter.unusedVariables false
set_option linter.unusedSimpArgs false
namespace Go.Proofs.YtbbhmhihpdmoiaaGreat.Fx
open Go Go.RowKit Go.Lib
open Go.Proofs.YtbbhmhihpdmoiaaGreat.Pk (Bs By PW PCall Turn)
def fText (m : List Nat) : List Nat := fU (m.length : Int) ++ m
def fScT (k : KeyS) : List Nat := fText (bytesK k)
def filmL (ks : List KeyS) : List Nat := fU (ks.length : Int) ++ ks.flatMap fScT
def bytesF (ks : List KeyS) : List Nat := sealL (markF ++ filmL ks)
def joinZ (xs : List ScR) : Option (List Nat) × Int := if 100 < xs.length then (none, 2) else if xs.all okZ = true then (some (bytesF (xs.map keyS)), 0) else (none, 60)
def RetJo (xs : List ScR) (w : World) (e : Ending) (w' : World) : Prop := (∃ v, e = .returned (.tuple #[v, .int .i64 (joinZ xs).2]) ∧ Pk.Own w' w.heap.size v ((joinZ xs).1.getD [])) ∧ Below w.heap.size w w'
theorem wtext_any (p : Nat) (o : Option Addr) (c : Nat) (m l : List Nat) (W0 w : World) (hl : l.length ≤ 90000000) (hm : m.length ≤ 65536) (hc : o = none → c = 0) (hb : Bs w o m) (hlow : ∀ b off, o = some ⟨b, off, none⟩ → W0.heap.size ≤ b ∧ b < w.heap.size) (h : WSt p l W0) (hB : Below W0.heap.size W0 w) :
  Calls Tryz.prog 53 #[.pointer (some ⟨p, 0, none⟩), .slice o m.length c, .int .i64 65536] w (WPost p (l ++ fText m) w) := by
 obtain ⟨v, h⟩ := h
 have hp := h.lt
 have hv : ∀ k, v.ownBlock = some k → k < W0.heap.size := fun k hk => by
  obtain ⟨_, cur, hcur⟩ := own_row h.own k hk
  exact (Array.getElem?_eq_some_iff.1 hcur).1
 have hw := h.below hB
 have := Pk.ptext_any (p + 1) p o c m 65536 v l false w hw.lt hl (by omega) hc hb (fun b off e _ => ⟨by have := (hlow b off e).1; omega, fun e2 => by have := hv b e2; have := (hlow b off e).1; omega, (hlow b off e).2⟩) hw
 have e : Pk.mayB (m.length : Int) 65536 = true := decide_eq_true ⟨by omega, by omega⟩
 rw [e] at this
 exact this.mono fun e w' hc => WPost.of hw hc
theorem fText_len (m : List Nat) : (fText m).length ≤ m.length + 11 := by
 unfold fText
 rw [List.length_append]
 have := fU_len (m.length : Int)
 omega
theorem fU_one {z : Int} (h0 : 0 ≤ z) (h1 : z ≤ 63) : (fU z).length = 1 := by
 unfold fU
 rw [Pk.form_small (by omega)]
 rfl
theorem fTri_len2 {t : TriR} (h : dTri t) : (fTri t).length ≤ 14 := by
 unfold fTri
 simp only [List.length_append]
 have := fU_one h.1.1 h.1.2
 have := fU_one h.2.1.1 h.2.1.2
 have := fU_one h.2.2.1.1 h.2.2.1.2
 have := fU_len t.col
 omega
theorem fObj_len2 {x : Int × List Int × List (List Int) × List TriR} (h : dObj x) : (fObj x).length ≤ 3300 := by
 unfold fObj fMany
 simp only [List.length_append]
 have h1 := fU_len x.1
 have h2 := fNums_len x.2.1
 have h2' := h.2.1.1
 have h3 := fU_len (x.2.2.1.length : Int)
 have h4 := flat_le (f := fNums) (c := 33) x.2.2.1 (fun y hy => by
  have := fNums_len y
  have h3 : y.length = 3 := (h.2.2.1.2 y hy).1
  omega)
 have h5 := fU_len (x.2.2.2.length : Int)
 have h6 := flat_le (f := fTri) (c := 14) x.2.2.2 (fun y hy => fTri_len2 (h.2.2.2.2 y hy))
 have h7 := h.2.2.1.1
 have h8 := h.2.2.2.1
 omega
theorem fSc_len2 {k : KeyS} (h : dSc k) : (fSc k).length ≤ 53200 := by
 unfold fSc fMany
 simp only [List.length_append]
 have h1 := fU_len k.1
 have h2 := fU_len k.2.1
 have h3 := fNums_len k.2.2.1
 have h3' := h.2.2.1.1
 have h4 := fU_len (k.2.2.2.length : Int)
 have h5 := flat_le (f := fObj) (c := 3300) k.2.2.2 (fun y hy => fObj_len2 (h.2.2.2.2 y hy))
 have h6 := h.2.2.2.1
 omega
theorem bytesK_len {k : KeyS} (h : dSc k) : (bytesK k).length ≤ 53208 := by
 have h2 := fSc_len2 h
 unfold bytesK sealL
 rw [List.length_append, le4_four, List.length_append]
 have : mark1.length = 4 := rfl
 omega
theorem fScT_by {k : KeyS} (h : dSc k) : By (fScT k) := fun x hx => by
 unfold fScT fText at hx
 rcases List.mem_append.1 hx with hx | hx
 ·exact Pk.form_bytes (by have := bytesK_len h; omega) x hx
 ·exact (bytes_ok h).1 x hx
theorem flat_by {l : List KeyS} (h : ∀ k ∈ l, dSc k) : By (l.flatMap fScT) := fun x hx => by
 obtain ⟨k, hk, hx⟩ := List.mem_flatMap.1 hx
 exact fScT_by (h k hk) x hx
theorem flat_len {l : List KeyS} (h : ∀ k ∈ l, dSc k) : (l.flatMap fScT).length ≤ 53219 * l.length := by
 induction l with
 | nil => simp
 | cons k l ih =>
  rw [List.flatMap_cons, List.length_append, List.length_cons]
  have h1 := ih (fun x hx => h x (List.mem_cons_of_mem _ hx))
  have h2 : (fScT k).length ≤ 53219 := by
   have := fText_len (bytesK k)
   have := bytesK_len (h k (List.mem_cons_self ..))
   unfold fScT
   omega
  omega
structure JoI (p : Nat) (l : List Nat) (w W : World) : Prop where
 wr : WSt p l W
 bel : Below p w W
 lt : p < W.heap.size
theorem JoI.up {p : Nat} {l : List Nat} {w W X : World} (i : JoI p l w W) (h : Below W.heap.size W X) : JoI p l w X :=
 ⟨i.wr.below h, i.bel.trans ⟨h.os, h.tape, h.output, h.size, fun k hk => h.block k (by have := i.lt; omega)⟩, Nat.lt_of_lt_of_le i.lt h.size⟩
theorem JoI.post {p : Nat} {l l' : List Nat} {w W X : World} {e : Ending} (i : JoI p l w W) (h : WPost p l' W e X) : JoI p l' w X :=
 ⟨h.2.1, i.bel.trans h.2.2.below, h.2.1.lt⟩
def joB (n : Nat) (xs : List ScR) (k : Nat) : List Nat := fU (n : Int) ++ ((xs.take k).map keyS).flatMap fScT
theorem joB_succ {n : Nat} {xs : List ScR} {k : Nat} {x : ScR} (h : xs[k]? = some x) : joB n xs (k + 1) = joB n xs k ++ fText (bytesK (keyS x)) := by
 unfold joB
 rw [List.take_add_one, h, Option.toList_some, List.map_append, List.flatMap_append, ← List.append_assoc]
 simp [fScT]
set_option maxRecDepth 100000 in
set_option maxHeartbeats 8000000 in
theorem pjoin_any (xs : List ScR) (o : Option Addr) (c : Nat) (w : World) (hc : CapOk o xs.length c) (h : ScsAt w o xs) (hm : xs.length ≤ 100 → xs.all okZ = true → (filmL (xs.map keyS)).length ≤ 900000) :
  Calls Tryz.prog 22 #[.slice o xs.length c] w (RetJo xs w) := by
 obtain ⟨n, hn⟩ : ∃ n, xs.length = n := ⟨_, rfl⟩
 have HN := Lib.hid hn
 have hc1 := hc.1
 by_cases h1 : 100 < n
 ·have t1 : (100 : Int) < (n : Int) := by omega
  have HE : Hid (RetJo xs w (.returned (.tuple #[.slice none 0 0, .int .i64 2])) w) := Lib.hid (by
   have e : joinZ xs = (none, 2) := by unfold joinZ; rw [if_pos (by omega)]
   unfold RetJo
   rw [e]
   exact ⟨⟨_, rfl, World.ownsRow_nil _ _ _ _⟩, Below.refl _ _⟩)
  rw [hn] at hc1 ⊢
  clear h hc hm hn h1
  go_enter Tryz.func22, Tryz.ntmps22
  go_wp2_with fail
  go_ret2
  exact HE.out
 ·have t1 : ¬ (100 : Int) < (n : Int) := by omega
  have n100 : n ≤ 100 := by omega
  have n0 : (0 : Int) ≤ (n : Int) := by omega
  have n1 : (n : Int) ≤ 100 := by omega
  have HBAD : Hid (∀ X, xs.all okZ = false → Below w.heap.size w X → RetJo xs w (.returned (.tuple #[.slice none 0 0, .int .i64 60])) X) := Lib.hid (fun X ha hb => by
   have e : joinZ xs = (none, 60) := by unfold joinZ; rw [if_neg (by omega), if_neg (by rw [ha]; decide)]
   unfold RetJo
   rw [e]
   exact ⟨⟨_, rfl, World.ownsRow_nil _ _ _ _⟩, hb⟩)
  have HGOOD : Hid (∀ X v, xs.all okZ = true → Pk.Own X w.heap.size v (sealL (markF ++ joB n xs n)) → Below w.heap.size w X → RetJo xs w (.returned (.tuple #[v, .int .i64 0])) X) := Lib.hid (fun X v ha ho hb => by
   have e : joinZ xs = (some (bytesF (xs.map keyS)), 0) := by unfold joinZ; rw [if_neg (by omega), if_pos ha]
   unfold RetJo
   rw [e]
   refine ⟨⟨_, rfl, ?_⟩, hb⟩
   have : joB n xs n = filmL (xs.map keyS) := by unfold joB filmL; rw [List.take_of_length_le (by omega), List.length_map, hn]
   rw [this] at ho
   exact ho)
  have HML : Hid (xs.all okZ = true → (joB n xs n).length ≤ 900000) := Lib.hid (fun ha => by
   have := hm (by omega) ha
   rwa [show filmL (xs.map keyS) = joB n xs n by unfold joB filmL; rw [List.take_of_length_le (by omega), List.length_map, hn]] at this)
  have HXS := Lib.hid h
  have HDS : Hid (∀ k, (xs.take k).all okZ = true → ∀ z ∈ (xs.take k).map keyS, dSc z) := Lib.hid (fun k ha z hz => by
   obtain ⟨s, hs, rfl⟩ := List.mem_map.1 hz
   obtain ⟨i, hi⟩ := List.getElem?_of_mem (List.mem_of_mem_take hs)
   obtain ⟨b, off, _, hat⟩ := h i s hi
   exact ok_dSc hat.wf hat.objs (List.all_eq_true.1 ha s hs))
  have HFU := Lib.hid (fU_len (n : Int))
  rw [hn] at hc1 ⊢
  clear h hc hm hn h1
  go_enter Tryz.func22, Tryz.ntmps22
  go_wp2_with fail
  refine (Pk.new_writer _).mono ?_
  rintro e w2 ⟨rfl, hpw, hw2⟩
  have hb2 : Below w.heap.size w w2 := by rw [hw2]; exact (Below.refl _ _).alloc (Nat.le_refl _) _
  have HJ2 : Hid (JoI w.heap.size [] w w2) := Lib.hid ⟨⟨_, hpw⟩, hb2, hpw.lt⟩
  have HSM := Lib.hid (wsmall_any w.heap.size (n : Int) 100 [] w2 (by omega) (by omega) (by omega) (by simp) ⟨_, hpw⟩)
  clear hpw hw2 hb2
  go_wp2_with fail
  refine HSM.out.mono ?_
  rintro e w3 hp3
  obtain rfl := hp3.1
  have HJ3 := Lib.hid (HJ2.out.post hp3)
  clear hp3 HSM HJ2
  go_wp2_with fail
  go_loopg [19] n (fun g s19 wx => ∃ k : Nat, g = n - k ∧ s19 = .int .i64 (k : Int) ∧ k ≤ n ∧ (xs.take k).all okZ = true ∧ JoI w.heap.size (joB n xs k) w wx)
  case atStart => exact ⟨0, rfl, rfl, by omega, rfl, by have := HJ3.out; unfold joB; simpa using this⟩
  case round =>
   obtain ⟨k, rfl, rfl, hk, ha, hj⟩ := hrel
   have HA := Lib.hid ha
   have HJ := Lib.hid hj
   clear ha hj HJ3
   have k0 : (0 : Int) ≤ (k : Int) := by omega
   have HL9 : Hid ((joB n xs k).length ≤ 90000000) := Lib.hid (by
    have h1 := flat_len (HDS.out k HA.out)
    have h2 : ((xs.take k).map keyS).length ≤ 100 := by rw [List.length_map, List.length_take]; omega
    have h3 := HFU.out
    unfold joB
    rw [List.length_append]
    omega)
   by_cases hkn : k < n
   ·have t2 : (k : Int) < (n : Int) := by omega
    obtain ⟨x, hx⟩ : ∃ x, xs[k]? = some x := ⟨_, List.getElem?_eq_getElem (by rw [HN.out]; exact hkn)⟩
    obtain ⟨b, off, rfl, hat0⟩ := HXS.out k x hx
    have hat := hat0.below HJ.out.bel
    have HX := Lib.hid hat
    have hi := Lib.hid (info19 hat.wf)
    obtain ⟨V1, hV1⟩ : ∃ V, wr.alloc (.cells #[.int .i64 0, .int .i64 0, .int .i64 0, .int .i64 0, .int .i64 0, .int .i64 0, .int .i64 0, .int .i64 0, .int .i64 0, .int .i64 0, .int .i64 0, .int .i64 0, .int .i64 0, .int .i64 0, .int .i64 0, .int .i64 0, .int .i64 0, .int .i64 0, .slice none 0 0] 28) = V := ⟨_, rfl⟩
    obtain ⟨V2, hV2⟩ : ∃ V, V1.setRow wr.heap.size (scC x) = V := ⟨_, rfl⟩
    have r1 : RowAt 28 wr.heap.size #[.int .i64 0, .int .i64 0, .int .i64 0, .int .i64 0, .int .i64 0, .int .i64 0, .int .i64 0, .int .i64 0, .int .i64 0, .int .i64 0, .int .i64 0, .int .i64 0, .int .i64 0, .int .i64 0, .int .i64 0, .int .i64 0, .int .i64 0, .int .i64 0, .slice none 0 0] V1 := by rw [← hV1]; exact RowAt.new _ _ _
    have r2 : V2.heap[wr.heap.size]? = some (.cells (scC x) 28 (0, 0)) := by rw [← hV2]; exact setRow_heap _ _ _ _ _ _ r1
    have b2 : Below wr.heap.size wr V2 := by rw [← hV2, ← hV1]; exact Below.row ((Below.refl _ _).alloc (Nat.le_refl _) _) (Nat.le_refl _) _
    have HRQ := Lib.hid r1
    have HXR : Hid (V2.rangeAt wr.heap.size 0 (scL x)) := Lib.hid (fun j u hj => by rw [Nat.zero_add]; exact (show ScAt wr.heap.size x V2 from r2).at.trans hj)
    have HJV := Lib.hid (HJ.out.up b2)
    have hatV := hat.below b2
    have HEN := Lib.hid (show Calls Tryz.prog 12 #[.agg (scL x).toArray] V2 (RetEn (encO x) V2) from pencode_any x V2 hatV.wf hatV.objs)
    have hiq := Lib.hid (sizeZ x hat.wf (.slice x.oo x.os.length x.oc))
    have hsq := Lib.hid (show 19 = (scC x).size from (twL_len hat.wf (.slice x.oo x.os.length x.oc)).symm)
    have hoq := Lib.hid (show (scC x).all (·.oneCell') = true from twL_one x (.slice x.oo x.os.length x.oc) rfl)
    have HV1 := Lib.hid hV1
    have HV2 := Lib.hid hV2
    have HDX := Lib.hid (fun (ho : okZ x = true) => ok_dSc hat.wf hat.objs ho)
    have HSU := Lib.hid (joB_succ (n := n) hx)
    have HAS : Hid ((xs.take (k + 1)).all okZ = okZ x) := Lib.hid (by rw [List.take_add_one, hx, List.all_append, HA.out]; simp)
    have HNA : Hid (okZ x = false → xs.all okZ = false) := Lib.hid (fun h0 => by
     rw [List.all_eq_false]
     exact ⟨x, List.mem_of_getElem? hx, by rw [h0]; decide⟩)
    clear r1 r2 b2 hat0 hat hatV hx hV1 hV2
    cases hok : okZ x with
    | false =>
     have he : encO x = none := by unfold encO; rw [hok]; rfl
     rw [he] at HEN
     unfold RetEn erE at HEN
     simp only [Option.isSome_none, Bool.false_eq_true, if_false, Option.getD_none] at HEN
     have HB2 := Lib.hid (HBAD.out · (HNA.out hok))
     clear hok he
     go_wp2_with (first | (rw [HV1.out]) | (rw [HV2.out]) | (with_reducible refine stop_at (some 22) rfl ?_; refine Lib.hid ?_; refine wpList_load_mid rfl 28 (.tmp 21) rfl b (off + k * 19) rfl (scL x) _ HX.out.cells Tryz.underlying28 rfl hi.out ?_) | (refine wpList_store_big rfl 28 (.tmp 6) (.tmp 22) rfl wr.heap.size _ _ (scC x) rfl rfl HRQ.out hiq.out hsq.out hoq.out ?_) | (with_reducible refine stop_at (some 24) rfl ?_; refine Lib.hid ?_; refine wpList_load_mid rfl 28 (.tmp 6) rfl wr.heap.size 0 rfl (scL x) _ HXR.out Tryz.underlying28 rfl hi.out ?_))
     refine HEN.out.mono ?_
     rintro e w4 ⟨⟨v4, rfl, _⟩, hb4⟩
     have HR := Lib.hid (HB2.out w4 ((HJV.out.up hb4).bel))
     clear hb4 HEN
     go_wp2_with fail
     go_ret2
     exact HR.out
    | true =>
     obtain ⟨L, hL⟩ : ∃ L, bytesK (keyS x) = L := ⟨_, rfl⟩
     have he : encO x = some L := by unfold encO; rw [hok, ← hL]; rfl
     have hLl : L.length ≤ 65536 := by have := bytesK_len (HDX.out hok); rw [← hL]; omega
     rw [he] at HEN
     rw [hL] at HSU
     rw [hok] at HAS
     unfold RetEn erE at HEN
     simp only [Option.isSome_some, if_true, Option.getD_some] at HEN
     have HLL := Lib.hid hLl
     clear hok he hL hLl
     go_wp2_with (first | (rw [HV1.out]) | (rw [HV2.out]) | (with_reducible refine stop_at (some 22) rfl ?_; refine Lib.hid ?_; refine wpList_load_mid rfl 28 (.tmp 21) rfl b (off + k * 19) rfl (scL x) _ HX.out.cells Tryz.underlying28 rfl hi.out ?_) | (refine wpList_store_big rfl 28 (.tmp 6) (.tmp 22) rfl wr.heap.size _ _ (scC x) rfl rfl HRQ.out hiq.out hsq.out hoq.out ?_) | (with_reducible refine stop_at (some 24) rfl ?_; refine Lib.hid ?_; refine wpList_load_mid rfl 28 (.tmp 6) rfl wr.heap.size 0 rfl (scL x) _ HXR.out Tryz.underlying28 rfl hi.out ?_))
     refine HEN.out.mono ?_
     rintro e w4 ⟨⟨v4, rfl, hown4⟩, hb4⟩
     obtain ⟨o4, c4, rfl, hbs4, hc4, hc4m, hn4, hsp4⟩ := hown4.open
     have HTX := Lib.hid (wtext_any w.heap.size o4 c4 L (joB n xs k) V2 w4 HL9.out HLL.out hn4 hbs4 (fun b' off' e' => by
      obtain ⟨g, hg, h1, h2, _⟩ := hsp4 _ e'
      cases hg
      exact ⟨h1, h2⟩) HJV.out.wr hb4)
     have HJ4 := Lib.hid (HJV.out.up hb4)
     obtain ⟨m4, hm4⟩ : ∃ m, L.length = m := ⟨_, rfl⟩
     rw [hm4] at HTX hc4 ⊢
     clear hown4 hbs4 hc4m hn4 hsp4 hb4 HEN HJV HJ hm4
     go_wp2_with fail
     refine HTX.out.mono ?_
     rintro e w5 hp5
     obtain rfl := hp5.1
     have HJ5 : Hid (JoI w.heap.size (joB n xs (k + 1)) w w5) := Lib.hid (by
      rw [HSU.out]
      exact HJ4.out.post hp5)
     clear hp5 HTX
     go_wp2_with fail
     go_roundg (n - (k + 1))
     case measure => omega
     case rel => exact ⟨k + 1, rfl, by go_num, by omega, HAS.out, HJ5.out⟩
   ·obtain rfl : k = n := by omega
    have t2 : ¬ (k : Int) < (k : Int) := by omega
    have hall : xs.all okZ = true := by have := HA.out; rwa [List.take_of_length_le (by rw [HN.out]; omega)] at this
    have hby : By (joB k xs k) := by
     unfold joB
     intro z hz
     rcases List.mem_append.1 hz with hz | hz
     ·exact Pk.form_bytes (by omega) z hz
     ·exact flat_by (HDS.out k HA.out) z hz
    have h0 : 0 < (joB k xs k).length := by
     unfold joB
     rw [List.length_append]
     have : 1 ≤ (fU (k : Int)).length := (Pk.form_len _).1
     omega
    have hse := psealed_any markF markF_by w.heap.size (joB k xs k) wr hby h0 (by have := HML.out hall; show 4 + _ ≤ _; omega) HJ.out.wr
    rw [show Pk.bstr markF = ⟨#[109, 117, 108, 102]⟩ from rfl] at hse
    have HSE := Lib.hid hse
    have HG := Lib.hid (fun X v => HGOOD.out X v hall)
    clear hse hall hby h0
    go_wp2_with fail
    refine HSE.out.mono ?_
    rintro e w6 ⟨⟨v6, rfl, ho6⟩, hb6⟩
    have HR := Lib.hid (HG.out w6 v6 (ho6.mono (by have := HJ.out.lt; omega)) ((HJ.out.up hb6).bel))
    clear ho6 hb6 HSE
    go_wp2_with fail
    go_ret2
    exact HR.out
end Go.Proofs.YtbbhmhihpdmoiaaGreat.Fx

set_option linter.unusedVariables false
set_option linter.unusedSimpArgs false
namespace Go.Proofs.YtbbhmhihpdmoiaaGreat.Fx
open Go Go.RowKit
open Go.Proofs.YtbbhmhihpdmoiaaGreat.Pk (PR RdOk Bs By)
def pText : Prs (List Nat) := fun l a => (Pk.txR false 65536 l a).map fun q => (q.1, a + q.2)
theorem runP_text (lost : Bool) (l : List Nat) (a : Nat) : runP lost pText l a = (Pk.txR lost 65536 l a).map fun q => (q.1, a + q.2) := by
 unfold runP
 cases lost
 ·rfl
 ·have : Pk.txR true 65536 l a = none := by
   unfold Pk.txR Pk.rz
   rfl
  rw [this]
  rfl
theorem rz_small (x : List Nat) : Pk.rz false 65536 x = Pk.rd 65536 x := by
 unfold Pk.rz
 rw [if_neg (by simp)]
 rfl
theorem goodT : Good pText fText (fun m => By m ∧ m.length ≤ 65536) where
 put m hm l a t ha h := by
  have hU := goodU (most := 65536) (by omega)
  unfold fText at h ⊢
  rw [List.append_assoc] at h
  have h1 : Pk.rd 65536 (l.drop a) = some (m.length, (fU (m.length : Int)).length) := by
   rw [h]
   unfold fU
   rw [show ((m.length : Int)).toNat = m.length by omega]
   exact Pk.rd_form m.length 65536 _ (by omega) (by omega)
  obtain ⟨h2, h3⟩ := drop_of ha h
  have h4 : m.length ≤ l.length - (a + (fU (m.length : Int)).length) := by
   have := congrArg List.length h2
   rw [List.length_drop, List.length_append] at this
   omega
  unfold pText Pk.txR
  rw [rz_small, h1]
  dsimp only
  rw [if_pos h4, h2, List.take_left]
  simp
 get l a m b hb ha h := by
  unfold pText at h
  rw [Option.map_eq_some_iff] at h
  obtain ⟨⟨m', d⟩, ht, e⟩ := h
  simp only [Prod.mk.injEq] at e
  obtain ⟨rfl, rfl⟩ := e
  unfold Pk.txR at ht
  rw [rz_small] at ht
  have hU := goodU (most := 65536) (by omega)
  cases hr : Pk.rd 65536 (l.drop a) with
  | none => rw [hr] at ht; cases ht
  | some q =>
   obtain ⟨n, j⟩ := q
   rw [hr] at ht
   dsimp only at ht
   split at ht
   ·rename_i hle
    simp only [Option.some.injEq, Prod.mk.injEq] at ht
    obtain ⟨rfl, rfl⟩ := ht
    have hg := hU.get l a (n : Int) (a + j) hb ha (by unfold pU; rw [hr]; rfl)
    obtain ⟨h1, h2, h3, h4⟩ := hg
    have hml : ((l.drop (a + j)).take n).length = n := by rw [List.length_take, List.length_drop]; omega
    refine ⟨⟨fun x hx => hb x (List.mem_of_mem_drop (List.mem_of_mem_take hx)), by rw [hml]; omega⟩, ?_, ?_, by omega⟩
    ·unfold fText
     rw [hml, h2, List.append_assoc]
     congr 1
     have e := List.take_append_drop n (l.drop (a + j))
     rw [List.drop_drop] at e
     rw [show a + (j + n) = (a + j) + n by omega]
     exact e.symm
    ·unfold fText
     rw [hml, List.length_append, hml]
     omega
   ·cases ht
 bytes m hm := fun x hx => by
  unfold fText at hx
  rcases List.mem_append.1 hx with hx | hx
  ·exact Pk.form_bytes (by have := hm.2; omega) x hx
  ·exact hm.1 x hx
structure TxR where
 o : Option Addr
 c : Nat
 l : List Nat
def txL (x : TxR) : List Value := [.slice x.o x.l.length x.c]
structure TxEl (x : TxR) (W : World) : Prop where
 own : Pk.Own W 0 (.slice x.o x.l.length x.c) x.l
 lt : ∀ b off, x.o = some ⟨b, off, none⟩ → b < W.heap.size
theorem own_rows {W X : World} {B : Nat} {v : Value} {l : List Nat} (h : Pk.Own W B v l) (hr : Rows 5 W X) : Pk.Own X B v l := by
 obtain ⟨h1, h2⟩ := h
 refine ⟨h1, ?_⟩
 rcases h2 with h2 | ⟨g, cap, cur, e, hb, hg, h3⟩
 ·exact .inl h2
 ·exact .inr ⟨g, cap, cur, e, hb, hr g cur hg, h3⟩
theorem TxEl.rows {x : TxR} {W X : World} (h : TxEl x W) (hr : Rows 5 W X) : TxEl x X := by
 have h1 := own_rows h.own hr
 refine ⟨h1, fun b off e => ?_⟩
 obtain ⟨o, c, e2, _, _, _, _, hf⟩ := h1.open
 cases e2
 obtain ⟨g, e3, _, h4, _⟩ := hf _ e
 cases e3
 exact h4
theorem TxEl.bs {x : TxR} {W : World} (h : TxEl x W) : Bs W x.o x.l ∧ x.l.length ≤ x.c ∧ x.c ≤ 9223372036854775807 := by
 obtain ⟨o, c, e2, h1, h2, h3, _, _⟩ := h.own.open
 cases e2
 exact ⟨h1, h2, h3⟩
theorem txEl_ok : ElOk 31 108 TxEl := fun z W X h hR => h.rows (hR _ (by decide) (by decide) (by decide))
def PTx (p a : Nat) (lost : Bool) (o : Option Addr) (c : Nat) (l : List Nat) (w : World) (e : Ending) (w' : World) : Prop := OneG pText TxR.l TxEl (fun x => .slice x.o x.l.length x.c) o c l p a lost w e w'
theorem infoGx : InfoG 31 1 24 := InfoG.of (by omega) (by omega) (by kernel_rfl)
theorem tx_one (x : TxR) : ∀ u ∈ txL x, u.oneCell' = true := fun u hu => by
 simp only [txL, List.mem_cons, List.not_mem_nil, or_false] at hu
 subst hu
 rfl
theorem takex_any (o : Option Addr) (c : Nat) (l : List Nat) (p a : Nat) (lost : Bool) (w : World) (k : RdOk l a) (h : PR o c l p a lost w) :
  Calls Tryz.prog 56 #[.pointer (some ⟨p, 0, none⟩)] w (PTx p a lost o c l w) := by
 have HT := Lib.hid (Pk.prtext_any o c l p a 65536 lost w k (by omega) h)
 have HK := Lib.hid k.at'
 have HRN := Lib.hid (runP_text lost l a)
 have HTL : Hid (∀ q, Pk.txR lost 65536 l a = some q → a + q.2 ≤ l.length) := Lib.hid (fun q hq => by
  unfold Pk.txR at hq
  cases hz : Pk.rz lost 65536 (l.drop a) with
  | none => rw [hz] at hq; cases hq
  | some q2 =>
   obtain ⟨n, j⟩ := q2
   rw [hz] at hq
   dsimp only at hq
   split at hq
   ·rename_i hle
    cases hq
    show a + (j + n) ≤ l.length
    have hj : a + j ≤ l.length := by
     have hs := small_eq (lost := lost) (most := 65536) (l := l) (a := a)
     rw [show Pk.rz lost ((65536 : Nat) : Int) (l.drop a) = some (n, j) from hz] at hs
     simp only [Option.map_some] at hs
     unfold runP at hs
     split at hs
     ·cases hs
     ·have := pU_le k.at' hs.symm
      omega
    omega
   ·cases hq)
 clear k h
 obtain ⟨R, hR⟩ : ∃ R, Pk.txR lost 65536 l a = R := ⟨_, rfl⟩
 rw [hR] at HT HRN HTL
 clear hR
 unfold Pk.PTxt at HT
 go_enter Tryz.func56, Tryz.ntmps56
 go_wp2_with fail
 refine HT.out.mono ?_
 rintro e w1 ⟨⟨v, rfl, hown⟩, hpr, hg⟩
 obtain ⟨o1, c1, rfl, hbs, hc1, hc2, hn1, hsp⟩ := hown.open
 have HE : Hid (PTx p a lost o c l w (.returned (.slice o1 ((R.map (·.1)).getD []).length c1)) w1) := Lib.hid (by
  refine ⟨hg, ⟨o1, c1, (R.map (·.1)).getD []⟩, rfl, ⟨hown.mono (Nat.zero_le _), fun b off e => ?_⟩, ?_⟩
  ·obtain ⟨g, e2, _, h2, _⟩ := hsp _ e
   cases e2
   exact h2
  ·rw [HRN.out]
   cases R with
   | none => exact ⟨a, HK.out, hpr⟩
   | some q =>
    refine ⟨rfl, HTL.out q rfl, hpr⟩)
 clear hown hpr hg hbs hsp HT
 go_wp2_with fail
 go_ret
 exact HE.out
section
variable {t : TypeId} {n : Nat}
theorem run_buildOneV {bytes : Nat} (hi : InfoG t n bytes) (hm : n ≤ 1000) (ts : TypeId) (hu : Tryz.prog.underlying ts = some (.slice t)) (W : World) (v : Value) (hc : v.cells.size = n) :
  (Instr.buildSlice ts 1 #[(0, v)]).run Tryz.prog W = .ok (.slice (some ⟨W.heap.size, 0, none⟩) 1 1) (W.alloc (.cells v.cells t)) := by
 obtain ⟨i, z, h2, h3, h4, h5, h6⟩ := hi.get
 refine run_buildSlice W ts t 1 _ v.cells i z hu h2 h3 (by rw [h4]; omega) (by rw [h4]; have := hi.pos; omega) ?_
 rw [h4]
 have := Great.fill_whole hi.pos [v] ((Array.range (1 * n)).map (z.cells[· % z.cells.size]!)) (fun w hw => by simp at hw; subst hw; exact hc) (by simp)
 simpa using this
theorem build_oneV {bytes : Nat} (hi : InfoG t n bytes) (hm : n ≤ 1000) {ops : Array Oper} {rest : List Oper} {o : Oper} {a : Act} {Q : Exit → Act → World → Prop} {W : World} (hgd : o.guard = none) (x : Operand) (ts : TypeId)
  (ho : o.op = .buildSlice ts 1 #[(0, x)]) (hu : Tryz.prog.underlying ts = some (.slice t)) (v : Value) (hx : a.eval x = v) (cs : Array Value) (hcs : v.cells = cs) (hc : cs.size = n)
  (h : wpList Tryz.prog ops Q rest (a.put o.dst (.slice (some ⟨W.heap.size, 0, none⟩) 1 1)) (W.alloc (.cells cs t))) :
  wpList Tryz.prog ops Q (o :: rest) a W := by
 subst hcs
 have hrun := run_buildOneV hi hm ts hu W v hc
 refine wpList_plain hgd fun K hK' => ?_
 unfold Oper.wp
 simp [execOp, ho, hx, hrun, Result.andThen]
 exact hK' _ _ h
end
end Go.Proofs.YtbbhmhihpdmoiaaGreat.Fx
