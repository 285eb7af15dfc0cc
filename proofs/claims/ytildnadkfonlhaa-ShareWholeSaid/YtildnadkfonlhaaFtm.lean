/- ShareWhole, walked. -/
import Derived.Test.YtildnadkfonlhaaFy8
set_option linter.unusedVariables false
set_option linter.unusedSimpArgs false
namespace Go.Proofs.Ytildnadkfonlhaa.Fx
open Go Go.RowKit Go.Shelf
attribute [local go_sem] Oper.semAt_some
set_option maxRecDepth 100000 in
set_option maxHeartbeats 4000000 in
theorem law_shareWhole (s : ScR) (l : List Int) (o : Option Addr) (c : Nat) (w : World) (hs : ScWf s) (h : ObjsAt w s.oo s.os) (hme : IntsAt w o l) (la : l.length ≤ 9223372036854775807) :
    Calls Try.prog 4 #[.agg (scC s), .slice o l.length c] w (RetBool true w) := by
  obtain ⟨V, hV⟩ : ∃ V, w.alloc (.cells (scC s) 32) = V := ⟨_, rfl⟩
  have b1 : Below w.heap.size w V := by rw [← hV]; exact (Below.refl _ w).alloc (Nat.le_refl _) _
  have hsc : ScAt w.heap.size s V := by rw [← hV]; exact ScAt.new w s
  have HSC := Lib.hid hsc
  have hall := Lib.hid (sizeS hs)
  have HS := Lib.hid hs
  have HO := Lib.hid h
  have HME := Lib.hid (hme.below b1)
  have HME0 := Lib.hid hme
  have P1 := Lib.hid (fun W (hW : Below V.heap.size V W) => pall_any s l o c W hs (h.below (bnext b1 hW)) (hme.below (bnext b1 hW)) la)
  have P2 := Lib.hid (fun W x (hW : Below V.heap.size V W) => powner_any s l o c x W hs (h.below (bnext b1 hW)) (hme.below (bnext b1 hW)) la)
  have HTL := Lib.hid (fun (hd : dealB s l = true) (q nm n b6 c6 Bm lo hi : Nat) Ls W hnm hn hw hls hok hq hm hk hbW hscW => tail1 s l o c nm n q b6 c6 Bm lo hi Ls w W hs h hme la hnm hn hw hls hd hok hq hm hk hbW hscW)
  have HB1 := Lib.hid b1
  have HV := Lib.hid hV
  have HWH := Lib.hid (fun (hd : dealB s l = true) => whole_of hd)
  have HDD := Lib.hid (fun (hd : dealB s l = true) => (show okZ s = true from by unfold dealB at hd; rw [Bool.and_eq_true] at hd; exact hd.2))
  clear b1 hsc hV hs h hme
  obtain ⟨nm, hnm⟩ : ∃ n, l.length = n := ⟨_, rfl⟩
  have HNM := Lib.hid hnm
  rw [hnm] at P1 P2 la ⊢
  have nm0 : (0 : Int) ≤ (nm : Int) := by omega
  obtain ⟨d, hd⟩ : ∃ d, dealB s l = d := ⟨_, rfl⟩
  have HDE := Lib.hid hd
  obtain ⟨e7, he7⟩ : ∃ e, errB d = e := ⟨_, rfl⟩
  have HE7 := Lib.hid he7
  rw [hd] at P1 HWH HDD HTL
  rw [he7] at P1
  generalize s.os.length / l.length = q at HWH
  obtain ⟨Ls, hLs⟩ : ∃ X, allZ s l = X := ⟨_, rfl⟩
  have HLS := Lib.hid hLs
  rw [hLs] at P1 HWH
  clear hnm hd he7 hLs
  go_enter Try.func4, Try.ntmps4
  go_wp2_with (rw [HV.out])
  refine (alive8_any _).mono ?_
  rintro e w1 ⟨rfl, hb⟩
  have B1 := Lib.hid hb
  have A1 := Lib.hid (HSC.out.below hb).all
  have C1 := Lib.hid (P1.out _ hb)
  clear hb P1
  go_wp2_with (refine wpList_load_mid rfl 32 (.tmp 2) rfl w.heap.size 0 rfl (scL s) _ A1.out Try.underlying32 rfl hall.out ?_)
  refine C1.out.mono ?_
  rintro e w2 ⟨v, vs, rfl, hov, hls, hb⟩
  have B2 := Lib.hid (bnext B1.out hb)
  cases d with
  | false =>
    obtain rfl : e7 = 80 := HE7.out.symm
    have BB := Lib.hid (bnext HB1.out B2.out)
    clear hov hls hb HWH HDD
    go_wp2_with fail
    go_ret
    exact ⟨rfl, BB.out⟩
  | true =>
    obtain rfl : e7 = 0 := HE7.out.symm
    have hw := HWH.out rfl
    have hok := HDD.out rfl
    have HT2 := Lib.hid (HTL.out rfl)
    have HOK := Lib.hid hok
    obtain ⟨b6, c6, rfl, hll⟩ := ll_of hov hls (by rw [hw.len]; exact hw.pos)
    have HW := Lib.hid hw
    have hlen : Ls.length = nm := by rw [hw.len]; exact HNM.out
    have HLL := Lib.hid hlen
    have nm1 : (nm : Int) ≤ 64 := by have := hw.few; rw [HNM.out] at this; omega
    obtain ⟨n, hn⟩ : ∃ n, s.os.length = n := ⟨_, rfl⟩
    have HN := Lib.hid hn
    have n0 : (0 : Int) ≤ (n : Int) := by omega
    have n1 : (n : Int) ≤ 16 := by have := hw.less; omega
    have q1 : q ≤ n := by have := hw.low; omega
    have HQ1 := Lib.hid q1
    rw [hlen]
    obtain ⟨w3, hw3⟩ : ∃ w3, w2.alloc (.map #[] 0) = w3 := ⟨_, rfl⟩
    have hb3 : Below w2.heap.size w2 w3 := by rw [← hw3]; exact (Below.refl _ w2).alloc (Nat.le_refl _) _
    have hms : MapS w3 w2.heap.size [] := by rw [← hw3]; exact MapS.new w2
    obtain ⟨Bm, hBm⟩ : ∃ B, w2.heap.size = B := ⟨_, rfl⟩
    have HBM : Hid (V.heap.size ≤ Bm) := Lib.hid (by rw [← hBm]; exact B2.out.size)
    have B3 := Lib.hid (bnext B2.out hb3)
    have HW3 := Lib.hid hw3
    rw [hBm] at hms
    have HMS := Lib.hid hms
    have HBE := Lib.hid hBm
    have HL3 := Lib.hid (hll.below hb3)
    have c18 : w3.cell? ⟨w.heap.size, 18, none⟩ = some (.slice s.oo n s.oc) := by
      have := (HSC.out.below B3.out).c18 HS.out
      rw [hn] at this
      exact this
    have hmm := @run_makeMap Try.prog
    clear hw hok hov hls hb hll hw3 hb3 hms hBm hlen hn HWH HDD HE7 C1 A1 B1
    go_wp2_with (first | (rw [HW3.out, HBE.out]))
    clear hmm c18
    rename_i K1 hK1
    have HK1 := Lib.hid hK1
    clear hK1
    go_loopg [9, 10, 42] nm (Wh1 Ls q b6 Bm V nm)
    case atStart => exact ⟨0, n, 0, rfl, rfl, by omega, rfl, rfl, HQ1.out, by omega, by omega, B3.out, by rw [List.take_zero]; exact HMS.out, HL3.out⟩
    case round =>
      obtain ⟨k, lo, hi, hg, rfl, hk, rfl, rfl, hq1, hq2, hq3, hbl, hmk, hlk⟩ := hrel
      subst hg
      have HB := Lib.hid hbl
      have HMK := Lib.hid hmk
      have HLK := Lib.hid hlk
      have HQ := Lib.hid (And.intro hq1 (And.intro hq2 hq3))
      have k0 : (0 : Int) ≤ (k : Int) := by omega
      have lo0 : (0 : Int) ≤ (lo : Int) := by omega
      have hi0 : (0 : Int) ≤ (hi : Int) := by omega
      by_cases hkn : k < nm
      · have t1 : (k : Int) < (nm : Int) := by omega
        have hpl : k < l.length := by rw [HNM.out]; exact hkn
        have hpL : k < Ls.length := by rw [HLL.out]; exact hkn
        obtain ⟨oi, ci, hc, hia⟩ := hlk k hpL
        have HTF := Lib.hid (take_flat Ls hpL)
        have HAL : Hid ((Ls.take k).flatten.length + (Ls.getD k []).length ≤ 16) := Lib.hid (by have := flat_le Ls hpL; have := HW.out.many; have := HN.out; omega)
        have HNA := Lib.hid (flat_pre HW.out.nodup hpL)
        have HOW := Lib.hid (HW.out.own k hpl)
        have HLO := Lib.hid (HW.out.lo k hpl)
        have HIA := Lib.hid hia
        have HMY := Lib.hid (fun W (hW : Below V.heap.size V W) => (HME.out.below hW) k hpl)
        generalize Ls.getD k [] = L at hc HTF HAL HNA HOW HLO HIA
        generalize l.getD k 0 = y at HOW HMY
        obtain ⟨x, hx⟩ : ∃ x, L.length = x := ⟨_, rfl⟩
        have HX := Lib.hid hx
        rw [hx] at hc
        have HLO2 : Hid (q ≤ x ∧ x ≤ q + 1) := Lib.hid (by have := HLO.out; rw [hx] at this; exact this)
        have x0 : (0 : Int) ≤ (x : Int) := by omega
        have hx16 : x ≤ 1000 := by have := HLO2.out; have := HQ1.out; omega
        have x1 : (x : Int) ≤ 1000 := by omega
        clear hbl hmk hlk hia hq1 hq2 hq3 hx
        go_wp2_with fail
        refine (wpIn_wide (n := 5)).1 ?_
        refine heldz_region (S := fun X => X.cell? ⟨b6, k, none⟩ = some (.slice oi x ci)) (Z := []) (by kernel_rfl) ?_
        refine heldz_take (fun _ => trivial) [] 0 (?_) (by kernel_rfl) rfl (by kernel_rfl) (fun _ _ _ h => h) (keep_cell (bdrew0 _ wr 1) hc) (by kernel_rfl) ?_ ?_
        rotate_left
        · intro wz hSw; (first | (go_simp; done) | (go_simp; with_reducible rfl))
        (try simp only [Act.put, List.getElem_toArray, List.getElem_cons_zero, List.getElem_cons_succ, List.setIfInBounds_toArray, List.set_cons_zero, List.set_cons_succ])
        refine heldz_take (fun _ => trivial) [] 1 (?_) (by kernel_rfl) rfl (by kernel_rfl) (fun _ _ _ h => h) (keep_cell (bdrew0 _ wr 1) hc) (by kernel_rfl) ?_ ?_
        rotate_left
        · intro wz hSw; (first | (go_simp; done) | (go_simp; with_reducible rfl))
        (try simp only [Act.put, List.getElem_toArray, List.getElem_cons_zero, List.getElem_cons_succ, List.setIfInBounds_toArray, List.set_cons_zero, List.set_cons_succ])
        refine heldz_take (fun _ => trivial) [] 2 (?_) (by kernel_rfl) rfl (by kernel_rfl) (fun _ _ _ h => h) (keep_cell (bdrew0 _ wr 1) hc) (by kernel_rfl) ?_ ?_
        rotate_left
        · intro wz hSw; (first | (go_simp; done) | (go_simp; with_reducible rfl))
        (try simp only [Act.put, List.getElem_toArray, List.getElem_cons_zero, List.getElem_cons_succ, List.setIfInBounds_toArray, List.set_cons_zero, List.set_cons_succ])
        refine heldz_take (fun _ => trivial) [] 3 (.pointer (some ⟨b6, k, none⟩)) (by kernel_rfl) rfl (by kernel_rfl) (fun _ _ _ h => h) (keep_cell (bdrew0 _ wr 1) hc) (by kernel_rfl) ?_ ?_
        · intro wz hSw; (go_simp; (try first | rfl | simp))
        (try simp only [Act.put, List.getElem_toArray, List.getElem_cons_zero, List.getElem_cons_succ, List.setIfInBounds_toArray, List.set_cons_zero, List.set_cons_succ])
        refine heldz_take (fun _ => trivial) [] 4 (?_) (by kernel_rfl) rfl (by kernel_rfl) (fun _ _ _ h => h) (keep_cell (bdrew0 _ wr 1) hc) (by kernel_rfl) ?_ ?_
        rotate_left
        · intro wz hSw; (first | (go_simp; done) | (go_simp; with_reducible rfl))
        (try simp only [Act.put, List.getElem_toArray, List.getElem_cons_zero, List.getElem_cons_succ, List.setIfInBounds_toArray, List.set_cons_zero, List.set_cons_succ])
        refine heldz_take (fun _ => trivial) [] 5 (?_) (by kernel_rfl) rfl (by kernel_rfl) (fun _ _ _ h => h) (keep_cell (bdrew0 _ wr 1) hc) (by kernel_rfl) ?_ ?_
        rotate_left
        · intro wz hSw; (first | (go_simp; done) | (go_simp; with_reducible rfl))
        (try simp only [Act.put, List.getElem_toArray, List.getElem_cons_zero, List.getElem_cons_succ, List.setIfInBounds_toArray, List.set_cons_zero, List.set_cons_succ])
        refine heldz_take (fun _ => trivial) [] 6 (?_) (by kernel_rfl) rfl (by kernel_rfl) (fun _ _ _ h => h) (keep_cell (bdrew0 _ wr 1) hc) (by kernel_rfl) ?_ ?_
        rotate_left
        · intro wz hSw; (first | (go_simp; done) | (go_simp; with_reducible rfl))
        (try simp only [Act.put, List.getElem_toArray, List.getElem_cons_zero, List.getElem_cons_succ, List.setIfInBounds_toArray, List.set_cons_zero, List.set_cons_succ])
        refine heldz_take (fun _ => trivial) [] 7 (?_) (by kernel_rfl) rfl (by kernel_rfl) (fun _ _ _ h => h) (keep_cell (bdrew0 _ wr 1) hc) (by kernel_rfl) ?_ ?_
        rotate_left
        · intro wz hSw; (first | (go_simp; done) | (go_simp; with_reducible rfl))
        (try simp only [Act.put, List.getElem_toArray, List.getElem_cons_zero, List.getElem_cons_succ, List.setIfInBounds_toArray, List.set_cons_zero, List.set_cons_succ])
        refine heldz_take (fun _ => trivial) [] 8 (?_) (by kernel_rfl) rfl (by kernel_rfl) (fun _ _ _ h => h) (keep_cell (bdrew0 _ wr 1) hc) (by kernel_rfl) ?_ ?_
        rotate_left
        · intro wz hSw; (first | (go_simp; done) | (go_simp; with_reducible rfl))
        (try simp only [Act.put, List.getElem_toArray, List.getElem_cons_zero, List.getElem_cons_succ, List.setIfInBounds_toArray, List.set_cons_zero, List.set_cons_succ])
        refine heldz_take (fun _ => trivial) [] 9 (?_) (by kernel_rfl) rfl (by kernel_rfl) (fun _ _ _ h => h) (keep_cell (bdrew0 _ wr 1) hc) (by kernel_rfl) ?_ ?_
        rotate_left
        · intro wz hSw; (first | (go_simp; done) | (go_simp; with_reducible rfl))
        (try simp only [Act.put, List.getElem_toArray, List.getElem_cons_zero, List.getElem_cons_succ, List.setIfInBounds_toArray, List.set_cons_zero, List.set_cons_succ])
        refine heldz_take (fun _ => trivial) [] 10 (.pointer (some ⟨b6, k, none⟩)) (by kernel_rfl) rfl (by kernel_rfl) (fun _ _ _ h => h) (keep_cell (bdrew0 _ wr 1) hc) (by kernel_rfl) ?_ ?_
        · intro wz hSw; (go_simp; (try first | rfl | simp))
        (try simp only [Act.put, List.getElem_toArray, List.getElem_cons_zero, List.getElem_cons_succ, List.setIfInBounds_toArray, List.set_cons_zero, List.set_cons_succ])
        refine heldz_take (fun _ => trivial) [] 11 (?_) (by kernel_rfl) rfl (by kernel_rfl) (fun _ _ _ h => h) (keep_cell (bdrew0 _ wr 1) hc) (by kernel_rfl) ?_ ?_
        rotate_left
        · intro wz hSw; (first | (go_simp; done) | (go_simp; with_reducible rfl))
        (try simp only [Act.put, List.getElem_toArray, List.getElem_cons_zero, List.getElem_cons_succ, List.setIfInBounds_toArray, List.set_cons_zero, List.set_cons_succ])
        refine heldz_take (fun _ => trivial) [] 12 (?_) (by kernel_rfl) rfl (by kernel_rfl) (fun _ _ _ h => h) (keep_cell (bdrew0 _ wr 1) hc) (by kernel_rfl) ?_ ?_
        rotate_left
        · intro wz hSw; (first | (go_simp; done) | (go_simp; with_reducible rfl))
        (try simp only [Act.put, List.getElem_toArray, List.getElem_cons_zero, List.getElem_cons_succ, List.setIfInBounds_toArray, List.set_cons_zero, List.set_cons_succ])
        refine heldz_take (fun _ => trivial) [] 13 (?_) (by kernel_rfl) rfl (by kernel_rfl) (fun _ _ _ h => h) (keep_cell (bdrew0 _ wr 1) hc) (by kernel_rfl) ?_ ?_
        rotate_left
        · intro wz hSw; (first | (go_simp; done) | (go_simp; with_reducible rfl))
        (try simp only [Act.put, List.getElem_toArray, List.getElem_cons_zero, List.getElem_cons_succ, List.setIfInBounds_toArray, List.set_cons_zero, List.set_cons_succ])
        refine heldz_take (fun _ => trivial) [] 14 (?_) (by kernel_rfl) rfl (by kernel_rfl) (fun _ _ _ h => h) (keep_cell (bdrew0 _ wr 1) hc) (by kernel_rfl) ?_ ?_
        rotate_left
        · intro wz hSw; (first | (go_simp; done) | (go_simp; with_reducible rfl))
        (try simp only [Act.put, List.getElem_toArray, List.getElem_cons_zero, List.getElem_cons_succ, List.setIfInBounds_toArray, List.set_cons_zero, List.set_cons_succ])
        refine heldz_take (fun _ => trivial) [] 15 (?_) (by kernel_rfl) rfl (by kernel_rfl) (fun _ _ _ h => h) (keep_cell (bdrew0 _ wr 1) hc) (by kernel_rfl) ?_ ?_
        rotate_left
        · intro wz hSw; (first | (go_simp; done) | (go_simp; with_reducible rfl))
        (try simp only [Act.put, List.getElem_toArray, List.getElem_cons_zero, List.getElem_cons_succ, List.setIfInBounds_toArray, List.set_cons_zero, List.set_cons_succ])
        refine heldz_done (by kernel_rfl) ?_ _
        have hcd : wr.drew.cell? ⟨b6, k, none⟩ = some (.slice oi x ci) := keep_cell (bdrew0 _ wr 1) hc
        have HBD : Hid (Below V.heap.size V wr.drew) := Lib.hid (bnext HB.out (bdrew0 _ wr 1))
        have HMD : Hid (MapS wr.drew Bm (Ls.take k).flatten) := Lib.hid (HMK.out.below (bdrew0 _ wr 1))
        have HLD : Hid (LLAt wr.drew b6 Ls) := Lib.hid (HLK.out.below (bdrew0 _ wr 1))
        have HID : Hid (IntsAt wr.drew oi L) := Lib.hid (HIA.out.below (bdrew0 _ wr 1))
        generalize wr.drew = wo at hcd HBD HMD HLD HID ⊢
        clear hc
        go_wp2_with fail
        clear hcd
        generalize hA : (Ls.take k).flatten = A at HTF HAL HNA HMD
        clear hA
        go_loopg [64] x (Wh2 A L oi Ls b6 Bm V x)
        case atStart => exact ⟨0, rfl, rfl, by omega, HBD.out, by rw [List.take_zero, List.append_nil]; exact HMD.out, HLD.out, HID.out⟩
        case round =>
          obtain ⟨i, hg, rfl, hi2, hbl, hmk, hlk, hia⟩ := hrel
          subst hg
          have i0 : (0 : Int) ≤ (i : Int) := by omega
          by_cases hix : i < x
          · have t2 : (i : Int) < (x : Int) := by omega
            have hiL : i < L.length := by rw [HX.out]; exact hix
            obtain ⟨bi, fi, e, d0⟩ := hia i hiL
            obtain ⟨hnum, hown⟩ := HOW.out _ (getD_mem hiL)
            have hlkp := hmk.look hnum
            rw [if_neg (not_ahead2 HNA.out hiL)] at hlkp
            obtain ⟨w8, hpt, hm8, hg8⟩ := hmk.put hnum (by have := HAL.out; rw [List.length_append, List.length_take]; omega)
            have HM8 : Hid (MapS w8 Bm (A ++ L.take (i + 1))) := Lib.hid (by rw [take_snoc hiL, ← List.append_assoc]; exact hm8)
            have HB8 : Hid (Below V.heap.size V w8) := Lib.hid (MapS.grown (l := []) HBM.out hbl hg8)
            have HL8 := Lib.hid (hlk.grownMap hmk hg8)
            have HI8 := Lib.hid (hia.grownMap2 hmk hg8)
            have C8 := Lib.hid (P2.out w8 (L.getD i 0) HB8.out)
            rw [hown] at C8
            have C82 : Hid (Calls Try.prog 8 #[.agg (scC s), .slice o nm c, .int .i64 (L.getD i 0)] w8 (RetNE y 0 w8)) := Lib.hid C8.out
            have A8 := Lib.hid (HSC.out.below HB8.out).all
            generalize L.getD i 0 = z at d0 hlkp hpt C82
            subst e
            clear hbl hmk hlk hia hown hm8 hg8 hnum C8
            go_wp2_with (refine wpList_load_mid rfl 32 (.tmp 2) rfl w.heap.size 0 rfl (scL s) _ A8.out Try.underlying32 rfl hall.out ?_)
            refine C82.out.mono ?_
            rintro e w9 ⟨rfl, hb⟩
            have HB9 := Lib.hid (bnext HB8.out hb)
            have HM9 := Lib.hid (HM8.out.below hb)
            have HL9 := Lib.hid (HL8.out.below hb)
            have HI9 := Lib.hid (HI8.out.below hb)
            obtain ⟨by_, fy, ey, dy⟩ := HMY.out _ HB9.out
            subst ey
            clear hb C82 A8 d0 hlkp hpt
            go_wp2_with fail
            go_roundg (x - (i + 1))
            case measure => omega
            case rel => exact ⟨i + 1, rfl, by go_num, by omega, HB9.out, HM9.out, HL9.out, HI9.out⟩
          · obtain rfl : i = x := by omega
            have t2 : ¬ (i : Int) < (i : Int) := by omega
            have HMF : Hid (MapS wr Bm (Ls.take (k + 1)).flatten) := Lib.hid (by
              rw [HTF.out]
              rw [List.take_of_length_le (by rw [HX.out]; omega)] at hmk
              exact hmk)
            have HBF := Lib.hid hbl
            have HLF := Lib.hid hlk
            have hqq := HQ.out
            have hqx := HLO2.out
            clear hbl hmk hlk hia
            go_wp2_with fail
            go_roundg (nm - (k + 1))
            case measure => omega
            case rel => exact ⟨k + 1, min lo i, max hi i, rfl, by go_num, by omega, by congr 1; omega, by congr 1; omega, by omega, by omega, by omega, HBF.out, HMF.out, HLF.out⟩
      · obtain rfl : k = nm := by omega
        have t1 : ¬ (k : Int) < (k : Int) := by omega
        have HMF : Hid (MapS wr Bm Ls.flatten) := Lib.hid (by
          rw [List.take_of_length_le (by rw [HLL.out]; omega)] at hmk
          exact hmk)
        have HLF := Lib.hid hlk
        have HBF := Lib.hid (bnext HB1.out hbl)
        have HSF := Lib.hid (HSC.out.below hbl)
        clear hbl hmk hlk hq1 hq2 hq3 HMK HMS HL3 B3
        go_wp2_with fail
        refine HK1.out _ _ ?_
        exact HT2.out q k n b6 c6 Bm lo hi Ls wr HNM.out HN.out HW.out HLS.out HOK.out HQ.out HMF.out HLF.out HBF.out HSF.out _ _ _ _ _ _ _ _ _ _ _ _ _ _ _ _ _ _ _ _ _ _ _ _ _ _ _ _ _ _ _ _ _ _ _ _ _ _ _ _ _ _ _ _ _ _ _ _ _ _ _ _ _ _ _ _ _ _ _ _ _ _ _ _ _ _ _ _ _ _ _ _ _ _ _ _ _ _ _ _ _ _ _ _ _ _ _ _ _ _ _ _ _ _ _ _ _ _ _ _ _ _ _ _ _ _ _ _ _ _ _ _ _ _ _ _ _ _ _ _ _ _ _ _ _ _ _ _ _ _ _ _ _ _ _ _ _ _ _ _ _ _ _ _ _ _ _ _ _ _ _ _ _ _ _ _ _ _ _ _ _ _ _ _ _ _ _ _ _ _ _ _
end Go.Proofs.Ytildnadkfonlhaa.Fx
