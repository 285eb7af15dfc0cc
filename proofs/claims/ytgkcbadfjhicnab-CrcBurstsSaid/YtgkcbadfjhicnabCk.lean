/- CrcBursts, walked. -/
import Derived.Test.YtgkcbadfjhicnabProg
import Derived.Test.YtgkcbadfjhicnabCu
import Derived.WalkKit
import Derived.Lib.Hide
import Derived.Outline
import Derived.Deep.LoopGhost
import Derived.Deep.QuietTactic
import Derived.BigQuiet
set_option linter.unusedVariables false
set_option linter.unusedSimpArgs false
namespace Go.Proofs.Ytgkcbadfjhicnab.Fx
open Go Go.RowKit
/-- behind the first i bits -/
structure TI (W0 : World) (B n gs cs mask frm Q i : Nat) (tb ib : Bool) (wx : World) : Prop where
  rows : ∃ ls, ls.length = n + 4 ∧ By ls ∧ Own wx B (.slice (some ⟨gs, 0, none⟩) (n + 4) cs) ls ∧ num ls = Q ^^^ 2 ^ frm * cut mask frm i (8 * (n + 4))
  trn : tb = decide (cut mask frm i (8 * (n + 4)) ≠ 0)
  ins : ib = decide (cut mask frm i (8 * n) ≠ 0)
  grown : W0.grownBy wx (some gs)
theorem TI.past {W0 wx : World} {B n gs cs mask frm Q i : Nat} {tb ib : Bool} (h : TI W0 B n gs cs mask frm Q i tb ib wx) (hT : 8 * (n + 4) ≤ frm + i) : TI W0 B n gs cs mask frm Q (i + 1) tb ib wx := by
  obtain ⟨a, b, c, d⟩ := h
  refine ⟨?_, ?_, ?_, d⟩
  · rw [cut_past hT]; exact a
  · rw [cut_past hT]; exact b
  · rw [cut_past (by omega)]; exact c
theorem TI.off {W0 wx : World} {B n gs cs mask frm Q i : Nat} {tb ib : Bool} (h : TI W0 B n gs cs mask frm Q i tb ib wx) (hb : ¬ mask / 2 ^ i % 2 = 1) : TI W0 B n gs cs mask frm Q (i + 1) tb ib wx := by
  obtain ⟨a, b, c, d⟩ := h
  refine ⟨?_, ?_, ?_, d⟩
  · rw [cut_off hb]; exact a
  · rw [cut_off hb]; exact b
  · rw [cut_off hb]; exact c
theorem TI.on {W0 wx : World} {B n gs cs mask frm Q i j r : Nat} {tb ib : Bool} (h : TI W0 B n gs cs mask frm Q i tb ib wx) (hT : frm + i < 8 * (n + 4)) (hb : mask / 2 ^ i % 2 = 1) (hj : 8 * j + r = frm + i) (hr : r < 8) :
    ∃ c, c < 256 ∧ wx.cell? ⟨gs, j, none⟩ = some (.int .u8 ((c : Nat) : Int)) ∧ wx.frozen? ⟨gs, j, none⟩ = false ∧
      TI W0 B n gs cs mask frm Q (i + 1) true (ib || decide (frm + i < 8 * n)) (wx.setCell ⟨gs, j, none⟩ (.int .u8 ((c ^^^ 2 ^ r : Nat) : Int))) := by
  obtain ⟨⟨ls, hl, hby, hown, hnum⟩, ht, hi, hg⟩ := h
  obtain ⟨_, _, e, hbs, _, _, _, hfr⟩ := hown.open
  rw [hl] at e
  cases e
  have hjl : j < ls.length := by omega
  have hc := bs_at hbs hjl
  rw [Nat.zero_add] at hc
  obtain ⟨g2, e2, _, _, hf⟩ := hfr _ rfl
  cases e2
  have h2r : 2 ^ r < 256 := by
    have : 2 ^ r < 2 ^ 8 := Nat.pow_lt_pow_right (by omega) hr
    simpa using this
  have hown' := hown
  rw [← hl] at hown'
  have hbm := bump (k := j) hown' (ls.getD j 0 ^^^ 2 ^ r)
  rw [hl] at hbm
  have hcb := cut_bit (mask := mask) (frm := frm) (i := i) hT hb
  refine ⟨ls.getD j 0, hby.get j, hc, hf j, ⟨ls.set j (ls.getD j 0 ^^^ 2 ^ r), by simpa using hl, ?_, hbm.1, ?_⟩, ?_, ?_, grown_trans hg hbm.2⟩
  · intro c hc2
    rcases List.mem_or_eq_of_mem_set hc2 with h | rfl
    · exact hby c h
    · exact Nat.xor_lt_two_pow (n := 8) (hby.get j) h2r
  · rw [num_set hby j (2 ^ r) hjl h2r, hnum, ← Nat.pow_add, hj, Nat.xor_assoc, hcb.2]
  · exact (decide_eq_true hcb.1).symm
  · rw [hi]
    by_cases hB : frm + i < 8 * n
    · have := cut_bit (mask := mask) (frm := frm) (i := i) hB hb
      simp [hB, this.1]
    · rw [cut_past (T := 8 * n) (by omega)]
      simp [hB]
set_option maxRecDepth 100000 in
set_option maxHeartbeats 4000000 in
theorem bursts_big (n : Nat) (o : Option Addr) (cap at0 mask : Nat) (w : World) (hbig : 5000 < n) :
    Calls Try.prog 7 #[.slice o n cap, .int .u16 (at0 : Int), .int .u32 (mask : Int)] w (Yes2 w) := by
  have t1 : (5000 : Int) < (n : Int) := by omega
  go_enter Try.func7, Try.ntmps7
  go_wp2_with fail
  refine (alive_any _).mono ?_
  rintro e w1 ⟨rfl, hb1⟩
  go_wp2_with fail
  go_ret
  exact ⟨rfl, hb1⟩
set_option maxRecDepth 100000 in
set_option maxHeartbeats 8000000 in
theorem bursts_all (l q : List Nat) (n at0 mask frm : Nat) (ob : Option Addr) (cb : Nat) (w : World) (hl : By l) (hn : l.length = n) (hlen : n ≤ 5000) (hq0 : ob = none → cb = 0) (hb : Bs w ob l)
    (hq : l ++ le4 (more 0 l) = q) (ha : at0 ≤ 65535) (hm : mask < 4294967296) (hf : (at0 : Int) % (8 * ((n : Int) + 4)) = (frm : Int)) :
    Calls Try.prog 7 #[.slice ob n cb, .int .u16 (at0 : Int), .int .u32 (mask : Int)] w (Yes2 w) := by
  have t1 : ¬ (5000 : Int) < (n : Int) := by omega
  have t1' : (n : Int) ≤ 5000 := by omega
  have hfl : frm < 8 * (n + 4) := by
    have := Int.emod_lt_of_pos (at0 : Int) (show (0 : Int) < 8 * ((n : Int) + 4) by omega)
    omega
  have htm : (at0 : Int).tmod (8 * ((n : Int) + 4)) = (frm : Int) := by rw [Int.tmod_eq_emod_of_nonneg (by omega), hf]
  have hnz : ¬ (8 * ((n : Int) + 4) = 0) := by omega
  have hql : q.length = n + 4 := by rw [← hq, List.length_append, hn]; rfl
  have hqb : By q := by rw [← hq]; exact hl.append (le4_by _)
  have HSE : Hid (∀ W, Bs W ob l → Calls Try.prog 15 #[.slice ob n cb] W fun e w' => (∃ v, e = .returned v ∧ Own w' W.heap.size v q) ∧ Below W.heap.size W w') :=
    Lib.hid fun W h => seal_at l n hn q hq ob cb W hl (by omega) hq0 h
  have HOP : Hid (∀ W ls g cap, ls.length = n + 4 → By ls → n + 4 ≤ cap → cap ≤ 9223372036854775807 → Bs W (some ⟨g, 0, none⟩) ls → Calls Try.prog 16 #[.slice (some ⟨g, 0, none⟩) (n + 4) cap] W fun e w' => RetO (opened ls) W.heap.size e w' ∧ Below W.heap.size W w') :=
    Lib.hid fun W ls g cap h0 h1 h2 h3 h => open_all ls (n + 4) h0 _ cap W h1 (by omega) (by omega) h3 h
  have HOR : Hid (∀ ls, ls.length = n + 4 → By ls → num ls = num q ^^^ 2 ^ frm * cut mask frm 32 (8 * (n + 4)) → opened ls = if cut mask frm 32 (8 * (n + 4)) = 0 then some l else none) :=
    Lib.hid fun ls h0 h1 h2 => burst_open (b := l) (s' := ls) (frm := frm) hl h1 (by omega) (by omega) (cut_lt _ _ _ hm) (by rw [hq]; exact h2)
  have HBU : Hid (∀ ls, ls.length = n + 4 → By ls → num ls = num q ^^^ 2 ^ frm * cut mask frm 32 (8 * (n + 4)) → (more 0 (ls.take n) = more 0 l ↔ cut mask frm 32 (8 * n) = 0)) :=
    Lib.hid fun ls h0 h1 h2 => by
      have := burst_sum (b := l) (s' := ls) (mask := mask) (frm := frm) hl h1 (by omega) hm (by rw [hq, hn]; exact h2)
      rw [hn] at this
      exact this
  have HSU : Hid (∀ W o cap ks, ks.length = n → By ks → Bs W o ks → Calls Try.prog 8 #[.slice o n cap] W fun e w' => e = .returned (.int .u32 ((more 0 ks : Nat) : Int)) ∧ Below W.heap.size W w') :=
    Lib.hid fun W o cap ks h0 h1 h2 => sum_new ks n h0 _ rfl o cap W h1 (by omega) h2
  have HBS := Lib.hid hb
  have HLB := Lib.hid hl
  have HQB := Lib.hid hqb
  have HNL := Lib.hid hn
  have HQL := Lib.hid hql
  clear hl hb hq hqb hn hql hf
  generalize hQ : num q = Q at *
  have HNQ := Lib.hid hQ
  clear hQ
  go_enter Try.func7, Try.ntmps7
  go_wp2_with fail
  refine (alive_any _).mono ?_
  rintro e w1 ⟨rfl, hb1⟩
  have HB1 := Lib.hid hb1
  clear hb1
  go_wp2_with fail
  refine (HSE.out _ (HBS.out.below HB1.out)).mono ?_
  rintro e w2 ⟨⟨vs, rfl, hown⟩, hb2⟩
  have HO2 := Lib.hid hown
  have HB2 : Hid (Below w.heap.size w w2) := Lib.hid (bnext HB1.out hb2)
  obtain ⟨gs, cs, rfl, hc1, hc2, _⟩ := own_shape hown HQL.out (by omega)
  have HZ1 := Lib.hid hb2.size
  clear hown hb2
  go_wp2_with fail
  have hcc : (n : Int) + 4 ≤ (cs : Int) := by omega
  go_loopg [10, 11, 12] 32 (fun g s10 s11 s12 wx => ∃ (i : Nat) (tb ib : Bool), g = 32 - i ∧ i ≤ 32 ∧ s12 = .int .i64 (i : Int) ∧ s10 = .bool tb ∧ s11 = .bool ib ∧ TI w2 w1.heap.size n gs cs mask frm Q i tb ib wx)
  case atStart =>
    refine ⟨0, false, false, rfl, by omega, rfl, rfl, rfl, ⟨q, HQL.out, HQB.out, HO2.out, ?_⟩, ?_, ?_, World.grownBy.refl _ _⟩
    · rw [cut_zero, Nat.mul_zero, Nat.xor_zero, HNQ.out]
    · rw [cut_zero]; rfl
    · rw [cut_zero]; rfl
  case round =>
    obtain ⟨i, tb, ib, rfl, hi, rfl, rfl, rfl, ti⟩ := hrel
    by_cases h32 : i < 32
    · have ti32 : (i : Int) < 32 := by omega
      have ti0 : (0 : Int) ≤ (i : Int) := by omega
      have TIH := Lib.hid ti
      clear ti
      by_cases hpast : 8 * (n + 4) ≤ frm + i
      · have tp : 8 * ((n : Int) + 4) ≤ (frm : Int) + (i : Int) := by omega
        go_wp2_with fail
        go_roundg (32 - (i + 1))
        case measure => omega
        case rel => exact ⟨i + 1, tb, ib, rfl, by omega, by go_num, rfl, rfl, TIH.out.past hpast⟩
      · have tp : ¬ (8 * ((n : Int) + 4) ≤ (frm : Int) + (i : Int)) := by omega
        have tp2 : (frm : Int) + (i : Int) < 8 * ((n : Int) + 4) := by omega
        have hsh : (mask : Int) / 2 ^ i = ((mask / 2 ^ i : Nat) : Int) := by simp
        by_cases hbit : mask / 2 ^ i % 2 = 1
        · obtain ⟨j, hj⟩ : ∃ j, (frm + i) / 8 = j := ⟨_, rfl⟩
          obtain ⟨r, hr⟩ : ∃ r, (frm + i) % 8 = r := ⟨_, rfl⟩
          obtain ⟨c, hc, fc, ff, hnext⟩ := TIH.out.on (j := j) (r := r) (by omega) hbit (by omega) (by omega)
          have hd : ¬ (((mask / 2 ^ i : Nat) : Int) % 2 = 0) := by omega
          have hd1 : ((mask / 2 ^ i : Nat) : Int) % 2 = 1 := by omega
          have e1 : ((frm : Int) + (i : Int)) / 8 = (j : Int) := by omega
          have e2 : ((frm : Int) + (i : Int)) % 8 = (r : Int) := by omega
          have e3 : ((frm : Int) + (i : Int)).tdiv 8 = (j : Int) := by rw [Int.tdiv_eq_ediv_of_nonneg (by omega)]; exact e1
          have e4 : ((frm : Int) + (i : Int)).tmod 8 = (r : Int) := by rw [Int.tmod_eq_emod_of_nonneg (by omega)]; exact e2
          have j0 : (0 : Int) ≤ (j : Int) := by omega
          have j1 : (j : Int) < (n : Int) + 4 := by omega
          have r0 : (0 : Int) ≤ (r : Int) := by omega
          have r8 : r < 8 := by omega
          have r1 : (r : Int) < 8 := by omega
          have h2r : 2 ^ r < 256 := by
            have : 2 ^ r < 2 ^ 8 := Nat.pow_lt_pow_right (by omega) r8
            simpa using this
          have hshl : (2 : Int) ^ r % 256 = ((2 ^ r : Nat) : Int) := by
            have h3 : ((2 : Int) ^ r) = ((2 ^ r : Nat) : Int) := by simp
            rw [h3]
            generalize 2 ^ r = b at *
            omega
          have hx := u8_xor_nat c (2 ^ r) hc h2r
          have HIN : Hid ((frm + i < 8 * n) ↔ ((frm : Int) + (i : Int) < 8 * (n : Int))) := Lib.hid (by omega)
          have HNX := Lib.hid hnext
          clear hnext hbit TIH hj hr
          generalize mask / 2 ^ i = d at *
          generalize 2 ^ r = b at *
          cases ib
          · by_cases hin : frm + i < 8 * n
            · have hin2 := HIN.out.1 hin
              have HN2 := HNX.out
              rw [decide_eq_true hin] at HN2
              have HN3 := Lib.hid HN2
              clear HN2 HNX hin
              go_wp2_with fail
              go_roundg (32 - (i + 1))
              case measure => omega
              case rel => exact ⟨i + 1, true, true, rfl, by omega, by go_num, rfl, rfl, HN3.out⟩
            · have hin2 : ¬ ((frm : Int) + (i : Int) < 8 * (n : Int)) := fun h => hin (HIN.out.2 h)
              have HN2 := HNX.out
              rw [decide_eq_false hin] at HN2
              have HN3 := Lib.hid HN2
              clear HN2 HNX hin
              go_wp2_with fail
              go_roundg (32 - (i + 1))
              case measure => omega
              case rel => exact ⟨i + 1, true, false, rfl, by omega, by go_num, rfl, rfl, HN3.out⟩
          · go_wp2_with fail
            go_roundg (32 - (i + 1))
            case measure => omega
            case rel => exact ⟨i + 1, true, true, rfl, by omega, by go_num, rfl, rfl, HNX.out⟩
        · have HOFF := Lib.hid (TIH.out.off hbit)
          have hd : ((mask / 2 ^ i : Nat) : Int) % 2 = 0 := by omega
          clear hbit TIH
          generalize mask / 2 ^ i = d at *
          go_wp2_with fail
          go_roundg (32 - (i + 1))
          case measure => omega
          case rel => exact ⟨i + 1, tb, ib, rfl, by omega, by go_num, rfl, rfl, HOFF.out⟩
    · have ti32 : ¬ (i : Int) < 32 := by omega
      obtain rfl : i = 32 := by omega
      obtain ⟨⟨ls, hl1, hby, hown, hnum⟩, rfl, rfl, hg⟩ := ti
      obtain ⟨_, _, e, hbs, _⟩ := hown.open
      rw [hl1] at e
      cases e
      have HR1 := Lib.hid (HOR.out ls hl1 hby hnum)
      have HR2 := Lib.hid (HBU.out ls hl1 hby hnum)
      have HBY := Lib.hid hby
      have HBL := Lib.hid hbs
      have HLL := Lib.hid hl1
      have HBR : Hid (Below w.heap.size w wr) := Lib.hid (HB2.out.grown hg HB2.out.size (by intro k hk; cases hk; have := HO2.out.lt gs rfl; have := HB1.out.size; omega))
      have HTK : Hid ((ls.take n).length = n) := Lib.hid (by rw [List.length_take, hl1]; omega)
      clear hg hby hnum hl1 hown hbs
      have hca := HOP.out wr ls gs cs HLL.out HBY.out hc1 hc2 HBL.out
      rw [HR1.out] at hca
      have HCA := Lib.hid hca
      clear hca
      by_cases hT : cut mask frm 32 (8 * (n + 4)) = 0
      · rw [show decide (cut mask frm 32 (8 * (n + 4)) ≠ 0) = false from by simp [hT]]
        have HCB := HCA.out
        rw [if_pos hT] at HCB
        have HCC := Lib.hid HCB
        clear HCB HCA HR1 hT
        by_cases hB : cut mask frm 32 (8 * n) = 0
        · rw [show decide (cut mask frm 32 (8 * n) ≠ 0) = false from by simp [hB]]
          have HEQ := Lib.hid (HR2.out.2 hB)
          clear hB HR2
          go_wp2_with fail
          refine HCC.out.mono ?_
          rintro e w3 ⟨⟨vo, rfl, ho3⟩, hb3⟩
          have HB3 : Hid (Below w.heap.size w w3) := Lib.hid (bnext HBR.out hb3)
          have HL3 := Lib.hid (HBL.out.below hb3)
          obtain ⟨oo, co, rfl, bo⟩ := own_shape0 ho3 HNL.out
          have k1 := conv_bs co HNL.out bo
          have k2 := conv_bs cb HNL.out (HBS.out.below HB3.out)
          rw [show erO (some l) = 0 from rfl]
          clear ho3 bo hb3
          go_wp2_with (first | rw [k1] | rw [k2])
          have hs1 := HSU.out w3 (some ⟨gs, 0, none⟩) cs (ls.take n) HTK.out (HBY.out.take n) (HL3.out.take n)
          rw [HEQ.out] at hs1
          refine hs1.mono ?_
          rintro e w4 ⟨rfl, hb4⟩
          have HB4 : Hid (Below w.heap.size w w4) := Lib.hid (bnext HB3.out hb4)
          clear hs1 hb4
          go_wp2_with fail
          refine (HSU.out w4 ob cb l HNL.out HLB.out (HBS.out.below HB4.out)).mono ?_
          rintro e w5 ⟨rfl, hb5⟩
          have HB5 : Hid (Below w.heap.size w w5) := Lib.hid (bnext HB4.out hb5)
          clear hb5
          go_wp2_with fail
          go_ret
          exact ⟨rfl, HB5.out⟩
        · rw [show decide (cut mask frm 32 (8 * n) ≠ 0) = true from by simp [hB]]
          have HNE : Hid (¬ more 0 (ls.take n) = more 0 l) := Lib.hid (fun h => hB (HR2.out.1 h))
          clear hB HR2
          go_wp2_with fail
          refine HCC.out.mono ?_
          rintro e w3 ⟨⟨vo, rfl, ho3⟩, hb3⟩
          have HB3 : Hid (Below w.heap.size w w3) := Lib.hid (bnext HBR.out hb3)
          have HL3 := Lib.hid (HBL.out.below hb3)
          obtain ⟨oo, co, rfl, bo⟩ := own_shape0 ho3 HNL.out
          have k1 := conv_bs co HNL.out bo
          have k2 := conv_bs cb HNL.out (HBS.out.below HB3.out)
          rw [show erO (some l) = 0 from rfl]
          clear ho3 bo hb3
          go_wp2_with (first | rw [k1] | rw [k2])
          have hs1 := HSU.out w3 (some ⟨gs, 0, none⟩) cs (ls.take n) HTK.out (HBY.out.take n) (HL3.out.take n)
          have HBN : Hid ((((more 0 (ls.take n) : Nat) : Int) != ((more 0 l : Nat) : Int)) = true) := Lib.hid (by
            rw [bne_iff_ne]
            exact fun h => HNE.out (by omega))
          refine hs1.mono ?_
          rintro e w4 ⟨rfl, hb4⟩
          have HB4 : Hid (Below w.heap.size w w4) := Lib.hid (bnext HB3.out hb4)
          clear hs1 hb4
          go_wp2_with fail
          refine (HSU.out w4 ob cb l HNL.out HLB.out (HBS.out.below HB4.out)).mono ?_
          rintro e w5 ⟨rfl, hb5⟩
          have HB5 : Hid (Below w.heap.size w w5) := Lib.hid (bnext HB4.out hb5)
          clear hb5
          go_wp2_with fail
          go_ret
          exact ⟨by rw [HBN.out]; rfl, HB5.out⟩
      · rw [show decide (cut mask frm 32 (8 * (n + 4)) ≠ 0) = true from by simp [hT]]
        have HCB := HCA.out
        rw [if_neg hT] at HCB
        have HCC := Lib.hid HCB
        clear HCB HCA HR1 hT
        by_cases hB : cut mask frm 32 (8 * n) = 0
        · rw [show decide (cut mask frm 32 (8 * n) ≠ 0) = false from by simp [hB]]
          have HEQ := Lib.hid (HR2.out.2 hB)
          clear hB HR2
          go_wp2_with fail
          refine HCC.out.mono ?_
          rintro e w3 ⟨⟨vo, rfl, ho3⟩, hb3⟩
          have HB3 : Hid (Below w.heap.size w w3) := Lib.hid (bnext HBR.out hb3)
          have HL3 := Lib.hid (HBL.out.below hb3)
          obtain ⟨oo, co, rfl, bo⟩ := own_shape0 (n := 0) ho3 rfl
          rw [show erO none = 40 from rfl]
          clear ho3 bo hb3
          go_wp2_with fail
          have hs1 := HSU.out w3 (some ⟨gs, 0, none⟩) cs (ls.take n) HTK.out (HBY.out.take n) (HL3.out.take n)
          rw [HEQ.out] at hs1
          refine hs1.mono ?_
          rintro e w4 ⟨rfl, hb4⟩
          have HB4 : Hid (Below w.heap.size w w4) := Lib.hid (bnext HB3.out hb4)
          clear hs1 hb4
          go_wp2_with fail
          refine (HSU.out w4 ob cb l HNL.out HLB.out (HBS.out.below HB4.out)).mono ?_
          rintro e w5 ⟨rfl, hb5⟩
          have HB5 : Hid (Below w.heap.size w w5) := Lib.hid (bnext HB4.out hb5)
          clear hb5
          go_wp2_with fail
          go_ret
          exact ⟨rfl, HB5.out⟩
        · rw [show decide (cut mask frm 32 (8 * n) ≠ 0) = true from by simp [hB]]
          have HNE : Hid (¬ more 0 (ls.take n) = more 0 l) := Lib.hid (fun h => hB (HR2.out.1 h))
          clear hB HR2
          go_wp2_with fail
          refine HCC.out.mono ?_
          rintro e w3 ⟨⟨vo, rfl, ho3⟩, hb3⟩
          have HB3 : Hid (Below w.heap.size w w3) := Lib.hid (bnext HBR.out hb3)
          have HL3 := Lib.hid (HBL.out.below hb3)
          obtain ⟨oo, co, rfl, bo⟩ := own_shape0 (n := 0) ho3 rfl
          rw [show erO none = 40 from rfl]
          clear ho3 bo hb3
          go_wp2_with fail
          have hs1 := HSU.out w3 (some ⟨gs, 0, none⟩) cs (ls.take n) HTK.out (HBY.out.take n) (HL3.out.take n)
          have HBN : Hid ((((more 0 (ls.take n) : Nat) : Int) != ((more 0 l : Nat) : Int)) = true) := Lib.hid (by
            rw [bne_iff_ne]
            exact fun h => HNE.out (by omega))
          refine hs1.mono ?_
          rintro e w4 ⟨rfl, hb4⟩
          have HB4 : Hid (Below w.heap.size w w4) := Lib.hid (bnext HB3.out hb4)
          clear hs1 hb4
          go_wp2_with fail
          refine (HSU.out w4 ob cb l HNL.out HLB.out (HBS.out.below HB4.out)).mono ?_
          rintro e w5 ⟨rfl, hb5⟩
          have HB5 : Hid (Below w.heap.size w w5) := Lib.hid (bnext HB4.out hb5)
          clear hb5
          go_wp2_with fail
          go_ret
          exact ⟨by rw [HBN.out]; rfl, HB5.out⟩
theorem law_crcBursts (l : List Nat) (o : Option Addr) (cap : Nat) (hl : By l) (hq : l.length ≤ cap ∧ cap ≤ 9223372036854775807 ∧ (o = none → cap = 0)) (z : Int) (hz : (Lit.int .u16 z).wf = true) (m : Int) (hm : (Lit.int .u32 m).wf = true) (w : World) (hb : Bs w o l) :
    Calls Try.prog 7 #[.slice o l.length cap, .int .u16 z, .int .u32 m] w (Yes2 w) := by
  have hz2 : 0 ≤ z ∧ z ≤ 65535 := by
    simp [Lit.wf, IntKind.min, IntKind.max, IntKind.signed, IntKind.bits] at hz
    omega
  have hm2 : 0 ≤ m ∧ m < 4294967296 := by
    simp [Lit.wf, IntKind.min, IntKind.max, IntKind.signed, IntKind.bits] at hm
    omega
  obtain ⟨at0, rfl⟩ := Int.eq_ofNat_of_zero_le hz2.1
  obtain ⟨mask, rfl⟩ := Int.eq_ofNat_of_zero_le hm2.1
  by_cases hbig : 5000 < l.length
  · exact bursts_big _ o cap at0 mask w hbig
  · have h1 := Int.emod_nonneg (at0 : Int) (show 8 * ((l.length : Int) + 4) ≠ 0 by omega)
    obtain ⟨frm, hf⟩ := Int.eq_ofNat_of_zero_le h1
    exact bursts_all l _ l.length at0 mask frm o cap w hl rfl (by omega) hq.2.2 hb rfl (by omega) (by omega) hf
end Go.Proofs.Ytgkcbadfjhicnab.Fx
