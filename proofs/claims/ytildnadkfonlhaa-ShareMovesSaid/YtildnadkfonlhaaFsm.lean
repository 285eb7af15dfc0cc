/- ShareMoves, walked. -/
import Derived.Test.YtildnadkfonlhaaFy9
import Derived.Test.YtildnadkfonlhaaFz
set_option linter.unusedVariables false
set_option linter.unusedSimpArgs false
namespace Go.Proofs.Ytildnadkfonlhaa.Fx
open Go Go.RowKit Go.Shelf
/-- what ShareMoves rests on -/
theorem moves_facts {s : ScR} {a b : List Int} (h1 : moB s a b = true) (h2 : moB s b a = true) :
    moZ s a b = moZ s b a ∧ moZ s a a = [] ∧ moB s a a = true ∧ dealB s a = true ∧ (moZ s a b).Nodup ∧ (moZ s a b).length ≤ 16 ∧ (∀ x ∈ moZ s a b, Num x) ∧
    ∀ p, p < a.length → (ofZ s a (a.getD p 0)).length ≤ 16 ∧ (∀ x ∈ ofZ s a (a.getD p 0), Num x) ∧ (a.getD p 0 ∉ b → ∀ x ∈ ofZ s a (a.getD p 0), x ∈ moZ s a b) := by
  have h3 := h1
  have h4 := h2
  unfold moB at h3 h4
  rw [Bool.and_eq_true] at h3 h4
  have hok : okZ s = true := by
    have := h3.1
    unfold dealB at this
    rw [Bool.and_eq_true] at this
    exact this.2
  have hr := ids_rise hok
  have h16 : (sortedIds s.os).length ≤ 16 := by rw [sorted_len]; exact (ok_iff.1 hok).many
  have haa : moB s a a = true := by unfold moB; rw [h3.1, h4.2]; rfl
  have e1 : moZ s a b = movedZ (sortedIds s.os) a b := by unfold moZ; rw [if_pos h1]
  have e2 : moZ s b a = movedZ (sortedIds s.os) b a := by unfold moZ; rw [if_pos h2]
  have e3 : moZ s a a = movedZ (sortedIds s.os) a a := by unfold moZ; rw [if_pos haa]
  refine ⟨by rw [e1, e2, moved_back hr], by rw [e3, moved_none hr], haa, h3.1, by rw [e1]; exact rise_nodup (moved_rise hr), ?_, fun x hx => ?_, fun p hp => ?_⟩
  · rw [e1]
    unfold movedZ chosenZ
    have := chosenK_len (fun id o => decide (o ≠ (whoseZ (sortedIds s.os) a id).getD 0)) (sortedIds s.os) b (sortedIds s.os).length
    omega
  · rw [e1] at hx
    exact id_num hok (moved_sub hx)
  · rw [of_all h3.1 hp]
    refine ⟨?_, fun x hx => id_num hok (held_sub hx), fun hm x hx => ?_⟩
    · unfold heldZ chosenZ
      have := chosenK_len (fun _ o => decide (o = a.getD p 0)) (sortedIds s.os) a (sortedIds s.os).length
      omega
    · rw [e1]
      exact moved_gone hr h3.2 hm hx
theorem IntsAt.grownMap {W X : World} {B : Nat} {o : Option Addr} {l S : List Int} (h : IntsAt W o l) (hm : MapS W B S) (hg : W.grownBy X (some B)) : IntsAt X o l := fun i hi => by
  obtain ⟨b, off, e, hc⟩ := h i hi
  refine ⟨b, off, e, ?_⟩
  obtain ⟨es, clock, hb, _⟩ := hm
  have hbW : ∃ ob, W.heap[b]? = some ob := by
    cases hx : W.heap[b]? with
    | none => unfold World.cell? at hc; simp [hx] at hc
    | some ob => exact ⟨ob, rfl⟩
  obtain ⟨ob, hob⟩ := hbW
  have hne : b ≠ B := fun e => by
    subst e
    unfold World.cell? at hc
    rw [hb] at hc
    simp at hc
  rw [World.cell?_of_block (w := W) (hg.block b (Array.getElem?_eq_some_iff.1 hob).1 (fun e => hne (by cases e; rfl)))]
  exact hc
def Mv1 (X : List Int) (o : Option Addr) (B : Nat) (V : World) (n : Nat) (g : Nat) (s75 : Value) (W : World) : Prop :=
  ∃ k : Nat, g = n - k ∧ s75 = .int .i64 (k : Int) ∧ k ≤ n ∧ Below V.heap.size V W ∧ MapS W B (X.take k) ∧ IntsAt W o X
def Mv2 (V : World) (n : Nat) (g : Nat) (s86 : Value) (W : World) : Prop :=
  ∃ k : Nat, g = n - k ∧ s86 = .int .i64 (k : Int) ∧ k ≤ n ∧ Below V.heap.size V W
def Mv3 (b : List Int) (x : Int) (V : World) (n : Nat) (g : Nat) (s19 s92 : Value) (W : World) : Prop :=
  ∃ j : Nat, g = n - j ∧ s92 = .int .i64 (j : Int) ∧ j ≤ n ∧ s19 = .bool ((b.take j).any (eqP x)) ∧ W = V
def Mv4 (V : World) (n : Nat) (g : Nat) (s112 : Value) (W : World) : Prop := ∃ i : Nat, g = n - i ∧ s112 = .int .i64 (i : Int) ∧ i ≤ n ∧ W = V
set_option maxRecDepth 100000 in
set_option maxHeartbeats 2000000 in
theorem law_shareMoves (s : ScR) (a b : List Int) (oa ob : Option Addr) (ca cb : Nat) (w : World) (hs : ScWf s) (h : ObjsAt w s.oo s.os) (ha : IntsAt w oa a) (hb : IntsAt w ob b) (la : a.length ≤ 9223372036854775807) (lb : b.length ≤ 9223372036854775807) :
    Calls Try.prog 5 #[.agg (scC s), .slice oa a.length ca, .slice ob b.length cb] w (RetBool true w) := by
  obtain ⟨V, hV⟩ : ∃ V, w.alloc (.cells (scC s) 32) = V := ⟨_, rfl⟩
  have b1 : Below w.heap.size w V := by rw [← hV]; exact (Below.refl _ w).alloc (Nat.le_refl _) _
  have hsc : ScAt w.heap.size s V := by rw [← hV]; exact ScAt.new w s
  have HSC := Lib.hid hsc
  have hall := Lib.hid (sizeS hs)
  have HA := Lib.hid (ha.below b1)
  have HBb := Lib.hid (hb.below b1)
  have P1 := Lib.hid (fun W (hW : Below V.heap.size V W) => pmoved_any s a b oa ob ca cb W hs (h.below (bnext b1 hW)) (ha.below (bnext b1 hW)) (hb.below (bnext b1 hW)) la lb)
  have P2 := Lib.hid (fun W (hW : Below V.heap.size V W) => pmoved_any s b a ob oa cb ca W hs (h.below (bnext b1 hW)) (hb.below (bnext b1 hW)) (ha.below (bnext b1 hW)) lb la)
  have P3 := Lib.hid (fun W (hW : Below V.heap.size V W) => pmoved_any s a a oa oa ca ca W hs (h.below (bnext b1 hW)) (ha.below (bnext b1 hW)) (ha.below (bnext b1 hW)) la la)
  have P4 := Lib.hid (fun W x (hW : Below V.heap.size V W) => pof_any s a oa ca x W hs (h.below (bnext b1 hW)) (ha.below (bnext b1 hW)) la)
  have HF := Lib.hid (fun (h1 : moB s a b = true) (h2 : moB s b a = true) => moves_facts h1 h2)
  have HB1 := Lib.hid b1
  have HV := Lib.hid hV
  clear b1 hsc hV hs h ha hb
  obtain ⟨na, hna⟩ : ∃ n, a.length = n := ⟨_, rfl⟩
  have HNA := Lib.hid hna
  rw [hna] at P1 P2 P3 P4 HF ⊢
  obtain ⟨nb, hnb⟩ : ∃ n, b.length = n := ⟨_, rfl⟩
  have HNB := Lib.hid hnb
  rw [hnb] at P1 P2 ⊢
  have na0 : (0 : Int) ≤ (na : Int) := by omega
  have na1 : (na : Int) ≤ 9223372036854775807 := by omega
  have nb0 : (0 : Int) ≤ (nb : Int) := by omega
  have nb1 : (nb : Int) ≤ 9223372036854775807 := by omega
  obtain ⟨q1, hq1⟩ : ∃ q, moB s a b = q := ⟨_, rfl⟩
  obtain ⟨q2, hq2⟩ : ∃ q, moB s b a = q := ⟨_, rfl⟩
  obtain ⟨e1, he1⟩ : ∃ e, errB q1 = e := ⟨_, rfl⟩
  obtain ⟨e2, he2⟩ : ∃ e, errB q2 = e := ⟨_, rfl⟩
  have HE1 := Lib.hid he1
  have HE2 := Lib.hid he2
  rw [hq1] at P1 HF
  rw [hq2] at P2 HF
  rw [he1] at P1
  rw [he2] at P2
  obtain ⟨X1, hX1⟩ : ∃ X, moZ s a b = X := ⟨_, rfl⟩
  obtain ⟨X2, hX2⟩ : ∃ X, moZ s b a = X := ⟨_, rfl⟩
  rw [hX1] at P1 HF
  rw [hX2] at P2 HF
  clear hna hnb la lb hq1 hq2 he1 he2 hX1 hX2
  go_enter Try.func5, Try.ntmps5
  go_wp2_with (rw [HV.out])
  refine (alive8_any _).mono ?_
  rintro e w1 ⟨rfl, hb⟩
  have B1 := Lib.hid hb
  have A1 := Lib.hid (HSC.out.below hb).all
  have C1 := Lib.hid (P1.out _ hb)
  clear hb P1
  go_wp2_with (refine wpList_load_mid rfl 32 (.tmp 3) rfl w.heap.size 0 rfl (scL s) _ A1.out Try.underlying32 rfl hall.out ?_)
  refine C1.out.mono ?_
  rintro e w2 ⟨v1, rfl, ho1, hb⟩
  obtain ⟨o1, c1, rfl, i1, m1⟩ := ho1.form
  have I1 := Lib.hid i1
  have B2 := Lib.hid (bnext B1.out hb)
  have A2 := Lib.hid (HSC.out.below B2.out).all
  have C2 := Lib.hid (P2.out _ B2.out)
  clear hb P2 C1 A1 B1 ho1 i1
  go_wp2_with (refine wpList_load_mid rfl 32 (.tmp 3) rfl w.heap.size 0 rfl (scL s) _ A2.out Try.underlying32 rfl hall.out ?_)
  refine C2.out.mono ?_
  rintro e w3 ⟨v2, rfl, ho2, hb⟩
  obtain ⟨o2, c2, rfl, i2, m2⟩ := ho2.form
  have I2 := Lib.hid i2
  have I1b := Lib.hid (I1.out.below hb)
  have B3 := Lib.hid (bnext B2.out hb)
  have BB := Lib.hid (bnext HB1.out B3.out)
  clear hb C2 A2 B2 ho2 i2 I1
  cases q1 with
  | false =>
    obtain rfl : e1 = 80 := HE1.out.symm
    clear HF
    go_wp2_with fail
    go_ret
    exact ⟨rfl, BB.out⟩
  | true =>
    obtain rfl : e1 = 0 := HE1.out.symm
    cases q2 with
    | false =>
      obtain rfl : e2 = 80 := HE2.out.symm
      clear HF
      go_wp2_with fail
      go_ret
      exact ⟨rfl, BB.out⟩
    | true =>
      obtain rfl : e2 = 0 := HE2.out.symm
      obtain ⟨hxx, hmt, hmb, hda, hnd, hx16, hxn, hof⟩ := HF.out rfl rfl
      subst hxx
      have A3 := Lib.hid (HSC.out.below B3.out).all
      have C3 := Lib.hid (P3.out _ B3.out)
      rw [hmt, hmb] at C3
      have HND := Lib.hid hnd
      have HXN := Lib.hid hxn
      have HOF := Lib.hid hof
      obtain ⟨n1, hn1⟩ : ∃ n, X1.length = n := ⟨_, rfl⟩
      have HN1 := Lib.hid hn1
      have M1 := Lib.hid m1
      rw [hn1] at hx16
      have n10 : (0 : Int) ≤ (n1 : Int) := by omega
      have n11 : (n1 : Int) ≤ 16 := by omega
      clear hmt hmb hda hnd hxn hof m1 m2 HE1 HE2 HF P3
      rw [hn1]
      clear hn1
      go_wp2_with (refine wpList_load_mid rfl 32 (.tmp 3) rfl w.heap.size 0 rfl (scL s) _ A3.out Try.underlying32 rfl hall.out ?_)
      refine C3.out.mono ?_
      rintro e w4 ⟨v3, rfl, ho3, hb⟩
      obtain ⟨o3, c3, rfl, i3, m3⟩ := ho3.form
      have B4 := Lib.hid (bnext B3.out hb)
      have I1c := Lib.hid (I1b.out.below hb)
      have I2b := Lib.hid (I2.out.below hb)
      have C4 := Lib.hid (zints_any X1 X1 o1 o2 c1 c2 w4 I1c.out I2b.out M1.out M1.out)
      rw [eqI_same, HN1.out] at C4
      clear hb C3 A3 ho3 i3 m3 I1b I2
      go_wp2_with fail
      refine C4.out.mono ?_
      rintro e w5 ⟨rfl, hb⟩
      have B5 := Lib.hid (bnext B4.out hb)
      have I1d := Lib.hid (I1c.out.below hb)
      clear hb C4 I1c I2b M1
      obtain ⟨w6, hw6⟩ : ∃ w6, w5.alloc (.map #[] 0) = w6 := ⟨_, rfl⟩
      have hb6 : Below w5.heap.size w5 w6 := by rw [← hw6]; exact (Below.refl _ w5).alloc (Nat.le_refl _) _
      have hms : MapS w6 w5.heap.size [] := by rw [← hw6]; exact MapS.new w5
      obtain ⟨Bm, hBm⟩ : ∃ B, w5.heap.size = B := ⟨_, rfl⟩
      have HBM : Hid (V.heap.size ≤ Bm) := Lib.hid (by rw [← hBm]; exact B5.out.size)
      have I1e := Lib.hid (I1d.out.below hb6)
      have B6 := Lib.hid (bnext B5.out hb6)
      have HW6 := Lib.hid hw6
      rw [hBm] at hms
      have HMS := Lib.hid hms
      have HBE := Lib.hid hBm
      have hmm := @run_makeMap Try.prog
      have HLT : Hid (Bm < w6.heap.size) := Lib.hid hms.lt
      clear hw6 hb6 hms hBm I1d
      go_wp2_with (first | (rw [HW6.out, HBE.out]))
      clear hmm
      go_loopg [75] n1 (Mv1 X1 o1 Bm V n1)
      case atStart => exact ⟨0, rfl, rfl, by omega, B6.out, by rw [List.take_zero]; exact HMS.out, I1e.out⟩
      case round =>
        obtain ⟨k, hg, rfl, hk, hbl, hmsk, hix⟩ := hrel
        subst hg
        have HB := Lib.hid hbl
        have HMK := Lib.hid hmsk
        have k0 : (0 : Int) ≤ (k : Int) := by omega
        by_cases hkn : k < n1
        · have t1 : (k : Int) < (n1 : Int) := by omega
          obtain ⟨b5, f5, e, d0⟩ := hix k (by rw [HN1.out]; exact hkn)
          have HIX := Lib.hid hix
          subst e
          have hlk := hmsk.look (x := X1.getD k 0) (HXN.out _ (getD_mem (l := X1) (by rw [HN1.out]; exact hkn)))
          rw [if_neg (not_ahead (l := X1) (k := k) HND.out (by rw [HN1.out]; exact hkn))] at hlk
          obtain ⟨w8, hpt, hm8, hg8⟩ := hmsk.put (x := X1.getD k 0) (HXN.out _ (getD_mem (l := X1) (by rw [HN1.out]; exact hkn))) (by rw [List.length_take]; omega)
          have HM8 : Hid (MapS w8 Bm (X1.take (k + 1))) := Lib.hid (by rw [take_snoc (by rw [HN1.out]; exact hkn)]; exact hm8)
          have HB8 : Hid (Below V.heap.size V w8) := Lib.hid (MapS.grown (l := []) HBM.out hbl hg8)
          have HI8 := Lib.hid (HIX.out.grownMap hmsk hg8)
          generalize X1.getD k 0 = x at d0 hlk hpt
          clear hbl hmsk hm8 hg8 hix
          go_wp2_with fail
          go_roundg (n1 - (k + 1))
          case measure => omega
          case rel => exact ⟨k + 1, rfl, by go_num, by omega, HB8.out, HM8.out, HI8.out⟩
        · obtain rfl : k = n1 := by omega
          have t1 : ¬ (k : Int) < (k : Int) := by omega
          have HMF : Hid (MapS wr Bm X1) := Lib.hid (by
            have := HMK.out
            rw [List.take_of_length_le (by rw [HN1.out]; omega)] at this
            exact this)
          clear hbl hmsk hix I1e HMS HMK HXN HND B6
          go_wp2_with fail
          generalize wr = w9 at HB HMF ⊢
          go_loopg [86] na (Mv2 w9 na)
          case atStart => exact ⟨0, rfl, rfl, by omega, Below.refl _ _⟩
          case round =>
            obtain ⟨p, hg, rfl, hp, hbl⟩ := hrel
            subst hg
            have HB2 := Lib.hid hbl
            have p0 : (0 : Int) ≤ (p : Int) := by omega
            by_cases hpn : p < na
            · have t2 : (p : Int) < (na : Int) := by omega
              obtain ⟨ba, fa, e, d0⟩ := (HA.out.below (bnext HB.out hbl)) p (by rw [HNA.out]; exact hpn)
              subst e
              obtain ⟨hl16, hln, hlm⟩ := HOF.out p hpn
              have HL16 := Lib.hid hl16
              have HLN := Lib.hid hln
              have HLM := Lib.hid hlm
              have C5 := Lib.hid (P4.out wr (a.getD p 0) (bnext HB.out hbl))
              have A5 := Lib.hid (HSC.out.below (bnext HB.out hbl)).all
              have IB := Lib.hid (HBb.out.below (bnext HB.out hbl))
              have HMW := Lib.hid (HMF.out.below hbl)
              generalize ofZ s a (a.getD p 0) = L at HL16 HLN HLM C5
              generalize a.getD p 0 = x at d0 C5 HLM
              generalize errB (ofB s a x) = e5 at C5
              clear hbl hl16 hln hlm
              go_wp2_with fail
              generalize wr = wo at HB2 C5 A5 IB HMW d0 ⊢
              go_loopg [19, 92] nb (Mv3 b x wo nb)
              case atStart => exact ⟨0, rfl, rfl, by omega, rfl, rfl⟩
              case round =>
                obtain ⟨j, hg, rfl, hj, rfl, hwr⟩ := hrel
                subst hg
                subst hwr
                have j0 : (0 : Int) ≤ (j : Int) := by omega
                by_cases hjn : j < nb
                · have t3 : (j : Int) < (nb : Int) := by omega
                  obtain ⟨bb, fb, e, d1⟩ := IB.out j (by rw [HNB.out]; exact hjn)
                  subst e
                  have HY := Lib.hid (any_at (x := x) (l := b) (k := j) (by rw [HNB.out]; exact hjn))
                  generalize b.getD j 0 = y at d1 HY
                  generalize (b.take j).any (eqP x) = st at HY ⊢
                  cases st with
                  | true =>
                    have HE : Hid ((b.take (j + 1)).any (eqP x) = true) := Lib.hid (by rw [HY.out, Bool.true_or])
                    clear HY
                    go_wp2_with fail
                    go_roundg (nb - (j + 1))
                    case measure => omega
                    case rel => exact ⟨j + 1, rfl, by go_num, by omega, by rw [HE.out], rfl⟩
                  | false =>
                    by_cases hy : y = x
                    · have HE : Hid ((b.take (j + 1)).any (eqP x) = true) := Lib.hid (by rw [HY.out, decide_eq_true hy.symm, Bool.or_true])
                      clear HY
                      go_wp2_with fail
                      go_roundg (nb - (j + 1))
                      case measure => omega
                      case rel => exact ⟨j + 1, rfl, by go_num, by omega, by rw [HE.out], rfl⟩
                    · have HE : Hid ((b.take (j + 1)).any (eqP x) = false) := Lib.hid (by rw [HY.out, decide_eq_false (fun e => hy e.symm), Bool.or_false])
                      clear HY
                      go_wp2_with fail
                      go_roundg (nb - (j + 1))
                      case measure => omega
                      case rel => exact ⟨j + 1, rfl, by go_num, by omega, by rw [HE.out, beq_false_of_ne hy], rfl⟩
                · obtain rfl : j = nb := by omega
                  have t3 : ¬ (j : Int) < (j : Int) := by omega
                  have HE : Hid ((b.take j).any (eqP x) = true ↔ x ∈ b) := Lib.hid (by rw [List.take_of_length_le (by rw [HNB.out]; omega)]; exact any_mem)
                  generalize (b.take j).any (eqP x) = st at HE ⊢
                  go_wp2_with (refine wpList_load_mid rfl 32 (.tmp 3) rfl w.heap.size 0 rfl (scL s) _ A5.out Try.underlying32 rfl hall.out ?_)
                  refine C5.out.mono ?_
                  rintro e wz ⟨v5, rfl, ho5, hbz⟩
                  obtain ⟨o5, c5, rfl, i5, m5⟩ := ho5.form
                  have I5 := Lib.hid i5
                  have HMZ := Lib.hid (HMW.out.below hbz)
                  have HBZ := Lib.hid (bnext HB2.out hbz)
                  have h16 := HL16.out
                  obtain ⟨m, hm⟩ : ∃ m, L.length = m := ⟨_, rfl⟩
                  have HML := Lib.hid hm
                  rw [hm] at h16 ⊢
                  have m0 : (0 : Int) ≤ (m : Int) := by omega
                  have m1 : (m : Int) ≤ 16 := by omega
                  clear hbz ho5 i5 m5 hm C5 A5 h16
                  go_wp2_with fail
                  go_loopg [112] m (Mv4 wz m)
                  case atStart => exact ⟨0, rfl, rfl, by omega, rfl⟩
                  case round =>
                    obtain ⟨i, hg, rfl, hi, hwr⟩ := hrel
                    subst hg
                    subst hwr
                    have i0 : (0 : Int) ≤ (i : Int) := by omega
                    by_cases him : i < m
                    · have t4 : (i : Int) < (m : Int) := by omega
                      obtain ⟨bz, fz, e, d2⟩ := I5.out i (by rw [HML.out]; exact him)
                      subst e
                      have hmem := getD_mem (l := L) (k := i) (by rw [HML.out]; exact him)
                      have hlk := HMZ.out.look (x := L.getD i 0) (HLN.out _ hmem)
                      cases st with
                      | true =>
                        generalize L.getD i 0 = z at d2
                        clear hlk hmem
                        go_wp2_with fail
                        go_roundg (m - (i + 1))
                        case measure => omega
                        case rel => exact ⟨i + 1, rfl, by go_num, by omega, rfl⟩
                      | false =>
                        rw [if_pos (HLM.out (fun hx => by have := HE.out.2 hx; cases this) _ hmem)] at hlk
                        clear hmem
                        generalize L.getD i 0 = z at d2 hlk
                        go_wp2_with fail
                        go_roundg (m - (i + 1))
                        case measure => omega
                        case rel => exact ⟨i + 1, rfl, by go_num, by omega, rfl⟩
                    · obtain rfl : i = m := by omega
                      have t4 : ¬ (i : Int) < (i : Int) := by omega
                      go_wp2_with fail
                      go_roundg (na - (p + 1))
                      case measure => omega
                      case rel => exact ⟨p + 1, rfl, by go_num, by omega, HBZ.out⟩
            · obtain rfl : p = na := by omega
              have t2 : ¬ (p : Int) < (p : Int) := by omega
              have BF := Lib.hid (bnext HB1.out (bnext HB.out hbl))
              clear hbl
              go_wp2_with fail
              go_ret
              exact ⟨rfl, BF.out⟩
end Go.Proofs.Ytildnadkfonlhaa.Fx
