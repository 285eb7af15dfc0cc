/- PackReads, walked. -/
import Derived.Test.YtpbidfmijliehaaProg
import Derived.Test.YtpbidfmijliehaaDj
import Derived.Test.YtpbidfmijliehaaAg
set_option linter.unusedVariables false
set_option linter.unusedSimpArgs false
namespace Go.Proofs.Ytpbidfmijliehaa.Fx
open Go Go.RowKit
set_option maxRecDepth 100000 in
set_option maxHeartbeats 16000000 in
theorem law_packReads (a0 : List Nat) (o0 : Option Addr) (c0 : Nat) (b0 : By a0) (m0 : a0.length ≤ c0 ∧ c0 ≤ 9223372036854775807) (q0 : o0 = none → c0 = 0) (p0 : 0 < c0 → ∀ a, o0 = some a → a.spot = none)
    (a1 : List OpR) (o1 : Option Addr) (c1 : Nat) (m1 : a1.length ≤ 9223372036854775807) (w : World) (s0 : Bs w o0 a0) (s1 : OpsAt w o1 a1) :
    Calls Try.prog 4 #[.slice o0 a0.length c0, .slice o1 a1.length c1] w fun e w' => e = .returned (.bool true) ∧ Below w.heap.size w w' := by
  have HS := Lib.hid s0
  have HS1 := Lib.hid s1
  have HBY := Lib.hid b0
  have HM := Lib.hid m0
  have HQ := Lib.hid q0
  have HPS := Lib.hid p0
  have HG := Lib.hid ((great_any a1 o1 c1 w s1 m1).mono (R' := fun e w' => e = .returned (.bool (greatB a1)) ∧ w = w') (fun e w' h => ⟨h.1, h.2.symm⟩))
  clear s0 s1 b0 q0 p0
  obtain ⟨mc1, mc2⟩ := m0
  cases hg : greatB a1 with
  | true =>
    rw [hg] at HG
    clear hg
    go_enter Try.func4, Try.ntmps4
    go_wp2_with fail
    refine HG.out.mono ?_
    rintro e w2 ⟨rfl, rfl⟩
    go_wp2_with fail
    go_ret
    exact ⟨rfl, Below.refl _ _⟩
  | false =>
    rw [hg] at HG
    obtain ⟨hops, hl200⟩ := ops_small HS1.out hg
    have HOPS := Lib.hid hops
    clear hg hops
    by_cases hl : 2000 < a0.length
    · have hl1 : (2000 : Int) < (a0.length : Int) := by omega
      go_enter Try.func4, Try.ntmps4
      go_wp2_with fail
      refine HG.out.mono ?_
      rintro e w2 ⟨rfl, rfl⟩
      go_wp2_with fail
      go_ret
      exact ⟨rfl, Below.refl _ _⟩
    · have hl1 : ¬ (2000 : Int) < (a0.length : Int) := by omega
      have HOE := Lib.hid (own_empty w)
      have HBE := Lib.hid ((Below.refl w.heap.size w).alloc (Nat.le_refl _) (.cells #[] 5))
      go_enter Try.func4, Try.ntmps4
      go_wp2_with fail
      refine HG.out.mono ?_
      rintro e w2 ⟨rfl, rfl⟩
      clear HG
      go_wp2_with (at_builtin; refine app_at rfl (.tmp 19) (.tmp 20) rfl w.heap.size (.slice (some ⟨w.heap.size, 0, none⟩) 0 0) [] rfl HOE.out o0 a0 c0 rfl HQ.out (HS.out.below HBE.out) (by simp; omega) (by simp) ?_; intro vo w5 ho5 hg5 hn5; have HB5 : Hid (Below w.heap.size w w5) := Lib.hid (HBE.out.grown hg5 (by simp) (fun k hk => by cases hk; exact Nat.le_refl _)); have HO5 : Hid (Own w5 w.heap.size vo a0) := Lib.hid ho5; clear ho5 hg5 hn5 HOE HBE; obtain ⟨oo, co, rfl, hbo, -, -, hno, -⟩ := HO5.out.open; have HRN := Lib.hid (new_reader oo co a0 w5 hno (by omega) hbo); clear hbo hno)
      refine HRN.out.mono ?_
      rintro e w6 ⟨p, o2, c2, rfl, hr6, hp6, ho6, hb6⟩
      have HB6 := Lib.hid (bnext HB5.out hb6)
      have HO6 := Lib.hid (HO5.out.below hb6)
      have hbo := (HO6.out.open)
      obtain ⟨oo', co', e9, hbo, -, -, -, -⟩ := hbo
      cases e9
      have hcvo := conv_bs co rfl hbo
      have hcvb := conv_bs c0 rfl (HS.out.below HB6.out)
      have HR6 := Lib.hid hr6
      have HRO := Lib.hid (Own.row8 rfl HO6.out)
      have HAP : Hid (w.heap.size ≤ p ∧ (∀ q, (Value.slice oo a0.length co).ownBlock = some q → q ≠ p ∧ (∀ b off, o2 = some ⟨b, off, none⟩ → q ≠ b)) ∧ (∀ b off, o2 = some ⟨b, off, none⟩ → w.heap.size ≤ b)) := Lib.hid
        ⟨Nat.le_trans HB5.out.size hp6, fun q hq => ⟨by have := HO5.out.lt q hq; omega, fun b off e => by have := HO5.out.lt q hq; have := ho6 b off e; omega⟩, fun b off e => Nat.le_trans HB5.out.size (ho6 b off e)⟩
      clear hr6 hp6 ho6 hb6 HRN HB5 HO5 hbo
      go_wp2_with fail
      go_loopg [31] a0.length (fun g s wr2 => ∃ j : Nat, g = a0.length - j ∧ j ≤ a0.length ∧ s = .int .i64 (j : Int) ∧ w6.grownBy wr2 (Value.slice oo a0.length co).ownBlock ∧ Row8 wr2 oo a0.length)
      case atStart => exact ⟨0, rfl, by omega, rfl, World.grownBy.refl _ _, HRO.out⟩
      case round =>
        obtain ⟨j, hgj, hj, rfl, hgr, hr8⟩ := hrel
        subst hgj
        have HGR := Lib.hid hgr
        have HR8 := Lib.hid hr8
        clear hgr hr8
        have j0 : (0 : Int) ≤ (j : Int) := by omega
        by_cases hjn : j < a0.length
        · have j1 : (j : Int) < ((a0.length : Nat) : Int) := by omega
          obtain ⟨gg, e1, ⟨y, hy⟩, hf⟩ := HR8.out j hjn
          subst e1
          have HG2 := Lib.hid (grown_trans HGR.out (grown_cell _ gg j (.int .u8 (IntKind.u8.wrap (y + 1)))))
          have HR2 := Lib.hid (HR8.out.set (j := j) (IntKind.u8.wrap (y + 1)))
          clear HGR HR8
          go_wp2_with fail
          go_roundg (a0.length - (j + 1))
          case measure => omega
          case rel => exact ⟨j + 1, rfl, by omega, by go_num, HG2.out, HR2.out⟩
        · have j1 : ¬ (j : Int) < ((a0.length : Nat) : Int) := by omega
          have HGO := HGR
          clear HR8 HGR hjn hj
          have HR7 := Lib.hid (HR6.out.grown HGO.out (fun e => (HAP.out.2.1 p e.symm).1 rfl) (fun b off e hm h => (HAP.out.2.1 b h.symm).2 b off e rfl))
          have HB7 := Lib.hid (HB6.out.grown HGO.out HB6.out.size (fun q hq => HO6.out.blk q hq))
          obtain ⟨W8, hW8⟩ : ∃ W8, wr.alloc (.cells #[.slice o0 a0.length c0, .int .i64 0, .bool false] 45) = W8 := ⟨_, rfl⟩
          obtain ⟨z, hz⟩ : ∃ z, wr.heap.size = z := ⟨_, rfl⟩
          have hb8 : Below wr.heap.size wr W8 := by rw [← hW8]; exact (Below.refl _ _).alloc (Nat.le_refl _) _
          have HB8 := Lib.hid (bnext HB7.out hb8)
          have HRE8 : Hid (RE o2 c2 o0 c0 a0 p z W8) := Lib.hid ⟨0, 0, false, HR7.out.below hb8, ⟨by rw [← hW8, ← hz]; exact heap_alloc_new _ _, HS.out.below HB8.out⟩, fun _ => rfl, by omega, by omega⟩
          have HAA : Hid (AP o2 o0 a0.length p z) := Lib.hid ⟨by have := HR7.out.lt; omega, fun b off e hm => by subst e; have := HR7.out.bs.lt hm; omega, fun b off e hm => by subst e; have := HS.out.lt hm; have := HAP.out.1; omega⟩
          have HPZ : Hid (w.heap.size ≤ p ∧ w.heap.size ≤ z) := Lib.hid ⟨HAP.out.1, by have := HB7.out.size; omega⟩
          have HW8 := Lib.hid hW8
          have HZ := Lib.hid hz
          clear HR6 HGO HB6 HRO HO6 HR7 HB7 hb8 hW8 HAP hcvo hcvb
          (try rw [hz])
          go_wp2_with fail
          (try rw [HW8.out])
          go_loopg [48] 200 (fun g s48 wr => ∃ k : Nat, g = 200 - k ∧ k ≤ a1.length ∧ s48 = .int .i64 (k : Int) ∧ RE o2 c2 o0 c0 a0 p z wr ∧ Below w.heap.size w wr)
          case atStart => exact ⟨0, rfl, by omega, rfl, HRE8.out, HB8.out⟩
          case round =>
            clear HRE8 HB8 HW8 HZ hz
            obtain ⟨k, hgk, hk, rfl, hre, hb⟩ := hrel
            subst hgk
            have HB := Lib.hid hb
            have HRE := Lib.hid hre
            clear hre hb
            have k0 : (0 : Int) ≤ (k : Int) := by omega
            by_cases hkl : k < a1.length
            · have k1 : (k : Int) < (a1.length : Int) := by omega
              obtain ⟨x, hx⟩ : ∃ x, a1[k]? = some x := ⟨_, List.getElem?_eq_getElem hkl⟩
              obtain ⟨b, off, rfl, hat, hwf⟩ := HS1.out k x hx
              have hat1 := hat.below HB.out
              obtain ⟨kind, u, i, n, most, is, bo, bl, bc⟩ := x
              obtain ⟨x0, x1, x2, x3, x4, x5, x6, xb⟩ := hat1
              dsimp only at x0 x1 x2 x3 x4 x5 x6 xb
              clear hat xb
              go_wp2_with fail
              · have hb1 : Below wr.heap.size wr (wr.alloc (.cells #[.int .i64 kind, .int .u64 u, .int .i64 i, .int .i64 n, .int .i64 (min most (min 1099511627776 2000)), .bool is, .slice bo bl.length bc] 32)) := (Below.refl _ _).alloc (Nat.le_refl _) _
                obtain ⟨a3, a4, lost, rb⟩ := HRE.out
                have HRD := Lib.hid (read_any o2 c2 o0 c0 a0 p z HAA.out HBY.out (by omega) ⟨HM.out.1, HQ.out⟩ HPS.out kind u i n (min most (min 1099511627776 2000)) is bo bl.length bc (by omega) _ ⟨a3, a4, lost, rb.below hb1⟩)
                have HB1 := Lib.hid (bnext HB.out hb1)
                clear hb1 rb HRE x0 x1 x2 x3 x4 x5 x6
                refine HRD.out.mono ?_
                rintro e X ⟨rfl, ⟨a5, a6, lost2, rb2⟩, tx⟩
                have HBX := Lib.hid (tx.below HB1.out HPZ.out.1 HPZ.out.2)
                have HK5 : Hid (RdOk a0 a5) := Lib.hid ⟨HBY.out, by omega, rb2.h0⟩
                have HK6 : Hid (RdOk a0 a6) := Lib.hid ⟨HBY.out, by omega, rb2.h1⟩
                have HEN := Lib.hid (pend_any o2 c2 a0 p a5 lost2 X HK5.out rb2.pr)
                have HZN := fun X2 (hb : Below X.heap.size X X2) => zend_any o0 c0 a0 z a6 lost2 X2 HK6.out (rb2.zr.below hb)
                rw [end_same rb2.eq] at HZN
                have HZN := Lib.hid HZN
                have HRB2 := Lib.hid rb2
                clear rb2 tx HRD HB1
                generalize endV lost2 a0.length a5 = ans at *
                go_wp2_with fail
                refine HEN.out.mono ?_
                rintro e X2 ⟨rfl, hb2⟩
                have HB2 := Lib.hid hb2
                clear hb2 HEN
                go_wp2_with fail
                refine (HZN.out X2 HB2.out).mono ?_
                rintro e X3 ⟨rfl, hb3⟩
                have HB3 := Lib.hid (bnext HB2.out hb3)
                have HRE3 : Hid (RE o2 c2 o0 c0 a0 p z X3) := Lib.hid ⟨_, _, _, HRB2.out.below HB3.out⟩
                have HB4 := Lib.hid (bnext HBX.out HB3.out)
                clear hb3 HB2 HB3 HZN HRB2 HBX
                go_wp2_with fail
                go_roundg (200 - (k + 1))
                case measure => omega
                case rel => exact ⟨k + 1, rfl, by omega, by go_num, HRE3.out, HB4.out⟩
              · have hb1 : Below wr.heap.size wr (wr.alloc (.cells #[.int .i64 kind, .int .u64 u, .int .i64 i, .int .i64 n, .int .i64 (min most 1099511627776), .bool is, .slice bo bl.length bc] 32)) := (Below.refl _ _).alloc (Nat.le_refl _) _
                obtain ⟨a3, a4, lost, rb⟩ := HRE.out
                have HRD := Lib.hid (read_any o2 c2 o0 c0 a0 p z HAA.out HBY.out (by omega) ⟨HM.out.1, HQ.out⟩ HPS.out kind u i n (min most 1099511627776) is bo bl.length bc (by omega) _ ⟨a3, a4, lost, rb.below hb1⟩)
                have HB1 := Lib.hid (bnext HB.out hb1)
                clear hb1 rb HRE x0 x1 x2 x3 x4 x5 x6
                refine HRD.out.mono ?_
                rintro e X ⟨rfl, ⟨a5, a6, lost2, rb2⟩, tx⟩
                have HBX := Lib.hid (tx.below HB1.out HPZ.out.1 HPZ.out.2)
                have HK5 : Hid (RdOk a0 a5) := Lib.hid ⟨HBY.out, by omega, rb2.h0⟩
                have HK6 : Hid (RdOk a0 a6) := Lib.hid ⟨HBY.out, by omega, rb2.h1⟩
                have HEN := Lib.hid (pend_any o2 c2 a0 p a5 lost2 X HK5.out rb2.pr)
                have HZN := fun X2 (hb : Below X.heap.size X X2) => zend_any o0 c0 a0 z a6 lost2 X2 HK6.out (rb2.zr.below hb)
                rw [end_same rb2.eq] at HZN
                have HZN := Lib.hid HZN
                have HRB2 := Lib.hid rb2
                clear rb2 tx HRD HB1
                generalize endV lost2 a0.length a5 = ans at *
                go_wp2_with fail
                refine HEN.out.mono ?_
                rintro e X2 ⟨rfl, hb2⟩
                have HB2 := Lib.hid hb2
                clear hb2 HEN
                go_wp2_with fail
                refine (HZN.out X2 HB2.out).mono ?_
                rintro e X3 ⟨rfl, hb3⟩
                have HB3 := Lib.hid (bnext HB2.out hb3)
                have HRE3 : Hid (RE o2 c2 o0 c0 a0 p z X3) := Lib.hid ⟨_, _, _, HRB2.out.below HB3.out⟩
                have HB4 := Lib.hid (bnext HBX.out HB3.out)
                clear hb3 HB2 HB3 HZN HRB2 HBX
                go_wp2_with fail
                go_roundg (200 - (k + 1))
                case measure => omega
                case rel => exact ⟨k + 1, rfl, by omega, by go_num, HRE3.out, HB4.out⟩
            · have k1 : ¬ (k : Int) < (a1.length : Int) := by omega
              clear HRE
              go_wp2_with fail
              go_ret
              exact ⟨rfl, HB.out⟩
end Go.Proofs.Ytpbidfmijliehaa.Fx
