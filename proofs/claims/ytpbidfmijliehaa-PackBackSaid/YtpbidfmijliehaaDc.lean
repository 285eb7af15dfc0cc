/- PackBack, walked. -/
import Derived.Test.YtpbidfmijliehaaProg
import Derived.Test.YtpbidfmijliehaaDb
set_option linter.unusedVariables false
set_option linter.unusedSimpArgs false
namespace Go.Proofs.Ytpbidfmijliehaa.Fx
open Go Go.RowKit
theorem and16 (n : Int) : bits .and .i64 n 65535 = ((n16 n : Nat) : Int) := by
  unfold bits n16
  show IntKind.i64.wrap (((BitVec.ofInt 64 n &&& BitVec.ofInt 64 65535).toNat : Nat) : Int) = (((n % 65536).toNat : Nat) : Int)
  rw [BitVec.toNat_and, BitVec.toNat_ofInt, BitVec.toNat_ofInt, show ((65535 : Int) % ((2 ^ 64 : Nat) : Int)).toNat = 2 ^ 16 - 1 from by decide, Nat.and_two_pow_sub_one_eq_mod, IntKind.wrap_i64]
  omega
set_option maxRecDepth 100000 in
set_option maxHeartbeats 16000000 in
theorem law_packBack (a0 : List OpR) (o0 : Option Addr) (c0 : Nat) (m0 : a0.length ≤ 9223372036854775807) (w : World) (s0 : OpsAt w o0 a0) :
    Calls Try.prog 6 #[.slice o0 a0.length c0] w fun e w' => e = .returned (.bool true) ∧ Below w.heap.size w w' := by
  have HA := Lib.hid (alive_any w)
  have HS := Lib.hid s0
  have HG := Lib.hid (fun W hb => great_any a0 o0 c0 W (HS.out.below hb) m0)
  clear s0
  cases hg : greatB a0 with
  | true =>
    rw [hg] at HG
    clear hg
    go_enter Try.func6, Try.ntmps6
    go_wp2_with fail
    refine HA.out.mono ?_
    rintro e w1 ⟨rfl, hb1⟩
    have HB1 := Lib.hid hb1
    clear hb1 HA
    go_wp2_with fail
    refine (HG.out _ HB1.out).mono ?_
    rintro e w2 ⟨rfl, rfl⟩
    go_wp2_with fail
    go_ret
    exact ⟨rfl, HB1.out⟩
  | false =>
    rw [hg] at HG
    obtain ⟨hops, hl200⟩ := ops_small HS.out hg
    have HOPS := Lib.hid hops
    clear hg hops
    go_enter Try.func6, Try.ntmps6
    go_wp2_with fail
    refine HA.out.mono ?_
    rintro e w1 ⟨rfl, hb1⟩
    have HB1 := Lib.hid hb1
    clear hb1 HA
    go_wp2_with fail
    refine (HG.out _ HB1.out).mono ?_
    rintro e w2 ⟨rfl, rfl⟩
    clear HG
    go_wp2_with fail
    refine (new_writer _).mono ?_
    rintro e w3 ⟨rfl, hw3, hw3e⟩
    have HP0 : Hid (∃ v, PW w.heap.size w2.heap.size v (cat a0 0) false w3) := Lib.hid ⟨_, hw3.mono (Nat.le_trans HB1.out.size (Nat.le_succ _))⟩
    have HB3 : Hid (Below w.heap.size w w3) := Lib.hid (by rw [hw3e]; exact HB1.out.alloc HB1.out.size _)
    have HPW : Hid (w.heap.size ≤ w2.heap.size) := Lib.hid HB1.out.size
    obtain ⟨p, hp⟩ : ∃ p, w2.heap.size = p := ⟨_, rfl⟩
    rw [hp] at HP0 HPW
    clear hw3 hw3e HB1
    go_wp2_with fail
    go_loopg [24] 200 (fun g s24 wr => ∃ k : Nat, g = 200 - k ∧ k ≤ a0.length ∧ s24 = .int .i64 (k : Int) ∧ (∃ v, PW w.heap.size p v (cat a0 k) false wr) ∧ Below w.heap.size w wr)
    case atStart => exact ⟨0, rfl, by omega, rfl, HP0.out, HB3.out⟩
    case round =>
      clear HP0 HB3
      obtain ⟨k, hgk, hk, rfl, ⟨v, hv⟩, hb⟩ := hrel
      subst hgk
      have HB := Lib.hid hb
      have HV := Lib.hid hv
      clear hv hb
      have k0 : (0 : Int) ≤ (k : Int) := by omega
      by_cases hkl : k < a0.length
      · have k1 : (k : Int) < (a0.length : Int) := by omega
        obtain ⟨x, hx⟩ : ∃ x, a0[k]? = some x := ⟨_, List.getElem?_eq_getElem hkl⟩
        have hos : OpS x := HOPS.out x (List.mem_of_getElem? hx)
        obtain ⟨b, off, rfl, hat, hwf⟩ := HS.out k x hx
        have hat1 := hat.below HB.out
        obtain ⟨kind, u, i, n, most, is, bo, bl, bc⟩ := x
        have hl300 : bl.length ≤ 300 := hos.len
        obtain ⟨x0, x1, x2, x3, x4, x5, x6, xb⟩ := hat1
        dsimp only at x0 x1 x2 x3 x4 x5 x6 xb
        obtain ⟨W1, hW1⟩ : ∃ W1, wr.alloc (.cells #[.int .i64 kind, .int .u64 u, .int .i64 i, .int .i64 n, .int .i64 most, .bool is, .slice bo bl.length bc] 32) = W1 := ⟨_, rfl⟩
        have hb1 : Below wr.heap.size wr W1 := by rw [← hW1]; exact (Below.refl _ _).alloc (Nat.le_refl _) _
        have HB1 := Lib.hid (bnext HB.out hb1)
        have HV1 := Lib.hid (HV.out.below hb1)
        have HXB := Lib.hid (xb.below hb1)
        have HAP : Hid (∀ bb of, bo = some ⟨bb, of, none⟩ → 0 < bl.length → bb ≠ p ∧ v.ownBlock ≠ some bb ∧ bb < W1.heap.size) := Lib.hid (fun bb of e hm => by
          subst e
          have h1 : bb < w.heap.size := Bs.lt hat.bs hm
          have h2 := HB1.out.size
          exact ⟨by have := HPW.out; omega, fun h => by have := HV1.out.own.blk _ h; omega, by omega⟩)
        have HCL : Hid ((cat a0 k).length ≤ 100000000 ∧ (cat a0 k).length ≤ 90000000) := Lib.hid (by have := cat_len HOPS.out hl200 k; omega)
        have HW1 := Lib.hid hW1
        have hu0 := hwf.u
        dsimp only at hu0
        clear hb1 xb hos HB HV hW1
        by_cases t0 : kind = 0
        · have tk := t0
          subst tk
          have HNX : Hid (cat a0 k ++ (form u.toNat) = cat a0 (k + 1)) := Lib.hid (by rw [cat_next hx]; rfl)
          have hc := puint_any w.heap.size p u.toNat v (cat a0 k) false W1 HB1.out.size (by omega) HCL.out.1 HV1.out
          rw [show ((u.toNat : Nat) : Int) = u by omega] at hc
          rw [putB_on, putL_on] at hc
          have HC := Lib.hid hc
          clear hc hx hat hwf
          go_wp2_with fail
          rw [HW1.out]
          refine HC.out.mono ?_
          rintro e W2 ⟨rfl, v2, h2, t2⟩
          have hb2 := t2.below HB1.out HPW.out HV1.out
          have hv2 : ∃ v, PW w.heap.size p v (cat a0 k ++ (form u.toNat)) false W2 := ⟨v2, h2⟩
          clear h2 t2 HC x0 x1 x2 x3 x4 x5 x6
          have HV2 : Hid (∃ v, PW w.heap.size p v (cat a0 (k + 1)) false W2) := Lib.hid (HNX.out ▸ hv2)
          have HB2 : Hid (Below w.heap.size w W2) := Lib.hid hb2
          clear hv2 hb2
          go_wp2_with fail
          go_roundg (200 - (k + 1))
          case measure => omega
          case rel => exact ⟨k + 1, rfl, by omega, by go_num, HV2.out, HB2.out⟩
        · skip
          by_cases t1 : kind = 1
          · have tk := t1
            subst tk
            have e0 : (((1 : Int)) == 0) = false := rfl
            have HNX : Hid (cat a0 k ++ (form (fold i)) = cat a0 (k + 1)) := Lib.hid (by rw [cat_next hx]; rfl)
            have hc := pint_any w.heap.size p i v (cat a0 k) false W1 HB1.out.size hwf.i.1 hwf.i.2 HCL.out.1 HV1.out
            rw [putB_on, putL_on] at hc
            have HC := Lib.hid hc
            clear hc hx hat hwf
            go_wp2_with fail
            rw [HW1.out]
            refine HC.out.mono ?_
            rintro e W2 ⟨rfl, v2, h2, t2⟩
            have hb2 := t2.below HB1.out HPW.out HV1.out
            have hv2 : ∃ v, PW w.heap.size p v (cat a0 k ++ (form (fold i))) false W2 := ⟨v2, h2⟩
            clear h2 t2 HC x0 x1 x2 x3 x4 x5 x6
            have HV2 : Hid (∃ v, PW w.heap.size p v (cat a0 (k + 1)) false W2) := Lib.hid (HNX.out ▸ hv2)
            have HB2 : Hid (Below w.heap.size w W2) := Lib.hid hb2
            clear hv2 hb2
            go_wp2_with fail
            go_roundg (200 - (k + 1))
            case measure => omega
            case rel => exact ⟨k + 1, rfl, by omega, by go_num, HV2.out, HB2.out⟩
          · skip
            by_cases t2 : kind = 2
            · have tk := t2
              subst tk
              have e0 : (((2 : Int)) == 0) = false := rfl
              have e1 : (((2 : Int)) == 1) = false := rfl
              have HNX : Hid (cat a0 k ++ (form (n16 n)) = cat a0 (k + 1)) := Lib.hid (by rw [cat_next hx]; rfl)
              have hand := and16 n
              have hc := psmall_any w.heap.size p ((n16 n : Nat) : Int) 65535 v (cat a0 k) false W1 HB1.out.size (by have := n16_le n; omega) (by have := n16_le n; omega) HCL.out.1 HV1.out
              rw [show mayB ((n16 n : Nat) : Int) 65535 = true from decide_eq_true (by have := n16_le n; omega), Int.toNat_natCast] at hc
              rw [putB_on, putL_on] at hc
              have HC := Lib.hid hc
              clear hc hx hat hwf
              go_wp2_with fail
              rw [HW1.out]
              refine HC.out.mono ?_
              rintro e W2 ⟨rfl, v2, h2, t2⟩
              have hb2 := t2.below HB1.out HPW.out HV1.out
              have hv2 : ∃ v, PW w.heap.size p v (cat a0 k ++ (form (n16 n))) false W2 := ⟨v2, h2⟩
              clear h2 t2 HC x0 x1 x2 x3 x4 x5 x6
              have HV2 : Hid (∃ v, PW w.heap.size p v (cat a0 (k + 1)) false W2) := Lib.hid (HNX.out ▸ hv2)
              have HB2 : Hid (Below w.heap.size w W2) := Lib.hid hb2
              clear hv2 hb2
              go_wp2_with fail
              go_roundg (200 - (k + 1))
              case measure => omega
              case rel => exact ⟨k + 1, rfl, by omega, by go_num, HV2.out, HB2.out⟩
            · skip
              by_cases t3 : kind = 3
              · have tk := t3
                subst tk
                have e0 : (((3 : Int)) == 0) = false := rfl
                have e1 : (((3 : Int)) == 1) = false := rfl
                have e2 : (((3 : Int)) == 2) = false := rfl
                have HNX : Hid (cat a0 k ++ ([if is = true then 1 else 0]) = cat a0 (k + 1)) := Lib.hid (by rw [cat_next hx]; rfl)
                have hc := pbit_any w.heap.size p is v (cat a0 k) false W1 HB1.out.size HCL.out.1 HV1.out
                rw [putB_on, putL_on] at hc
                have HC := Lib.hid hc
                clear hc hx hat hwf
                go_wp2_with fail
                rw [HW1.out]
                refine HC.out.mono ?_
                rintro e W2 ⟨rfl, v2, h2, t2⟩
                have hb2 := t2.below HB1.out HPW.out HV1.out
                have hv2 : ∃ v, PW w.heap.size p v (cat a0 k ++ ([if is = true then 1 else 0])) false W2 := ⟨v2, h2⟩
                clear h2 t2 HC x0 x1 x2 x3 x4 x5 x6
                have HV2 : Hid (∃ v, PW w.heap.size p v (cat a0 (k + 1)) false W2) := Lib.hid (HNX.out ▸ hv2)
                have HB2 : Hid (Below w.heap.size w W2) := Lib.hid hb2
                clear hv2 hb2
                go_wp2_with fail
                go_roundg (200 - (k + 1))
                case measure => omega
                case rel => exact ⟨k + 1, rfl, by omega, by go_num, HV2.out, HB2.out⟩
              · skip
                by_cases t4 : kind = 4
                · have tk := t4
                  subst tk
                  have e0 : (((4 : Int)) == 0) = false := rfl
                  have e1 : (((4 : Int)) == 1) = false := rfl
                  have e2 : (((4 : Int)) == 2) = false := rfl
                  have e3 : (((4 : Int)) == 3) = false := rfl
                  have HNX : Hid (cat a0 k ++ (form bl.length ++ bl) = cat a0 (k + 1)) := Lib.hid (by rw [cat_next hx]; rfl)
                  have hc := ptext_any w.heap.size p bo bc bl 300 v (cat a0 k) false W1 HB1.out.size HCL.out.2 (by omega) hwf.none' (HXB.out) HAP.out HV1.out
                  rw [show mayB (bl.length : Int) 300 = true from decide_eq_true (by omega)] at hc
                  rw [putB_on, putL_on] at hc
                  have HC := Lib.hid hc
                  clear hc hx hat hwf
                  go_wp2_with fail
                  rw [HW1.out]
                  refine HC.out.mono ?_
                  rintro e W2 ⟨rfl, v2, h2, t2⟩
                  have hb2 := t2.below HB1.out HPW.out HV1.out
                  have hv2 : ∃ v, PW w.heap.size p v (cat a0 k ++ (form bl.length ++ bl)) false W2 := ⟨v2, h2⟩
                  clear h2 t2 HC x0 x1 x2 x3 x4 x5 x6
                  have HV2 : Hid (∃ v, PW w.heap.size p v (cat a0 (k + 1)) false W2) := Lib.hid (HNX.out ▸ hv2)
                  have HB2 : Hid (Below w.heap.size w W2) := Lib.hid hb2
                  clear hv2 hb2
                  go_wp2_with fail
                  go_roundg (200 - (k + 1))
                  case measure => omega
                  case rel => exact ⟨k + 1, rfl, by omega, by go_num, HV2.out, HB2.out⟩
                · skip
                  have e0 : (kind == 0) = false := by simpa using t0
                  have e1 : (kind == 1) = false := by simpa using t1
                  have e2 : (kind == 2) = false := by simpa using t2
                  have e3 : (kind == 3) = false := by simpa using t3
                  have e4 : (kind == 4) = false := by simpa using t4
                  have HNX : Hid (cat a0 k = cat a0 (k + 1)) := Lib.hid (by rw [cat_next hx]; unfold opB; simp only [if_neg t0, if_neg t1, if_neg t2, if_neg t3, if_neg t4, List.append_nil])
                  clear hx hat hwf
                  go_wp2_with fail
                  rw [HW1.out]
                  have hb2 := HB1.out
                  have hv2 : ∃ v, PW w.heap.size p v (cat a0 k) false W1 := ⟨v, HV1.out⟩
                  obtain ⟨W2, hW2⟩ : ∃ W2, W1 = W2 := ⟨_, rfl⟩
                  rw [hW2] at hb2 hv2 ⊢
                  clear hW2
                  have HV2 : Hid (∃ v, PW w.heap.size p v (cat a0 (k + 1)) false W2) := Lib.hid (HNX.out ▸ hv2)
                  have HB2 : Hid (Below w.heap.size w W2) := Lib.hid hb2
                  clear hv2 hb2
                  go_roundg (200 - (k + 1))
                  case measure => omega
                  case rel => exact ⟨k + 1, rfl, by omega, by go_num, HV2.out, HB2.out⟩
      · have hk2 : k = a0.length := by omega
        have k1 : ¬ (k : Int) < (a0.length : Int) := by omega
        have HV2 : Hid (PW w.heap.size p v (a0.flatMap opB) false wr) := Lib.hid (by rw [← cat_all (Nat.le_of_eq hk2.symm)]; exact HV.out)
        obtain ⟨L, hLN⟩ : ∃ L, a0.flatMap opB = L := ⟨_, rfl⟩
        rw [hLN] at HV2
        have HLN := Lib.hid hLN
        have HLL : Hid (L.length ≤ 62200) := Lib.hid (by rw [← hLN, ← cat_all (Nat.le_refl a0.length)]; exact cat_len HOPS.out hl200 _)
        have HP := Lib.hid (pbytes_any w.heap.size p v L false wr (by have := HLL.out; omega) HV2.out)
        clear HV hk hkl hk2 hLN
        go_wp2_with fail
        refine HP.out.mono ?_
        rintro e w4 ⟨⟨v4, rfl, ho⟩, hb4⟩
        simp only [fl, if_true, Bool.false_eq_true, if_false] at ho ⊢
        obtain ⟨o, cap, rfl, hbs, _, _, hn0, _⟩ := ho.open
        have HB4 := Lib.hid (bnext HB.out hb4)
        have HRN := Lib.hid (new_reader o cap L w4 hn0 (by have := HLL.out; omega) hbs)
        clear ho hbs hn0 hb4 HP HV2 HB
        go_wp2_with fail
        refine HRN.out.mono ?_
        rintro e w5 ⟨p2, o2, c2, rfl, hr, hp2, ho2, hb5⟩
        have HR0 : Hid (PR o2 c2 L p2 (cat a0 0).length false w5) := Lib.hid hr
        have HB5 := Lib.hid (bnext HB4.out hb5)
        have HPW2 : Hid (w.heap.size ≤ p2) := Lib.hid (Nat.le_trans HB4.out.size hp2)
        have HBY : Hid (By L) := Lib.hid (by rw [← HLN.out]; exact flat_by HOPS.out)
        have HCE : Hid (∀ k, (cat a0 k).length ≤ L.length) := Lib.hid (fun k => by rw [← HLN.out]; exact cat_le a0 k)
        clear hr hp2 ho2 hb5 HRN HB4
        go_wp2_with fail
        go_loopg [76] 200 (fun g s76 wr => ∃ k : Nat, g = 200 - k ∧ k ≤ a0.length ∧ s76 = .int .i64 (k : Int) ∧ PR o2 c2 L p2 (cat a0 k).length false wr ∧ Below w.heap.size w wr)
        case atStart => exact ⟨0, rfl, by omega, rfl, HR0.out, HB5.out⟩
        case round =>
          clear HR0 HB5
          obtain ⟨k, hgk, hk, rfl, hr, hb⟩ := hrel
          subst hgk
          have HB := Lib.hid hb
          have HR := Lib.hid hr
          clear hr hb
          have k0 : (0 : Int) ≤ (k : Int) := by omega
          have HRD : Hid (RdOk L (cat a0 k).length) := Lib.hid ⟨HBY.out, by have := HLL.out; omega, HCE.out k⟩
          by_cases hkl : k < a0.length
          · have k1 : (k : Int) < (a0.length : Int) := by omega
            obtain ⟨x, hx⟩ : ∃ x, a0[k]? = some x := ⟨_, List.getElem?_eq_getElem hkl⟩
            have hos : OpS x := HOPS.out x (List.mem_of_getElem? hx)
            obtain ⟨b, off, rfl, hat, hwf⟩ := HS.out k x hx
            have hat1 := hat.below HB.out
            obtain ⟨kind, u, i, n, most, is, bo, bl, bc⟩ := x
            have hl300 : bl.length ≤ 300 := hos.len
            obtain ⟨x0, x1, x2, x3, x4, x5, x6, xb⟩ := hat1
            dsimp only at x0 x1 x2 x3 x4 x5 x6 xb
            obtain ⟨W1, hW1⟩ : ∃ W1, wr.alloc (.cells #[.int .i64 kind, .int .u64 u, .int .i64 i, .int .i64 n, .int .i64 most, .bool is, .slice bo bl.length bc] 32) = W1 := ⟨_, rfl⟩
            have hb1 : Below wr.heap.size wr W1 := by rw [← hW1]; exact (Below.refl _ _).alloc (Nat.le_refl _) _
            have HROW : Hid (OpAt W1 wr.heap.size 0 ⟨kind, u, i, n, most, is, bo, bl, bc⟩) := Lib.hid (by
              have h := heap_alloc_new wr (.cells #[.int .i64 kind, .int .u64 u, .int .i64 i, .int .i64 n, .int .i64 most, .bool is, .slice bo bl.length bc] 32)
              rw [hW1] at h
              exact ⟨(cell_of_row _ _ 0 _ _ _ h).trans rfl, (cell_of_row _ _ 1 _ _ _ h).trans rfl, (cell_of_row _ _ 2 _ _ _ h).trans rfl, (cell_of_row _ _ 3 _ _ _ h).trans rfl, (cell_of_row _ _ 4 _ _ _ h).trans rfl, (cell_of_row _ _ 5 _ _ _ h).trans rfl, (cell_of_row _ _ 6 _ _ _ h).trans rfl, xb.below hb1⟩)
            have HB1 := Lib.hid (bnext HB.out hb1)
            have HR1 := Lib.hid (HR.out.below hb1)
            have HXB := Lib.hid (xb.below hb1)
            have HPX : Hid (p2 < wr.heap.size) := Lib.hid HR.out.lt
            have HAP : Hid (∀ bb of, bo = some ⟨bb, of, none⟩ → 0 < bl.length → bb < w.heap.size) := Lib.hid (fun bb of e hm => by
              subst e
              exact Bs.lt hat.bs hm)
            have HW1 := Lib.hid hW1
            have hu0 := hwf.u
            dsimp only at hu0
            clear hb1 xb hos HB HR hW1
            by_cases t0 : kind = 0
            · have tk := t0
              subst tk
              have hnx : cat a0 (k + 1) = cat a0 k ++ (form u.toNat) := by rw [cat_next hx]; rfl
              obtain ⟨rest, hLL⟩ := cat_drop hx
              have hLL : a0.flatMap opB = cat a0 k ++ ((form u.toNat) ++ rest) := hLL
              rw [HLN.out] at hLL
              have hrq := rq_at 18446744073709551615 hLL (show u.toNat < 18446744073709551616 by omega) (by omega)
              have hc := pruint_any o2 c2 L p2 (cat a0 k).length false W1.drew HRD.out (HR1.out.below (bdrew0 _ W1 1))
              rw [hrq] at hc
              unfold PNum at hc
              simp only [upV, upA, upB, Option.isNone_some] at hc
              rw [show ((u.toNat : Nat) : Int) = u by omega] at hc
              rw [← List.length_append, ← hnx] at hc
              have HC := Lib.hid hc
              clear hc hx hat hwf hnx hLL  hrq
              have d0 : W1.drew.cell? ⟨wr.heap.size, 1, none⟩ = some (.int .u64 u) := HROW.out.c1
              go_wp2_with fail
              (try rw [HW1.out])
              clear x0 x1 x2 x3 x4 x5 x6
              rename_i K3 hK3
              refine wp_region_noPanic ?_
              refine (wpIn_wide (n := 5)).1 ?_
              refine heldz_region (S := fun X => X.cell? ⟨wr.heap.size, 1, none⟩ = some (.int .u64 u)) (Z := []) (by kernel_rfl) ?_
              refine heldz_take (fun _ => trivial) [] 0 (?_) (by kernel_rfl) rfl (by kernel_rfl) (fun _ _ _ h => h) d0 (by kernel_rfl) ?_ ?_
              rotate_left
              · intro wz hSw; (first | (go_simp; done) | (go_simp; with_reducible rfl))
              (try simp only [Act.put, List.getElem_toArray, List.getElem_cons_zero, List.getElem_cons_succ, List.setIfInBounds_toArray, List.set_cons_zero, List.set_cons_succ])
              refine heldz_take (fun _ => trivial) [] 2 (?_) (by kernel_rfl) rfl (by kernel_rfl) (fun _ _ _ h => h) d0 (by kernel_rfl) ?_ ?_
              rotate_left
              · intro wz hSw; (first | (go_simp; done) | (go_simp; with_reducible rfl))
              (try simp only [Act.put, List.getElem_toArray, List.getElem_cons_zero, List.getElem_cons_succ, List.setIfInBounds_toArray, List.set_cons_zero, List.set_cons_succ])
              refine heldz_take (fun _ => trivial) [] 3 (.int .u64 u) (by kernel_rfl) rfl (by kernel_rfl) (fun _ _ _ h => h) d0 (by kernel_rfl) ?_ ?_
              · intro wz hSw; (first | (go_simp; done) | (go_simp; with_reducible rfl))
              (try simp only [Act.put, List.getElem_toArray, List.getElem_cons_zero, List.getElem_cons_succ, List.setIfInBounds_toArray, List.set_cons_zero, List.set_cons_succ])
              refine heldz_step (fun _ => trivial) 1 (by kernel_rfl) rfl (fun K hK => ?_)
              go_simp
              refine ⟨trivial, callsIn_wide.2 (HC.out.mono ?_)⟩
              rintro e W2 ⟨rfl, h2, g2⟩
              dsimp only
              have d1 : W2.cell? ⟨wr.heap.size, 1, none⟩ = some (.int .u64 u) := g2.cell d0 (fun h => by have h1 : wr.heap.size = p2 := Option.some.inj h; have := HPX.out; omega)
              refine hK.out _ _ (fun _ => d1) ?_
              clear hK K
              (try simp only [Act.put, List.getElem_toArray, List.getElem_cons_zero, List.getElem_cons_succ, List.setIfInBounds_toArray, List.set_cons_zero, List.set_cons_succ])
              refine heldz_take (fun _ => trivial) [] 4 (.bool true) (by kernel_rfl) rfl (by kernel_rfl) (fun _ _ _ h => h) d1 (by kernel_rfl) ?_ ?_
              · intro wz hSw; (first | (go_simp; done) | (go_simp; with_reducible rfl))
              (try simp only [Act.put, List.getElem_toArray, List.getElem_cons_zero, List.getElem_cons_succ, List.setIfInBounds_toArray, List.set_cons_zero, List.set_cons_succ])
              refine heldz_take (fun _ => trivial) [] 5 (?_) (by kernel_rfl) rfl (by kernel_rfl) (fun _ _ _ h => h) d1 (by kernel_rfl) ?_ ?_
              rotate_left
              · intro wz hSw; (first | (go_simp; done) | (go_simp; with_reducible rfl))
              (try simp only [Act.put, List.getElem_toArray, List.getElem_cons_zero, List.getElem_cons_succ, List.setIfInBounds_toArray, List.set_cons_zero, List.set_cons_succ])
              refine heldz_done (by kernel_rfl) ?_ _
              refine NoPanic.normal ?_
              refine hK3 _ _ ?_
              have HR2 := Lib.hid h2
              have HB2 : Hid (Below w.heap.size w W2) := Lib.hid ((bdrewN 1 HB1.out).grown g2 HB1.out.size (fun q hq => by cases hq; exact HPW2.out))
              clear h2 g2 d0 d1 hK3 HC
              go_wp2_with fail
              go_roundg (200 - (k + 1))
              case measure => omega
              case rel => exact ⟨k + 1, rfl, by omega, by go_num, HR2.out, HB2.out⟩
            · skip
              by_cases t1 : kind = 1
              · have tk := t1
                subst tk
                have e0 : (((1 : Int)) == 0) = false := rfl
                have hnx : cat a0 (k + 1) = cat a0 k ++ (form (fold i)) := by rw [cat_next hx]; rfl
                obtain ⟨rest, hLL⟩ := cat_drop hx
                have hLL : a0.flatMap opB = cat a0 k ++ ((form (fold i)) ++ rest) := hLL
                rw [HLN.out] at hLL
                have hfl := fold_lt hwf.i.1 hwf.i.2
                have huf := unf_fold hwf.i.1 hwf.i.2
                dsimp only at hfl huf
                have hrq := rq_at 18446744073709551615 hLL hfl (by omega)
                have hc := print_any o2 c2 L p2 (cat a0 k).length false W1.drew HRD.out (HR1.out.below (bdrew0 _ W1 1))
                rw [hrq] at hc
                unfold PNum at hc
                simp only [upV, upA, upB, Option.isNone_some] at hc
                rw [huf] at hc
                rw [← List.length_append, ← hnx] at hc
                have HC := Lib.hid hc
                clear hc hx hat hwf hnx hLL hrq hfl huf
                have d0 : W1.drew.cell? ⟨wr.heap.size, 2, none⟩ = some (.int .i64 i) := HROW.out.c2
                go_wp2_with fail
                (try rw [HW1.out])
                clear x0 x1 x2 x3 x4 x5 x6
                rename_i K3 hK3
                refine wp_region_noPanic ?_
                refine (wpIn_wide (n := 5)).1 ?_
                refine heldz_region (S := fun X => X.cell? ⟨wr.heap.size, 2, none⟩ = some (.int .i64 i)) (Z := []) (by kernel_rfl) ?_
                refine heldz_take (fun _ => trivial) [] 0 (?_) (by kernel_rfl) rfl (by kernel_rfl) (fun _ _ _ h => h) d0 (by kernel_rfl) ?_ ?_
                rotate_left
                · intro wz hSw; (first | (go_simp; done) | (go_simp; with_reducible rfl))
                (try simp only [Act.put, List.getElem_toArray, List.getElem_cons_zero, List.getElem_cons_succ, List.setIfInBounds_toArray, List.set_cons_zero, List.set_cons_succ])
                refine heldz_take (fun _ => trivial) [] 2 (?_) (by kernel_rfl) rfl (by kernel_rfl) (fun _ _ _ h => h) d0 (by kernel_rfl) ?_ ?_
                rotate_left
                · intro wz hSw; (first | (go_simp; done) | (go_simp; with_reducible rfl))
                (try simp only [Act.put, List.getElem_toArray, List.getElem_cons_zero, List.getElem_cons_succ, List.setIfInBounds_toArray, List.set_cons_zero, List.set_cons_succ])
                refine heldz_take (fun _ => trivial) [] 3 (.int .i64 i) (by kernel_rfl) rfl (by kernel_rfl) (fun _ _ _ h => h) d0 (by kernel_rfl) ?_ ?_
                · intro wz hSw; (first | (go_simp; done) | (go_simp; with_reducible rfl))
                (try simp only [Act.put, List.getElem_toArray, List.getElem_cons_zero, List.getElem_cons_succ, List.setIfInBounds_toArray, List.set_cons_zero, List.set_cons_succ])
                refine heldz_step (fun _ => trivial) 1 (by kernel_rfl) rfl (fun K hK => ?_)
                go_simp
                refine ⟨trivial, callsIn_wide.2 (HC.out.mono ?_)⟩
                rintro e W2 ⟨rfl, h2, g2⟩
                dsimp only
                have d1 : W2.cell? ⟨wr.heap.size, 2, none⟩ = some (.int .i64 i) := g2.cell d0 (fun h => by have h1 : wr.heap.size = p2 := Option.some.inj h; have := HPX.out; omega)
                refine hK.out _ _ (fun _ => d1) ?_
                clear hK K
                (try simp only [Act.put, List.getElem_toArray, List.getElem_cons_zero, List.getElem_cons_succ, List.setIfInBounds_toArray, List.set_cons_zero, List.set_cons_succ])
                refine heldz_take (fun _ => trivial) [] 4 (.bool true) (by kernel_rfl) rfl (by kernel_rfl) (fun _ _ _ h => h) d1 (by kernel_rfl) ?_ ?_
                · intro wz hSw; (first | (go_simp; done) | (go_simp; with_reducible rfl))
                (try simp only [Act.put, List.getElem_toArray, List.getElem_cons_zero, List.getElem_cons_succ, List.setIfInBounds_toArray, List.set_cons_zero, List.set_cons_succ])
                refine heldz_take (fun _ => trivial) [] 5 (?_) (by kernel_rfl) rfl (by kernel_rfl) (fun _ _ _ h => h) d1 (by kernel_rfl) ?_ ?_
                rotate_left
                · intro wz hSw; (first | (go_simp; done) | (go_simp; with_reducible rfl))
                (try simp only [Act.put, List.getElem_toArray, List.getElem_cons_zero, List.getElem_cons_succ, List.setIfInBounds_toArray, List.set_cons_zero, List.set_cons_succ])
                refine heldz_done (by kernel_rfl) ?_ _
                refine NoPanic.normal ?_
                refine hK3 _ _ ?_
                have HR2 := Lib.hid h2
                have HB2 : Hid (Below w.heap.size w W2) := Lib.hid ((bdrewN 1 HB1.out).grown g2 HB1.out.size (fun q hq => by cases hq; exact HPW2.out))
                clear h2 g2 d0 d1 hK3 HC
                go_wp2_with fail
                go_roundg (200 - (k + 1))
                case measure => omega
                case rel => exact ⟨k + 1, rfl, by omega, by go_num, HR2.out, HB2.out⟩
              · skip
                by_cases t2 : kind = 2
                · have tk := t2
                  subst tk
                  have e0 : (((2 : Int)) == 0) = false := rfl
                  have e1 : (((2 : Int)) == 1) = false := rfl
                  have hnx : cat a0 (k + 1) = cat a0 k ++ (form (n16 n)) := by rw [cat_next hx]; rfl
                  obtain ⟨rest, hLL⟩ := cat_drop hx
                  have hLL : a0.flatMap opB = cat a0 k ++ ((form (n16 n)) ++ rest) := hLL
                  rw [HLN.out] at hLL
                  have hand := and16 n
                  have h16 := n16_le n
                  have hrz := rz_at 65535 hLL (show n16 n < 18446744073709551616 by omega) (by omega)
                  have hc := prsmall_any o2 c2 L p2 (cat a0 k).length 65535 false W1.drew HRD.out (by omega) (HR1.out.below (bdrew0 _ W1 1))
                  rw [hrz] at hc
                  unfold PNum at hc
                  simp only [upV, upA, upB, Option.isNone_some] at hc
                  rw [← List.length_append, ← hnx] at hc
                  have HC := Lib.hid hc
                  clear hc hx hat hwf hnx hLL hrz h16
                  have d0 : W1.drew.cell? ⟨wr.heap.size, 3, none⟩ = some (.int .i64 n) := HROW.out.c3
                  go_wp2_with fail
                  (try rw [HW1.out])
                  clear x0 x1 x2 x3 x4 x5 x6
                  rename_i K3 hK3
                  refine wp_region_noPanic ?_
                  refine (wpIn_wide (n := 5)).1 ?_
                  refine heldz_region (S := fun X => X.cell? ⟨wr.heap.size, 3, none⟩ = some (.int .i64 n)) (Z := []) (by kernel_rfl) ?_
                  refine heldz_take (fun _ => trivial) [] 0 (?_) (by kernel_rfl) rfl (by kernel_rfl) (fun _ _ _ h => h) d0 (by kernel_rfl) ?_ ?_
                  rotate_left
                  · intro wz hSw; (first | (go_simp; done) | (go_simp; with_reducible rfl))
                  (try simp only [Act.put, List.getElem_toArray, List.getElem_cons_zero, List.getElem_cons_succ, List.setIfInBounds_toArray, List.set_cons_zero, List.set_cons_succ])
                  refine heldz_take (fun _ => trivial) [] 2 (?_) (by kernel_rfl) rfl (by kernel_rfl) (fun _ _ _ h => h) d0 (by kernel_rfl) ?_ ?_
                  rotate_left
                  · intro wz hSw; (first | (go_simp; done) | (go_simp; with_reducible rfl))
                  (try simp only [Act.put, List.getElem_toArray, List.getElem_cons_zero, List.getElem_cons_succ, List.setIfInBounds_toArray, List.set_cons_zero, List.set_cons_succ])
                  refine heldz_take (fun _ => trivial) [] 3 (.int .i64 n) (by kernel_rfl) rfl (by kernel_rfl) (fun _ _ _ h => h) d0 (by kernel_rfl) ?_ ?_
                  · intro wz hSw; (first | (go_simp; done) | (go_simp; with_reducible rfl))
                  (try simp only [Act.put, List.getElem_toArray, List.getElem_cons_zero, List.getElem_cons_succ, List.setIfInBounds_toArray, List.set_cons_zero, List.set_cons_succ])
                  refine heldz_take (fun _ => trivial) [] 4 (.int .i64 ((n16 n : Nat) : Int)) (by kernel_rfl) rfl (by kernel_rfl) (fun _ _ _ h => h) d0 (by kernel_rfl) ?_ ?_
                  · intro wz hSw; (first | (go_simp; done) | (go_simp; with_reducible rfl))
                  (try simp only [Act.put, List.getElem_toArray, List.getElem_cons_zero, List.getElem_cons_succ, List.setIfInBounds_toArray, List.set_cons_zero, List.set_cons_succ])
                  refine heldz_step (fun _ => trivial) 1 (by kernel_rfl) rfl (fun K hK => ?_)
                  go_simp
                  refine ⟨trivial, callsIn_wide.2 (HC.out.mono ?_)⟩
                  rintro e W2 ⟨rfl, h2, g2⟩
                  dsimp only
                  have d1 : W2.cell? ⟨wr.heap.size, 3, none⟩ = some (.int .i64 n) := g2.cell d0 (fun h => by have h1 : wr.heap.size = p2 := Option.some.inj h; have := HPX.out; omega)
                  refine hK.out _ _ (fun _ => d1) ?_
                  clear hK K
                  (try simp only [Act.put, List.getElem_toArray, List.getElem_cons_zero, List.getElem_cons_succ, List.setIfInBounds_toArray, List.set_cons_zero, List.set_cons_succ])
                  refine heldz_take (fun _ => trivial) [] 5 (.bool true) (by kernel_rfl) rfl (by kernel_rfl) (fun _ _ _ h => h) d1 (by kernel_rfl) ?_ ?_
                  · intro wz hSw; (first | (go_simp; done) | (go_simp; with_reducible rfl))
                  (try simp only [Act.put, List.getElem_toArray, List.getElem_cons_zero, List.getElem_cons_succ, List.setIfInBounds_toArray, List.set_cons_zero, List.set_cons_succ])
                  refine heldz_take (fun _ => trivial) [] 6 (?_) (by kernel_rfl) rfl (by kernel_rfl) (fun _ _ _ h => h) d1 (by kernel_rfl) ?_ ?_
                  rotate_left
                  · intro wz hSw; (first | (go_simp; done) | (go_simp; with_reducible rfl))
                  (try simp only [Act.put, List.getElem_toArray, List.getElem_cons_zero, List.getElem_cons_succ, List.setIfInBounds_toArray, List.set_cons_zero, List.set_cons_succ])
                  refine heldz_done (by kernel_rfl) ?_ _
                  refine NoPanic.normal ?_
                  refine hK3 _ _ ?_
                  have HR2 := Lib.hid h2
                  have HB2 : Hid (Below w.heap.size w W2) := Lib.hid ((bdrewN 1 HB1.out).grown g2 HB1.out.size (fun q hq => by cases hq; exact HPW2.out))
                  clear h2 g2 d0 d1 hK3 HC
                  go_wp2_with fail
                  go_roundg (200 - (k + 1))
                  case measure => omega
                  case rel => exact ⟨k + 1, rfl, by omega, by go_num, HR2.out, HB2.out⟩
                · skip
                  by_cases t3 : kind = 3
                  · have tk := t3
                    subst tk
                    have e0 : (((3 : Int)) == 0) = false := rfl
                    have e1 : (((3 : Int)) == 1) = false := rfl
                    have e2 : (((3 : Int)) == 2) = false := rfl
                    have hnx : cat a0 (k + 1) = cat a0 k ++ ([if is = true then 1 else 0]) := by rw [cat_next hx]; rfl
                    obtain ⟨rest, hLL⟩ := cat_drop hx
                    have hLL : a0.flatMap opB = cat a0 k ++ (([if is = true then 1 else 0]) ++ rest) := hLL
                    rw [HLN.out] at hLL
                    have hfm : [if is = true then 1 else 0] = form (if is = true then 1 else 0) := (form_small (by split <;> omega)).symm
                    rw [hfm] at hLL
                    have hrq := rq_at 1 hLL (by split <;> omega) (by split <;> omega)
                    have hc := prbit_any o2 c2 L p2 (cat a0 k).length false W1.drew HRD.out (HR1.out.below (bdrew0 _ W1 1))
                    rw [hrq, ← hfm] at hc
                    unfold PNum at hc
                    simp only [upV, upA, upB, Option.isNone_some] at hc
                    rw [show ((if is = true then 1 else 0) == 1) = is by cases is <;> rfl] at hc
                    rw [← List.length_append, ← hnx] at hc
                    have HC := Lib.hid hc
                    clear hc hx hat hwf hnx hLL hrq hfm
                    have d0 : W1.drew.cell? ⟨wr.heap.size, 5, none⟩ = some (.bool is) := HROW.out.c5
                    go_wp2_with fail
                    (try rw [HW1.out])
                    clear x0 x1 x2 x3 x4 x5 x6
                    rename_i K3 hK3
                    refine wp_region_noPanic ?_
                    refine (wpIn_wide (n := 5)).1 ?_
                    refine heldz_region (S := fun X => X.cell? ⟨wr.heap.size, 5, none⟩ = some (.bool is)) (Z := []) (by kernel_rfl) ?_
                    refine heldz_take (fun _ => trivial) [] 0 (?_) (by kernel_rfl) rfl (by kernel_rfl) (fun _ _ _ h => h) d0 (by kernel_rfl) ?_ ?_
                    rotate_left
                    · intro wz hSw; (first | (go_simp; done) | (go_simp; with_reducible rfl))
                    (try simp only [Act.put, List.getElem_toArray, List.getElem_cons_zero, List.getElem_cons_succ, List.setIfInBounds_toArray, List.set_cons_zero, List.set_cons_succ])
                    refine heldz_take (fun _ => trivial) [] 2 (?_) (by kernel_rfl) rfl (by kernel_rfl) (fun _ _ _ h => h) d0 (by kernel_rfl) ?_ ?_
                    rotate_left
                    · intro wz hSw; (first | (go_simp; done) | (go_simp; with_reducible rfl))
                    (try simp only [Act.put, List.getElem_toArray, List.getElem_cons_zero, List.getElem_cons_succ, List.setIfInBounds_toArray, List.set_cons_zero, List.set_cons_succ])
                    refine heldz_take (fun _ => trivial) [] 3 (.bool is) (by kernel_rfl) rfl (by kernel_rfl) (fun _ _ _ h => h) d0 (by kernel_rfl) ?_ ?_
                    · intro wz hSw; (first | (go_simp; done) | (go_simp; with_reducible rfl))
                    (try simp only [Act.put, List.getElem_toArray, List.getElem_cons_zero, List.getElem_cons_succ, List.setIfInBounds_toArray, List.set_cons_zero, List.set_cons_succ])
                    refine heldz_step (fun _ => trivial) 1 (by kernel_rfl) rfl (fun K hK => ?_)
                    go_simp
                    refine ⟨trivial, callsIn_wide.2 (HC.out.mono ?_)⟩
                    rintro e W2 ⟨rfl, h2, g2⟩
                    dsimp only
                    have d1 : W2.cell? ⟨wr.heap.size, 5, none⟩ = some (.bool is) := g2.cell d0 (fun h => by have h1 : wr.heap.size = p2 := Option.some.inj h; have := HPX.out; omega)
                    refine hK.out _ _ (fun _ => d1) ?_
                    clear hK K
                    (try simp only [Act.put, List.getElem_toArray, List.getElem_cons_zero, List.getElem_cons_succ, List.setIfInBounds_toArray, List.set_cons_zero, List.set_cons_succ])
                    refine heldz_take (fun _ => trivial) [] 4 (.bool true) (by kernel_rfl) rfl (by kernel_rfl) (fun _ _ _ h => h) d1 (by kernel_rfl) ?_ ?_
                    · intro wz hSw; (first | (go_simp; done) | (go_simp; with_reducible rfl))
                    (try simp only [Act.put, List.getElem_toArray, List.getElem_cons_zero, List.getElem_cons_succ, List.setIfInBounds_toArray, List.set_cons_zero, List.set_cons_succ])
                    refine heldz_take (fun _ => trivial) [] 5 (?_) (by kernel_rfl) rfl (by kernel_rfl) (fun _ _ _ h => h) d1 (by kernel_rfl) ?_ ?_
                    rotate_left
                    · intro wz hSw; (first | (go_simp; done) | (go_simp; with_reducible rfl))
                    (try simp only [Act.put, List.getElem_toArray, List.getElem_cons_zero, List.getElem_cons_succ, List.setIfInBounds_toArray, List.set_cons_zero, List.set_cons_succ])
                    refine heldz_done (by kernel_rfl) ?_ _
                    refine NoPanic.normal ?_
                    refine hK3 _ _ ?_
                    have HR2 := Lib.hid h2
                    have HB2 : Hid (Below w.heap.size w W2) := Lib.hid ((bdrewN 1 HB1.out).grown g2 HB1.out.size (fun q hq => by cases hq; exact HPW2.out))
                    clear h2 g2 d0 d1 hK3 HC
                    go_wp2_with fail
                    go_roundg (200 - (k + 1))
                    case measure => omega
                    case rel => exact ⟨k + 1, rfl, by omega, by go_num, HR2.out, HB2.out⟩
                  · skip
                    by_cases t4 : kind = 4
                    · have tk := t4
                      subst tk
                      have e0 : (((4 : Int)) == 0) = false := rfl
                      have e1 : (((4 : Int)) == 1) = false := rfl
                      have e2 : (((4 : Int)) == 2) = false := rfl
                      have e3 : (((4 : Int)) == 3) = false := rfl
                      have hnx : cat a0 (k + 1) = cat a0 k ++ (form bl.length ++ bl) := by rw [cat_next hx]; rfl
                      obtain ⟨rest, hLL⟩ := cat_drop hx
                      have hLL : a0.flatMap opB = cat a0 k ++ ((form bl.length ++ bl) ++ rest) := hLL
                      rw [HLN.out] at hLL
                      have hrt := tx_at 300 hLL (by omega) (by omega)
                      have hc := prtext_any o2 c2 L p2 (cat a0 k).length 300 false W1.drew HRD.out (by omega) (HR1.out.below (bdrew0 _ W1 1))
                      rw [hrt] at hc
                      unfold PTxt at hc
                      simp only [txA, Option.isNone_some, Option.map_some, Option.getD_some] at hc
                      rw [← List.length_append, ← hnx] at hc
                      have HC := Lib.hid hc
                      clear hc hx hat hwf hnx hLL hrt
                      have d0 : W1.drew.cell? ⟨wr.heap.size, 6, none⟩ = some (.slice bo bl.length bc) := HROW.out.c6
                      go_wp2_with fail
                      (try rw [HW1.out])
                      clear x0 x1 x2 x3 x4 x5 x6
                      rename_i K3 hK3
                      refine wp_region_noPanic ?_
                      refine (wpIn_wide (n := 5)).1 ?_
                      have HXD := Lib.hid (HXB.out.below (bdrew0 _ W1 1))
                      refine heldz_region (S := fun X => X.cell? ⟨wr.heap.size, 6, none⟩ = some (.slice bo bl.length bc) ∧ Bs X bo bl) (Z := []) (by kernel_rfl) ?_
                      refine heldz_take (fun _ => trivial) [] 0 (?_) (by kernel_rfl) rfl (by kernel_rfl) (fun _ _ _ h => h) ⟨d0, HXD.out⟩ (by kernel_rfl) ?_ ?_
                      rotate_left
                      · intro wz hSw; (first | (go_simp; done) | (go_simp; with_reducible rfl))
                      (try simp only [Act.put, List.getElem_toArray, List.getElem_cons_zero, List.getElem_cons_succ, List.setIfInBounds_toArray, List.set_cons_zero, List.set_cons_succ])
                      refine heldz_take (fun _ => trivial) [] 3 (?_) (by kernel_rfl) rfl (by kernel_rfl) (fun _ _ _ h => h) ⟨d0, HXD.out⟩ (by kernel_rfl) ?_ ?_
                      rotate_left
                      · intro wz hSw; (first | (go_simp; done) | (go_simp; with_reducible rfl))
                      (try simp only [Act.put, List.getElem_toArray, List.getElem_cons_zero, List.getElem_cons_succ, List.setIfInBounds_toArray, List.set_cons_zero, List.set_cons_succ])
                      refine heldz_take (fun _ => trivial) [] 4 (.slice bo bl.length bc) (by kernel_rfl) rfl (by kernel_rfl) (fun _ _ _ h => h) ⟨d0, HXD.out⟩ (by kernel_rfl) ?_ ?_
                      · intro wz hSw; obtain ⟨hS0, hS1⟩ := hSw; (first | (go_simp; done) | (go_simp; with_reducible rfl))
                      (try simp only [Act.put, List.getElem_toArray, List.getElem_cons_zero, List.getElem_cons_succ, List.setIfInBounds_toArray, List.set_cons_zero, List.set_cons_succ])
                      refine heldz_take (fun _ => trivial) [] 5 (.string (bstr bl)) (by kernel_rfl) rfl (by kernel_rfl) (fun _ _ _ h => h) ⟨d0, HXD.out⟩ (by kernel_rfl) ?_ ?_
                      · intro wz hSw; obtain ⟨hS0, hS1⟩ := hSw; have hcv := conv_bs bc rfl hS1; (first | (go_simp; done) | (go_simp; rw [hcv]; done) | (go_simp; rw [hcv]; rfl) | (go_simp; with_reducible rfl))
                      (try simp only [Act.put, List.getElem_toArray, List.getElem_cons_zero, List.getElem_cons_succ, List.setIfInBounds_toArray, List.set_cons_zero, List.set_cons_succ])
                      refine heldz_step (fun _ => trivial) 1 (by kernel_rfl) rfl (fun K hK => ?_)
                      go_simp
                      refine ⟨trivial, callsIn_wide.2 (HC.out.mono ?_)⟩
                      rintro e W2 ⟨⟨v2, rfl, ho2⟩, h2, g2⟩
                      dsimp only
                      have d1 : W2.cell? ⟨wr.heap.size, 6, none⟩ = some (.slice bo bl.length bc) := g2.cell d0 (fun h => by have h1 : wr.heap.size = p2 := Option.some.inj h; have := HPX.out; omega)
                      have d2 : Bs W2 bo bl := HXD.out.grown g2 (fun bb of e hm h => by have := Option.some.inj h; have := HAP.out bb of e hm; have := HPW2.out; omega)
                      obtain ⟨o3, cap3, rfl, hbs3, _, _, _, _⟩ := ho2.open
                      have hcv := conv_bs cap3 rfl hbs3
                      refine hK.out _ _ (fun _ => ⟨d1, d2⟩) ?_
                      clear hK K
                      (try simp only [Act.put, List.getElem_toArray, List.getElem_cons_zero, List.getElem_cons_succ, List.setIfInBounds_toArray, List.set_cons_zero, List.set_cons_succ])
                      refine heldz_step (fun _ => trivial) 2 (by kernel_rfl) rfl (fun K hK => ?_)
                      go_simp
                      refine hK.out _ _ (fun _ => ⟨d1, d2⟩) ?_
                      clear hK K
                      (try simp only [Act.put, List.getElem_toArray, List.getElem_cons_zero, List.getElem_cons_succ, List.setIfInBounds_toArray, List.set_cons_zero, List.set_cons_succ])
                      refine heldz_take (fun _ => trivial) [] 6 (.bool true) (by kernel_rfl) rfl (by kernel_rfl) (fun _ _ _ h => h) ⟨d1, d2⟩ (by kernel_rfl) ?_ ?_
                      · intro wz hSw; (first | (go_simp; done) | (go_simp; with_reducible rfl))
                      (try simp only [Act.put, List.getElem_toArray, List.getElem_cons_zero, List.getElem_cons_succ, List.setIfInBounds_toArray, List.set_cons_zero, List.set_cons_succ])
                      refine heldz_take (fun _ => trivial) [] 7 (?_) (by kernel_rfl) rfl (by kernel_rfl) (fun _ _ _ h => h) ⟨d1, d2⟩ (by kernel_rfl) ?_ ?_
                      rotate_left
                      · intro wz hSw; (first | (go_simp; done) | (go_simp; with_reducible rfl))
                      (try simp only [Act.put, List.getElem_toArray, List.getElem_cons_zero, List.getElem_cons_succ, List.setIfInBounds_toArray, List.set_cons_zero, List.set_cons_succ])
                      refine heldz_done (by kernel_rfl) ?_ _
                      refine NoPanic.normal ?_
                      refine hK3 _ _ ?_
                      have HR2 := Lib.hid h2
                      have HB2 : Hid (Below w.heap.size w W2) := Lib.hid ((bdrewN 1 HB1.out).grown g2 HB1.out.size (fun q hq => by cases hq; exact HPW2.out))
                      clear h2 g2 d0 d1 hK3 HC
                      clear ho2 hbs3 hcv d2
                      go_wp2_with fail
                      go_roundg (200 - (k + 1))
                      case measure => omega
                      case rel => exact ⟨k + 1, rfl, by omega, by go_num, HR2.out, HB2.out⟩
                    · skip
                      have e0 : (kind == 0) = false := by simpa using t0
                      have e1 : (kind == 1) = false := by simpa using t1
                      have e2 : (kind == 2) = false := by simpa using t2
                      have e3 : (kind == 3) = false := by simpa using t3
                      have e4 : (kind == 4) = false := by simpa using t4
                      have HNX : Hid (cat a0 k = cat a0 (k + 1)) := Lib.hid (by rw [cat_next hx]; unfold opB; simp only [if_neg t0, if_neg t1, if_neg t2, if_neg t3, if_neg t4, List.append_nil])
                      have HR2 : Hid (PR o2 c2 L p2 (cat a0 (k + 1)).length false W1) := Lib.hid (HNX.out ▸ HR1.out)
                      clear hx hat hwf HROW
                      go_wp2_with fail
                      (try rw [HW1.out])
                      go_roundg (200 - (k + 1))
                      case measure => omega
                      case rel => exact ⟨k + 1, rfl, by omega, by go_num, HR2.out, HB1.out⟩
          · have hk2 : k = a0.length := by omega
            have k1 : ¬ (k : Int) < (a0.length : Int) := by omega
            have hce : (cat a0 k).length = L.length := by rw [cat_all (Nat.le_of_eq hk2.symm), HLN.out]
            have hr1 := HR.out
            have hrd := HRD.out
            rw [hce] at hr1 hrd
            have HL2 := Lib.hid (pleft_any o2 c2 L p2 L.length false wr hrd hr1)
            have HRX := Lib.hid hr1
            have HRD2 := Lib.hid hrd
            clear HR HRD hr1 hrd hce
            go_wp2_with fail
            refine HL2.out.mono ?_
            rintro e w6 ⟨rfl, hb6⟩
            rw [show lfV false L L.length = 0 from by unfold lfV; simp]
            have HEN := Lib.hid (pend_any o2 c2 L p2 L.length false w6 HRD2.out (HRX.out.below hb6))
            have HB6 := Lib.hid (bnext HB.out hb6)
            clear hb6 HL2 HB
            go_wp2_with fail
            refine HEN.out.mono ?_
            rintro e w7 ⟨rfl, hb7⟩
            rw [show endV false L.length L.length = 0 from by unfold endV; simp]
            have HB7 := Lib.hid (bnext HB6.out hb7)
            clear hb7 HEN HB6
            go_wp2_with fail
            go_ret
            exact ⟨rfl, HB7.out⟩
end Go.Proofs.Ytpbidfmijliehaa.Fx
