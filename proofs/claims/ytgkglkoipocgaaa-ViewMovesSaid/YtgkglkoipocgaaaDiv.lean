/- math/bits.Div64, walked. -/
import Derived.Test.YtgkglkoipocgaaaProg
import Derived.Test.YtgkglkoipocgaaaMath
import Derived.Shelf.Small.Bits
import Derived.Shelf.Bits.Mul64
import Derived.Lib.Hide
import Derived.WalkKit
import Derived.Outline
import Derived.Deep.QuietTactic
import Derived.BigQuiet
import Derived.Deep.DeepCutAuto
import Derived.Deep.CutBlock
import Derived.Deep.LoopGhost
set_option linter.unusedVariables false
namespace Go.Proofs.Ytgkglkoipocgaaa.Fx
open Go.RowKit
set_option maxRecDepth 100000
/-- a word's halves -/
def Halves (Y Y1 Y0 : Nat) : Prop := Y / 4294967296 = Y1 ∧ Y % 4294967296 = Y0
def mu (m : Nat) : Nat := 4294967296 - m
theorem mu_lt {m a : Nat} (h : 0 < a) (h2 : m < 4294967296) : mu (m + a) < mu m := by unfold mu; omega
def KnRel (U V1 Y Y1 n m : Nat) : Prop := U = n * Y1 + m ∧ Fm.Q U V1 Y ≤ n ∧ n ≤ 4294967297 ∧ m < 4294967296
theorem knuth_down {U V1 Y Y1 Y0 n m z : Nat} (hy : 9223372036854775808 ≤ Y) (hU : U < Y) (h1 : V1 < 4294967296) (HY : Halves Y Y1 Y0)
    (Hu : Hid (U = n * Y1 + m)) (hz : n * Y0 = z) (hn : n ≤ 4294967297) (ht : 4294967296 ≤ n ∨ 4294967296 * m + V1 < z) :
    ∃ k, n = k + 1 ∧ Fm.Q U V1 Y ≤ k ∧ Hid (U = k * Y1 + (m + Y1)) ∧ (4294967296 ≤ m + Y1 → Hid (k = Fm.Q U V1 Y)) := by
  obtain ⟨h2, h3⟩ := HY
  have hu := Hu.out
  subst hz h2 h3
  obtain ⟨a, b⟩ := Fm.q_over (by omega) hU h1 hu ht
  have c := Fm.q_down b hu
  refine ⟨n - 1, by omega, a, Lib.hid c, fun hr => Lib.hid (Fm.q_stop (by omega) c (by omega) hr a)⟩
theorem knuth_exit {U V1 Y Y1 Y0 n m z : Nat} (hy : 9223372036854775808 ≤ Y) (HY : Halves Y Y1 Y0)
    (Hu : Hid (U = n * Y1 + m)) (hz : n * Y0 = z) (hQ : Fm.Q U V1 Y ≤ n) (ht : z ≤ 4294967296 * m + V1) : Hid (n = Fm.Q U V1 Y) := by
  obtain ⟨h2, h3⟩ := HY
  have hu := Hu.out
  subst hz h2 h3
  exact Lib.hid (Fm.q_done (by omega) hu ht hQ)
theorem rest_wrap {u v y : Nat} (hy : y < 18446744073709551616) (h0 : 0 < y) :
    IntKind.u64.wrap (IntKind.u64.wrap (IntKind.u64.wrap ((u : Int) * 4294967296) + (v : Int)) - IntKind.u64.wrap ((Fm.Q u v y : Nat) * (y : Int))) = (Fm.R u v y : Int) := by
  rw [IntKind.wrap_u64, IntKind.wrap_u64, IntKind.wrap_u64, IntKind.wrap_u64, Int.emod_add_emod]
  have h := Fm.rest_wrap0 (Fm.Q u v y) y (u * 4294967296 + v) (Fm.R u v y) (Fm.QR u v y) (Nat.lt_trans (Fm.R_lt h0) hy)
  rw [Int.natCast_add, Int.natCast_mul, Int.natCast_mul] at h
  exact h
/-- what the division comes to, over the scaled numbers -/
def DivFin (hi lo y s Y U V : Nat) : Prop := (Fm.Q U (V / 4294967296) Y) * 4294967296 + Fm.Q (Fm.R U (V / 4294967296) Y) (V % 4294967296) Y = (hi * 18446744073709551616 + lo) / y ∧
  Fm.R (Fm.R U (V / 4294967296) Y) (V % 4294967296) Y = ((hi * 18446744073709551616 + lo) % y) * 2 ^ s
theorem div_end {hi lo y s Y U V V1 V0 Q1 R1 Q2 R2 : Nat} (hf : DivFin hi lo y s Y U V) (hv : Halves V V1 V0) (h1 : Hid (Fm.Q U V1 Y = Q1)) (h2 : Hid (Fm.R U V1 Y = R1)) (h3 : Hid (Fm.Q R1 V0 Y = Q2)) (h4 : Hid (Fm.R R1 V0 Y = R2)) :
    Ending.returned (.tuple #[.int .u64 ((Q1 : Int) * 4294967296 + (Q2 : Int)), .int .u64 ((R2 : Int) / 2 ^ s)]) = .returned (.tuple #[.int .u64 (((hi * 18446744073709551616 + lo) / y : Nat) : Int), .int .u64 (((hi * 18446744073709551616 + lo) % y : Nat) : Int)]) := by
  obtain ⟨a, b⟩ := hf
  obtain ⟨c, d⟩ := hv
  rw [c, d, h2.out, h1.out, h3.out] at a
  rw [c, d, h2.out, h4.out] at b
  have e : R2 / 2 ^ s = (hi * 18446744073709551616 + lo) % y := by rw [b]; exact Nat.mul_div_cancel _ (Nat.two_pow_pos s)
  rw [show ((R2 : Int) / 2 ^ s) = ((R2 / 2 ^ s : Nat) : Int) from by simp, e, ← a]
  simp
def LzIs (y s : Nat) : Prop := ∀ w, Calls Try.prog 82 #[.int .u64 (y : Int)] w fun e w' => e = .returned (.int .i64 (s : Int)) ∧ w = w'
set_option maxHeartbeats 1600000 in
theorem div_walk (hi lo y s Y U V : Nat) (w : World) (H : LzIs y s) (hs : s ≤ 63) (hy : y < 18446744073709551616) (hlo : lo < 18446744073709551616) (hh : hi < y) (h0 : 0 < hi)
    (e1 : IntKind.u64.wrap ((y : Int) * 2 ^ s) = (Y : Int)) (hY1 : 9223372036854775808 ≤ Y) (hY2 : Y < 18446744073709551616)
    (e2 : bits .or .u64 (IntKind.u64.wrap ((hi : Int) * 2 ^ s)) ((lo : Int) / 2 ^ (64 - s)) = (U : Int)) (hU : U < Y)
    (e3 : IntKind.u64.wrap ((lo : Int) * 2 ^ s) = (V : Int)) (hV : V < 18446744073709551616) (hf : DivFin hi lo y s Y U V) :
    Calls Try.prog 78 #[.int .u64 hi, .int .u64 lo, .int .u64 y] w fun e w' => e = .returned (.tuple #[.int .u64 (((hi * 18446744073709551616 + lo) / y : Nat) : Int), .int .u64 (((hi * 18446744073709551616 + lo) % y : Nat) : Int)]) ∧ ∃ n, w' = w.drewN n := by
  obtain ⟨Y1, hY1'⟩ : ∃ Y1, Y / 4294967296 = Y1 := ⟨_, rfl⟩
  obtain ⟨Y0, hY0'⟩ : ∃ Y0, Y % 4294967296 = Y0 := ⟨_, rfl⟩
  obtain ⟨V1, hV1'⟩ : ∃ V1, V / 4294967296 = V1 := ⟨_, rfl⟩
  obtain ⟨V0, hV0'⟩ : ∃ V0, V % 4294967296 = V0 := ⟨_, rfl⟩
  obtain ⟨q, hq⟩ : ∃ q, U / Y1 = q := ⟨_, rfl⟩
  obtain ⟨r, hr⟩ : ∃ r, U % Y1 = r := ⟨_, rfl⟩
  have b1 : 2147483648 ≤ Y1 := by omega
  have b2 : Y1 < 4294967296 := by omega
  have b3 : Y0 < 4294967296 := by omega
  have b4 : V1 < 4294967296 := by omega
  have b5 : V0 < 4294967296 := by omega
  have b6 : r < Y1 := by rw [← hr]; exact Nat.mod_lt _ (by omega)
  have hu : U = q * Y1 + r := by rw [← hq, ← hr, Nat.mul_comm]; exact (Nat.div_add_mod U Y1).symm
  have b7 : q ≤ 4294967297 := by rw [← hq, ← hY1']; exact Fm.q_bound hY1 hU
  have b8 : Fm.Q U V1 Y ≤ q := by
    have := Fm.q_start (u1 := V1) hY1 hU
    rw [hY1', hq] at this
    omega
  have e4 : bits .and .u64 (Y : Int) 4294967295 = (Y0 : Int) := by rw [Mul64.maskN Y hY2, hY0']
  have e5 : bits .and .u64 (V : Int) 4294967295 = (V0 : Int) := by rw [Mul64.maskN V hV, hV0']
  have e6 : (Y : Int) / 4294967296 = (Y1 : Int) := by omega
  have e7 : (V : Int) / 4294967296 = (V1 : Int) := by omega
  have e8 : (U : Int) / (Y1 : Int) = (q : Int) := by rw [← hq]; exact (Int.natCast_ediv U Y1).symm
  obtain ⟨p, hp⟩ : ∃ p, q * Y1 = p := ⟨_, rfl⟩
  have b9 : p ≤ U := by omega
  have e9 : IntKind.u64.wrap ((q : Int) * (Y1 : Int)) = (p : Int) := by rw [← hp, Mul64.mulN]; exact Mul64.wrapN _ (by omega)
  have e10 : (U : Int) - (p : Int) = (r : Int) := by omega
  have Hu := Lib.hid hu; clear hu
  have HY : Halves Y Y1 Y0 := ⟨hY1', hY0'⟩
  clear hY1' hY0'
  have HV : Halves V V1 V0 := ⟨hV1', hV0'⟩
  clear hV1' hV0'
  have Hq := Lib.hid hq; clear hq
  have Hr := Lib.hid hr; clear hr
  have Hp := Lib.hid hp; clear hp
  have t1 : ((y : Int) == 0) = false := by simp; omega
  have t2 : ((hi : Int) == 0) = false := by simp; omega
  have t3 : ¬ y ≤ hi := by omega
  have t4 : ¬ (Y1 : Int) = 0 := by omega
  go_enter Try.func78, Try.ntmps78
  go_wp2_with fail
  refine (H _).mono ?_
  rintro e w' ⟨rfl, rfl⟩
  go_upto_block 0 with fail
  go_cut [15] (fun s15 wx => s15 = .int .u64 (Fm.Q U V1 Y : Nat) ∧ w = wx)
  case first =>
    go_wp2_with fail
    go_loopg [15, 16] (mu r) (fun g s15 s16 wx => ∃ n m : Nat, g = mu m ∧ s15 = .int .u64 n ∧ s16 = .int .u64 m ∧ wx = w ∧ KnRel U V1 Y Y1 n m)
    case atStart => exact ⟨q, r, rfl, rfl, rfl, rfl, Hu.out, b8, b7, by omega⟩
    case round =>
      clear b6 b7 b8 e8 e9 e10 b9 Hu Hq Hr Hp e1 e2 e3 e4 e5 e6 e7
      obtain ⟨n, m, rfl, rfl, rfl, rfl, hu, hQ, hn, hm⟩ := hrel
      have Hu := Lib.hid hu; clear hu
      obtain ⟨z, hz⟩ : ∃ z, n * Y0 = z := ⟨_, rfl⟩
      by_cases hbig : 4294967296 ≤ n
      · obtain ⟨k, rfl, hQ', Hu', hstop⟩ := knuth_down hY1 hU b4 HY Hu hz hn (.inl hbig)
        have tb : ¬ ((k : Int) + 1 < 4294967296) := by omega
        clear hz hQ
        by_cases hst : 4294967296 ≤ m + Y1
        · have Hk := hstop hst
          have ts : (4294967296 : Int) ≤ (m : Int) + (Y1 : Int) := by omega
          have ts' : ¬ ((m : Int) + (Y1 : Int) < 4294967296) := by omega
          clear hstop
          go_wp2_with fail
          go_meet
          case rel => exact ⟨by rw [Hk.out], rfl⟩
        · have ts : ¬ (4294967296 : Int) ≤ (m : Int) + (Y1 : Int) := by omega
          have ts' : ((m : Int) + (Y1 : Int) < 4294967296) := by omega
          clear hstop
          go_wp2_with fail
          go_roundg (mu (m + Y1))
          case measure => exact mu_lt (by omega) hm
          case rel => exact ⟨k, m + Y1, rfl, rfl, by go_num, rfl, Hu'.out, hQ', by omega, by omega⟩
      · have hz2 : z ≤ 18446744069414584320 := by rw [← hz]; exact Nat.le_trans (Nat.mul_le_mul (show n ≤ 4294967296 by omega) (show Y0 ≤ 4294967295 by omega)) (by decide)
        have ez : IntKind.u64.wrap ((n : Int) * (Y0 : Int)) = (z : Int) := by rw [Mul64.mulN, hz]; exact Mul64.wrapN _ (by omega)
        have tb : (n : Int) < 4294967296 := by omega
        have tb' : ¬ (4294967296 ≤ (n : Int)) := by omega
        by_cases ht : 4294967296 * m + V1 < z
        · have D := knuth_down hY1 hU b4 HY Hu hz hn (.inr ht)
          have tt : 4294967296 * (m : Int) + (V1 : Int) < (z : Int) := by omega
          have tn : 1 ≤ n := by obtain ⟨k, hk, _⟩ := D; omega
          clear hz hQ ht
          by_cases hst : 4294967296 ≤ m + Y1
          · have ts : (4294967296 : Int) ≤ (m : Int) + (Y1 : Int) := by omega
            have ts' : ¬ ((m : Int) + (Y1 : Int) < 4294967296) := by omega
            go_wp2_with fail
            go_meet
            case rel =>
              obtain ⟨k, rfl, hQ', Hu', hstop⟩ := D
              exact ⟨by rw [← (hstop hst).out]; go_num, rfl⟩
          · have ts : ¬ (4294967296 : Int) ≤ (m : Int) + (Y1 : Int) := by omega
            have ts' : ((m : Int) + (Y1 : Int) < 4294967296) := by omega
            go_wp2_with fail
            go_roundg (mu (m + Y1))
            case measure => exact mu_lt (by omega) hm
            case rel =>
              obtain ⟨k, rfl, hQ', Hu', hstop⟩ := D
              exact ⟨k, m + Y1, rfl, by go_num, by go_num, rfl, Hu'.out, hQ', by omega, by omega⟩
        · have Hk := knuth_exit hY1 HY Hu hz hQ (by omega)
          have tt : ¬ (4294967296 * (m : Int) + (V1 : Int) < (z : Int)) := by omega
          have tt' : (z : Int) ≤ 4294967296 * (m : Int) + (V1 : Int) := by omega
          clear hz hQ ht
          go_wp2_with fail
          go_meet
          case rel => exact ⟨by rw [Hk.out], rfl⟩
  case rest =>
    obtain ⟨rfl, rfl⟩ := hcut
    clear b6 b7 b8 e8 e9 e10 b9 Hu Hq Hr Hp
    obtain ⟨Q1, hQ1⟩ : ∃ Q1, Fm.Q U V1 Y = Q1 := ⟨_, rfl⟩
    obtain ⟨R1, hR1⟩ : ∃ R1, Fm.R U V1 Y = R1 := ⟨_, rfl⟩
    have c1 : R1 < Y := by rw [← hR1]; exact Fm.R_lt (by omega)
    have c0 : Q1 < 4294967296 := by rw [← hQ1]; exact Fm.Q_small hU b4
    have f11 := rest_wrap (u := U) (v := V1) (y := Y) hY2 (by omega)
    rw [hQ1, hR1] at f11
    rw [hQ1]
    obtain ⟨q2, hq2⟩ : ∃ q2, R1 / Y1 = q2 := ⟨_, rfl⟩
    obtain ⟨r2, hr2⟩ : ∃ r2, R1 % Y1 = r2 := ⟨_, rfl⟩
    have gu : R1 = q2 * Y1 + r2 := by rw [← hq2, ← hr2, Nat.mul_comm]; exact (Nat.div_add_mod R1 Y1).symm
    have c6 : r2 < Y1 := by rw [← hr2]; exact Nat.mod_lt _ (by omega)
    have c7 : q2 ≤ 4294967297 := by rw [← hq2, ← HY.1]; exact Fm.q_bound hY1 c1
    have c8 : Fm.Q R1 V0 Y ≤ q2 := by
      have := Fm.q_start (u1 := V0) hY1 c1
      rw [HY.1, hq2] at this
      omega
    have f8 : (R1 : Int) / (Y1 : Int) = (q2 : Int) := by rw [← hq2]; exact (Int.natCast_ediv R1 Y1).symm
    obtain ⟨p2, hp2⟩ : ∃ p2, q2 * Y1 = p2 := ⟨_, rfl⟩
    have c9 : p2 ≤ R1 := by omega
    have f9 : IntKind.u64.wrap ((q2 : Int) * (Y1 : Int)) = (p2 : Int) := by rw [← hp2, Mul64.mulN]; exact Mul64.wrapN _ (by omega)
    have f10 : (R1 : Int) - (p2 : Int) = (r2 : Int) := by omega
    obtain ⟨Q2, hQ2⟩ : ∃ Q2, Fm.Q R1 V0 Y = Q2 := ⟨_, rfl⟩
    obtain ⟨R2, hR2⟩ : ∃ R2, Fm.R R1 V0 Y = R2 := ⟨_, rfl⟩
    have c2 : Q2 < 4294967296 := by rw [← hQ2]; exact Fm.Q_small c1 b5
    have f12 := rest_wrap (u := R1) (v := V0) (y := Y) hY2 (by omega)
    rw [hQ2, hR2] at f12
    have c3 : R2 < Y := by rw [← hR2]; exact Fm.R_lt (by omega)
    have Gu := Lib.hid gu; clear gu
    have Gq := Lib.hid hq2; clear hq2
    have Gr := Lib.hid hr2; clear hr2
    have Gp := Lib.hid hp2; clear hp2
    have GQ1 := Lib.hid hQ1; clear hQ1
    have GR1 := Lib.hid hR1; clear hR1
    have GQ2 := Lib.hid hQ2; clear hQ2
    have GR2 := Lib.hid hR2; clear hR2
    go_upto_block 2 with fail
    go_cut [18] (fun s18 wx => s18 = .int .u64 (Fm.Q R1 V0 Y : Nat) ∧ w = wx)
    case first =>
      go_wp2_with fail
      go_loopg [16, 18] (mu r2) (fun g s16 s18 wx => ∃ n m : Nat, g = mu m ∧ s18 = .int .u64 n ∧ s16 = .int .u64 m ∧ wx = w ∧ KnRel R1 V0 Y Y1 n m)
      case atStart => exact ⟨q2, r2, rfl, rfl, rfl, rfl, Gu.out, c8, c7, by omega⟩
      case round =>
        clear c6 c7 c8 f8 f9 f10 c9 Gu Gq Gr Gp f11 f12 e1 e2 e3 e4 e5 e6 e7
        obtain ⟨n, m, rfl, rfl, rfl, rfl, hu, hQ, hn, hm⟩ := hrel
        have Hu := Lib.hid hu; clear hu
        obtain ⟨z, hz⟩ : ∃ z, n * Y0 = z := ⟨_, rfl⟩
        by_cases hbig : 4294967296 ≤ n
        · obtain ⟨k, rfl, hQ', Hu', hstop⟩ := knuth_down hY1 c1 b5 HY Hu hz hn (.inl hbig)
          have tb : ¬ ((k : Int) + 1 < 4294967296) := by omega
          clear hz hQ
          by_cases hst : 4294967296 ≤ m + Y1
          · have Hk := hstop hst
            have ts : (4294967296 : Int) ≤ (m : Int) + (Y1 : Int) := by omega
            have ts' : ¬ ((m : Int) + (Y1 : Int) < 4294967296) := by omega
            clear hstop
            go_wp2_with fail
            go_meet
            case rel => exact ⟨by rw [Hk.out], rfl⟩
          · have ts : ¬ (4294967296 : Int) ≤ (m : Int) + (Y1 : Int) := by omega
            have ts' : ((m : Int) + (Y1 : Int) < 4294967296) := by omega
            clear hstop
            go_wp2_with fail
            go_roundg (mu (m + Y1))
            case measure => exact mu_lt (by omega) hm
            case rel => exact ⟨k, m + Y1, rfl, by go_num, rfl, rfl, Hu'.out, hQ', by omega, by omega⟩
        · have hz2 : z ≤ 18446744069414584320 := by rw [← hz]; exact Nat.le_trans (Nat.mul_le_mul (show n ≤ 4294967296 by omega) (show Y0 ≤ 4294967295 by omega)) (by decide)
          have ez : IntKind.u64.wrap ((n : Int) * (Y0 : Int)) = (z : Int) := by rw [Mul64.mulN, hz]; exact Mul64.wrapN _ (by omega)
          have tb : (n : Int) < 4294967296 := by omega
          have tb' : ¬ (4294967296 ≤ (n : Int)) := by omega
          by_cases ht : 4294967296 * m + V0 < z
          · have D := knuth_down hY1 c1 b5 HY Hu hz hn (.inr ht)
            have tt : 4294967296 * (m : Int) + (V0 : Int) < (z : Int) := by omega
            have tn : 1 ≤ n := by obtain ⟨k, hk, _⟩ := D; omega
            clear hz hQ ht
            by_cases hst : 4294967296 ≤ m + Y1
            · have ts : (4294967296 : Int) ≤ (m : Int) + (Y1 : Int) := by omega
              have ts' : ¬ ((m : Int) + (Y1 : Int) < 4294967296) := by omega
              go_wp2_with fail
              go_meet
              case rel =>
                obtain ⟨k, rfl, hQ', Hu', hstop⟩ := D
                exact ⟨by rw [← (hstop hst).out]; go_num, rfl⟩
            · have ts : ¬ (4294967296 : Int) ≤ (m : Int) + (Y1 : Int) := by omega
              have ts' : ((m : Int) + (Y1 : Int) < 4294967296) := by omega
              go_wp2_with fail
              go_roundg (mu (m + Y1))
              case measure => exact mu_lt (by omega) hm
              case rel =>
                obtain ⟨k, rfl, hQ', Hu', hstop⟩ := D
                exact ⟨k, m + Y1, rfl, by go_num, by go_num, rfl, Hu'.out, hQ', by omega, by omega⟩
          · have Hk := knuth_exit hY1 HY Hu hz hQ (by omega)
            have tt : ¬ (4294967296 * (m : Int) + (V0 : Int) < (z : Int)) := by omega
            have tt' : (z : Int) ≤ 4294967296 * (m : Int) + (V0 : Int) := by omega
            clear hz hQ ht
            go_wp2_with fail
            go_meet
            case rel => exact ⟨by rw [Hk.out], rfl⟩
    case rest =>
      obtain ⟨rfl, rfl⟩ := hcut
      rw [GQ2.out]
      clear c6 c7 c8 f8 f9 f10 c9 Gu Gq Gr Gp f11
      go_wp2_with fail
      go_ret2
      exact ⟨div_end hf HV GQ1 GR1 GQ2 GR2, 0, rfl⟩

theorem div_small (lo y : Nat) (w : World) (hy : y < 18446744073709551616) (hlo : lo < 18446744073709551616) (hh : 0 < y) :
    Calls Try.prog 78 #[.int .u64 0, .int .u64 lo, .int .u64 y] w fun e w' => e = .returned (.tuple #[.int .u64 ((lo / y : Nat) : Int), .int .u64 ((lo % y : Nat) : Int)]) ∧ ∃ n, w' = w.drewN n := by
  have t1 : ((y : Int) == 0) = false := by simp; omega
  have t3 : ¬ (y : Int) ≤ 0 := by omega
  have t4 : ¬ (y : Int) = 0 := by omega
  have t5 : IntKind.u64.wrap ((lo : Int) / (y : Int)) = ((lo / y : Nat) : Int) := by rw [← Int.natCast_ediv]; exact Mul64.wrapN _ (Nat.lt_of_le_of_lt (Nat.div_le_self _ _) hlo)
  go_enter Try.func78, Try.ntmps78
  go_wp2_with fail
  go_quiet (fail)
  go_wp2_with fail
  go_ret2
  exact ⟨by simp, _, rfl⟩

end Go.Proofs.Ytgkglkoipocgaaa.Fx
