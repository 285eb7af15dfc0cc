/- The document's More and Both, walked: bit by bit, step by step. -/
import Derived.Test.YtgkcbadfjhicnabProg
import Derived.Test.YtgkcbadfjhicnabCs
import Derived.WalkKit
import Derived.Lib.Hide
import Derived.Outline
import Derived.Deep.LoopGhost
import Derived.Deep.QuietTactic
import Derived.BigQuiet
set_option linter.unusedVariables false
set_option linter.unusedSimpArgs false
namespace Go.Proofs.Ytgkcbadfjhicnab.Fx
open Go Go.RowKit
theorem sh_double (n : Nat) : sh (2 * n) = n := by
  unfold sh
  rw [if_neg (by omega)]
  omega
theorem it_pow (k : Nat) : it k (2 ^ k) = 1 := by
  induction k with
  | zero => rfl
  | succ k ih => simp only [it]; rw [Nat.pow_succ, Nat.mul_comm, sh_double, ih]
theorem feed (k x c : Nat) : sh (it k (x ^^^ c % 2 ^ k) ^^^ c / 2 ^ k % 2) = it (k + 1) (x ^^^ c % 2 ^ (k + 1)) := by
  rw [it_succ, mod_bit, ← Nat.xor_assoc, it_xor k (x ^^^ c % 2 ^ k)]
  congr 2
  split
  · rename_i h; rw [it_pow, h]
  · rename_i h; rw [it_zero]; omega
theorem xor_low {x d : Nat} (hx : x < 4294967296) : bits .xor .u32 (x : Int) ((d : Int) % 2) = ((x ^^^ d % 2 : Nat) : Int) := by
  rw [show ((d : Int) % 2) = ((d % 2 : Nat) : Int) from by omega]
  exact u32_xor_nat _ _ hx (by omega)
theorem low_lt {x d : Nat} (hx : x < 4294967296) : x ^^^ d % 2 < 4294967296 := xor_lt hx (by omega)
theorem nt_subI {n : Nat} (h : n < 4294967296) : (4294967295 : Int) - (n : Int) = ((nt n : Nat) : Int) := by
  rw [← nt_sub h]; omega
theorem half_step (c k : Nat) : ((c / 2 ^ k : Nat) : Int) / 2 = ((c / 2 ^ (k + 1) : Nat) : Int) := by
  rw [Nat.pow_succ, ← Nat.div_div_eq_div_mul]; omega
set_option maxHeartbeats 1600000 in
theorem rmore_any (s : Nat) (l : List Nat) (o : Option Addr) (cap : Nat) (w : World) (hs : s < 4294967296) (hl : By l) (hlen : l.length ≤ 9223372036854775807) (hb : Bs w o l) :
    Calls Try.prog 11 #[.int .u32 (s : Int), .slice o l.length cap] w fun e w' => e = .returned (.int .u32 ((more s l : Nat) : Int)) ∧ w' = w := by
  have h0 := nt_subI hs
  have hn := nt_lt hs
  have hs1 : (s : Int) ≤ 4294967295 := by omega
  have HB := Lib.hid hb; clear hb
  have HM : Hid (more s l = nt (reg l (nt s))) := Lib.hid rfl
  generalize more s l = m at *
  generalize nt s = n at *
  go_enter Try.func11, Try.ntmps11
  go_wp2_with fail
  go_loopg [5, 6] l.length (fun g s5 s6 wx => ∃ k : Nat, g = l.length - k ∧ k ≤ l.length ∧ s6 = .int .i64 (k : Int) ∧ s5 = .int .u32 ((reg (l.take k) n : Nat) : Int) ∧ wx = w)
  case atStart => exact ⟨0, rfl, by omega, rfl, by simp [reg], rfl⟩
  case round =>
    obtain ⟨k, rfl, hk, rfl, rfl, rfl⟩ := hrel
    have hx : reg (l.take k) n < 4294967296 := reg_lt (hl.take k) hn
    by_cases h8 : k < l.length
    · have t1 : (k : Int) < (l.length : Int) := by omega
      obtain ⟨b, off, rfl, hc⟩ := HB.out k h8
      have hc2 := hl.get k
      have hT := Lib.hid (reg_take h8 n)
      generalize l.getD k 0 = c at *
      generalize reg (l.take k) n = x at *
      clear h0 HM hs1
      go_wp2_with fail
      go_loopg [5, 7, 8] 8 (fun g s5 s7 s8 wx => ∃ j : Nat, g = 8 - j ∧ j ≤ 8 ∧ s8 = .int .i64 (j : Int) ∧ s7 = .int .u32 ((c / 2 ^ j : Nat) : Int) ∧ s5 = .int .u32 ((it j (x ^^^ c % 2 ^ j) : Nat) : Int) ∧ wx = wr)
      case atStart => exact ⟨0, rfl, by omega, rfl, by simp, by simp [it, Nat.mod_one], rfl⟩
      case round =>
        obtain ⟨j, rfl, hj, rfl, rfl, rfl, rfl⟩ := hrel
        have hxx : x ^^^ c % 2 ^ j < 4294967296 := xor_lt hx (by have := Nat.mod_le c (2 ^ j); omega)
        have hy := it_lt j hxx
        have hF := Lib.hid (feed j x c)
        have hE : Hid (j = 8 → it j (x ^^^ c % 2 ^ j) = it 8 (x ^^^ c)) := Lib.hid (fun e => by subst e; rw [Nat.mod_eq_of_lt hc2])
        have hH := Lib.hid (half_step c j)
        have hd : c / 2 ^ j < 256 := Nat.lt_of_le_of_lt (Nat.div_le_self _ _) hc2
        generalize it j (x ^^^ c % 2 ^ j) = y at *
        generalize c / 2 ^ j = d at *
        have hxor := xor_low (d := d) hy
        have hlt := low_lt (d := d) hy
        by_cases h9 : j < 8
        · have t1 : (j : Int) < 8 := by omega
          go_wp2_with fail
          refine (shift_any _ _ hlt).mono ?_
          rintro e w' ⟨rfl, rfl⟩
          go_wp2_with fail
          go_roundg (8 - (j + 1))
          case measure => omega
          case rel => exact ⟨j + 1, rfl, by omega, by go_num, by rw [hH.out], by rw [hF.out], rfl⟩
        · have t1 : ¬ (j : Int) < 8 := by omega
          go_wp2_with fail
          go_roundg (l.length - (k + 1))
          case measure => omega
          case rel => exact ⟨k + 1, rfl, by omega, by go_num, by rw [hT.out, hE.out (by omega)], rfl⟩
    · have t1 : ¬ (k : Int) < (l.length : Int) := by omega
      obtain rfl : k = l.length := by omega
      rw [List.take_length] at *
      have h1 := nt_subI hx
      have hx1 : ((reg l n : Nat) : Int) ≤ 4294967295 := by omega
      go_wp2_with fail
      go_ret
      exact ⟨by rw [HM.out]; rfl, rfl⟩
set_option maxHeartbeats 1600000 in
theorem rsum_any (l : List Nat) (o : Option Addr) (cap : Nat) (w : World) (hl : By l) (hlen : l.length ≤ 9223372036854775807) (hb : Bs w o l) :
    Calls Try.prog 9 #[.slice o l.length cap] w fun e w' => e = .returned (.int .u32 ((more 0 l : Nat) : Int)) ∧ w' = w := by
  have H := rmore_any 0 l o cap w (by omega) hl hlen hb
  go_enter Try.func9, Try.ntmps9
  go_wp2_with fail
  refine H.mono ?_
  rintro e w' ⟨rfl, rfl⟩
  go_wp2_with fail
  go_ret
  exact ⟨rfl, rfl⟩
set_option maxHeartbeats 1600000 in
theorem sum_any (l : List Nat) (o : Option Addr) (cap : Nat) (w : World) (hl : By l) (hlen : l.length ≤ 9223372036854775807) (hb : Bs w o l) :
    Calls Try.prog 8 #[.slice o l.length cap] w fun e w' => e = .returned (.int .u32 ((more 0 l : Nat) : Int)) ∧ w' = w := by
  have H := more_any 0 l o cap w (by omega) hl hlen hb
  go_enter Try.func8, Try.ntmps8
  go_wp2_with fail
  refine H.mono ?_
  rintro e w' ⟨rfl, rfl⟩
  go_wp2_with fail
  go_ret
  exact ⟨rfl, rfl⟩
theorem it_rounds (i a : Nat) : it 8 (it (8 * i) a) = it (8 * (i + 1)) a := by rw [← it_add]; rfl
set_option maxHeartbeats 1600000 in
theorem rboth_any (a b : Nat) (n : Int) (w : World) (ha : a < 4294967296) (hb : b < 4294967296) (hn : n ≤ 9223372036854775807) (hn0 : -9223372036854775808 ≤ n) :
    Calls Try.prog 13 #[.int .u32 (a : Int), .int .u32 (b : Int), .int .i64 n] w fun e w' => e = .returned (.int .u32 (((if n < 0 then 0 else both a b n.toNat) : Nat) : Int)) ∧ w' = w := by
  by_cases h0 : n < 0
  · rw [if_pos h0]
    go_enter Try.func13, Try.ntmps13
    go_wp2_with fail
    go_ret
    exact ⟨rfl, rfl⟩
  · rw [if_neg h0]
    obtain ⟨N, rfl⟩ := Int.eq_ofNat_of_zero_le (show 0 ≤ n by omega)
    rw [Int.toNat_natCast]
    have HM : Hid (both a b N = it (8 * N) a ^^^ b) := Lib.hid rfl
    generalize both a b N = m at *
    go_enter Try.func13, Try.ntmps13
    go_wp2_with fail
    go_loopg [0, 7] N (fun g s0 s7 wx => ∃ k : Nat, g = N - k ∧ k ≤ N ∧ s7 = .int .i64 (k : Int) ∧ s0 = .int .u32 ((it (8 * k) a : Nat) : Int) ∧ wx = w)
    case atStart => exact ⟨0, rfl, by omega, rfl, by simp [it], rfl⟩
    case round =>
      obtain ⟨k, rfl, hk, rfl, rfl, rfl⟩ := hrel
      have hx := it_lt (8 * k) ha
      have hT := Lib.hid (it_rounds k a)
      have hE : Hid (k = N → it (8 * k) a = it (8 * N) a) := Lib.hid (fun e => by rw [e])
      generalize it (8 * k) a = x at *
      by_cases h8 : k < N
      · have t1 : (k : Int) < (N : Int) := by omega
        clear h0
        go_wp2_with fail
        go_loopg [0, 8] 8 (fun g s0 s8 wx => ∃ j : Nat, g = 8 - j ∧ j ≤ 8 ∧ s8 = .int .i64 (j : Int) ∧ s0 = .int .u32 ((it j x : Nat) : Int) ∧ wx = wr)
        case atStart => exact ⟨0, rfl, by omega, rfl, rfl, rfl⟩
        case round =>
          obtain ⟨j, rfl, hj, rfl, rfl, rfl⟩ := hrel
          have hy := it_lt j hx
          have hS := Lib.hid (it_succ j x)
          have hF : Hid (j = 8 → it j x = it 8 x) := Lib.hid (fun e => by rw [e])
          generalize it j x = y at *
          by_cases h9 : j < 8
          · have t1 : (j : Int) < 8 := by omega
            go_wp2_with fail
            refine (shift_any _ _ hy).mono ?_
            rintro e w' ⟨rfl, rfl⟩
            go_wp2_with fail
            go_roundg (8 - (j + 1))
            case measure => omega
            case rel => exact ⟨j + 1, rfl, by omega, by go_num, by rw [hS.out], rfl⟩
          · have t1 : ¬ (j : Int) < 8 := by omega
            go_wp2_with fail
            go_roundg (N - (k + 1))
            case measure => omega
            case rel => exact ⟨k + 1, rfl, by omega, by go_num, by rw [hF.out (by omega), hT.out], rfl⟩
      · have t1 : ¬ (k : Int) < (N : Int) := by omega
        have hxor := u32_xor_nat x b hx hb
        go_wp2_with fail
        go_ret
        exact ⟨by rw [HM.out, ← hE.out (by omega)]; rfl, rfl⟩
end Go.Proofs.Ytgkcbadfjhicnab.Fx
