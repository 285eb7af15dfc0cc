/- crc.digits, walked: what it hands on. -/
import Derived.Test.YtgkcbadfjhicnabProg
import Derived.Test.YtgkcbadfjhicnabIt
import Derived.Test.YtgkcbadfjhicnabCs
import Derived.Shelf.Abstract
import Derived.Shelf.RegionOpen
import Derived.WalkKit
import Derived.OwnWalkIn
import Derived.TacticsInMore
import Derived.LoopNIn
import Derived.LoopIn
import Derived.Lib.Hide
import Derived.Outline
import Derived.Deep.QuietTactic
import Derived.BigQuiet
set_option linter.unusedVariables false
set_option linter.unusedSimpArgs false
namespace Go.Proofs.Ytgkcbadfjhicnab.Fx
open Go Go.RowKit Go.Shelf
attribute [local go_sem] Oper.semAt_some
def DigM (n A : Nat) (X : World) : Prop := X.cell? ⟨A, 0, none⟩ = some (.int .u64 (n : Int))
def digElem (n k : Nat) : Array Value := #[.int .i64 (k : Int), .bool (decide (n / 2 ^ k % 2 = 1))]
theorem u64_bit1 (x : Nat) (hx : x < 18446744073709551616) : bits .and .u64 (x : Int) 1 = ((x % 2 : Nat) : Int) := by
  rw [show (1 : Int) = ((1 : Nat) : Int) from rfl, u64_and_nat x 1 hx (by omega), Nat.and_two_pow_sub_one_eq_mod x 1]
theorem shr64 {n k : Nat} (hk : k ≤ 64) (hn : n < 18446744073709551616) : (n : Int) / 2 ^ k = ((n / 2 ^ k : Nat) : Int) := by
  simp
set_option maxRecDepth 100000 in
set_option maxHeartbeats 1000000 in
theorem digits_hands (n A : Nat) (hn : n < 18446744073709551616) :
    Hands Fence.wide 4 Try.prog 28 #[.pointer (some ⟨A, 0, none⟩)] (digElem n) (dgs n) (DigM n A) := by
  intro l J Jx W hJ1 hJ2 hJB hJxB hY h0
  have cA := hJB 0 W h0
  have HY := Lib.hid hY; clear hY
  have HJ1 := Lib.hid hJ1; clear hJ1
  have HJ2 := Lib.hid hJ2; clear hJ2
  have HJB := Lib.hid hJB; clear hJB
  have HJxB := Lib.hid hJxB; clear hJxB
  have HUP : Hid (dgs n ≤ 64) := Lib.hid (dgs_up (by simpa using hn))
  refine callsIn_of_wp Try.func28 rfl trivial ?_ rfl
  simp only [Try.ntmps28, List.size_toArray, List.length_cons, List.length_nil, Nat.reduceAdd, Nat.reduceSub, Array.replicate_succ, Array.replicate_zero, List.push_toArray, List.append_toArray, List.nil_append, List.cons_append]
  gi_wp2
  gi_loopw [3] (fun v3 wr => ∃ k : Nat, v3 = .int .i64 (k : Int) ∧ k ≤ dgs n ∧ J k wr) (fun v3 _ => dgs n - (intOf v3).toNat)
  case atStart => exact ⟨0, rfl, by omega, h0⟩
  case round =>
    clear cA
    obtain ⟨k, rfl, hkN, hJ⟩ := hrel
    have cA : wr.cell? ⟨A, 0, none⟩ = some (.int .u64 (n : Int)) := HJB.out k wr hJ
    have k64 : k ≤ 64 := Nat.le_trans hkN HUP.out
    have hsh := shr64 k64 hn
    have k0 : (0 : Int) ≤ (k : Int) := by omega
    have k1 : ¬ (k : Int) < 0 := by omega
    by_cases hk : k < dgs n
    · have hd : n / 2 ^ k ≠ 0 := by
        have := dgs_le hk
        have h2 : 0 < n / 2 ^ k := Nat.div_pos this (Nat.pow_pos (by omega))
        omega
      obtain ⟨fn, tmps, assign, body, hy, hR⟩ := HY.out k wr hk hJ
      simp only [digElem] at hy
      have hdl : n / 2 ^ k < 18446744073709551616 := Nat.lt_of_le_of_lt (Nat.div_le_self _ _) hn
      have hb1 := u64_bit1 _ hdl
      generalize n / 2 ^ k = d at *
      have t1 : ¬ (d : Int) = 0 := by omega
      obtain hbit | hbit : d % 2 = 1 ∨ d % 2 = 0 := by omega
      all_goals
        rw [hbit] at hb1 hy
        simp only [decide_true, decide_false, Nat.zero_ne_one, Int.natCast_one, Int.natCast_zero, Nat.reduceEqDiff, Int.cast_ofNat_Int] at hb1 hy
        gi_wp2
        refine hR.mono ?_
        rintro e W3 (⟨rfl, hJ3⟩ | ⟨rfl, hJx3⟩)
        · gi_wp2
          go_roundw
          case rel => exact ⟨k + 1, by go_num, by omega, hJ3⟩
          case measure => simp [intOf]; omega
        · gi_wp2
          refine bodyPost_ret (results_none rfl _ _ _) rfl ?_
          exact ⟨⟨_, rfl⟩, .inr hJx3⟩
    · have hd : n / 2 ^ k = 0 := by
        have h1 := lt_dgs n
        rw [show dgs n = k by omega] at h1
        exact Nat.div_eq_of_lt h1
      rw [hd] at hsh
      have HKN : Hid (J (dgs n) wr) := Lib.hid (by rw [show dgs n = k by omega]; exact hJ)
      clear hk hkN
      gi_wp2
      go_end0
      exact ⟨⟨_, rfl⟩, .inl HKN.out⟩
theorem digits_w (n : Nat) (w : World) : Calls Try.prog 23 #[.int .u64 (n : Int)] w fun e w' =>
    e = .returned (.func (.func 28) #[] #[.pointer (some ⟨w.heap.size, 0, none⟩)]) ∧ w' = w.alloc (.cells #[.int .u64 (n : Int)] 48) := by
  go_enter Try.func23, Try.ntmps23
  go_wp2
  go_ret
  exact ⟨rfl, rfl⟩
end Go.Proofs.Ytgkcbadfjhicnab.Fx
