/- A number's digits, plain; the iterator that hands them on, walked. -/
import Derived.Test.YtabfdhecbbemjaaProg
import Derived.Test.YtabfdhecbbemjaaRange
import Derived.Shelf.Abstract
import Derived.Shelf.RegionOpen
import Derived.WalkKit
import Derived.OwnWalkIn
import Derived.TacticsInMore
import Derived.LoopNIn
import Derived.LoopIn
import Derived.Lib.Hide
set_option linter.unusedVariables false
set_option linter.unusedSimpArgs false
namespace Go.Proofs.Ytabfdhecbbemjaa.Fx
open Go.RowKit Go.Shelf
attribute [local go_sem] Oper.semAt_some

def baseAt (k : Nat) : Nat := if k < 4 then 16 else 10
def lft (s : Nat) : Nat → Nat
  | 0 => s
  | k + 1 => lft s k / baseAt k
def dgt (s k : Nat) : Nat := lft s k % baseAt k
/-- a digit's sign -/
def num (d : Nat) : Nat := if d < 10 then 48 + d else 87 + d
def digitElem (s k : Nat) : Array Value := #[.int .u8 ((num (dgt s k) : Nat) : Int), .int .u64 ((lft s (k + 1) : Nat) : Int)]
theorem lft_le (s : Nat) : ∀ k, lft s k ≤ s
  | 0 => Nat.le_refl _
  | k + 1 => Nat.le_trans (Nat.div_le_self _ _) (lft_le s k)

theorem numerals_at (d : Nat) (h : d < 16) (w : World) : (Instr.index 9 (.string { data := #[48, 49, 50, 51, 52, 53, 54, 55, 56, 57, 97, 98, 99, 100, 101, 102] }) (.int .u64 (d : Int))).run Try.prog w = .ok (.int .u8 ((num d : Nat) : Int)) w := by
  have hd : d = 0 ∨ d = 1 ∨ d = 2 ∨ d = 3 ∨ d = 4 ∨ d = 5 ∨ d = 6 ∨ d = 7 ∨ d = 8 ∨ d = 9 ∨ d = 10 ∨ d = 11 ∨ d = 12 ∨ d = 13 ∨ d = 14 ∨ d = 15 := by omega
  rcases hd with rfl | rfl | rfl | rfl | rfl | rfl | rfl | rfl | rfl | rfl | rfl | rfl | rfl | rfl | rfl | rfl <;> (show _ = _; kernel_rfl)
set_option maxRecDepth 100000 in
set_option maxHeartbeats 1000000 in
theorem digits_counts (F : Fence) (n : Nat) (hF : F.fn 49) (hro : F.round = none) (hn : 1 ≤ n) (s B : Nat) (w : World) (hs : s ≤ 4611686018427387904) (hB : B < w.heap.size) (hc : w.cell? ⟨B, 0, none⟩ = some (.int .u64 (s : Int))) :
    Counts F n Try.prog 49 #[.pointer (some ⟨B, 0, none⟩)] (digitElem s) w := by
  intro K l J Jx W hK1 hW hY h0
  have hc' : W.cell? ⟨B, 0, none⟩ = some (.int .u64 (s : Int)) := (hW.cell (p := ⟨B, 0, none⟩) hB).trans hc
  have HY := Lib.hid hY; clear hY
  refine callsIn_of_wp Try.func49 rfl hF ?_ hro
  simp only [Try.ntmps49, List.size_toArray, List.length_cons, List.length_nil, Nat.reduceAdd, Nat.reduceSub, Array.replicate_succ, Array.replicate_zero, List.push_toArray, List.append_toArray, List.nil_append, List.cons_append]
  gi_wp2
  gi_loopw [3, 4] (fun v3 v4 wr => ∃ k : Nat, v3 = .int .u64 ((lft s k : Nat) : Int) ∧ v4 = .int .i64 (k : Int) ∧ k ≤ K ∧ J k wr) (fun _ v4 _ => K - (intOf v4).toNat)
  case atStart => exact ⟨0, rfl, rfl, by omega, h0⟩
  case round =>
    obtain ⟨k, rfl, rfl, hkK, hJ⟩ := hrel
    obtain ⟨hk, fn, tmps, assign, body, hy, hR⟩ := HY.out k wr hJ
    obtain ⟨a, ha⟩ : ∃ a, lft s k = a := ⟨_, rfl⟩
    obtain ⟨d, hd⟩ : ∃ d, dgt s k = d := ⟨_, rfl⟩
    obtain ⟨a1, ha1⟩ : ∃ a1, lft s (k + 1) = a1 := ⟨_, rfl⟩
    have hal := lft_le s k
    simp only [digitElem, hd, ha1] at hy
    rw [ha] at hal ⊢
    have HL : Hid (Value.int IntKind.u64 (a1 : Int) = .int .u64 ((lft s (k + 1) : Nat) : Int)) := Lib.hid (by rw [ha1])
    have hd' : d < 16 := by rw [← hd]; unfold dgt baseAt; split <;> omega
    have hix := numerals_at d hd'
    simp only [dgt, lft, ha] at hd ha1
    clear ha
    by_cases hk4 : k < 4
    · have hb : baseAt k = 16 := if_pos hk4
      have hk4' : (k : Int) < 4 := by omega
      rw [hb] at hd ha1
      have e0 : ((a : Int) % 16) = (d : Int) := by omega
      have e1 : ((a : Int) / 16) = (a1 : Int) := by omega
      clear hd ha1 hb
      gi_wp2
      refine hR.mono ?_
      rintro e W3 (⟨rfl, hJ3⟩ | ⟨rfl, hJx3⟩)
      · gi_wp2
        go_roundw
        case rel => exact ⟨k + 1, HL.out, by go_num, by omega, hJ3⟩
        case measure => simp [intOf]; omega
      · gi_wp2
        refine bodyPost_ret (results_none rfl _ _ _) rfl ?_
        exact ⟨⟨_, rfl⟩, hJx3⟩
    · have hb : baseAt k = 10 := if_neg hk4
      have hk4' : ¬ (k : Int) < 4 := by omega
      rw [hb] at hd ha1
      have e0 : ((a : Int) % 10) = (d : Int) := by omega
      have e1 : ((a : Int) / 10) = (a1 : Int) := by omega
      clear hd ha1 hb
      gi_wp2
      refine hR.mono ?_
      rintro e W3 (⟨rfl, hJ3⟩ | ⟨rfl, hJx3⟩)
      · gi_wp2
        go_roundw
        case rel => exact ⟨k + 1, HL.out, by go_num, by omega, hJ3⟩
        case measure => simp [intOf]; omega
      · gi_wp2
        refine bodyPost_ret (results_none rfl _ _ _) rfl ?_
        exact ⟨⟨_, rfl⟩, hJx3⟩
end Go.Proofs.Ytabfdhecbbemjaa.Fx
