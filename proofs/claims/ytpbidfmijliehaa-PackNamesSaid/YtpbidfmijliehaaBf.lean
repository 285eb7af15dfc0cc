/- pack.form, walked: what it hands on. -/
import Derived.Test.YtpbidfmijliehaaProg
import Derived.Test.YtpbidfmijliehaaIt
import Derived.Test.YtpbidfmijliehaaAf
import Derived.Shelf.Abstract
import Derived.Shelf.RegionOpen
import Derived.WalkKit
import Derived.OwnWalkIn
import Derived.TacticsInMore
import Derived.LoopNIn
import Derived.LoopIn
import Derived.Lib.Hide
import Derived.Outline
import Derived.Deep.QuietTactic
import Derived.BigQuiet
set_option linter.unusedVariables false
set_option linter.unusedSimpArgs false
namespace Go.Proofs.Ytpbidfmijliehaa.Fx
open Go Go.RowKit Go.Shelf
attribute [local go_sem] Oper.semAt_some
def FrmM (n A : Nat) (X : World) : Prop := X.cell? ⟨A, 0, none⟩ = some (.int .u64 (n : Int))
def frmElem (n k : Nat) : Array Value := #[.int .u8 (((form n).getD k 0 : Nat) : Int)]
set_option maxRecDepth 100000 in
theorem u8_or128 (m : Nat) : bits .or .u8 ((m : Int) % 256) 128 = 128 + (m : Int) % 128 := by
  have h : ∀ x : Fin 256, bits .or .u8 ((x.val : Nat) : Int) 128 = ((128 + x.val % 128 : Nat) : Int) := by decide
  have := h ⟨m % 256, Nat.mod_lt _ (by omega)⟩
  dsimp only at this
  rw [show ((m : Int) % 256) = ((m % 256 : Nat) : Int) by omega, this]
  omega
theorem form_drop_small {n m k : Nat} (h : m < 128) (hf : form m = (form n).drop k) : (form n).length = k + 1 ∧ (form n).getD k 0 = m := by
  rw [form_small h] at hf
  have hl := congrArg List.length hf
  simp at hl
  refine ⟨by omega, ?_⟩
  have hk : k < (form n).length := by omega
  rw [List.drop_eq_getElem_cons hk] at hf
  simp only [List.cons.injEq] at hf
  simp [List.getD, hk, hf.1]
theorem form_drop_big {n m k : Nat} (h : ¬ m < 128) (hm : m < 18446744073709551616) (hf : form m = (form n).drop k) : k < (form n).length ∧ (form n).getD k 0 = 128 + m % 128 ∧ form (m / 128) = (form n).drop (k + 1) := by
  rw [form_big h hm] at hf
  have hl := congrArg List.length hf
  have := (form_len (m / 128)).1
  simp at hl
  have hk : k < (form n).length := by omega
  rw [List.drop_eq_getElem_cons hk] at hf
  simp only [List.cons.injEq] at hf
  exact ⟨hk, by simp [List.getD, hk, hf.1], hf.2⟩
set_option maxRecDepth 100000 in
set_option maxHeartbeats 1000000 in
theorem form_hands (n A : Nat) (hn : n < 18446744073709551616) :
    Hands Fence.wide 4 Try.prog 68 #[.pointer (some ⟨A, 0, none⟩)] (frmElem n) (form n).length (FrmM n A) := by
  intro l J Jx W hJ1 hJ2 hJB hJxB hY h0
  have cA := hJB 0 W h0
  have HY := Lib.hid hY; clear hY
  have HJ1 := Lib.hid hJ1; clear hJ1
  have HJ2 := Lib.hid hJ2; clear hJ2
  have HJB := Lib.hid hJB; clear hJB
  have HJxB := Lib.hid hJxB; clear hJxB
  unfold FrmM at cA
  refine callsIn_of_wp Try.func68 rfl trivial ?_ rfl
  simp only [Try.ntmps68, List.size_toArray, List.length_cons, List.length_nil, Nat.reduceAdd, Nat.reduceSub, Array.replicate_succ, Array.replicate_zero, List.push_toArray, List.append_toArray, List.nil_append, List.cons_append]
  gi_wp2
  gi_loopw [3] (fun v3 wr => ∃ k m : Nat, v3 = .int .u64 (m : Int) ∧ m < 18446744073709551616 ∧ form m = (form n).drop k ∧ J k wr) (fun v3 _ => (intOf v3).toNat)
  case atStart => exact ⟨0, n, rfl, hn, rfl, h0⟩
  case round =>
    clear cA
    obtain ⟨k, m, rfl, hm, hf, hJ⟩ := hrel
    by_cases hs : m < 128
    · obtain ⟨hl, hg⟩ := form_drop_small hs hf
      obtain ⟨fn, tmps, assign, body, hy, hR⟩ := HY.out k wr (by omega) hJ
      simp only [frmElem] at hy
      rw [hg] at hy
      have t1 : ¬ (128 : Int) ≤ (m : Int) := by omega
      have hw : IntKind.u8.wrap (m : Int) = (m : Int) := by rw [IntKind.wrap_u8]; omega
      have HKN : Hid (k + 1 = (form n).length) := Lib.hid hl.symm
      clear hf hl hg
      gi_wp2
      refine hR.mono ?_
      rintro e W3 (⟨rfl, hJ3⟩ | ⟨rfl, hJx3⟩)
      · gi_wp2
        go_end0
        exact ⟨⟨_, rfl⟩, .inl (HKN.out ▸ hJ3)⟩
      · gi_wp2
        go_end0
        exact ⟨⟨_, rfl⟩, .inr hJx3⟩
    · obtain ⟨hk, hg, hf2⟩ := form_drop_big hs hm hf
      obtain ⟨fn, tmps, assign, body, hy, hR⟩ := HY.out k wr hk hJ
      simp only [frmElem] at hy
      rw [hg] at hy
      have t1 : (128 : Int) ≤ (m : Int) := by omega
      have hor := u8_or128 m
      rw [show ((128 + m % 128 : Nat) : Int) = 128 + (m : Int) % 128 by omega] at hy
      gi_wp2
      refine hR.mono ?_
      rintro e W3 (⟨rfl, hJ3⟩ | ⟨rfl, hJx3⟩)
      · gi_wp2
        go_roundw
        case rel => exact ⟨k + 1, m / 128, by go_num, by omega, hf2, hJ3⟩
        case measure => simp [intOf]; omega
      · gi_wp2
        refine bodyPost_ret (results_none rfl _ _ _) rfl ?_
        exact ⟨⟨_, rfl⟩, .inr hJx3⟩
theorem form_w (n : Nat) (w : World) : Calls Try.prog 44 #[.int .u64 (n : Int)] w fun e w' =>
    e = .returned (.func (.func 68) #[] #[.pointer (some ⟨w.heap.size, 0, none⟩)]) ∧ w' = w.alloc (.cells #[.int .u64 (n : Int)] 30) := by
  go_enter Try.func44, Try.ntmps44
  go_wp2
  go_ret
  exact ⟨rfl, rfl⟩
end Go.Proofs.Ytpbidfmijliehaa.Fx
