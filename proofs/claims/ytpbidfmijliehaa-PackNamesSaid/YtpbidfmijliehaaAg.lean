/- Are calls more than statements go through: walked. -/
import Derived.Test.YtpbidfmijliehaaProg
import Derived.Test.YtpbidfmijliehaaAo
set_option linter.unusedVariables false
set_option linter.unusedSimpArgs false
namespace Go.Proofs.Ytpbidfmijliehaa.Fx
open Go Go.RowKit
def greatB (xs : List OpR) : Bool := decide (200 < xs.length) || xs.any fun x => decide (300 < x.bl.length)
set_option maxRecDepth 100000 in
set_option maxHeartbeats 1000000 in
theorem great_any (xs : List OpR) (o : Option Addr) (c : Nat) (w : World) (h : OpsAt w o xs) (hlen : xs.length ≤ 9223372036854775807) :
    Calls Try.prog 8 #[.slice o xs.length c] w fun e w' => e = .returned (.bool (greatB xs)) ∧ w' = w := by
  have H := Lib.hid h
  clear h
  by_cases h2 : 200 < xs.length
  · have e : greatB xs = true := by unfold greatB; rw [decide_eq_true h2]; rfl
    have t1 : (200 : Int) < (xs.length : Int) := by omega
    rw [e]
    clear h2 e
    go_enter Try.func8, Try.ntmps8
    go_wp2_with fail
    go_ret
    exact ⟨rfl, rfl⟩
  · have t1 : ¬ (200 : Int) < (xs.length : Int) := by omega
    have HG : Hid (greatB xs = xs.any fun x => decide (300 < x.bl.length)) := Lib.hid (by unfold greatB; rw [decide_eq_false h2]; rfl)
    obtain ⟨n, hn⟩ : ∃ n, xs.length = n := ⟨_, rfl⟩
    have HN := Lib.hid hn
    have hn200 : n ≤ 200 := by omega
    rw [hn] at t1 ⊢
    have n0 : (0 : Int) ≤ (n : Int) := by omega
    have n1 : (n : Int) ≤ 200 := by omega
    clear h2 hn hlen
    go_enter Try.func8, Try.ntmps8
    go_wp2_with fail
    go_loop [9] (fun s => ∃ k : Nat, s = .int .i64 (k : Int) ∧ k ≤ n ∧ ((xs.take k).any fun x => decide (300 < x.bl.length)) = false) (fun s => n - (intOf s).toNat)
    case atStart => exact ⟨0, rfl, by omega, rfl⟩
    case round =>
      obtain ⟨k, rfl, hk, ha⟩ := hrel
      have HA := Lib.hid ha
      clear ha
      have k0 : (0 : Int) ≤ (k : Int) := by omega
      by_cases hkn : k < n
      · have t2 : (k : Int) < (n : Int) := by omega
        have hkl : k < xs.length := by rw [HN.out]; exact hkn
        obtain ⟨x, hx⟩ : ∃ x, xs[k]? = some x := ⟨_, List.getElem?_eq_getElem hkl⟩
        obtain ⟨b, off, e, hat, hwf⟩ := H.out k x hx
        have c6 := hat.c6
        have hb1 := hwf.len
        have HS : Hid (((xs.take (k + 1)).any fun x => decide (300 < x.bl.length)) = decide (300 < x.bl.length)) := Lib.hid (by
          rw [List.take_add_one, hx, List.any_append, HA.out]
          simp)
        have HXX : Hid (300 < x.bl.length → greatB xs = true) := Lib.hid (fun h => by
          rw [HG.out, List.any_eq_true]
          exact ⟨x, List.mem_of_getElem? hx, decide_eq_true h⟩)
        obtain ⟨m, hm⟩ : ∃ m, x.bl.length = m := ⟨_, rfl⟩
        rw [hm] at HS HXX c6
        subst e
        clear hx hat hwf hm
        by_cases h3 : 300 < m
        · have t3 : (300 : Int) < (m : Int) := by omega
          go_wp2_with fail
          go_ret
          exact ⟨by rw [HXX.out h3]; rfl, rfl⟩
        · have t3 : ¬ (300 : Int) < (m : Int) := by omega
          go_wp2_with fail
          go_round
          case rel => exact ⟨k + 1, by go_num, by omega, by rw [HS.out]; exact decide_eq_false h3⟩
          case measure => simp [intOf]; omega
      · obtain rfl : k = n := by omega
        have t2 : ¬ (k : Int) < (k : Int) := by omega
        have HE : Hid (greatB xs = false) := Lib.hid (by rw [HG.out]; have := HA.out; rw [List.take_of_length_le (by rw [HN.out]; omega)] at this; exact this)
        go_wp2_with fail
        go_ret
        exact ⟨by rw [HE.out]; rfl, rfl⟩
end Go.Proofs.Ytpbidfmijliehaa.Fx
