/- pack.value, walked. -/
import Derived.Test.YtpbidfmijliehaaProg
import Derived.Test.YtpbidfmijliehaaCa
import Derived.Laws.ShiftsVar
set_option linter.unusedVariables false
set_option linter.unusedSimpArgs false
namespace Go.Proofs.Ytpbidfmijliehaa.Fx
open Go Go.RowKit
set_option maxRecDepth 100000 in
theorem u8_less128 (x : Nat) (h : x < 256) : bits .andNot .u8 (x : Int) 128 = ((x % 128 : Nat) : Int) := by
  have h0 : ∀ x : Fin 256, bits .andNot .u8 ((x.val : Nat) : Int) 128 = ((x.val % 128 : Nat) : Int) := by decide
  exact h0 ⟨x, h⟩
set_option maxRecDepth 100000 in
set_option maxHeartbeats 2000000 in
theorem value_any (o : Option Addr) (c : Nat) (l : List Nat) (w : World) (hby : By l) (hlen : l.length ≤ 1000000000) (hc : l.length ≤ c ∧ c ≤ 9223372036854775807 ∧ (o = none → c = 0)) (hb : Bs w o l) :
    Calls Try.prog 72 #[.slice o l.length c] w fun e w' => e = .returned (.int .u64 ((valN l : Nat) : Int)) ∧ w = w' := by
  obtain ⟨hc1, hc2, hc3⟩ := hc
  obtain ⟨s, hs⟩ : ∃ s, l.take 10 = s := ⟨_, rfl⟩
  obtain ⟨N, hN⟩ : ∃ N, s.length = N := ⟨_, rfl⟩
  have hN10 : N ≤ 10 := by rw [← hN, ← hs]; simp; omega
  have hNl : N ≤ l.length := by rw [← hN, ← hs, List.length_take]; omega
  have hmin : min (l.length : Int) 10 = (N : Int) := by rw [← hN, ← hs, List.length_take]; omega
  have hmax : max (N : Int) 0 = (N : Int) := by omega
  have hV : valF 0 0 s = valN l := by unfold valN; rw [hs]
  have hbs := hb.take 10
  rw [hs] at hbs
  have hbsy : By s := by rw [← hs]; exact hby.take 10
  have HBS := Lib.hid hbs
  have HBY := Lib.hid hbsy
  have HN := Lib.hid hN
  have HV := Lib.hid hV
  obtain ⟨V, hVV⟩ : ∃ V, valN l = V := ⟨_, rfl⟩
  rw [hVV] at HV ⊢
  clear hs hN hb hbs hbsy hV hVV hby
  go_enter Try.func72, Try.ntmps72
  go_wp2_with fail
  go_loopg [3, 12] 10 (fun g s3 s12 wr => ∃ (k n : Nat), g = 10 - k ∧ k ≤ N ∧ s12 = .int .i64 (k : Int) ∧ s3 = .int .u64 (n : Int) ∧ n < 128 ^ k ∧ n < 18446744073709551616 ∧ valF k n (s.drop k) = V ∧ wr = w)
  case atStart => exact ⟨0, 0, rfl, by omega, rfl, rfl, by simp, by omega, HV.out, rfl⟩
  case round =>
    obtain ⟨k, n, hg, hk, rfl, rfl, hn, hn64, hv, rfl⟩ := hrel
    subst hg
    have k0 : (0 : Int) ≤ (k : Int) := by omega
    have HVV := Lib.hid hv
    have HNN := Lib.hid hn
    clear hv hn HV
    by_cases hkN : k < N
    · have k1 : (k : Int) < (N : Int) := by omega
      have k9 : k ≤ 9 := by omega
      have hkl : k < s.length := by rw [HN.out]; exact hkN
      obtain ⟨b, off, rfl, hcell⟩ := HBS.out k hkl
      obtain ⟨x, hx⟩ : ∃ x, s.getD k 0 = x := ⟨_, rfl⟩
      have hx256 := HBY.out.get k
      have hdrop : s.drop k = x :: s.drop (k + 1) := by
        rw [List.drop_eq_getElem_cons hkl, ← hx]
        simp [List.getD, hkl]
      rw [hx] at hcell hx256
      have HX := HVV.out
      rw [hdrop, valF] at HX
      have HX := Lib.hid HX
      have hand := u8_less128 x hx256
      have hwr : IntKind.u64.wrap ((x : Int) % 128 * 2 ^ (7 * k)) = ((x % 128 * 128 ^ k % 18446744073709551616 : Nat) : Int) := by
        rw [IntKind.wrap_u64, ← pow7]
        simp
      have hor := u64_or_nat n (x % 128 * 128 ^ k % 18446744073709551616) hn64 (by omega)
      rw [or_part HNN.out k9] at hor
      have hp := part64 (c := x) HNN.out k9
      have hp8 : k ≤ 8 → n + x % 128 * 128 ^ k % 18446744073709551616 < 128 ^ (k + 1) := fun h => part_lt HNN.out h
      have HP8 := Lib.hid hp8
      have hmul : IntKind.i64.wrap (7 * (k : Int)) = 7 * (k : Int) := by rw [IntKind.wrap_i64]; omega
      clear hx hdrop HVV hp8
      generalize x % 128 * 128 ^ k % 18446744073709551616 = M at *
      obtain ⟨Y, hY⟩ : ∃ Y, n + M = Y := ⟨_, rfl⟩
      rw [hY] at hor hp HP8 HX
      have HPP := Lib.hid hp
      clear hY hp
      by_cases h128 : x < 128
      · have t1 : (x : Int) < 128 := by omega
        have hV2 : Y = V := by
          have := HX.out
          rw [if_pos h128] at this
          exact this
        subst hV2
        clear HX HP8
        go_wp2_with fail
        go_ret
        exact ⟨rfl, rfl⟩
      · have t1 : ¬ (x : Int) < 128 := by omega
        have HV2 : Hid (valF (k + 1) Y (s.drop (k + 1)) = V) := Lib.hid (by
          have := HX.out
          rw [if_neg h128] at this
          exact this)
        have HP9 : Hid (Y < 128 ^ (k + 1)) := Lib.hid (by
          rcases Nat.lt_or_ge k 9 with h | h
          · exact HP8.out (by omega)
          · obtain rfl : k = 9 := by omega
            have h10 : (128 : Nat) ^ (9 + 1) = 1180591620717411303424 := by decide
            have := HPP.out
            omega)
        clear HX HP8
        go_wp2_with fail
        go_roundg (10 - (k + 1))
        case measure => omega
        case rel => exact ⟨k + 1, Y, rfl, by omega, by go_num, rfl, HP9.out, HPP.out, HV2.out, rfl⟩
    · have k1 : ¬ (k : Int) < (N : Int) := by omega
      have hkk : k = s.length := by rw [HN.out]; omega
      have hV2 : n = V := by
        have := HVV.out
        rw [hkk, List.drop_length, valF] at this
        exact this
      subst hV2
      clear HVV hkk
      go_wp2_with fail
      go_ret
      exact ⟨rfl, rfl⟩
end Go.Proofs.Ytpbidfmijliehaa.Fx
