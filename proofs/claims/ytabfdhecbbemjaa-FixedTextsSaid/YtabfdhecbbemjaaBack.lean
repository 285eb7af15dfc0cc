/- The law that a number is read from its text, walked. -/
import Derived.Test.YtabfdhecbbemjaaProg
import Derived.Test.YtabfdhecbbemjaaAlive
import Derived.Test.YtabfdhecbbemjaaTb
import Derived.WalkKit
import Derived.WalkSmall
import Derived.OpenShut
set_option linter.unusedVariables false
set_option linter.unusedSimpArgs false
namespace Go.Proofs.Ytabfdhecbbemjaa.Fx
open Go Go.RowKit
theorem bdrew {B : Nat} {w w' : World} (n : Nat) (h : _root_.Go.RowKit.Below B (w.drewN n) w') : _root_.Go.RowKit.Below B w w' := ⟨h.os, h.tape, h.output, h.size, h.block⟩
theorem bdrew0 (B : Nat) (w : World) (n : Nat) : _root_.Go.RowKit.Below B w (w.drewN n) := bdrew n (_root_.Go.RowKit.Below.refl _ _)
theorem bnext {w W1 W2 : World} (h : _root_.Go.RowKit.Below w.heap.size w W1) (k : _root_.Go.RowKit.Below W1.heap.size W1 W2) : _root_.Go.RowKit.Below w.heap.size w W2 := h.trans (k.mono h.size)
set_option maxHeartbeats 1600000 in
theorem walk_fixedBack (a0 : Int) (s : ByteArray) (p0 : -9223372036854775808 ≤ a0) (p1 : a0 ≤ 9223372036854775807) (hs : s.size ≤ 9223372036854775807) (w : World) :
    Calls Try.prog 9 #[.int .i64 a0, .string s] w fun e w' => e = .returned (.bool true) ∧ _root_.Go.RowKit.Below w.heap.size w w' := by
  by_cases h100 : 100 < s.size
  · have t1 : (100 : Int) < (s.size : Int) := by omega
    go_enter Try.func9, Try.ntmps9
    go_wp2_with fail
    refine (alive_any _).mono ?_
    rintro e w' ⟨rfl, n1, rfl⟩
    go_wp2_with fail
    go_ret
    exact ⟨rfl, bdrew0 _ _ _⟩
  · have t1 : ¬ (100 : Int) < (s.size : Int) := by omega
    have hT := fun w => text_any a0 w p0 p1
    have hP := fun w => parse_any s w (by omega)
    rcases pv_ok s with ⟨h1, h2, h3⟩ | ⟨h1, h2⟩
    · obtain ⟨c0, c1⟩ := (Fm.may_iff _).1 h3
      have hU := fun w => text_any (pv s) w (by omega) (by omega)
      rw [h3] at hU
      simp only [if_true] at hU
      rw [h2] at hU
      rw [h1] at hP
      generalize pv s = c at *
      clear h1 h2 h3
      cases hm : Fm.mayB a0 with
      | true =>
        rw [hm] at hT
        simp only [if_true] at hT
        have hQ := fun w => parse_any (bstr (tx a0)) w (by rw [bstr_size]; have := tx_len a0; omega)
        rw [(pv_tx a0 hm).1, (pv_tx a0 hm).2] at hQ
        generalize bstr (tx a0) = t at *
        clear hm
        go_enter Try.func9, Try.ntmps9
        go_wp2_with fail
        refine (alive_any _).mono ?_
        rintro e w' ⟨rfl, n1, rfl⟩
        go_wp2_with fail
        refine (hT _).mono ?_
        rintro e W2 ⟨rfl, hB2⟩
        go_wp2_with fail
        refine (hQ _).mono ?_
        rintro e W3 ⟨rfl, hB3⟩
        go_wp2_with fail
        refine (is_yes _ _).mono ?_
        rintro e w' ⟨rfl, rfl⟩
        go_wp2_with fail
        refine (hP _).mono ?_
        rintro e W4 ⟨rfl, hB4⟩
        go_wp2_with fail
        refine (hU _).mono ?_
        rintro e W5 ⟨rfl, hB5⟩
        go_wp2_with fail
        go_ret
        exact ⟨rfl, bdrew n1 (bnext (bnext (bnext hB2 hB3) hB4) hB5)⟩
      | false =>
        rw [hm] at hT
        simp only [Bool.false_eq_true, if_false] at hT
        clear hm
        go_enter Try.func9, Try.ntmps9
        go_wp2_with fail
        refine (alive_any _).mono ?_
        rintro e w' ⟨rfl, n1, rfl⟩
        go_wp2_with fail
        refine (hT _).mono ?_
        rintro e W2 ⟨rfl, hB2⟩
        go_wp2_with fail
        refine (hP _).mono ?_
        rintro e W3 ⟨rfl, hB3⟩
        go_wp2_with fail
        refine (hU _).mono ?_
        rintro e W4 ⟨rfl, hB4⟩
        go_wp2_with fail
        go_ret
        exact ⟨rfl, bdrew n1 (bnext (bnext hB2 hB3) hB4)⟩
    · rw [h1, h2] at hP
      clear h1 h2
      cases hm : Fm.mayB a0 with
      | true =>
        rw [hm] at hT
        simp only [if_true] at hT
        have hQ := fun w => parse_any (bstr (tx a0)) w (by rw [bstr_size]; have := tx_len a0; omega)
        rw [(pv_tx a0 hm).1, (pv_tx a0 hm).2] at hQ
        generalize bstr (tx a0) = t at *
        clear hm
        go_enter Try.func9, Try.ntmps9
        go_wp2_with fail
        refine (alive_any _).mono ?_
        rintro e w' ⟨rfl, n1, rfl⟩
        go_wp2_with fail
        refine (hT _).mono ?_
        rintro e W2 ⟨rfl, hB2⟩
        go_wp2_with fail
        refine (hQ _).mono ?_
        rintro e W3 ⟨rfl, hB3⟩
        go_wp2_with fail
        refine (is_yes _ _).mono ?_
        rintro e w' ⟨rfl, rfl⟩
        go_wp2_with fail
        refine (hP _).mono ?_
        rintro e W4 ⟨rfl, hB4⟩
        go_wp2_with fail
        go_ret
        exact ⟨rfl, bdrew n1 (bnext (bnext hB2 hB3) hB4)⟩
      | false =>
        rw [hm] at hT
        simp only [Bool.false_eq_true, if_false] at hT
        clear hm
        go_enter Try.func9, Try.ntmps9
        go_wp2_with fail
        refine (alive_any _).mono ?_
        rintro e w' ⟨rfl, n1, rfl⟩
        go_wp2_with fail
        refine (hT _).mono ?_
        rintro e W2 ⟨rfl, hB2⟩
        go_wp2_with fail
        refine (hP _).mono ?_
        rintro e W3 ⟨rfl, hB3⟩
        go_wp2_with fail
        go_ret
        exact ⟨rfl, bdrew n1 (bnext hB2 hB3)⟩
end Go.Proofs.Ytabfdhecbbemjaa.Fx
