/- The reference's Text, walked. -/
import Derived.Test.YtabfdhecbbemjaaProg
import Derived.Test.YtabfdhecbbemjaaRdig
import Derived.Test.YtabfdhecbbemjaaRef
import Derived.WalkKit
import Derived.Lib.Hide
set_option linter.unusedVariables false
set_option linter.unusedSimpArgs false
namespace Go.Proofs.Ytabfdhecbbemjaa.Fx
open Go Go.RowKit Go.Shelf
theorem bn {w W1 W2 : World} (h : _root_.Go.RowKit.Below w.heap.size w W1) (k : _root_.Go.RowKit.Below W1.heap.size W1 W2) : _root_.Go.RowKit.Below w.heap.size w W2 := h.trans (k.mono h.size)
theorem add_any_str (a b : List Nat) (c : ByteArray) (h : a.length + b.length ≤ 1000) (hc : bstr (a ++ b) = c) (w : World) : (Op.stringOp .add (bstr a) (bstr b)).run Try.prog w = .ok (.string c) w := by
  rw [add_str a b h, hc]
set_option maxHeartbeats 1600000 in
theorem rtext_any (a : Int) (w : World) (a0 : -9223372036854775808 ≤ a) (a1 : a ≤ 9223372036854775807) :
    Calls Try.prog 24 #[.int .i64 a] w fun e w' => e = .returned (.tuple #[.string (if Fm.mayB a = true then bstr (tx a) else ⟨#[]⟩), .int .i64 (if Fm.mayB a = true then 0 else 10)]) ∧ _root_.Go.RowKit.Below w.heap.size w w' := by
  have hM := fun w => rmay_any a w
  cases hm : Fm.mayB a with
  | true =>
    rw [hm] at hM
    simp only [if_true]
    obtain ⟨b0, b1⟩ := (Fm.may_iff a).1 hm
    clear hm
    obtain ⟨s, hs⟩ : ∃ s, a.natAbs = s := ⟨_, rfl⟩
    have ht : tx a = (if a < 0 then [45] else []) ++ decs (s / 65536) ++ [46] ++ [num (s % 65536 / 4096)] ++ [num (s % 65536 / 256 % 16)] ++ [num (s % 65536 / 16 % 16)] ++ [num (s % 65536 % 16)] := by
      rw [tx, hs, bodyT, hex4]
      have e1 : s % 65536 / 4096 = s / 4096 % 16 := by omega
      have e2 : s % 65536 / 256 % 16 = s / 256 % 16 := by omega
      have e3 : s % 65536 / 16 % 16 = s / 16 % 16 := by omega
      have e4 : s % 65536 % 16 = s % 16 := by omega
      rw [e1, e2, e3, e4]
      simp
    have hd := fun w => digs_any (s / 65536) w (by omega)
    have h1 := fun w => hex_any (s % 65536 / 4096) w (by omega)
    have h2 := fun w => hex_any (s % 65536 / 256 % 16) w (by omega)
    have h3 := fun w => hex_any (s % 65536 / 16 % 16) w (by omega)
    have h4 := fun w => hex_any (s % 65536 % 16) w (by omega)
    have hl := dS_len (s / 65536)
    have c0 : ((s / 65536 : Nat) : Int) = (s : Int) / 65536 := by omega
    have c1 : ((s % 65536 / 4096 : Nat) : Int) = (s : Int) % 65536 / 4096 := by omega
    have c2 : ((s % 65536 / 256 % 16 : Nat) : Int) = (s : Int) % 65536 / 256 % 16 := by omega
    have c3 : ((s % 65536 / 16 % 16 : Nat) : Int) = (s : Int) % 65536 / 16 % 16 := by omega
    have c4 : ((s % 65536 % 16 : Nat) : Int) = (s : Int) % 16 := by omega
    rw [c0] at hd; rw [c1] at h1; rw [c2] at h2; rw [c3] at h3; rw [c4] at h4
    clear c0 c1 c2 c3 c4
    rw [ht]
    clear ht
    generalize decs (s / 65536) = D at *
    generalize num (s % 65536 / 4096) = d1 at *
    generalize num (s % 65536 / 256 % 16) = d2 at *
    generalize num (s % 65536 / 16 % 16) = d3 at *
    generalize num (s % 65536 % 16) = d4 at *
    have key : ∀ P : List Nat, P.length ≤ 1 → (∀ w, (Op.stringOp .add (bstr P) (bstr D)).run Try.prog w = .ok (.string (bstr (P ++ D))) w) ∧ (∀ w, (Op.stringOp .add (bstr (P ++ D)) ⟨#[46]⟩).run Try.prog w = .ok (.string (bstr (P ++ D ++ [46]))) w)
      ∧ (∀ w, (Op.stringOp .add (bstr (P ++ D ++ [46])) (bstr [d1])).run Try.prog w = .ok (.string (bstr (P ++ D ++ [46] ++ [d1]))) w)
      ∧ (∀ w, (Op.stringOp .add (bstr (P ++ D ++ [46] ++ [d1])) (bstr [d2])).run Try.prog w = .ok (.string (bstr (P ++ D ++ [46] ++ [d1] ++ [d2]))) w)
      ∧ (∀ w, (Op.stringOp .add (bstr (P ++ D ++ [46] ++ [d1] ++ [d2])) (bstr [d3])).run Try.prog w = .ok (.string (bstr (P ++ D ++ [46] ++ [d1] ++ [d2] ++ [d3]))) w)
      ∧ (∀ w, (Op.stringOp .add (bstr (P ++ D ++ [46] ++ [d1] ++ [d2] ++ [d3])) (bstr [d4])).run Try.prog w = .ok (.string (bstr (P ++ D ++ [46] ++ [d1] ++ [d2] ++ [d3] ++ [d4]))) w) := by
      intro P hP
      refine ⟨add_str _ _ ?_, add_str _ [46] ?_, add_str _ _ ?_, add_str _ _ ?_, add_str _ _ ?_, add_str _ _ ?_⟩ <;> (try simp only [List.length_append, List.length_cons, List.length_nil]) <;> omega
    by_cases hneg : a < 0
    · have hsa : a = -(s : Int) := by omega
      simp only [if_pos hneg]
      clear hs
      obtain ⟨k1, k2, k3, k4, k5, k6⟩ := key [45] (by simp)
      rw [show bstr [45] = ⟨#[45]⟩ from rfl] at k1
      clear key
      subst hsa
      generalize bstr D = x0 at *
      generalize bstr ([45] ++ D) = x1 at *
      generalize bstr ([45] ++ D ++ [46]) = x2 at *
      generalize bstr ([45] ++ D ++ [46] ++ [d1]) = x3 at *
      generalize bstr ([45] ++ D ++ [46] ++ [d1] ++ [d2]) = x4 at *
      generalize bstr ([45] ++ D ++ [46] ++ [d1] ++ [d2] ++ [d3]) = x5 at *
      generalize bstr ([45] ++ D ++ [46] ++ [d1] ++ [d2] ++ [d3] ++ [d4]) = x6 at *
      generalize bstr [d1] = y1 at *
      generalize bstr [d2] = y2 at *
      generalize bstr [d3] = y3 at *
      generalize bstr [d4] = y4 at *
      clear hl
      go_enter Try.func24, Try.ntmps24
      go_wp2_with fail
      refine (hM _).mono ?_
      rintro e w' ⟨rfl, rfl⟩
      go_wp2_with fail
      refine (hd _).mono ?_
      rintro e W1 ⟨rfl, B1⟩
      go_wp2_with (first | rw [k1] | rw [k2])
      refine (h1 _).mono ?_
      rintro e W2 ⟨rfl, B2⟩
      go_wp2_with (first | rw [k3])
      refine (h2 _).mono ?_
      rintro e W3 ⟨rfl, B3⟩
      go_wp2_with (first | rw [k4])
      refine (h3 _).mono ?_
      rintro e W4 ⟨rfl, B4⟩
      go_wp2_with (first | rw [k5])
      refine (h4 _).mono ?_
      rintro e W5 ⟨rfl, B5⟩
      go_wp2_with (first | rw [k6])
      go_ret2
      exact ⟨rfl, bn (bn (bn (bn B1 B2) B3) B4) B5⟩
    · have hsa : a = (s : Int) := by omega
      simp only [if_neg hneg]
      clear hs
      obtain ⟨k1, k2, k3, k4, k5, k6⟩ := key [] (by simp)
      rw [show bstr [] = ⟨#[]⟩ from rfl] at k1
      clear key
      subst hsa
      generalize bstr D = x0 at *
      generalize bstr ([] ++ D) = x1 at *
      generalize bstr ([] ++ D ++ [46]) = x2 at *
      generalize bstr ([] ++ D ++ [46] ++ [d1]) = x3 at *
      generalize bstr ([] ++ D ++ [46] ++ [d1] ++ [d2]) = x4 at *
      generalize bstr ([] ++ D ++ [46] ++ [d1] ++ [d2] ++ [d3]) = x5 at *
      generalize bstr ([] ++ D ++ [46] ++ [d1] ++ [d2] ++ [d3] ++ [d4]) = x6 at *
      generalize bstr [d1] = y1 at *
      generalize bstr [d2] = y2 at *
      generalize bstr [d3] = y3 at *
      generalize bstr [d4] = y4 at *
      clear hl
      go_enter Try.func24, Try.ntmps24
      go_wp2_with fail
      refine (hM _).mono ?_
      rintro e w' ⟨rfl, rfl⟩
      go_wp2_with fail
      refine (hd _).mono ?_
      rintro e W1 ⟨rfl, B1⟩
      go_wp2_with (first | rw [k1] | rw [k2])
      refine (h1 _).mono ?_
      rintro e W2 ⟨rfl, B2⟩
      go_wp2_with (first | rw [k3])
      refine (h2 _).mono ?_
      rintro e W3 ⟨rfl, B3⟩
      go_wp2_with (first | rw [k4])
      refine (h3 _).mono ?_
      rintro e W4 ⟨rfl, B4⟩
      go_wp2_with (first | rw [k5])
      refine (h4 _).mono ?_
      rintro e W5 ⟨rfl, B5⟩
      go_wp2_with (first | rw [k6])
      go_ret2
      exact ⟨rfl, bn (bn (bn (bn B1 B2) B3) B4) B5⟩
  | false =>
    rw [hm] at hM
    simp only [Bool.false_eq_true, if_false]
    clear hm
    go_enter Try.func24, Try.ntmps24
    go_wp2_with fail
    refine (hM _).mono ?_
    rintro e w' ⟨rfl, rfl⟩
    go_wp2_with fail
    go_ret2
    exact ⟨rfl, _root_.Go.RowKit.Below.refl _ _⟩
end Go.Proofs.Ytabfdhecbbemjaa.Fx
