/- The other calls of pack's writer, walked. -/
import Derived.Test.YtpbidfmijliehaaProg
import Derived.Test.YtpbidfmijliehaaBx
set_option linter.unusedVariables false
set_option linter.unusedSimpArgs false
namespace Go.Proofs.Ytpbidfmijliehaa.Fx
open Go Go.RowKit
theorem PW.cells {B p : Nat} {v : Value} {l : List Nat} {lost : Bool} {W : World} (h : PW B p v l lost W) : W.cell? ⟨p, 0, none⟩ = some (.bool true) ∧ W.cell? ⟨p, 1, none⟩ = some (.bool lost) ∧ W.cell? ⟨p, 2, none⟩ = some v ∧ W.frozen? ⟨p, 1, none⟩ = false ∧ W.frozen? ⟨p, 2, none⟩ = false :=
  ⟨by rw [cell_of_row _ _ _ _ _ _ h.row]; rfl, by rw [cell_of_row _ _ _ _ _ _ h.row]; rfl, by rw [cell_of_row _ _ _ _ _ _ h.row]; rfl, frozen_row h.row, frozen_row h.row⟩
theorem PW.below {B p : Nat} {v : Value} {l : List Nat} {lost : Bool} {W X : World} (h : PW B p v l lost W) (hb : Below W.heap.size W X) : PW B p v l lost X := ⟨keep_row hb h.row, h.own.below hb⟩
theorem PW.spoil {B p : Nat} {v : Value} {l : List Nat} {lost : Bool} {W : World} (h : PW B p v l lost W) : PW B p v l true (W.setCell ⟨p, 1, none⟩ (.bool true)) :=
  ⟨heap_setCell_same _ _ 1 _ _ (.bool true) h.row, h.own.grown (grown_cell _ _ _ _) (fun k hk e => h.own.apart h.row (by decide) k hk (Option.some.inj e))⟩
theorem PW.lt {B p : Nat} {v : Value} {l : List Nat} {lost : Bool} {W : World} (h : PW B p v l lost W) : p < W.heap.size := (Array.getElem?_eq_some_iff.1 h.row).1
theorem puint_off (B p n : Nat) (v : Value) (l : List Nat) (w : World) (hw : PW B p v l true w) :
    Calls Try.prog 10 #[.pointer (some ⟨p, 0, none⟩), .int .u64 (n : Int)] w (PCall B p v l true w) := by
  have hb : Below w.heap.size w (w.alloc (.cells #[.pointer (some ⟨p, 0, none⟩)] 24)) := (Below.refl _ w).alloc (Nat.le_refl _) _
  obtain ⟨d0, d1, _⟩ := (hw.below hb).cells
  have HF := Lib.hid (writer_fault p true true _ d0 d1)
  have HE : Hid (PCall B p v l true w (.returned undef) (w.alloc (.cells #[.pointer (some ⟨p, 0, none⟩)] 24))) := Lib.hid ⟨rfl, v, hw.below hb, Turn.of_below hb⟩
  clear hw hb d0 d1
  refine (callsIn_wide (n := 5)).1 ?_
  refine callsIn_of_wp_marks Try.func10 rfl trivial ?_ rfl
  simp only [Try.ntmps10, List.size_toArray, List.length_cons, List.length_nil, Nat.reduceAdd, Nat.reduceSub, Array.replicate_succ, Array.replicate_zero, List.push_toArray, List.append_toArray, List.nil_append, List.cons_append]
  refine wpIn_wide.2 ?_
  go_wp2_with fail
  refine HF.out.mono ?_
  rintro e w1 ⟨rfl, rfl⟩
  simp only [fl, if_true]
  clear HF
  go_wp2_with fail
  exact ⟨_, results_none rfl _ _ _, HE.out⟩
theorem puint_any (B p n : Nat) (v : Value) (l : List Nat) (lost : Bool) (w : World) (hB : B ≤ w.heap.size) (hn : n < 18446744073709551616) (hlen : l.length ≤ 100000000) (hw : PW B p v l lost w) :
    Calls Try.prog 10 #[.pointer (some ⟨p, 0, none⟩), .int .u64 (n : Int)] w (PCall B p v (putL l (form n) lost true) (putB lost true) w) := by
  cases lost with
  | true => exact puint_off B p n v l w hw
  | false => exact puint_on B p n v l w hB hn hlen hw
theorem unsigned_any (z : Int) (w : World) (h0 : -9223372036854775808 ≤ z) (h1 : z ≤ 9223372036854775807) :
    Calls Try.prog 47 #[.int .i64 z] w fun e w' => e = .returned (.int .u64 ((fold z : Nat) : Int)) ∧ w = w' := by
  by_cases h : 0 ≤ z
  · have e : ((fold z : Nat) : Int) = 2 * z := by unfold fold; rw [if_pos h]; omega
    rw [e]
    have h2 : ¬ z < 0 := by omega
    go_enter Try.func47, Try.ntmps47
    go_wp2_with fail
    go_ret
    refine ⟨congrArg _ ?_, rfl⟩
    show Value.int .u64 _ = _
    congr 1
    (try simp only [IntKind.wrap_u64])
    (try omega)
  · have e : ((fold z : Nat) : Int) = 2 * (-(z + 1)) + 1 := by unfold fold; rw [if_neg h]; omega
    rw [e]
    have h2 : z < 0 := by omega
    go_enter Try.func47, Try.ntmps47
    go_wp2_with fail
    go_ret
    refine ⟨congrArg _ ?_, rfl⟩
    show Value.int .u64 _ = _
    congr 1
    (try simp only [IntKind.wrap_u64])
    (try omega)
set_option maxRecDepth 100000 in
set_option maxHeartbeats 1000000 in
theorem pint_any (B p : Nat) (z : Int) (v : Value) (l : List Nat) (lost : Bool) (w : World) (hB : B ≤ w.heap.size) (h0 : -9223372036854775808 ≤ z) (h1 : z ≤ 9223372036854775807) (hlen : l.length ≤ 100000000) (hw : PW B p v l lost w) :
    Calls Try.prog 12 #[.pointer (some ⟨p, 0, none⟩), .int .i64 z] w (PCall B p v (putL l (form (fold z)) lost true) (putB lost true) w) := by
  have HF := Lib.hid (fun w => unsigned_any z w h0 h1)
  have HP := Lib.hid (puint_any B p (fold z) v l lost w hB (fold_lt h0 h1) hlen hw)
  clear hw h0 h1 hlen
  generalize fold z = n at *
  go_enter Try.func12, Try.ntmps12
  go_wp2_with fail
  refine (HF.out _).mono ?_
  rintro e w0 ⟨rfl, rfl⟩
  go_wp2_with fail
  refine HP.out.mono ?_
  rintro e w2 ⟨rfl, hz⟩
  have HE := Lib.hid hz
  clear hz HP
  go_wp2_with fail
  exact bodyPost_ret (results_none rfl _ _ _) rfl ⟨rfl, HE.out⟩
set_option maxRecDepth 100000 in
set_option maxHeartbeats 1000000 in
theorem pbit_any (B p : Nat) (is : Bool) (v : Value) (l : List Nat) (lost : Bool) (w : World) (hB : B ≤ w.heap.size) (hlen : l.length ≤ 100000000) (hw : PW B p v l lost w) :
    Calls Try.prog 16 #[.pointer (some ⟨p, 0, none⟩), .bool is] w (PCall B p v (putL l [if is = true then 1 else 0] lost true) (putB lost true) w) := by
  have hp := puint_any B p (if is then 1 else 0) v l lost w hB (by cases is <;> decide) hlen hw
  rw [form_small (by cases is <;> decide)] at hp
  have HP := Lib.hid hp
  clear hp
  clear hw hlen
  cases is with
  | true =>
    simp only [if_true, Int.natCast_one] at HP ⊢
    go_enter Try.func16, Try.ntmps16
    go_wp2_with fail
    refine HP.out.mono ?_
    rintro e w2 ⟨rfl, hz⟩
    have HE := Lib.hid hz
    clear hz HP
    go_wp2_with fail
    exact bodyPost_ret (results_none rfl _ _ _) rfl ⟨rfl, HE.out⟩
  | false =>
    simp only [Bool.false_eq_true, if_false, Int.natCast_zero] at HP ⊢
    go_enter Try.func16, Try.ntmps16
    go_wp2_with fail
    refine HP.out.mono ?_
    rintro e w2 ⟨rfl, hz⟩
    have HE := Lib.hid hz
    clear hz HP
    go_wp2_with fail
    exact bodyPost_ret (results_none rfl _ _ _) rfl ⟨rfl, HE.out⟩
end Go.Proofs.Ytpbidfmijliehaa.Fx
