/- pack's writer: its state; what is wrong with it; a new one. -/
import Derived.Test.YtpbidfmijliehaaProg
import Derived.Test.YtpbidfmijliehaaAw
set_option linter.unusedVariables false
set_option linter.unusedSimpArgs false
namespace Go.Proofs.Ytpbidfmijliehaa.Fx
open Go Go.RowKit
/-- why nothing can be done with a writer or a reader -/
def fl (made lost : Bool) : Int := if made then (if lost then 50 else 0) else 1
theorem store_fault (p : Nat) (made lost : Bool) (w : World) (c0 : w.cell? ⟨p, 0, none⟩ = some (.bool made)) (c1 : w.cell? ⟨p, 1, none⟩ = some (.bool lost)) :
    Calls Try.prog 67 #[.pointer (some ⟨p, 0, none⟩)] w fun e w' => e = .returned (.int .i64 (fl made lost)) ∧ w = w' := by
  cases made with
  | false =>
    go_enter Try.func67, Try.ntmps67
    go_wp2_with fail
    go_ret
    exact ⟨rfl, rfl⟩
  | true =>
    cases lost with
    | true =>
      go_enter Try.func67, Try.ntmps67
      go_wp2_with fail
      go_ret
      exact ⟨rfl, rfl⟩
    | false =>
      go_enter Try.func67, Try.ntmps67
      go_wp2_with fail
      go_ret
      exact ⟨rfl, rfl⟩
theorem writer_fault (p : Nat) (made lost : Bool) (w : World) (c0 : w.cell? ⟨p, 0, none⟩ = some (.bool made)) (c1 : w.cell? ⟨p, 1, none⟩ = some (.bool lost)) :
    Calls Try.prog 43 #[.pointer (some ⟨p, 0, none⟩)] w fun e w' => e = .returned (.int .i64 (fl made lost)) ∧ w = w' := by
  have H0 := store_fault p made lost w c0 c1
  clear c0 c1
  generalize fl made lost = z at *
  have H := Lib.hid H0
  clear H0
  go_enter Try.func43, Try.ntmps43
  go_wp2_with fail
  refine H.out.mono ?_
  rintro e w1 ⟨rfl, rfl⟩
  go_wp2_with fail
  go_ret
  exact ⟨rfl, rfl⟩
theorem reader_fault (p : Nat) (made lost : Bool) (w : World) (c0 : w.cell? ⟨p, 0, none⟩ = some (.bool made)) (c1 : w.cell? ⟨p, 1, none⟩ = some (.bool lost)) :
    Calls Try.prog 58 #[.pointer (some ⟨p, 0, none⟩)] w fun e w' => e = .returned (.int .i64 (fl made lost)) ∧ w = w' := by
  have H0 := store_fault p made lost w c0 c1
  clear c0 c1
  generalize fl made lost = z at *
  have H := Lib.hid H0
  clear H0
  go_enter Try.func58, Try.ntmps58
  go_wp2_with fail
  refine H.out.mono ?_
  rintro e w1 ⟨rfl, rfl⟩
  go_wp2_with fail
  go_ret
  exact ⟨rfl, rfl⟩
/-- of none -/
theorem writer_nil (w : World) : Calls Try.prog 43 #[.pointer none] w fun e w' => e = .returned (.int .i64 1) ∧ w = w' := by
  go_enter Try.func43, Try.ntmps43
  go_wp2_with fail
  go_ret
  exact ⟨rfl, rfl⟩
theorem reader_nil (w : World) : Calls Try.prog 58 #[.pointer none] w fun e w' => e = .returned (.int .i64 1) ∧ w = w' := by
  go_enter Try.func58, Try.ntmps58
  go_wp2_with fail
  go_ret
  exact ⟨rfl, rfl⟩
/-- pack's writer at p: its bytes, in v, from block B on, and whether it is spoilt -/
structure PW (B p : Nat) (v : Value) (l : List Nat) (lost : Bool) (W : World) : Prop where
  row : W.heap[p]? = some (.cells #[.bool true, .bool lost, v] 65 (0, 0))
  own : Own W B v l
theorem new_writer (w : World) : Calls Try.prog 9 #[] w fun e w' =>
    e = .returned (.pointer (some ⟨w.heap.size, 0, none⟩)) ∧ PW (w.heap.size + 1) w.heap.size (.slice none 0 0) [] false w' ∧ w' = w.alloc (.cells #[.bool true, .bool false, .slice none 0 0] 65) := by
  go_enter Try.func9, Try.ntmps9
  go_wp2_with fail
  go_ret
  exact ⟨rfl, ⟨heap_alloc_new _ _, World.ownsRow_nil _ _ _ _⟩, rfl⟩
/-- what a write turns: the writer's block, and the row of its bytes, which may be a new one behind it -/
structure Turn (p : Nat) (v v' : Value) (w w' : World) : Prop where
  os : w'.os = w.os
  tape : w'.tape = w.tape
  output : w'.output = w.output
  size : w.heap.size ≤ w'.heap.size
  block : ∀ k, k < w.heap.size → k ≠ p → v.ownBlock ≠ some k → w'.heap[k]? = w.heap[k]?
  own : ∀ k, v'.ownBlock = some k → v.ownBlock = some k ∨ w.heap.size ≤ k
theorem Turn.refl (p : Nat) (v : Value) (w : World) : Turn p v v w w := ⟨rfl, rfl, rfl, Nat.le_refl _, fun _ _ _ _ => rfl, fun _ h => .inl h⟩
theorem Turn.trans {p : Nat} {v v' v'' : Value} {w w' w'' : World} (s : Turn p v v' w w') (t : Turn p v' v'' w' w'') : Turn p v v'' w w'' :=
  ⟨t.os.trans s.os, t.tape.trans s.tape, t.output.trans s.output, Nat.le_trans s.size t.size, fun k hk hp hv => by
    rw [t.block k (Nat.lt_of_lt_of_le hk s.size) hp (fun h => (s.own k h).elim hv (by omega)), s.block k hk hp hv], fun k hk => by
    rcases t.own k hk with h | h
    · exact s.own k h
    · exact .inr (Nat.le_trans s.size h)⟩
theorem Turn.of_below {p : Nat} {v : Value} {w w' : World} (h : Below w.heap.size w w') : Turn p v v w w' := ⟨h.os, h.tape, h.output, h.size, fun k hk _ _ => h.block k hk, fun _ h => .inl h⟩
theorem Turn.set (p j : Nat) (v u : Value) (w : World) : Turn p v v w (w.setCell ⟨p, j, none⟩ u) :=
  ⟨rfl, rfl, rfl, by simp, fun k hk hp _ => heap_setCell_other _ _ _ _ hp, fun _ h => .inl h⟩
theorem Turn.of_grown {p : Nat} {v v' : Value} {w w' : World} (hg : w.grownBy w' v.ownBlock) (h : ∀ k, v'.ownBlock = some k → v.ownBlock = some k ∨ w.heap.size ≤ k) : Turn p v v' w w' :=
  ⟨hg.os, hg.tape, hg.output, hg.size, fun k hk _ hv => hg.block k hk (fun e => hv e.symm), h⟩
end Go.Proofs.Ytpbidfmijliehaa.Fx
