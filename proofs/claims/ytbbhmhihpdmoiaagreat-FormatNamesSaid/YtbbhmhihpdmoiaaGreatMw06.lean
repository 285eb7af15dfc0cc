import Derived.Laws.Rows
import Derived.Test.YtbbhmhihpdmoiaaGreatProg
import Derived.Test.YtbbhmhihpdmoiaaGreatMw04
import Derived.Test.YtbbhmhihpdmoiaaGreatMw05
set_option linter.unusedVariables false
set_option linter.unusedSimpArgs false
namespace Go.Proofs.YtbbhmhihpdmoiaaGreat.Pk
open Go.Proofs.YtbbhmhihpdmoiaaGreat.Fx (HeldG Sound below_mono give_done give_pure give_region give_take okTake)
open Go Go.RowKit
structure Sok (o : Option Addr) (c : Nat) (l : List Nat) : Prop where
 le : l.length ≤ c
 up : c ≤ 9223372036854775807
 nil : o = none → c = 0
 spot : ∀ a, o = some a → a.spot = none
structure PR (o : Option Addr) (c : Nat) (l : List Nat) (p at0 : Nat) (lost : Bool) (W : World) : Prop where
 row : W.heap[p]? = some (.cells #[.bool true, .bool lost, .slice o l.length c, .int .i64 (at0 : Int)] 144 (0, 0))
 bs : Bs W o l
 ok : Sok o c l
theorem PR.below {o : Option Addr} {c : Nat} {l : List Nat} {p at0 : Nat} {lost : Bool} {W X : World} (h : PR o c l p at0 lost W) (hb : Below W.heap.size W X) : PR o c l p at0 lost X := ⟨keep_row hb h.row, h.bs.below hb, h.ok⟩
theorem PR.facts {o : Option Addr} {c : Nat} {l : List Nat} {p at0 : Nat} {lost : Bool} {W : World} (h : PR o c l p at0 lost W) :
  W.cell? ⟨p, 0, none⟩ = some (.bool true) ∧ W.cell? ⟨p, 1, none⟩ = some (.bool lost) ∧ W.cell? ⟨p, 2, none⟩ = some (.slice o l.length c) ∧ W.cell? ⟨p, 3, none⟩ = some (.int .i64 (at0 : Int)) ∧ W.frozen? ⟨p, 1, none⟩ = false ∧ W.frozen? ⟨p, 3, none⟩ = false :=
 ⟨by rw [cell_of_row _ _ _ _ _ _ h.row]; rfl, by rw [cell_of_row _ _ _ _ _ _ h.row]; rfl, by rw [cell_of_row _ _ _ _ _ _ h.row]; rfl, by rw [cell_of_row _ _ _ _ _ _ h.row]; rfl, frozen_row h.row, frozen_row h.row⟩
theorem PR.lt {o : Option Addr} {c : Nat} {l : List Nat} {p at0 : Nat} {lost : Bool} {W : World} (h : PR o c l p at0 lost W) : p < W.heap.size := (Array.getElem?_eq_some_iff.1 h.row).1
theorem PR.apart {o : Option Addr} {c : Nat} {l : List Nat} {p at0 : Nat} {lost : Bool} {W : World} (h : PR o c l p at0 lost W) : ∀ b off, o = some ⟨b, off, none⟩ → 0 < l.length → b ≠ p := by
 rintro b off e hm rfl
 obtain ⟨b', off', e', hc⟩ := h.bs 0 hm
 rw [e] at e'
 cases e'
 rw [cell_of_row _ _ _ _ _ _ h.row] at hc
 obtain h0 | h0 | h0 | h0 | h0 : off + 0 = 0 ∨ off + 0 = 1 ∨ off + 0 = 2 ∨ off + 0 = 3 ∨ 4 ≤ off + 0 := by omega
 ·rw [h0] at hc
  simp at hc
 ·rw [h0] at hc
  simp at hc
 ·rw [h0] at hc
  simp at hc
 ·rw [h0] at hc
  simp at hc
 ·rw [Array.getElem?_eq_none (by simpa using h0)] at hc
  cases hc
theorem PR.goto {o : Option Addr} {c : Nat} {l : List Nat} {p at0 : Nat} {lost : Bool} {W : World} (h : PR o c l p at0 lost W) (a : Nat) (z : Int) (hz : z = (a : Int)) : PR o c l p a lost (W.setCell ⟨p, 3, none⟩ (.int .i64 z)) := by
 subst hz
 exact ⟨heap_setCell_same _ _ 3 _ _ (.int .i64 (a : Int)) h.row, h.bs.set _ h.apart, h.ok⟩
theorem PR.spoil {o : Option Addr} {c : Nat} {l : List Nat} {p at0 : Nat} {lost : Bool} {W : World} (h : PR o c l p at0 lost W) : PR o c l p at0 true (W.setCell ⟨p, 1, none⟩ (.bool true)) :=
 ⟨heap_setCell_same _ _ 1 _ _ (.bool true) h.row, h.bs.set _ h.apart, h.ok⟩
theorem PR.grown {o : Option Addr} {c : Nat} {l : List Nat} {p at0 : Nat} {lost : Bool} {W X : World} {row : Option Nat} (h : PR o c l p at0 lost W) (hg : W.grownBy X row) (hp : some p ≠ row) (hr : ∀ b off, o = some ⟨b, off, none⟩ → 0 < l.length → some b ≠ row) : PR o c l p at0 lost X :=
 ⟨by rw [hg.block p h.lt hp]; exact h.row, h.bs.grown hg hr, h.ok⟩
set_option maxRecDepth 100000 in
theorem pspoil_any (o : Option Addr) (c : Nat) (l : List Nat) (p at0 : Nat) (lost : Bool) (w : World) (h : PR o c l p at0 lost w) :
  Calls Tryz.prog 76 #[.pointer (some ⟨p, 0, none⟩)] w fun e w' => e = .returned undef ∧ PR o c l p at0 true w' ∧ w.grownBy w' (some p) := by
 obtain ⟨c0, c1, c2, c3, f1, f3⟩ := h.facts
 have HF := Lib.hid (reader_fault p true lost w c0 c1)
 cases lost with
 | true =>
  have HH := Lib.hid h
  clear h
  go_enter Tryz.func76, Tryz.ntmps76
  go_wp2_with fail
  refine HF.out.mono ?_
  rintro e w1 ⟨rfl, rfl⟩
  simp only [fl, if_true]
  go_wp2_with fail
  go_end0
  exact ⟨rfl, HH.out, World.grownBy.refl _ _⟩
 | false =>
  have HH := Lib.hid h.spoil
  clear h
  go_enter Tryz.func76, Tryz.ntmps76
  go_wp2_with fail
  refine HF.out.mono ?_
  rintro e w1 ⟨rfl, rfl⟩
  simp only [fl, if_true, Bool.false_eq_true, if_false]
  go_wp2_with fail
  go_end0
  exact ⟨rfl, HH.out, grown_cell _ _ _ _⟩
def lfV (lost : Bool) (l : List Nat) (at0 : Nat) : Nat := if lost = true then 0 else l.length - at0
set_option maxRecDepth 100000 in
set_option maxHeartbeats 1000000 in
theorem pleft_any (o : Option Addr) (c : Nat) (l : List Nat) (p at0 : Nat) (lost : Bool) (w : World) (k : RdOk l at0) (h : PR o c l p at0 lost w) :
  Calls Tryz.prog 84 #[.pointer (some ⟨p, 0, none⟩)] w fun e w' => e = .returned (.int .i64 ((lfV lost l at0 : Nat) : Int)) ∧ Below w.heap.size w w' := by
 obtain ⟨c0, c1, c2, c3, _, _⟩ := h.facts
 have HF := Lib.hid (reader_fault p true lost w c0 c1)
 have HR := Lib.hid h
 have k1 := k.len
 have k2 := k.at'
 clear h k
 cases lost with
 | true =>
  go_enter Tryz.func84, Tryz.ntmps84
  go_wp2_with fail
  refine HF.out.mono ?_
  rintro e w1 ⟨rfl, rfl⟩
  simp only [fl, if_true]
  go_wp2_with fail
  go_ret
  exact ⟨rfl, Below.refl _ _⟩
 | false =>
  have hlf : ((lfV false l at0 : Nat) : Int) = (l.length : Int) - (at0 : Int) := by unfold lfV; simp; omega
  rw [hlf]
  have HEK : Hid (IntKind.i64.wrap ((l.length : Int) - (at0 : Int)) = (l.length : Int) - (at0 : Int)) := Lib.hid (by rw [IntKind.wrap_i64]; omega)
  clear hlf
  go_enter Tryz.func84, Tryz.ntmps84
  go_wp2_with fail
  refine HF.out.mono ?_
  rintro e w1 ⟨rfl, rfl⟩
  simp only [fl, if_true, Bool.false_eq_true, if_false]
  clear HF c0 c1 c2 c3
  go_wp2_with fail
  rename_i K3 hK3
  refine (wpIn_wide (n := 5)).1 (give_region (S := fun X => Below w.heap.size w X) (Z := []) (by kernel_rfl) (by kernel_rfl) below_mono (fun d _ _ _ _ h => by cases d <;> exact h) (bdrew0 _ _ 1) (fun hG vw0 hw0 => ?_))
  refine give_pure [] 0 (?_) hG rfl (by kernel_rfl) hw0 (by kernel_rfl) ?_ ?_
  rotate_left
  ·intro wz hSw; (first | (go_simp; done) | (go_simp; with_reducible rfl))
  intro vw1 hw1
  clear hw0 vw0
  (try simp only [Act.put, List.getElem_toArray, List.getElem_cons_zero, List.getElem_cons_succ, List.setIfInBounds_toArray, List.set_cons_zero, List.set_cons_succ])
  refine give_pure [] 1 (?_) hG rfl (by kernel_rfl) hw1 (by kernel_rfl) ?_ ?_
  rotate_left
  ·intro wz hSw; (first | (go_simp; done) | (go_simp; with_reducible rfl))
  intro vw2 hw2
  clear hw1 vw1
  (try simp only [Act.put, List.getElem_toArray, List.getElem_cons_zero, List.getElem_cons_succ, List.setIfInBounds_toArray, List.set_cons_zero, List.set_cons_succ])
  refine give_pure [] 2 (?_) hG rfl (by kernel_rfl) hw2 (by kernel_rfl) ?_ ?_
  rotate_left
  ·intro wz hSw; (first | (go_simp; done) | (go_simp; with_reducible rfl))
  intro vw3 hw3
  clear hw2 vw2
  (try simp only [Act.put, List.getElem_toArray, List.getElem_cons_zero, List.getElem_cons_succ, List.setIfInBounds_toArray, List.set_cons_zero, List.set_cons_succ])
  refine give_pure [] 3 (?_) hG rfl (by kernel_rfl) hw3 (by kernel_rfl) ?_ ?_
  rotate_left
  ·intro wz hSw; (first | (go_simp; done) | (go_simp; with_reducible rfl))
  intro vw4 hw4
  clear hw3 vw3
  (try simp only [Act.put, List.getElem_toArray, List.getElem_cons_zero, List.getElem_cons_succ, List.setIfInBounds_toArray, List.set_cons_zero, List.set_cons_succ])
  refine give_pure [] 4 (.slice o l.length c) hG rfl (by kernel_rfl) hw4 (by kernel_rfl) ?_ ?_
  ·intro wz hSw; obtain ⟨c0, c1, c2, c3, _, _⟩ := (HR.out.below hSw).facts; (first | (go_simp; done) | (go_simp; with_reducible rfl))
  intro vw5 hw5
  clear hw4 vw4
  (try simp only [Act.put, List.getElem_toArray, List.getElem_cons_zero, List.getElem_cons_succ, List.setIfInBounds_toArray, List.set_cons_zero, List.set_cons_succ])
  refine give_pure [] 5 (?_) hG rfl (by kernel_rfl) hw5 (by kernel_rfl) ?_ ?_
  rotate_left
  ·intro wz hSw; (first | (go_simp; done) | (go_simp; with_reducible rfl))
  intro vw6 hw6
  clear hw5 vw5
  (try simp only [Act.put, List.getElem_toArray, List.getElem_cons_zero, List.getElem_cons_succ, List.setIfInBounds_toArray, List.set_cons_zero, List.set_cons_succ])
  refine give_pure [] 6 (?_) hG rfl (by kernel_rfl) hw6 (by kernel_rfl) ?_ ?_
  rotate_left
  ·intro wz hSw; (first | (go_simp; done) | (go_simp; with_reducible rfl))
  intro vw7 hw7
  clear hw6 vw6
  (try simp only [Act.put, List.getElem_toArray, List.getElem_cons_zero, List.getElem_cons_succ, List.setIfInBounds_toArray, List.set_cons_zero, List.set_cons_succ])
  refine give_pure [] 7 (?_) hG rfl (by kernel_rfl) hw7 (by kernel_rfl) ?_ ?_
  rotate_left
  ·intro wz hSw; (first | (go_simp; done) | (go_simp; with_reducible rfl))
  intro vw8 hw8
  clear hw7 vw7
  (try simp only [Act.put, List.getElem_toArray, List.getElem_cons_zero, List.getElem_cons_succ, List.setIfInBounds_toArray, List.set_cons_zero, List.set_cons_succ])
  refine give_pure [] 8 (?_) hG rfl (by kernel_rfl) hw8 (by kernel_rfl) ?_ ?_
  rotate_left
  ·intro wz hSw; (first | (go_simp; done) | (go_simp; with_reducible rfl))
  intro vw9 hw9
  clear hw8 vw8
  (try simp only [Act.put, List.getElem_toArray, List.getElem_cons_zero, List.getElem_cons_succ, List.setIfInBounds_toArray, List.set_cons_zero, List.set_cons_succ])
  refine give_pure [] 9 (.int .i64 (at0 : Int)) hG rfl (by kernel_rfl) hw9 (by kernel_rfl) ?_ ?_
  ·intro wz hSw; obtain ⟨c0, c1, c2, c3, _, _⟩ := (HR.out.below hSw).facts; (first | (go_simp; done) | (go_simp; with_reducible rfl))
  intro vw10 hw10
  clear hw9 vw9
  (try simp only [Act.put, List.getElem_toArray, List.getElem_cons_zero, List.getElem_cons_succ, List.setIfInBounds_toArray, List.set_cons_zero, List.set_cons_succ])
  refine give_pure [] 10 (.int .i64 ((l.length : Int) - (at0 : Int))) hG rfl (by kernel_rfl) hw10 (by kernel_rfl) ?_ ?_
  ·intro wz hSw; have ee := HEK.out; (first | (go_simp; done) | (go_simp; rw [ee]) | (go_simp; with_reducible rfl))
  intro vw11 hw11
  clear hw10 vw10
  (try simp only [Act.put, List.getElem_toArray, List.getElem_cons_zero, List.getElem_cons_succ, List.setIfInBounds_toArray, List.set_cons_zero, List.set_cons_succ])
  refine give_pure [] 11 (?_) hG rfl (by kernel_rfl) hw11 (by kernel_rfl) ?_ ?_
  rotate_left
  ·intro wz hSw; (first | (go_simp; done) | (go_simp; with_reducible rfl))
  intro vw12 hw12
  clear hw11 vw11
  (try simp only [Act.put, List.getElem_toArray, List.getElem_cons_zero, List.getElem_cons_succ, List.setIfInBounds_toArray, List.set_cons_zero, List.set_cons_succ])
  refine give_done (by kernel_rfl) (?_) _
  refine hK3 _ _ ?_
  have HB := Lib.hid hw12
  clear hK3 hG hw12
  go_wp2_with fail
  go_ret
  exact ⟨rfl, HB.out⟩
theorem give_callS {n : Nat} {P : Program} {ops : Array Oper} {Q : Exit → Act → World → Prop} {md : Region.Mode} {S : World → Prop} {Z : List Nat} (D : List Nat) (i : Nat) (f : FuncId) (args : Array Value) (v : Value) (s : Sound P ops Q S) {oi : Oper} {fuel : Nat} {listed : Array Bool} {a : Act} {w : World} (hi : ops[i]? = some oi)
  (hk : okTake md ops Z listed i D = true) (hS : S w) (hw : Region.wanted oi (yielded ops a.tmps) = true) (hv : ∀ w, (execOp a.eval oi).run P w = .ok (.enter f args) w)
  (hc : ∀ w, S w → Calls P f args w fun e w' => e = .returned v ∧ Below w.heap.size w w')
  (h : ∀ w3, S w3 → HeldG n P md ops Q S Z fuel (listed.setIfInBounds i true) (a.put oi.dst v) w3) : HeldG n P md ops Q S Z (fuel + 1) listed a w :=
 give_take D i v s hi hk hS (Or.inl ⟨hw, fun w hS => Or.inr ⟨f, args, hv w, hc w hS⟩⟩) h
theorem exec_low {o : Oper} {a : Act} {W : World} (x y : Operand) (ho : o.op = .slice 31 x (some y) none none) (oa : Option Addr) (n c l : Nat) (i : Int) (hi : i = (l : Int)) (hx : a.eval x = .slice oa n c) (hy : a.eval y = .int .i64 i)
  (hl : l ≤ n) (hnc : n ≤ c) (hn : oa = none → c = 0) (hs : 0 < c → ∀ a, oa = some a → a.spot = none) :
  (execOp a.eval o).run Tryz.prog W = .ok (.value (.slice (cutA oa c l) (n - l) (c - l))) W := by
 subst hi
 have ht' : Tryz.prog.underlying 31 = some (.slice (Tryz.prog.elem 31)) := by simp [Program.elem, Tryz.underlying31]
 have h1 := run_cut W oa n c l n hl hnc hn hs
 have h2 := run_slice_l W 31 oa n c ht' .i64 (l : Int) (by omega) (by omega)
 have h3 := run_slice_lh W 31 oa n c ht' .i64 .i64 (l : Int) (n : Int) (by omega) (by omega) (by omega)
 have h4 : (Instr.slice 31 (.slice oa n c) (some (.int .i64 (l : Int))) none none).run Tryz.prog W = .ok (.slice (cutA oa c l) (n - l) (c - l)) W := by
  rw [h2, ← h1, h3]
  simp
 unfold execOp
 simp only [ho, hx, hy, Option.map_some, Option.map_none, Sem.run_bind, run_sliceAt_slice W 31 _ _ _ _ ht', h4, Result.andThen_ok, Sem.run_pure]
end Go.Proofs.YtbbhmhihpdmoiaaGreat.Pk
