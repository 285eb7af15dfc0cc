import Derived.Laws.Rows
import Derived.Test.YtbbhmhihpdmoiaaGreatProg
import Derived.Test.YtbbhmhihpdmoiaaGreatMw06
set_option linter.unusedVariables false
set_option linter.unusedSimpArgs false
namespace Go.Proofs.YtbbhmhihpdmoiaaGreat.Pk
open Go.Proofs.YtbbhmhihpdmoiaaGreat.Fx (below_mono give_done give_pure give_region)
open Go Go.RowKit
def tkR (lost : Bool) (may : Nat → Nat → Bool) (l : List Nat) (at0 : Nat) : Option (Nat × Nat) :=
 if lost = true then none else match rd M64 (l.drop at0) with
  | none => none
  | some (n, j) => if may n (l.length - (at0 + j)) = true then some (n, j) else none
def TakePost (o : Option Addr) (c : Nat) (l : List Nat) (p at0 : Nat) (r : Option (Nat × Nat)) (w : World) (e : Ending) (w' : World) : Prop :=
 e = .returned (.int .u64 ((upV r : Nat) : Int)) ∧ PR o c l p (upA r at0) (upB r) w' ∧ w.grownBy w' (some p)
theorem take_first (o : Option Addr) (c : Nat) (l : List Nat) (p at0 : Nat) (lost : Bool) (w : World) (k : RdOk l at0) (h : PR o c l p at0 lost w) :
  Calls Tryz.prog 114 #[.slice (cutA o c at0) (l.length - at0) (c - at0)] w fun e w' => e = .returned (fsV (rd M64 (l.drop at0))) ∧ Below w.heap.size w w' := by
 have k1 := k.at'
 have k2 := h.ok.le
 have k3 := h.ok.up
 have hb := h.bs.cut (l := at0) (h := l.length) (c := c) k1 (Nat.le_refl _) k2
 have e : (l.drop at0).take (l.length - at0) = l.drop at0 := List.take_of_length_le (by simp)
 rw [e] at hb
 have := first_any (cutA o c at0) (c - at0) (l.drop at0) w (k.by'.drop at0) (by have := k.len; simp; omega) ⟨by simp; omega, by omega, fun hn => ?_⟩ hb
 ·rw [List.length_drop] at this
  exact this
 ·cases o with
  | none => have := h.ok.nil rfl; omega
  | some a => cases hn
set_option maxRecDepth 100000 in
set_option maxHeartbeats 4000000 in
theorem take_u (o : Option Addr) (c : Nat) (l : List Nat) (p at0 : Nat) (lost : Bool) (w : World) (k : RdOk l at0) (h : PR o c l p at0 lost w) (may : Nat → Nat → Bool)
  (mc : Hid (∀ (n left : Nat) (W : World), Below w.heap.size w W → n < 18446744073709551616 → left ≤ 1000000000 → Calls Tryz.prog 137 #[.int .u64 (n : Int), .int .i64 (left : Int)] W fun e w' => e = .returned (.bool (may n left)) ∧ W = w')) :
  Calls Tryz.prog 89 #[.pointer (some ⟨p, 0, none⟩), .func (.func 137) #[] #[]] w (TakePost o c l p at0 (tkR lost may l at0) w) := by
 obtain ⟨c0, c1, c2, c3, _, _⟩ := h.facts
 have HF := Lib.hid (reader_fault p true lost w c0 c1)
 have HR := Lib.hid h
 have HKK := Lib.hid k
 have HOK := Lib.hid h.ok
 have k1 := k.len
 have k2 := k.at'
 clear h k
 cases lost with
 | true =>
  have HE : Hid (TakePost o c l p at0 (tkR true may l at0) w (.returned (.int .u64 0)) w) := Lib.hid ⟨rfl, HR.out, World.grownBy.refl _ _⟩
  clear HR
  go_enter Tryz.func89, Tryz.ntmps89
  go_wp2_with fail
  refine HF.out.mono ?_
  rintro e w1 ⟨rfl, rfl⟩
  simp only [fl, if_true]
  go_wp2_with fail
  go_ret
  exact HE.out
 | false =>
  have hfc : ∀ W : World, Below w.heap.size w W → Calls Tryz.prog 114 #[.slice (cutA o c at0) (l.length - at0) (c - at0)] W fun e w' => e = .returned (fsV (rd M64 (l.drop at0))) ∧ Below W.heap.size W w' := fun W hb => take_first o c l p at0 false W HKK.out (HR.out.below hb)
  cases hr : rd M64 (l.drop at0) with
  | none =>
   have HRR : Hid (tkR false may l at0 = none) := Lib.hid (by unfold tkR; simp [hr])
   rw [HRR.out]
   have HFC : Hid (∀ W : World, Below w.heap.size w W → Calls Tryz.prog 114 #[.slice (cutA o c at0) (l.length - at0) (c - at0)] W fun e w' => e = .returned (.tuple #[.int .u64 0, .int .i64 0]) ∧ Below W.heap.size W w') := Lib.hid (by rw [hr] at hfc; exact hfc)
   clear hfc hr
   go_enter Tryz.func89, Tryz.ntmps89
   go_wp2_with fail
   refine HF.out.mono ?_
   rintro e w1 ⟨rfl, rfl⟩
   simp only [fl, if_true, Bool.false_eq_true, if_false]
   clear HF c0 c1 c2 c3
   go_wp2_with fail
   rename_i K3 hK3
   refine (wpIn_wide (n := 5)).1 (give_region (S := fun X => Below w.heap.size w X) (Z := []) (by kernel_rfl) (by kernel_rfl) below_mono (fun d _ _ _ _ h => by cases d <;> exact h) (bdrew0 _ _ 1) (fun hG vw0 hw0 => ?_))
   refine give_pure [] 0 (?_) hG rfl (by kernel_rfl) hw0 (by kernel_rfl) ?_ ?_
   rotate_left
   ·intro wz hSw; (first | (go_simp; done) | (go_simp; with_reducible rfl))
   intro vw1 hw1
   clear hw0 vw0
   (try simp only [Act.put, List.getElem_toArray, List.getElem_cons_zero, List.getElem_cons_succ, List.setIfInBounds_toArray, List.set_cons_zero, List.set_cons_succ])
   refine give_pure [] 1 (?_) hG rfl (by kernel_rfl) hw1 (by kernel_rfl) ?_ ?_
   rotate_left
   ·intro wz hSw; (first | (go_simp; done) | (go_simp; with_reducible rfl))
   intro vw2 hw2
   clear hw1 vw1
   (try simp only [Act.put, List.getElem_toArray, List.getElem_cons_zero, List.getElem_cons_succ, List.setIfInBounds_toArray, List.set_cons_zero, List.set_cons_succ])
   refine give_pure [] 2 (?_) hG rfl (by kernel_rfl) hw2 (by kernel_rfl) ?_ ?_
   rotate_left
   ·intro wz hSw; (first | (go_simp; done) | (go_simp; with_reducible rfl))
   intro vw3 hw3
   clear hw2 vw2
   (try simp only [Act.put, List.getElem_toArray, List.getElem_cons_zero, List.getElem_cons_succ, List.setIfInBounds_toArray, List.set_cons_zero, List.set_cons_succ])
   refine give_pure [] 3 (?_) hG rfl (by kernel_rfl) hw3 (by kernel_rfl) ?_ ?_
   rotate_left
   ·intro wz hSw; (first | (go_simp; done) | (go_simp; with_reducible rfl))
   intro vw4 hw4
   clear hw3 vw3
   (try simp only [Act.put, List.getElem_toArray, List.getElem_cons_zero, List.getElem_cons_succ, List.setIfInBounds_toArray, List.set_cons_zero, List.set_cons_succ])
   refine give_pure [] 4 (.slice o l.length c) hG rfl (by kernel_rfl) hw4 (by kernel_rfl) ?_ ?_
   ·intro wz hSw; obtain ⟨c0, c1, c2, c3, _, _⟩ := (HR.out.below hSw).facts; (first | (go_simp; done) | (go_simp; with_reducible rfl))
   intro vw5 hw5
   clear hw4 vw4
   (try simp only [Act.put, List.getElem_toArray, List.getElem_cons_zero, List.getElem_cons_succ, List.setIfInBounds_toArray, List.set_cons_zero, List.set_cons_succ])
   refine give_pure [] 5 (?_) hG rfl (by kernel_rfl) hw5 (by kernel_rfl) ?_ ?_
   rotate_left
   ·intro wz hSw; (first | (go_simp; done) | (go_simp; with_reducible rfl))
   intro vw6 hw6
   clear hw5 vw5
   (try simp only [Act.put, List.getElem_toArray, List.getElem_cons_zero, List.getElem_cons_succ, List.setIfInBounds_toArray, List.set_cons_zero, List.set_cons_succ])
   refine give_pure [] 6 (?_) hG rfl (by kernel_rfl) hw6 (by kernel_rfl) ?_ ?_
   rotate_left
   ·intro wz hSw; (first | (go_simp; done) | (go_simp; with_reducible rfl))
   intro vw7 hw7
   clear hw6 vw6
   (try simp only [Act.put, List.getElem_toArray, List.getElem_cons_zero, List.getElem_cons_succ, List.setIfInBounds_toArray, List.set_cons_zero, List.set_cons_succ])
   refine give_pure [] 7 (?_) hG rfl (by kernel_rfl) hw7 (by kernel_rfl) ?_ ?_
   rotate_left
   ·intro wz hSw; (first | (go_simp; done) | (go_simp; with_reducible rfl))
   intro vw8 hw8
   clear hw7 vw7
   (try simp only [Act.put, List.getElem_toArray, List.getElem_cons_zero, List.getElem_cons_succ, List.setIfInBounds_toArray, List.set_cons_zero, List.set_cons_succ])
   refine give_pure [] 8 (.int .i64 (at0 : Int)) hG rfl (by kernel_rfl) hw8 (by kernel_rfl) ?_ ?_
   ·intro wz hSw; obtain ⟨c0, c1, c2, c3, _, _⟩ := (HR.out.below hSw).facts; (first | (go_simp; done) | (go_simp; with_reducible rfl))
   intro vw9 hw9
   clear hw8 vw8
   (try simp only [Act.put, List.getElem_toArray, List.getElem_cons_zero, List.getElem_cons_succ, List.setIfInBounds_toArray, List.set_cons_zero, List.set_cons_succ])
   refine give_pure [] 9 (.slice (cutA o c at0) (l.length - at0) (c - at0)) hG rfl (by kernel_rfl) hw9 (by kernel_rfl) ?_ ?_
   ·intro wz hSw; exact exec_low (.tmp 15) (.tmp 19) (by kernel_rfl) o l.length c at0 (at0 : Int) rfl (by kernel_rfl) (by kernel_rfl) k2 HOK.out.le HOK.out.nil (fun _ => HOK.out.spot)
   intro vw10 hw10
   clear hw9 vw9
   (try simp only [Act.put, List.getElem_toArray, List.getElem_cons_zero, List.getElem_cons_succ, List.setIfInBounds_toArray, List.set_cons_zero, List.set_cons_succ])
   refine give_callS [] 10 114 #[.slice (cutA o c at0) (l.length - at0) (c - at0)] (.tuple #[.int .u64 0, .int .i64 0]) hG rfl (by kernel_rfl) hw10 (by kernel_rfl) ?_ HFC.out ?_
   ·intro wz; (first | (go_simp; done) | (go_simp; with_reducible rfl))
   intro vw11 hw11
   clear hw10 vw10
   (try simp only [Act.put, List.getElem_toArray, List.getElem_cons_zero, List.getElem_cons_succ, List.setIfInBounds_toArray, List.set_cons_zero, List.set_cons_succ])
   refine give_pure [] 11 (?_) hG rfl (by kernel_rfl) hw11 (by kernel_rfl) ?_ ?_
   rotate_left
   ·intro wz hSw; (first | (go_simp; done) | (go_simp; with_reducible rfl))
   intro vw12 hw12
   clear hw11 vw11
   (try simp only [Act.put, List.getElem_toArray, List.getElem_cons_zero, List.getElem_cons_succ, List.setIfInBounds_toArray, List.set_cons_zero, List.set_cons_succ])
   refine give_pure [] 12 (?_) hG rfl (by kernel_rfl) hw12 (by kernel_rfl) ?_ ?_
   rotate_left
   ·intro wz hSw; (first | (go_simp; done) | (go_simp; with_reducible rfl))
   intro vw13 hw13
   clear hw12 vw12
   (try simp only [Act.put, List.getElem_toArray, List.getElem_cons_zero, List.getElem_cons_succ, List.setIfInBounds_toArray, List.set_cons_zero, List.set_cons_succ])
   refine give_pure [] 13 (?_) hG rfl (by kernel_rfl) hw13 (by kernel_rfl) ?_ ?_
   rotate_left
   ·intro wz hSw; (first | (go_simp; done) | (go_simp; with_reducible rfl))
   intro vw14 hw14
   clear hw13 vw13
   (try simp only [Act.put, List.getElem_toArray, List.getElem_cons_zero, List.getElem_cons_succ, List.setIfInBounds_toArray, List.set_cons_zero, List.set_cons_succ])
   refine give_pure [] 14 (?_) hG rfl (by kernel_rfl) hw14 (by kernel_rfl) ?_ ?_
   rotate_left
   ·intro wz hSw; (first | (go_simp; done) | (go_simp; with_reducible rfl))
   intro vw15 hw15
   clear hw14 vw14
   (try simp only [Act.put, List.getElem_toArray, List.getElem_cons_zero, List.getElem_cons_succ, List.setIfInBounds_toArray, List.set_cons_zero, List.set_cons_succ])
   refine give_pure [] 15 (?_) hG rfl (by kernel_rfl) hw15 (by kernel_rfl) ?_ ?_
   rotate_left
   ·intro wz hSw; (first | (go_simp; done) | (go_simp; with_reducible rfl))
   intro vw16 hw16
   clear hw15 vw15
   (try simp only [Act.put, List.getElem_toArray, List.getElem_cons_zero, List.getElem_cons_succ, List.setIfInBounds_toArray, List.set_cons_zero, List.set_cons_succ])
   refine give_done (by kernel_rfl) (?_) _
   refine hK3 _ _ ?_
   have HR1 := Lib.hid (HR.out.below hw16)
   have HB1 := Lib.hid hw16
   clear hK3 hG HR HFC hw16
   obtain ⟨c0, c1, c2, c3, f1, f3⟩ := HR1.out.facts
   have HE := Lib.hid HR1.out.spoil
   have HGE := Lib.hid ((below_grown HB1.out (some p)).trans (grown_cell _ p 1 (.bool true)))
   clear HR1 HB1
   go_wp2_with fail
   go_ret
   exact ⟨rfl, HE.out, HGE.out⟩
  | some r =>
   obtain ⟨n, j⟩ := r
   have hle := rd_le hr
   have hn64 : n < 18446744073709551616 := by have := hle.1; unfold M64 at this; omega
   have hj0 : 0 < j := hle.2.1
   have hjl : at0 + j ≤ l.length := by have := hle.2.2; simp at this; omega
   have HFC : Hid (∀ W : World, Below w.heap.size w W → Calls Tryz.prog 114 #[.slice (cutA o c at0) (l.length - at0) (c - at0)] W fun e w' => e = .returned (.tuple #[.int .u64 (n : Int), .int .i64 (j : Int)]) ∧ Below W.heap.size W w') := Lib.hid (by rw [hr] at hfc; exact hfc)
   obtain ⟨left, hleft⟩ : ∃ left, l.length - (at0 + j) = left := ⟨_, rfl⟩
   have hsub : IntKind.i64.wrap (((l.length - at0 : Nat) : Int) - (j : Int)) = (left : Int) := by rw [IntKind.wrap_i64]; omega
   have hleft9 : left ≤ 1000000000 := by omega
   have hrr : tkR false may l at0 = if may n left = true then some (n, j) else none := by unfold tkR; simp [hr, hleft]
   have MC := Lib.hid (fun W hb => mc.out n left W hb hn64 hleft9)
   obtain ⟨mb, hmb⟩ : ∃ mb, may n left = mb := ⟨_, rfl⟩
   rw [hmb] at MC hrr
   rw [hrr]
   obtain ⟨R, hR⟩ : ∃ R, (if mb = true then some (n, j) else none) = R := ⟨_, rfl⟩
   rw [hR]
   have HRE := Lib.hid hR
   clear hR
   have j1 : ¬ (j : Int) = 0 := by omega
   have HSUM : Hid (IntKind.i64.wrap ((at0 : Int) + (j : Int)) = (at0 : Int) + (j : Int)) := Lib.hid (by rw [IntKind.wrap_i64]; omega)
   have HSUB := Lib.hid hsub
   have HN := Lib.hid hn64
   have HJ := Lib.hid hjl
   clear hfc hr hle hleft hleft9 hrr hmb mc hn64 hjl hsub
   go_enter Tryz.func89, Tryz.ntmps89
   go_wp2_with fail
   refine HF.out.mono ?_
   rintro e w1 ⟨rfl, rfl⟩
   simp only [fl, if_true, Bool.false_eq_true, if_false]
   clear HF c0 c1 c2 c3
   go_wp2_with fail
   rename_i K3 hK3
   refine (wpIn_wide (n := 5)).1 (give_region (S := fun X => Below w.heap.size w X) (Z := []) (by kernel_rfl) (by kernel_rfl) below_mono (fun d _ _ _ _ h => by cases d <;> exact h) (bdrew0 _ _ 1) (fun hG vw0 hw0 => ?_))
   refine give_pure [] 0 (?_) hG rfl (by kernel_rfl) hw0 (by kernel_rfl) ?_ ?_
   rotate_left
   ·intro wz hSw; (first | (go_simp; done) | (go_simp; with_reducible rfl))
   intro vw1 hw1
   clear hw0 vw0
   (try simp only [Act.put, List.getElem_toArray, List.getElem_cons_zero, List.getElem_cons_succ, List.setIfInBounds_toArray, List.set_cons_zero, List.set_cons_succ])
   refine give_pure [] 1 (?_) hG rfl (by kernel_rfl) hw1 (by kernel_rfl) ?_ ?_
   rotate_left
   ·intro wz hSw; (first | (go_simp; done) | (go_simp; with_reducible rfl))
   intro vw2 hw2
   clear hw1 vw1
   (try simp only [Act.put, List.getElem_toArray, List.getElem_cons_zero, List.getElem_cons_succ, List.setIfInBounds_toArray, List.set_cons_zero, List.set_cons_succ])
   refine give_pure [] 2 (?_) hG rfl (by kernel_rfl) hw2 (by kernel_rfl) ?_ ?_
   rotate_left
   ·intro wz hSw; (first | (go_simp; done) | (go_simp; with_reducible rfl))
   intro vw3 hw3
   clear hw2 vw2
   (try simp only [Act.put, List.getElem_toArray, List.getElem_cons_zero, List.getElem_cons_succ, List.setIfInBounds_toArray, List.set_cons_zero, List.set_cons_succ])
   refine give_pure [] 3 (?_) hG rfl (by kernel_rfl) hw3 (by kernel_rfl) ?_ ?_
   rotate_left
   ·intro wz hSw; (first | (go_simp; done) | (go_simp; with_reducible rfl))
   intro vw4 hw4
   clear hw3 vw3
   (try simp only [Act.put, List.getElem_toArray, List.getElem_cons_zero, List.getElem_cons_succ, List.setIfInBounds_toArray, List.set_cons_zero, List.set_cons_succ])
   refine give_pure [] 4 (.slice o l.length c) hG rfl (by kernel_rfl) hw4 (by kernel_rfl) ?_ ?_
   ·intro wz hSw; obtain ⟨c0, c1, c2, c3, _, _⟩ := (HR.out.below hSw).facts; (first | (go_simp; done) | (go_simp; with_reducible rfl))
   intro vw5 hw5
   clear hw4 vw4
   (try simp only [Act.put, List.getElem_toArray, List.getElem_cons_zero, List.getElem_cons_succ, List.setIfInBounds_toArray, List.set_cons_zero, List.set_cons_succ])
   refine give_pure [] 5 (?_) hG rfl (by kernel_rfl) hw5 (by kernel_rfl) ?_ ?_
   rotate_left
   ·intro wz hSw; (first | (go_simp; done) | (go_simp; with_reducible rfl))
   intro vw6 hw6
   clear hw5 vw5
   (try simp only [Act.put, List.getElem_toArray, List.getElem_cons_zero, List.getElem_cons_succ, List.setIfInBounds_toArray, List.set_cons_zero, List.set_cons_succ])
   refine give_pure [] 6 (?_) hG rfl (by kernel_rfl) hw6 (by kernel_rfl) ?_ ?_
   rotate_left
   ·intro wz hSw; (first | (go_simp; done) | (go_simp; with_reducible rfl))
   intro vw7 hw7
   clear hw6 vw6
   (try simp only [Act.put, List.getElem_toArray, List.getElem_cons_zero, List.getElem_cons_succ, List.setIfInBounds_toArray, List.set_cons_zero, List.set_cons_succ])
   refine give_pure [] 7 (?_) hG rfl (by kernel_rfl) hw7 (by kernel_rfl) ?_ ?_
   rotate_left
   ·intro wz hSw; (first | (go_simp; done) | (go_simp; with_reducible rfl))
   intro vw8 hw8
   clear hw7 vw7
   (try simp only [Act.put, List.getElem_toArray, List.getElem_cons_zero, List.getElem_cons_succ, List.setIfInBounds_toArray, List.set_cons_zero, List.set_cons_succ])
   refine give_pure [] 8 (.int .i64 (at0 : Int)) hG rfl (by kernel_rfl) hw8 (by kernel_rfl) ?_ ?_
   ·intro wz hSw; obtain ⟨c0, c1, c2, c3, _, _⟩ := (HR.out.below hSw).facts; (first | (go_simp; done) | (go_simp; with_reducible rfl))
   intro vw9 hw9
   clear hw8 vw8
   (try simp only [Act.put, List.getElem_toArray, List.getElem_cons_zero, List.getElem_cons_succ, List.setIfInBounds_toArray, List.set_cons_zero, List.set_cons_succ])
   refine give_pure [] 9 (.slice (cutA o c at0) (l.length - at0) (c - at0)) hG rfl (by kernel_rfl) hw9 (by kernel_rfl) ?_ ?_
   ·intro wz hSw; exact exec_low (.tmp 15) (.tmp 19) (by kernel_rfl) o l.length c at0 (at0 : Int) rfl (by kernel_rfl) (by kernel_rfl) k2 HOK.out.le HOK.out.nil (fun _ => HOK.out.spot)
   intro vw10 hw10
   clear hw9 vw9
   (try simp only [Act.put, List.getElem_toArray, List.getElem_cons_zero, List.getElem_cons_succ, List.setIfInBounds_toArray, List.set_cons_zero, List.set_cons_succ])
   refine give_callS [] 10 114 #[.slice (cutA o c at0) (l.length - at0) (c - at0)] (.tuple #[.int .u64 (n : Int), .int .i64 (j : Int)]) hG rfl (by kernel_rfl) hw10 (by kernel_rfl) ?_ HFC.out ?_
   ·intro wz; (first | (go_simp; done) | (go_simp; with_reducible rfl))
   intro vw11 hw11
   clear hw10 vw10
   (try simp only [Act.put, List.getElem_toArray, List.getElem_cons_zero, List.getElem_cons_succ, List.setIfInBounds_toArray, List.set_cons_zero, List.set_cons_succ])
   refine give_pure [] 11 (?_) hG rfl (by kernel_rfl) hw11 (by kernel_rfl) ?_ ?_
   rotate_left
   ·intro wz hSw; (first | (go_simp; done) | (go_simp; with_reducible rfl))
   intro vw12 hw12
   clear hw11 vw11
   (try simp only [Act.put, List.getElem_toArray, List.getElem_cons_zero, List.getElem_cons_succ, List.setIfInBounds_toArray, List.set_cons_zero, List.set_cons_succ])
   refine give_pure [] 12 (?_) hG rfl (by kernel_rfl) hw12 (by kernel_rfl) ?_ ?_
   rotate_left
   ·intro wz hSw; (first | (go_simp; done) | (go_simp; with_reducible rfl))
   intro vw13 hw13
   clear hw12 vw12
   (try simp only [Act.put, List.getElem_toArray, List.getElem_cons_zero, List.getElem_cons_succ, List.setIfInBounds_toArray, List.set_cons_zero, List.set_cons_succ])
   refine give_pure [] 13 (?_) hG rfl (by kernel_rfl) hw13 (by kernel_rfl) ?_ ?_
   rotate_left
   ·intro wz hSw; (first | (go_simp; done) | (go_simp; with_reducible rfl))
   intro vw14 hw14
   clear hw13 vw13
   (try simp only [Act.put, List.getElem_toArray, List.getElem_cons_zero, List.getElem_cons_succ, List.setIfInBounds_toArray, List.set_cons_zero, List.set_cons_succ])
   refine give_pure [] 14 (?_) hG rfl (by kernel_rfl) hw14 (by kernel_rfl) ?_ ?_
   rotate_left
   ·intro wz hSw; (first | (go_simp; done) | (go_simp; with_reducible rfl))
   intro vw15 hw15
   clear hw14 vw14
   (try simp only [Act.put, List.getElem_toArray, List.getElem_cons_zero, List.getElem_cons_succ, List.setIfInBounds_toArray, List.set_cons_zero, List.set_cons_succ])
   refine give_pure [] 15 (?_) hG rfl (by kernel_rfl) hw15 (by kernel_rfl) ?_ ?_
   rotate_left
   ·intro wz hSw; (first | (go_simp; done) | (go_simp; with_reducible rfl))
   intro vw16 hw16
   clear hw15 vw15
   (try simp only [Act.put, List.getElem_toArray, List.getElem_cons_zero, List.getElem_cons_succ, List.setIfInBounds_toArray, List.set_cons_zero, List.set_cons_succ])
   refine give_done (by kernel_rfl) (?_) _
   refine hK3 _ _ ?_
   have HR1 := Lib.hid (HR.out.below hw16)
   have HB1 := Lib.hid hw16
   clear hK3 hG HR HFC hw16
   have HL := Lib.hid (pleft_any o c l p at0 false _ HKK.out HR1.out)
   go_wp2_with fail
   refine HL.out.mono ?_
   rintro e w2 ⟨rfl, hb2⟩
   have hlf : lfV false l at0 = l.length - at0 := rfl
   rw [hlf]
   have hsub := HSUB.out
   have HR2 := Lib.hid (HR1.out.below hb2)
   have HB2 := Lib.hid (bnext HB1.out hb2)
   clear hb2 hlf HR1 HB1 HL
   go_wp2_with fail
   refine (MC.out _ HB2.out).mono ?_
   rintro e w3 ⟨rfl, rfl⟩
   obtain ⟨c0, c1, c2, c3, f1, f3⟩ := HR2.out.facts
   clear MC
   cases mb with
   | true =>
    have HE := Lib.hid (HR2.out.goto (at0 + j) ((at0 : Int) + (j : Int)) (by omega))
    have HGE := Lib.hid ((below_grown HB2.out (some p)).trans (grown_cell _ p 3 (.int .i64 ((at0 : Int) + (j : Int)))))
    have hsum := HSUM.out
    clear HR2 HB2
    go_wp2_with fail
    go_ret
    rw [← HRE.out]
    exact ⟨rfl, HE.out, HGE.out⟩
   | false =>
    have HE := Lib.hid HR2.out.spoil
    have HGE := Lib.hid ((below_grown HB2.out (some p)).trans (grown_cell _ p 1 (.bool true)))
    clear HR2 HB2
    go_wp2_with fail
    go_ret
    rw [← HRE.out]
    exact ⟨rfl, HE.out, HGE.out⟩
set_option maxRecDepth 100000 in
set_option maxHeartbeats 4000000 in
theorem take_s (o : Option Addr) (c : Nat) (l : List Nat) (p at0 : Nat) (lost : Bool) (w : World) (k : RdOk l at0) (h : PR o c l p at0 lost w) (q : Nat) (may : Nat → Nat → Bool)
  (mc : Hid (∀ (n left : Nat) (W : World), Below w.heap.size w W → n < 18446744073709551616 → left ≤ 1000000000 → Calls Tryz.prog 90 #[.int .u64 (n : Int), .int .i64 (left : Int), .pointer (some ⟨q, 0, none⟩)] W fun e w' => e = .returned (.bool (may n left)) ∧ W = w')) :
  Calls Tryz.prog 89 #[.pointer (some ⟨p, 0, none⟩), .func (.func 90) #[] #[.pointer (some ⟨q, 0, none⟩)]] w (TakePost o c l p at0 (tkR lost may l at0) w) := by
 obtain ⟨c0, c1, c2, c3, _, _⟩ := h.facts
 have HF := Lib.hid (reader_fault p true lost w c0 c1)
 have HR := Lib.hid h
 have HKK := Lib.hid k
 have HOK := Lib.hid h.ok
 have k1 := k.len
 have k2 := k.at'
 clear h k
 cases lost with
 | true =>
  have HE : Hid (TakePost o c l p at0 (tkR true may l at0) w (.returned (.int .u64 0)) w) := Lib.hid ⟨rfl, HR.out, World.grownBy.refl _ _⟩
  clear HR
  go_enter Tryz.func89, Tryz.ntmps89
  go_wp2_with fail
  refine HF.out.mono ?_
  rintro e w1 ⟨rfl, rfl⟩
  simp only [fl, if_true]
  go_wp2_with fail
  go_ret
  exact HE.out
 | false =>
  have hfc : ∀ W : World, Below w.heap.size w W → Calls Tryz.prog 114 #[.slice (cutA o c at0) (l.length - at0) (c - at0)] W fun e w' => e = .returned (fsV (rd M64 (l.drop at0))) ∧ Below W.heap.size W w' := fun W hb => take_first o c l p at0 false W HKK.out (HR.out.below hb)
  cases hr : rd M64 (l.drop at0) with
  | none =>
   have HRR : Hid (tkR false may l at0 = none) := Lib.hid (by unfold tkR; simp [hr])
   rw [HRR.out]
   have HFC : Hid (∀ W : World, Below w.heap.size w W → Calls Tryz.prog 114 #[.slice (cutA o c at0) (l.length - at0) (c - at0)] W fun e w' => e = .returned (.tuple #[.int .u64 0, .int .i64 0]) ∧ Below W.heap.size W w') := Lib.hid (by rw [hr] at hfc; exact hfc)
   clear hfc hr
   go_enter Tryz.func89, Tryz.ntmps89
   go_wp2_with fail
   refine HF.out.mono ?_
   rintro e w1 ⟨rfl, rfl⟩
   simp only [fl, if_true, Bool.false_eq_true, if_false]
   clear HF c0 c1 c2 c3
   go_wp2_with fail
   rename_i K3 hK3
   refine (wpIn_wide (n := 5)).1 (give_region (S := fun X => Below w.heap.size w X) (Z := []) (by kernel_rfl) (by kernel_rfl) below_mono (fun d _ _ _ _ h => by cases d <;> exact h) (bdrew0 _ _ 1) (fun hG vw0 hw0 => ?_))
   refine give_pure [] 0 (?_) hG rfl (by kernel_rfl) hw0 (by kernel_rfl) ?_ ?_
   rotate_left
   ·intro wz hSw; (first | (go_simp; done) | (go_simp; with_reducible rfl))
   intro vw1 hw1
   clear hw0 vw0
   (try simp only [Act.put, List.getElem_toArray, List.getElem_cons_zero, List.getElem_cons_succ, List.setIfInBounds_toArray, List.set_cons_zero, List.set_cons_succ])
   refine give_pure [] 1 (?_) hG rfl (by kernel_rfl) hw1 (by kernel_rfl) ?_ ?_
   rotate_left
   ·intro wz hSw; (first | (go_simp; done) | (go_simp; with_reducible rfl))
   intro vw2 hw2
   clear hw1 vw1
   (try simp only [Act.put, List.getElem_toArray, List.getElem_cons_zero, List.getElem_cons_succ, List.setIfInBounds_toArray, List.set_cons_zero, List.set_cons_succ])
   refine give_pure [] 2 (?_) hG rfl (by kernel_rfl) hw2 (by kernel_rfl) ?_ ?_
   rotate_left
   ·intro wz hSw; (first | (go_simp; done) | (go_simp; with_reducible rfl))
   intro vw3 hw3
   clear hw2 vw2
   (try simp only [Act.put, List.getElem_toArray, List.getElem_cons_zero, List.getElem_cons_succ, List.setIfInBounds_toArray, List.set_cons_zero, List.set_cons_succ])
   refine give_pure [] 3 (?_) hG rfl (by kernel_rfl) hw3 (by kernel_rfl) ?_ ?_
   rotate_left
   ·intro wz hSw; (first | (go_simp; done) | (go_simp; with_reducible rfl))
   intro vw4 hw4
   clear hw3 vw3
   (try simp only [Act.put, List.getElem_toArray, List.getElem_cons_zero, List.getElem_cons_succ, List.setIfInBounds_toArray, List.set_cons_zero, List.set_cons_succ])
   refine give_pure [] 4 (.slice o l.length c) hG rfl (by kernel_rfl) hw4 (by kernel_rfl) ?_ ?_
   ·intro wz hSw; obtain ⟨c0, c1, c2, c3, _, _⟩ := (HR.out.below hSw).facts; (first | (go_simp; done) | (go_simp; with_reducible rfl))
   intro vw5 hw5
   clear hw4 vw4
   (try simp only [Act.put, List.getElem_toArray, List.getElem_cons_zero, List.getElem_cons_succ, List.setIfInBounds_toArray, List.set_cons_zero, List.set_cons_succ])
   refine give_pure [] 5 (?_) hG rfl (by kernel_rfl) hw5 (by kernel_rfl) ?_ ?_
   rotate_left
   ·intro wz hSw; (first | (go_simp; done) | (go_simp; with_reducible rfl))
   intro vw6 hw6
   clear hw5 vw5
   (try simp only [Act.put, List.getElem_toArray, List.getElem_cons_zero, List.getElem_cons_succ, List.setIfInBounds_toArray, List.set_cons_zero, List.set_cons_succ])
   refine give_pure [] 6 (?_) hG rfl (by kernel_rfl) hw6 (by kernel_rfl) ?_ ?_
   rotate_left
   ·intro wz hSw; (first | (go_simp; done) | (go_simp; with_reducible rfl))
   intro vw7 hw7
   clear hw6 vw6
   (try simp only [Act.put, List.getElem_toArray, List.getElem_cons_zero, List.getElem_cons_succ, List.setIfInBounds_toArray, List.set_cons_zero, List.set_cons_succ])
   refine give_pure [] 7 (?_) hG rfl (by kernel_rfl) hw7 (by kernel_rfl) ?_ ?_
   rotate_left
   ·intro wz hSw; (first | (go_simp; done) | (go_simp; with_reducible rfl))
   intro vw8 hw8
   clear hw7 vw7
   (try simp only [Act.put, List.getElem_toArray, List.getElem_cons_zero, List.getElem_cons_succ, List.setIfInBounds_toArray, List.set_cons_zero, List.set_cons_succ])
   refine give_pure [] 8 (.int .i64 (at0 : Int)) hG rfl (by kernel_rfl) hw8 (by kernel_rfl) ?_ ?_
   ·intro wz hSw; obtain ⟨c0, c1, c2, c3, _, _⟩ := (HR.out.below hSw).facts; (first | (go_simp; done) | (go_simp; with_reducible rfl))
   intro vw9 hw9
   clear hw8 vw8
   (try simp only [Act.put, List.getElem_toArray, List.getElem_cons_zero, List.getElem_cons_succ, List.setIfInBounds_toArray, List.set_cons_zero, List.set_cons_succ])
   refine give_pure [] 9 (.slice (cutA o c at0) (l.length - at0) (c - at0)) hG rfl (by kernel_rfl) hw9 (by kernel_rfl) ?_ ?_
   ·intro wz hSw; exact exec_low (.tmp 15) (.tmp 19) (by kernel_rfl) o l.length c at0 (at0 : Int) rfl (by kernel_rfl) (by kernel_rfl) k2 HOK.out.le HOK.out.nil (fun _ => HOK.out.spot)
   intro vw10 hw10
   clear hw9 vw9
   (try simp only [Act.put, List.getElem_toArray, List.getElem_cons_zero, List.getElem_cons_succ, List.setIfInBounds_toArray, List.set_cons_zero, List.set_cons_succ])
   refine give_callS [] 10 114 #[.slice (cutA o c at0) (l.length - at0) (c - at0)] (.tuple #[.int .u64 0, .int .i64 0]) hG rfl (by kernel_rfl) hw10 (by kernel_rfl) ?_ HFC.out ?_
   ·intro wz; (first | (go_simp; done) | (go_simp; with_reducible rfl))
   intro vw11 hw11
   clear hw10 vw10
   (try simp only [Act.put, List.getElem_toArray, List.getElem_cons_zero, List.getElem_cons_succ, List.setIfInBounds_toArray, List.set_cons_zero, List.set_cons_succ])
   refine give_pure [] 11 (?_) hG rfl (by kernel_rfl) hw11 (by kernel_rfl) ?_ ?_
   rotate_left
   ·intro wz hSw; (first | (go_simp; done) | (go_simp; with_reducible rfl))
   intro vw12 hw12
   clear hw11 vw11
   (try simp only [Act.put, List.getElem_toArray, List.getElem_cons_zero, List.getElem_cons_succ, List.setIfInBounds_toArray, List.set_cons_zero, List.set_cons_succ])
   refine give_pure [] 12 (?_) hG rfl (by kernel_rfl) hw12 (by kernel_rfl) ?_ ?_
   rotate_left
   ·intro wz hSw; (first | (go_simp; done) | (go_simp; with_reducible rfl))
   intro vw13 hw13
   clear hw12 vw12
   (try simp only [Act.put, List.getElem_toArray, List.getElem_cons_zero, List.getElem_cons_succ, List.setIfInBounds_toArray, List.set_cons_zero, List.set_cons_succ])
   refine give_pure [] 13 (?_) hG rfl (by kernel_rfl) hw13 (by kernel_rfl) ?_ ?_
   rotate_left
   ·intro wz hSw; (first | (go_simp; done) | (go_simp; with_reducible rfl))
   intro vw14 hw14
   clear hw13 vw13
   (try simp only [Act.put, List.getElem_toArray, List.getElem_cons_zero, List.getElem_cons_succ, List.setIfInBounds_toArray, List.set_cons_zero, List.set_cons_succ])
   refine give_pure [] 14 (?_) hG rfl (by kernel_rfl) hw14 (by kernel_rfl) ?_ ?_
   rotate_left
   ·intro wz hSw; (first | (go_simp; done) | (go_simp; with_reducible rfl))
   intro vw15 hw15
   clear hw14 vw14
   (try simp only [Act.put, List.getElem_toArray, List.getElem_cons_zero, List.getElem_cons_succ, List.setIfInBounds_toArray, List.set_cons_zero, List.set_cons_succ])
   refine give_pure [] 15 (?_) hG rfl (by kernel_rfl) hw15 (by kernel_rfl) ?_ ?_
   rotate_left
   ·intro wz hSw; (first | (go_simp; done) | (go_simp; with_reducible rfl))
   intro vw16 hw16
   clear hw15 vw15
   (try simp only [Act.put, List.getElem_toArray, List.getElem_cons_zero, List.getElem_cons_succ, List.setIfInBounds_toArray, List.set_cons_zero, List.set_cons_succ])
   refine give_done (by kernel_rfl) (?_) _
   refine hK3 _ _ ?_
   have HR1 := Lib.hid (HR.out.below hw16)
   have HB1 := Lib.hid hw16
   clear hK3 hG HR HFC hw16
   obtain ⟨c0, c1, c2, c3, f1, f3⟩ := HR1.out.facts
   have HE := Lib.hid HR1.out.spoil
   have HGE := Lib.hid ((below_grown HB1.out (some p)).trans (grown_cell _ p 1 (.bool true)))
   clear HR1 HB1
   go_wp2_with fail
   go_ret
   exact ⟨rfl, HE.out, HGE.out⟩
  | some r =>
   obtain ⟨n, j⟩ := r
   have hle := rd_le hr
   have hn64 : n < 18446744073709551616 := by have := hle.1; unfold M64 at this; omega
   have hj0 : 0 < j := hle.2.1
   have hjl : at0 + j ≤ l.length := by have := hle.2.2; simp at this; omega
   have HFC : Hid (∀ W : World, Below w.heap.size w W → Calls Tryz.prog 114 #[.slice (cutA o c at0) (l.length - at0) (c - at0)] W fun e w' => e = .returned (.tuple #[.int .u64 (n : Int), .int .i64 (j : Int)]) ∧ Below W.heap.size W w') := Lib.hid (by rw [hr] at hfc; exact hfc)
   obtain ⟨left, hleft⟩ : ∃ left, l.length - (at0 + j) = left := ⟨_, rfl⟩
   have hsub : IntKind.i64.wrap (((l.length - at0 : Nat) : Int) - (j : Int)) = (left : Int) := by rw [IntKind.wrap_i64]; omega
   have hleft9 : left ≤ 1000000000 := by omega
   have hrr : tkR false may l at0 = if may n left = true then some (n, j) else none := by unfold tkR; simp [hr, hleft]
   have MC := Lib.hid (fun W hb => mc.out n left W hb hn64 hleft9)
   obtain ⟨mb, hmb⟩ : ∃ mb, may n left = mb := ⟨_, rfl⟩
   rw [hmb] at MC hrr
   rw [hrr]
   obtain ⟨R, hR⟩ : ∃ R, (if mb = true then some (n, j) else none) = R := ⟨_, rfl⟩
   rw [hR]
   have HRE := Lib.hid hR
   clear hR
   have j1 : ¬ (j : Int) = 0 := by omega
   have HSUM : Hid (IntKind.i64.wrap ((at0 : Int) + (j : Int)) = (at0 : Int) + (j : Int)) := Lib.hid (by rw [IntKind.wrap_i64]; omega)
   have HSUB := Lib.hid hsub
   have HN := Lib.hid hn64
   have HJ := Lib.hid hjl
   clear hfc hr hle hleft hleft9 hrr hmb mc hn64 hjl hsub
   go_enter Tryz.func89, Tryz.ntmps89
   go_wp2_with fail
   refine HF.out.mono ?_
   rintro e w1 ⟨rfl, rfl⟩
   simp only [fl, if_true, Bool.false_eq_true, if_false]
   clear HF c0 c1 c2 c3
   go_wp2_with fail
   rename_i K3 hK3
   refine (wpIn_wide (n := 5)).1 (give_region (S := fun X => Below w.heap.size w X) (Z := []) (by kernel_rfl) (by kernel_rfl) below_mono (fun d _ _ _ _ h => by cases d <;> exact h) (bdrew0 _ _ 1) (fun hG vw0 hw0 => ?_))
   refine give_pure [] 0 (?_) hG rfl (by kernel_rfl) hw0 (by kernel_rfl) ?_ ?_
   rotate_left
   ·intro wz hSw; (first | (go_simp; done) | (go_simp; with_reducible rfl))
   intro vw1 hw1
   clear hw0 vw0
   (try simp only [Act.put, List.getElem_toArray, List.getElem_cons_zero, List.getElem_cons_succ, List.setIfInBounds_toArray, List.set_cons_zero, List.set_cons_succ])
   refine give_pure [] 1 (?_) hG rfl (by kernel_rfl) hw1 (by kernel_rfl) ?_ ?_
   rotate_left
   ·intro wz hSw; (first | (go_simp; done) | (go_simp; with_reducible rfl))
   intro vw2 hw2
   clear hw1 vw1
   (try simp only [Act.put, List.getElem_toArray, List.getElem_cons_zero, List.getElem_cons_succ, List.setIfInBounds_toArray, List.set_cons_zero, List.set_cons_succ])
   refine give_pure [] 2 (?_) hG rfl (by kernel_rfl) hw2 (by kernel_rfl) ?_ ?_
   rotate_left
   ·intro wz hSw; (first | (go_simp; done) | (go_simp; with_reducible rfl))
   intro vw3 hw3
   clear hw2 vw2
   (try simp only [Act.put, List.getElem_toArray, List.getElem_cons_zero, List.getElem_cons_succ, List.setIfInBounds_toArray, List.set_cons_zero, List.set_cons_succ])
   refine give_pure [] 3 (?_) hG rfl (by kernel_rfl) hw3 (by kernel_rfl) ?_ ?_
   rotate_left
   ·intro wz hSw; (first | (go_simp; done) | (go_simp; with_reducible rfl))
   intro vw4 hw4
   clear hw3 vw3
   (try simp only [Act.put, List.getElem_toArray, List.getElem_cons_zero, List.getElem_cons_succ, List.setIfInBounds_toArray, List.set_cons_zero, List.set_cons_succ])
   refine give_pure [] 4 (.slice o l.length c) hG rfl (by kernel_rfl) hw4 (by kernel_rfl) ?_ ?_
   ·intro wz hSw; obtain ⟨c0, c1, c2, c3, _, _⟩ := (HR.out.below hSw).facts; (first | (go_simp; done) | (go_simp; with_reducible rfl))
   intro vw5 hw5
   clear hw4 vw4
   (try simp only [Act.put, List.getElem_toArray, List.getElem_cons_zero, List.getElem_cons_succ, List.setIfInBounds_toArray, List.set_cons_zero, List.set_cons_succ])
   refine give_pure [] 5 (?_) hG rfl (by kernel_rfl) hw5 (by kernel_rfl) ?_ ?_
   rotate_left
   ·intro wz hSw; (first | (go_simp; done) | (go_simp; with_reducible rfl))
   intro vw6 hw6
   clear hw5 vw5
   (try simp only [Act.put, List.getElem_toArray, List.getElem_cons_zero, List.getElem_cons_succ, List.setIfInBounds_toArray, List.set_cons_zero, List.set_cons_succ])
   refine give_pure [] 6 (?_) hG rfl (by kernel_rfl) hw6 (by kernel_rfl) ?_ ?_
   rotate_left
   ·intro wz hSw; (first | (go_simp; done) | (go_simp; with_reducible rfl))
   intro vw7 hw7
   clear hw6 vw6
   (try simp only [Act.put, List.getElem_toArray, List.getElem_cons_zero, List.getElem_cons_succ, List.setIfInBounds_toArray, List.set_cons_zero, List.set_cons_succ])
   refine give_pure [] 7 (?_) hG rfl (by kernel_rfl) hw7 (by kernel_rfl) ?_ ?_
   rotate_left
   ·intro wz hSw; (first | (go_simp; done) | (go_simp; with_reducible rfl))
   intro vw8 hw8
   clear hw7 vw7
   (try simp only [Act.put, List.getElem_toArray, List.getElem_cons_zero, List.getElem_cons_succ, List.setIfInBounds_toArray, List.set_cons_zero, List.set_cons_succ])
   refine give_pure [] 8 (.int .i64 (at0 : Int)) hG rfl (by kernel_rfl) hw8 (by kernel_rfl) ?_ ?_
   ·intro wz hSw; obtain ⟨c0, c1, c2, c3, _, _⟩ := (HR.out.below hSw).facts; (first | (go_simp; done) | (go_simp; with_reducible rfl))
   intro vw9 hw9
   clear hw8 vw8
   (try simp only [Act.put, List.getElem_toArray, List.getElem_cons_zero, List.getElem_cons_succ, List.setIfInBounds_toArray, List.set_cons_zero, List.set_cons_succ])
   refine give_pure [] 9 (.slice (cutA o c at0) (l.length - at0) (c - at0)) hG rfl (by kernel_rfl) hw9 (by kernel_rfl) ?_ ?_
   ·intro wz hSw; exact exec_low (.tmp 15) (.tmp 19) (by kernel_rfl) o l.length c at0 (at0 : Int) rfl (by kernel_rfl) (by kernel_rfl) k2 HOK.out.le HOK.out.nil (fun _ => HOK.out.spot)
   intro vw10 hw10
   clear hw9 vw9
   (try simp only [Act.put, List.getElem_toArray, List.getElem_cons_zero, List.getElem_cons_succ, List.setIfInBounds_toArray, List.set_cons_zero, List.set_cons_succ])
   refine give_callS [] 10 114 #[.slice (cutA o c at0) (l.length - at0) (c - at0)] (.tuple #[.int .u64 (n : Int), .int .i64 (j : Int)]) hG rfl (by kernel_rfl) hw10 (by kernel_rfl) ?_ HFC.out ?_
   ·intro wz; (first | (go_simp; done) | (go_simp; with_reducible rfl))
   intro vw11 hw11
   clear hw10 vw10
   (try simp only [Act.put, List.getElem_toArray, List.getElem_cons_zero, List.getElem_cons_succ, List.setIfInBounds_toArray, List.set_cons_zero, List.set_cons_succ])
   refine give_pure [] 11 (?_) hG rfl (by kernel_rfl) hw11 (by kernel_rfl) ?_ ?_
   rotate_left
   ·intro wz hSw; (first | (go_simp; done) | (go_simp; with_reducible rfl))
   intro vw12 hw12
   clear hw11 vw11
   (try simp only [Act.put, List.getElem_toArray, List.getElem_cons_zero, List.getElem_cons_succ, List.setIfInBounds_toArray, List.set_cons_zero, List.set_cons_succ])
   refine give_pure [] 12 (?_) hG rfl (by kernel_rfl) hw12 (by kernel_rfl) ?_ ?_
   rotate_left
   ·intro wz hSw; (first | (go_simp; done) | (go_simp; with_reducible rfl))
   intro vw13 hw13
   clear hw12 vw12
   (try simp only [Act.put, List.getElem_toArray, List.getElem_cons_zero, List.getElem_cons_succ, List.setIfInBounds_toArray, List.set_cons_zero, List.set_cons_succ])
   refine give_pure [] 13 (?_) hG rfl (by kernel_rfl) hw13 (by kernel_rfl) ?_ ?_
   rotate_left
   ·intro wz hSw; (first | (go_simp; done) | (go_simp; with_reducible rfl))
   intro vw14 hw14
   clear hw13 vw13
   (try simp only [Act.put, List.getElem_toArray, List.getElem_cons_zero, List.getElem_cons_succ, List.setIfInBounds_toArray, List.set_cons_zero, List.set_cons_succ])
   refine give_pure [] 14 (?_) hG rfl (by kernel_rfl) hw14 (by kernel_rfl) ?_ ?_
   rotate_left
   ·intro wz hSw; (first | (go_simp; done) | (go_simp; with_reducible rfl))
   intro vw15 hw15
   clear hw14 vw14
   (try simp only [Act.put, List.getElem_toArray, List.getElem_cons_zero, List.getElem_cons_succ, List.setIfInBounds_toArray, List.set_cons_zero, List.set_cons_succ])
   refine give_pure [] 15 (?_) hG rfl (by kernel_rfl) hw15 (by kernel_rfl) ?_ ?_
   rotate_left
   ·intro wz hSw; (first | (go_simp; done) | (go_simp; with_reducible rfl))
   intro vw16 hw16
   clear hw15 vw15
   (try simp only [Act.put, List.getElem_toArray, List.getElem_cons_zero, List.getElem_cons_succ, List.setIfInBounds_toArray, List.set_cons_zero, List.set_cons_succ])
   refine give_done (by kernel_rfl) (?_) _
   refine hK3 _ _ ?_
   have HR1 := Lib.hid (HR.out.below hw16)
   have HB1 := Lib.hid hw16
   clear hK3 hG HR HFC hw16
   have HL := Lib.hid (pleft_any o c l p at0 false _ HKK.out HR1.out)
   go_wp2_with fail
   refine HL.out.mono ?_
   rintro e w2 ⟨rfl, hb2⟩
   have hlf : lfV false l at0 = l.length - at0 := rfl
   rw [hlf]
   have hsub := HSUB.out
   have HR2 := Lib.hid (HR1.out.below hb2)
   have HB2 := Lib.hid (bnext HB1.out hb2)
   clear hb2 hlf HR1 HB1 HL
   go_wp2_with fail
   refine (MC.out _ HB2.out).mono ?_
   rintro e w3 ⟨rfl, rfl⟩
   obtain ⟨c0, c1, c2, c3, f1, f3⟩ := HR2.out.facts
   clear MC
   cases mb with
   | true =>
    have HE := Lib.hid (HR2.out.goto (at0 + j) ((at0 : Int) + (j : Int)) (by omega))
    have HGE := Lib.hid ((below_grown HB2.out (some p)).trans (grown_cell _ p 3 (.int .i64 ((at0 : Int) + (j : Int)))))
    have hsum := HSUM.out
    clear HR2 HB2
    go_wp2_with fail
    go_ret
    rw [← HRE.out]
    exact ⟨rfl, HE.out, HGE.out⟩
   | false =>
    have HE := Lib.hid HR2.out.spoil
    have HGE := Lib.hid ((below_grown HB2.out (some p)).trans (grown_cell _ p 1 (.bool true)))
    clear HR2 HB2
    go_wp2_with fail
    go_ret
    rw [← HRE.out]
    exact ⟨rfl, HE.out, HGE.out⟩
set_option maxRecDepth 100000 in
set_option maxHeartbeats 4000000 in
theorem take_t (o : Option Addr) (c : Nat) (l : List Nat) (p at0 : Nat) (lost : Bool) (w : World) (k : RdOk l at0) (h : PR o c l p at0 lost w) (q : Nat) (may : Nat → Nat → Bool)
  (mc : Hid (∀ (n left : Nat) (W : World), Below w.heap.size w W → n < 18446744073709551616 → left ≤ 1000000000 → Calls Tryz.prog 95 #[.int .u64 (n : Int), .int .i64 (left : Int), .pointer (some ⟨q, 0, none⟩)] W fun e w' => e = .returned (.bool (may n left)) ∧ W = w')) :
  Calls Tryz.prog 89 #[.pointer (some ⟨p, 0, none⟩), .func (.func 95) #[] #[.pointer (some ⟨q, 0, none⟩)]] w (TakePost o c l p at0 (tkR lost may l at0) w) := by
 obtain ⟨c0, c1, c2, c3, _, _⟩ := h.facts
 have HF := Lib.hid (reader_fault p true lost w c0 c1)
 have HR := Lib.hid h
 have HKK := Lib.hid k
 have HOK := Lib.hid h.ok
 have k1 := k.len
 have k2 := k.at'
 clear h k
 cases lost with
 | true =>
  have HE : Hid (TakePost o c l p at0 (tkR true may l at0) w (.returned (.int .u64 0)) w) := Lib.hid ⟨rfl, HR.out, World.grownBy.refl _ _⟩
  clear HR
  go_enter Tryz.func89, Tryz.ntmps89
  go_wp2_with fail
  refine HF.out.mono ?_
  rintro e w1 ⟨rfl, rfl⟩
  simp only [fl, if_true]
  go_wp2_with fail
  go_ret
  exact HE.out
 | false =>
  have hfc : ∀ W : World, Below w.heap.size w W → Calls Tryz.prog 114 #[.slice (cutA o c at0) (l.length - at0) (c - at0)] W fun e w' => e = .returned (fsV (rd M64 (l.drop at0))) ∧ Below W.heap.size W w' := fun W hb => take_first o c l p at0 false W HKK.out (HR.out.below hb)
  cases hr : rd M64 (l.drop at0) with
  | none =>
   have HRR : Hid (tkR false may l at0 = none) := Lib.hid (by unfold tkR; simp [hr])
   rw [HRR.out]
   have HFC : Hid (∀ W : World, Below w.heap.size w W → Calls Tryz.prog 114 #[.slice (cutA o c at0) (l.length - at0) (c - at0)] W fun e w' => e = .returned (.tuple #[.int .u64 0, .int .i64 0]) ∧ Below W.heap.size W w') := Lib.hid (by rw [hr] at hfc; exact hfc)
   clear hfc hr
   go_enter Tryz.func89, Tryz.ntmps89
   go_wp2_with fail
   refine HF.out.mono ?_
   rintro e w1 ⟨rfl, rfl⟩
   simp only [fl, if_true, Bool.false_eq_true, if_false]
   clear HF c0 c1 c2 c3
   go_wp2_with fail
   rename_i K3 hK3
   refine (wpIn_wide (n := 5)).1 (give_region (S := fun X => Below w.heap.size w X) (Z := []) (by kernel_rfl) (by kernel_rfl) below_mono (fun d _ _ _ _ h => by cases d <;> exact h) (bdrew0 _ _ 1) (fun hG vw0 hw0 => ?_))
   refine give_pure [] 0 (?_) hG rfl (by kernel_rfl) hw0 (by kernel_rfl) ?_ ?_
   rotate_left
   ·intro wz hSw; (first | (go_simp; done) | (go_simp; with_reducible rfl))
   intro vw1 hw1
   clear hw0 vw0
   (try simp only [Act.put, List.getElem_toArray, List.getElem_cons_zero, List.getElem_cons_succ, List.setIfInBounds_toArray, List.set_cons_zero, List.set_cons_succ])
   refine give_pure [] 1 (?_) hG rfl (by kernel_rfl) hw1 (by kernel_rfl) ?_ ?_
   rotate_left
   ·intro wz hSw; (first | (go_simp; done) | (go_simp; with_reducible rfl))
   intro vw2 hw2
   clear hw1 vw1
   (try simp only [Act.put, List.getElem_toArray, List.getElem_cons_zero, List.getElem_cons_succ, List.setIfInBounds_toArray, List.set_cons_zero, List.set_cons_succ])
   refine give_pure [] 2 (?_) hG rfl (by kernel_rfl) hw2 (by kernel_rfl) ?_ ?_
   rotate_left
   ·intro wz hSw; (first | (go_simp; done) | (go_simp; with_reducible rfl))
   intro vw3 hw3
   clear hw2 vw2
   (try simp only [Act.put, List.getElem_toArray, List.getElem_cons_zero, List.getElem_cons_succ, List.setIfInBounds_toArray, List.set_cons_zero, List.set_cons_succ])
   refine give_pure [] 3 (?_) hG rfl (by kernel_rfl) hw3 (by kernel_rfl) ?_ ?_
   rotate_left
   ·intro wz hSw; (first | (go_simp; done) | (go_simp; with_reducible rfl))
   intro vw4 hw4
   clear hw3 vw3
   (try simp only [Act.put, List.getElem_toArray, List.getElem_cons_zero, List.getElem_cons_succ, List.setIfInBounds_toArray, List.set_cons_zero, List.set_cons_succ])
   refine give_pure [] 4 (.slice o l.length c) hG rfl (by kernel_rfl) hw4 (by kernel_rfl) ?_ ?_
   ·intro wz hSw; obtain ⟨c0, c1, c2, c3, _, _⟩ := (HR.out.below hSw).facts; (first | (go_simp; done) | (go_simp; with_reducible rfl))
   intro vw5 hw5
   clear hw4 vw4
   (try simp only [Act.put, List.getElem_toArray, List.getElem_cons_zero, List.getElem_cons_succ, List.setIfInBounds_toArray, List.set_cons_zero, List.set_cons_succ])
   refine give_pure [] 5 (?_) hG rfl (by kernel_rfl) hw5 (by kernel_rfl) ?_ ?_
   rotate_left
   ·intro wz hSw; (first | (go_simp; done) | (go_simp; with_reducible rfl))
   intro vw6 hw6
   clear hw5 vw5
   (try simp only [Act.put, List.getElem_toArray, List.getElem_cons_zero, List.getElem_cons_succ, List.setIfInBounds_toArray, List.set_cons_zero, List.set_cons_succ])
   refine give_pure [] 6 (?_) hG rfl (by kernel_rfl) hw6 (by kernel_rfl) ?_ ?_
   rotate_left
   ·intro wz hSw; (first | (go_simp; done) | (go_simp; with_reducible rfl))
   intro vw7 hw7
   clear hw6 vw6
   (try simp only [Act.put, List.getElem_toArray, List.getElem_cons_zero, List.getElem_cons_succ, List.setIfInBounds_toArray, List.set_cons_zero, List.set_cons_succ])
   refine give_pure [] 7 (?_) hG rfl (by kernel_rfl) hw7 (by kernel_rfl) ?_ ?_
   rotate_left
   ·intro wz hSw; (first | (go_simp; done) | (go_simp; with_reducible rfl))
   intro vw8 hw8
   clear hw7 vw7
   (try simp only [Act.put, List.getElem_toArray, List.getElem_cons_zero, List.getElem_cons_succ, List.setIfInBounds_toArray, List.set_cons_zero, List.set_cons_succ])
   refine give_pure [] 8 (.int .i64 (at0 : Int)) hG rfl (by kernel_rfl) hw8 (by kernel_rfl) ?_ ?_
   ·intro wz hSw; obtain ⟨c0, c1, c2, c3, _, _⟩ := (HR.out.below hSw).facts; (first | (go_simp; done) | (go_simp; with_reducible rfl))
   intro vw9 hw9
   clear hw8 vw8
   (try simp only [Act.put, List.getElem_toArray, List.getElem_cons_zero, List.getElem_cons_succ, List.setIfInBounds_toArray, List.set_cons_zero, List.set_cons_succ])
   refine give_pure [] 9 (.slice (cutA o c at0) (l.length - at0) (c - at0)) hG rfl (by kernel_rfl) hw9 (by kernel_rfl) ?_ ?_
   ·intro wz hSw; exact exec_low (.tmp 15) (.tmp 19) (by kernel_rfl) o l.length c at0 (at0 : Int) rfl (by kernel_rfl) (by kernel_rfl) k2 HOK.out.le HOK.out.nil (fun _ => HOK.out.spot)
   intro vw10 hw10
   clear hw9 vw9
   (try simp only [Act.put, List.getElem_toArray, List.getElem_cons_zero, List.getElem_cons_succ, List.setIfInBounds_toArray, List.set_cons_zero, List.set_cons_succ])
   refine give_callS [] 10 114 #[.slice (cutA o c at0) (l.length - at0) (c - at0)] (.tuple #[.int .u64 0, .int .i64 0]) hG rfl (by kernel_rfl) hw10 (by kernel_rfl) ?_ HFC.out ?_
   ·intro wz; (first | (go_simp; done) | (go_simp; with_reducible rfl))
   intro vw11 hw11
   clear hw10 vw10
   (try simp only [Act.put, List.getElem_toArray, List.getElem_cons_zero, List.getElem_cons_succ, List.setIfInBounds_toArray, List.set_cons_zero, List.set_cons_succ])
   refine give_pure [] 11 (?_) hG rfl (by kernel_rfl) hw11 (by kernel_rfl) ?_ ?_
   rotate_left
   ·intro wz hSw; (first | (go_simp; done) | (go_simp; with_reducible rfl))
   intro vw12 hw12
   clear hw11 vw11
   (try simp only [Act.put, List.getElem_toArray, List.getElem_cons_zero, List.getElem_cons_succ, List.setIfInBounds_toArray, List.set_cons_zero, List.set_cons_succ])
   refine give_pure [] 12 (?_) hG rfl (by kernel_rfl) hw12 (by kernel_rfl) ?_ ?_
   rotate_left
   ·intro wz hSw; (first | (go_simp; done) | (go_simp; with_reducible rfl))
   intro vw13 hw13
   clear hw12 vw12
   (try simp only [Act.put, List.getElem_toArray, List.getElem_cons_zero, List.getElem_cons_succ, List.setIfInBounds_toArray, List.set_cons_zero, List.set_cons_succ])
   refine give_pure [] 13 (?_) hG rfl (by kernel_rfl) hw13 (by kernel_rfl) ?_ ?_
   rotate_left
   ·intro wz hSw; (first | (go_simp; done) | (go_simp; with_reducible rfl))
   intro vw14 hw14
   clear hw13 vw13
   (try simp only [Act.put, List.getElem_toArray, List.getElem_cons_zero, List.getElem_cons_succ, List.setIfInBounds_toArray, List.set_cons_zero, List.set_cons_succ])
   refine give_pure [] 14 (?_) hG rfl (by kernel_rfl) hw14 (by kernel_rfl) ?_ ?_
   rotate_left
   ·intro wz hSw; (first | (go_simp; done) | (go_simp; with_reducible rfl))
   intro vw15 hw15
   clear hw14 vw14
   (try simp only [Act.put, List.getElem_toArray, List.getElem_cons_zero, List.getElem_cons_succ, List.setIfInBounds_toArray, List.set_cons_zero, List.set_cons_succ])
   refine give_pure [] 15 (?_) hG rfl (by kernel_rfl) hw15 (by kernel_rfl) ?_ ?_
   rotate_left
   ·intro wz hSw; (first | (go_simp; done) | (go_simp; with_reducible rfl))
   intro vw16 hw16
   clear hw15 vw15
   (try simp only [Act.put, List.getElem_toArray, List.getElem_cons_zero, List.getElem_cons_succ, List.setIfInBounds_toArray, List.set_cons_zero, List.set_cons_succ])
   refine give_done (by kernel_rfl) (?_) _
   refine hK3 _ _ ?_
   have HR1 := Lib.hid (HR.out.below hw16)
   have HB1 := Lib.hid hw16
   clear hK3 hG HR HFC hw16
   obtain ⟨c0, c1, c2, c3, f1, f3⟩ := HR1.out.facts
   have HE := Lib.hid HR1.out.spoil
   have HGE := Lib.hid ((below_grown HB1.out (some p)).trans (grown_cell _ p 1 (.bool true)))
   clear HR1 HB1
   go_wp2_with fail
   go_ret
   exact ⟨rfl, HE.out, HGE.out⟩
  | some r =>
   obtain ⟨n, j⟩ := r
   have hle := rd_le hr
   have hn64 : n < 18446744073709551616 := by have := hle.1; unfold M64 at this; omega
   have hj0 : 0 < j := hle.2.1
   have hjl : at0 + j ≤ l.length := by have := hle.2.2; simp at this; omega
   have HFC : Hid (∀ W : World, Below w.heap.size w W → Calls Tryz.prog 114 #[.slice (cutA o c at0) (l.length - at0) (c - at0)] W fun e w' => e = .returned (.tuple #[.int .u64 (n : Int), .int .i64 (j : Int)]) ∧ Below W.heap.size W w') := Lib.hid (by rw [hr] at hfc; exact hfc)
   obtain ⟨left, hleft⟩ : ∃ left, l.length - (at0 + j) = left := ⟨_, rfl⟩
   have hsub : IntKind.i64.wrap (((l.length - at0 : Nat) : Int) - (j : Int)) = (left : Int) := by rw [IntKind.wrap_i64]; omega
   have hleft9 : left ≤ 1000000000 := by omega
   have hrr : tkR false may l at0 = if may n left = true then some (n, j) else none := by unfold tkR; simp [hr, hleft]
   have MC := Lib.hid (fun W hb => mc.out n left W hb hn64 hleft9)
   obtain ⟨mb, hmb⟩ : ∃ mb, may n left = mb := ⟨_, rfl⟩
   rw [hmb] at MC hrr
   rw [hrr]
   obtain ⟨R, hR⟩ : ∃ R, (if mb = true then some (n, j) else none) = R := ⟨_, rfl⟩
   rw [hR]
   have HRE := Lib.hid hR
   clear hR
   have j1 : ¬ (j : Int) = 0 := by omega
   have HSUM : Hid (IntKind.i64.wrap ((at0 : Int) + (j : Int)) = (at0 : Int) + (j : Int)) := Lib.hid (by rw [IntKind.wrap_i64]; omega)
   have HSUB := Lib.hid hsub
   have HN := Lib.hid hn64
   have HJ := Lib.hid hjl
   clear hfc hr hle hleft hleft9 hrr hmb mc hn64 hjl hsub
   go_enter Tryz.func89, Tryz.ntmps89
   go_wp2_with fail
   refine HF.out.mono ?_
   rintro e w1 ⟨rfl, rfl⟩
   simp only [fl, if_true, Bool.false_eq_true, if_false]
   clear HF c0 c1 c2 c3
   go_wp2_with fail
   rename_i K3 hK3
   refine (wpIn_wide (n := 5)).1 (give_region (S := fun X => Below w.heap.size w X) (Z := []) (by kernel_rfl) (by kernel_rfl) below_mono (fun d _ _ _ _ h => by cases d <;> exact h) (bdrew0 _ _ 1) (fun hG vw0 hw0 => ?_))
   refine give_pure [] 0 (?_) hG rfl (by kernel_rfl) hw0 (by kernel_rfl) ?_ ?_
   rotate_left
   ·intro wz hSw; (first | (go_simp; done) | (go_simp; with_reducible rfl))
   intro vw1 hw1
   clear hw0 vw0
   (try simp only [Act.put, List.getElem_toArray, List.getElem_cons_zero, List.getElem_cons_succ, List.setIfInBounds_toArray, List.set_cons_zero, List.set_cons_succ])
   refine give_pure [] 1 (?_) hG rfl (by kernel_rfl) hw1 (by kernel_rfl) ?_ ?_
   rotate_left
   ·intro wz hSw; (first | (go_simp; done) | (go_simp; with_reducible rfl))
   intro vw2 hw2
   clear hw1 vw1
   (try simp only [Act.put, List.getElem_toArray, List.getElem_cons_zero, List.getElem_cons_succ, List.setIfInBounds_toArray, List.set_cons_zero, List.set_cons_succ])
   refine give_pure [] 2 (?_) hG rfl (by kernel_rfl) hw2 (by kernel_rfl) ?_ ?_
   rotate_left
   ·intro wz hSw; (first | (go_simp; done) | (go_simp; with_reducible rfl))
   intro vw3 hw3
   clear hw2 vw2
   (try simp only [Act.put, List.getElem_toArray, List.getElem_cons_zero, List.getElem_cons_succ, List.setIfInBounds_toArray, List.set_cons_zero, List.set_cons_succ])
   refine give_pure [] 3 (?_) hG rfl (by kernel_rfl) hw3 (by kernel_rfl) ?_ ?_
   rotate_left
   ·intro wz hSw; (first | (go_simp; done) | (go_simp; with_reducible rfl))
   intro vw4 hw4
   clear hw3 vw3
   (try simp only [Act.put, List.getElem_toArray, List.getElem_cons_zero, List.getElem_cons_succ, List.setIfInBounds_toArray, List.set_cons_zero, List.set_cons_succ])
   refine give_pure [] 4 (.slice o l.length c) hG rfl (by kernel_rfl) hw4 (by kernel_rfl) ?_ ?_
   ·intro wz hSw; obtain ⟨c0, c1, c2, c3, _, _⟩ := (HR.out.below hSw).facts; (first | (go_simp; done) | (go_simp; with_reducible rfl))
   intro vw5 hw5
   clear hw4 vw4
   (try simp only [Act.put, List.getElem_toArray, List.getElem_cons_zero, List.getElem_cons_succ, List.setIfInBounds_toArray, List.set_cons_zero, List.set_cons_succ])
   refine give_pure [] 5 (?_) hG rfl (by kernel_rfl) hw5 (by kernel_rfl) ?_ ?_
   rotate_left
   ·intro wz hSw; (first | (go_simp; done) | (go_simp; with_reducible rfl))
   intro vw6 hw6
   clear hw5 vw5
   (try simp only [Act.put, List.getElem_toArray, List.getElem_cons_zero, List.getElem_cons_succ, List.setIfInBounds_toArray, List.set_cons_zero, List.set_cons_succ])
   refine give_pure [] 6 (?_) hG rfl (by kernel_rfl) hw6 (by kernel_rfl) ?_ ?_
   rotate_left
   ·intro wz hSw; (first | (go_simp; done) | (go_simp; with_reducible rfl))
   intro vw7 hw7
   clear hw6 vw6
   (try simp only [Act.put, List.getElem_toArray, List.getElem_cons_zero, List.getElem_cons_succ, List.setIfInBounds_toArray, List.set_cons_zero, List.set_cons_succ])
   refine give_pure [] 7 (?_) hG rfl (by kernel_rfl) hw7 (by kernel_rfl) ?_ ?_
   rotate_left
   ·intro wz hSw; (first | (go_simp; done) | (go_simp; with_reducible rfl))
   intro vw8 hw8
   clear hw7 vw7
   (try simp only [Act.put, List.getElem_toArray, List.getElem_cons_zero, List.getElem_cons_succ, List.setIfInBounds_toArray, List.set_cons_zero, List.set_cons_succ])
   refine give_pure [] 8 (.int .i64 (at0 : Int)) hG rfl (by kernel_rfl) hw8 (by kernel_rfl) ?_ ?_
   ·intro wz hSw; obtain ⟨c0, c1, c2, c3, _, _⟩ := (HR.out.below hSw).facts; (first | (go_simp; done) | (go_simp; with_reducible rfl))
   intro vw9 hw9
   clear hw8 vw8
   (try simp only [Act.put, List.getElem_toArray, List.getElem_cons_zero, List.getElem_cons_succ, List.setIfInBounds_toArray, List.set_cons_zero, List.set_cons_succ])
   refine give_pure [] 9 (.slice (cutA o c at0) (l.length - at0) (c - at0)) hG rfl (by kernel_rfl) hw9 (by kernel_rfl) ?_ ?_
   ·intro wz hSw; exact exec_low (.tmp 15) (.tmp 19) (by kernel_rfl) o l.length c at0 (at0 : Int) rfl (by kernel_rfl) (by kernel_rfl) k2 HOK.out.le HOK.out.nil (fun _ => HOK.out.spot)
   intro vw10 hw10
   clear hw9 vw9
   (try simp only [Act.put, List.getElem_toArray, List.getElem_cons_zero, List.getElem_cons_succ, List.setIfInBounds_toArray, List.set_cons_zero, List.set_cons_succ])
   refine give_callS [] 10 114 #[.slice (cutA o c at0) (l.length - at0) (c - at0)] (.tuple #[.int .u64 (n : Int), .int .i64 (j : Int)]) hG rfl (by kernel_rfl) hw10 (by kernel_rfl) ?_ HFC.out ?_
   ·intro wz; (first | (go_simp; done) | (go_simp; with_reducible rfl))
   intro vw11 hw11
   clear hw10 vw10
   (try simp only [Act.put, List.getElem_toArray, List.getElem_cons_zero, List.getElem_cons_succ, List.setIfInBounds_toArray, List.set_cons_zero, List.set_cons_succ])
   refine give_pure [] 11 (?_) hG rfl (by kernel_rfl) hw11 (by kernel_rfl) ?_ ?_
   rotate_left
   ·intro wz hSw; (first | (go_simp; done) | (go_simp; with_reducible rfl))
   intro vw12 hw12
   clear hw11 vw11
   (try simp only [Act.put, List.getElem_toArray, List.getElem_cons_zero, List.getElem_cons_succ, List.setIfInBounds_toArray, List.set_cons_zero, List.set_cons_succ])
   refine give_pure [] 12 (?_) hG rfl (by kernel_rfl) hw12 (by kernel_rfl) ?_ ?_
   rotate_left
   ·intro wz hSw; (first | (go_simp; done) | (go_simp; with_reducible rfl))
   intro vw13 hw13
   clear hw12 vw12
   (try simp only [Act.put, List.getElem_toArray, List.getElem_cons_zero, List.getElem_cons_succ, List.setIfInBounds_toArray, List.set_cons_zero, List.set_cons_succ])
   refine give_pure [] 13 (?_) hG rfl (by kernel_rfl) hw13 (by kernel_rfl) ?_ ?_
   rotate_left
   ·intro wz hSw; (first | (go_simp; done) | (go_simp; with_reducible rfl))
   intro vw14 hw14
   clear hw13 vw13
   (try simp only [Act.put, List.getElem_toArray, List.getElem_cons_zero, List.getElem_cons_succ, List.setIfInBounds_toArray, List.set_cons_zero, List.set_cons_succ])
   refine give_pure [] 14 (?_) hG rfl (by kernel_rfl) hw14 (by kernel_rfl) ?_ ?_
   rotate_left
   ·intro wz hSw; (first | (go_simp; done) | (go_simp; with_reducible rfl))
   intro vw15 hw15
   clear hw14 vw14
   (try simp only [Act.put, List.getElem_toArray, List.getElem_cons_zero, List.getElem_cons_succ, List.setIfInBounds_toArray, List.set_cons_zero, List.set_cons_succ])
   refine give_pure [] 15 (?_) hG rfl (by kernel_rfl) hw15 (by kernel_rfl) ?_ ?_
   rotate_left
   ·intro wz hSw; (first | (go_simp; done) | (go_simp; with_reducible rfl))
   intro vw16 hw16
   clear hw15 vw15
   (try simp only [Act.put, List.getElem_toArray, List.getElem_cons_zero, List.getElem_cons_succ, List.setIfInBounds_toArray, List.set_cons_zero, List.set_cons_succ])
   refine give_done (by kernel_rfl) (?_) _
   refine hK3 _ _ ?_
   have HR1 := Lib.hid (HR.out.below hw16)
   have HB1 := Lib.hid hw16
   clear hK3 hG HR HFC hw16
   have HL := Lib.hid (pleft_any o c l p at0 false _ HKK.out HR1.out)
   go_wp2_with fail
   refine HL.out.mono ?_
   rintro e w2 ⟨rfl, hb2⟩
   have hlf : lfV false l at0 = l.length - at0 := rfl
   rw [hlf]
   have hsub := HSUB.out
   have HR2 := Lib.hid (HR1.out.below hb2)
   have HB2 := Lib.hid (bnext HB1.out hb2)
   clear hb2 hlf HR1 HB1 HL
   go_wp2_with fail
   refine (MC.out _ HB2.out).mono ?_
   rintro e w3 ⟨rfl, rfl⟩
   obtain ⟨c0, c1, c2, c3, f1, f3⟩ := HR2.out.facts
   clear MC
   cases mb with
   | true =>
    have HE := Lib.hid (HR2.out.goto (at0 + j) ((at0 : Int) + (j : Int)) (by omega))
    have HGE := Lib.hid ((below_grown HB2.out (some p)).trans (grown_cell _ p 3 (.int .i64 ((at0 : Int) + (j : Int)))))
    have hsum := HSUM.out
    clear HR2 HB2
    go_wp2_with fail
    go_ret
    rw [← HRE.out]
    exact ⟨rfl, HE.out, HGE.out⟩
   | false =>
    have HE := Lib.hid HR2.out.spoil
    have HGE := Lib.hid ((below_grown HB2.out (some p)).trans (grown_cell _ p 1 (.bool true)))
    clear HR2 HB2
    go_wp2_with fail
    go_ret
    rw [← HRE.out]
    exact ⟨rfl, HE.out, HGE.out⟩
end Go.Proofs.YtbbhmhihpdmoiaaGreat.Pk
