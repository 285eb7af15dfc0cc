/- wide.pairs, walked: what it hands on. -/
import Derived.Test.YtgkglkoipocgaaaProg
import Derived.Test.YtgkglkoipocgaaaIt
import Derived.Test.YtgkglkoipocgaaaHd
import Derived.Test.YtgkglkoipocgaaaT1
import Derived.Shelf.Abstract
import Derived.Shelf.RegionOpen
import Derived.WalkKit
import Derived.OwnWalkIn
import Derived.TacticsInMore
import Derived.LoopNIn
import Derived.LoopIn
import Derived.Lib.Hide
import Derived.Outline
import Derived.Deep.QuietTactic
import Derived.BigQuiet
set_option linter.unusedVariables false
set_option linter.unusedSimpArgs false
namespace Go.Proofs.Ytgkglkoipocgaaa.Fx
open Go Go.RowKit Go.Shelf
attribute [local go_sem] Oper.semAt_some
/-- a list of numbers behind a slice's address -/
def Sl (W : World) (o : Option Addr) (xs : List Int) : Prop :=
  ∀ j, j < xs.length → ∃ b off, o = some ⟨b, off, none⟩ ∧ W.cell? ⟨b, off + j, none⟩ = some (.int .i64 (xs.getD j 0))
theorem Sl.below {w W : World} (h : Below w.heap.size w W) {o : Option Addr} {xs : List Int} (s : Sl w o xs) : Sl W o xs := fun j hj =>
  let ⟨b, off, e, hc⟩ := s j hj
  ⟨b, off, e, keep_cell h hc⟩
def PairM (xs ys : List Int) (oa ob : Option Addr) (ca cb A B : Nat) (X : World) : Prop :=
  X.cell? ⟨A, 0, none⟩ = some (.slice oa xs.length ca) ∧ X.cell? ⟨B, 0, none⟩ = some (.slice ob ys.length cb) ∧ Sl X oa xs ∧ Sl X ob ys
def pairElem (xs ys : List Int) (k : Nat) : Array Value := #[.int .i64 (xs.getD k 0), .int .i64 (ys.getD k 0)]
set_option maxRecDepth 100000 in
set_option maxHeartbeats 1000000 in
theorem pairs_hands (xs ys : List Int) (oa ob : Option Addr) (ca cb A B : Nat) (lx : xs.length ≤ 1000000) (ly : ys.length ≤ 1000000) :
    Hands Fence.wide 4 Try.prog 80 #[.pointer (some ⟨A, 0, none⟩), .pointer (some ⟨B, 0, none⟩)] (pairElem xs ys) (min xs.length ys.length) (PairM xs ys oa ob ca cb A B) := by
  intro l J Jx W hJ1 hJ2 hJB hJxB hY h0
  obtain ⟨ca', cb', _, _⟩ := hJB 0 W h0
  have HY := Lib.hid hY; clear hY
  have HJ1 := Lib.hid hJ1; clear hJ1
  have HJ2 := Lib.hid hJ2; clear hJ2
  have HJB := Lib.hid hJB; clear hJB
  have HJxB := Lib.hid hJxB; clear hJxB
  refine callsIn_of_wp Try.func80 rfl trivial ?_ rfl
  simp only [Try.ntmps80, List.size_toArray, List.length_cons, List.length_nil, Nat.reduceAdd, Nat.reduceSub, Array.replicate_succ, Array.replicate_zero, List.push_toArray, List.append_toArray, List.nil_append, List.cons_append]
  gi_wp2
  gi_loopw [10] (fun v10 wr => ∃ k : Nat, v10 = .int .i64 (k : Int) ∧ k ≤ min xs.length ys.length ∧ J k wr) (fun v10 _ => min xs.length ys.length - (intOf v10).toNat)
  case atStart => exact ⟨0, rfl, by omega, h0⟩
  case round =>
    obtain ⟨k, rfl, hkN, hJ⟩ := hrel
    by_cases hk : k < min xs.length ys.length
    · obtain ⟨_, _, sx, sy⟩ := HJB.out k wr hJ
      obtain ⟨b, off, rfl, hcx⟩ := sx k (by omega)
      obtain ⟨b2, off2, rfl, hcy⟩ := sy k (by omega)
      clear sx sy hcx hcy
      have k1 : (k : Int) < (xs.length : Int) := by omega
      have k2 : (k : Int) < (ys.length : Int) := by omega
      have hJd := HJ1.out k wr wr.drew hJ (bdrew0 _ wr 1)
      obtain ⟨fn, tmps, assign, body, hy, hR⟩ := HY.out k wr.drew hk hJd
      dsimp only [pairElem] at hy
      have HS : ∀ X, PairM xs ys (some ⟨b, off, none⟩) (some ⟨b2, off2, none⟩) ca cb A B X → X.cell? ⟨A, 0, none⟩ = some (.slice (some ⟨b, off, none⟩) xs.length ca) ∧ X.cell? ⟨B, 0, none⟩ = some (.slice (some ⟨b2, off2, none⟩) ys.length cb) ∧ X.cell? ⟨b, off + k, none⟩ = some (.int .i64 (xs.getD k 0)) ∧ X.cell? ⟨b2, off2 + k, none⟩ = some (.int .i64 (ys.getD k 0)) := fun X ⟨h1, h2, h3, h4⟩ =>
        ⟨h1, h2, by obtain ⟨_, _, e, h⟩ := h3 k (by omega); cases e; exact h, by obtain ⟨_, _, e, h⟩ := h4 k (by omega); cases e; exact h⟩
      obtain ⟨x, hxk⟩ : ∃ x, xs.getD k 0 = x := ⟨_, rfl⟩
      obtain ⟨y, hyk⟩ : ∃ y, ys.getD k 0 = y := ⟨_, rfl⟩
      rw [hxk] at hy HS
      rw [hyk] at hy HS
      have HSH := Lib.hid HS
      have HKX := Lib.hid hxk
      have HKY := Lib.hid hyk
      have n0 : (0 : Int) ≤ (k : Int) := by omega
      clear ca' cb' HS hxk hyk
      gi_wp2
      refine held_region (S := fun X => X.cell? ⟨A, 0, none⟩ = some (.slice (some ⟨b, off, none⟩) xs.length ca) ∧ X.cell? ⟨B, 0, none⟩ = some (.slice (some ⟨b2, off2, none⟩) ys.length cb) ∧ X.cell? ⟨b, off + k, none⟩ = some (.int .i64 x) ∧ X.cell? ⟨b2, off2 + k, none⟩ = some (.int .i64 y)) (by kernel_rfl) (HSH.out _ (HJB.out _ _ hJd)) (fun hHeld => ?_)
      refine held_take (fun _ => trivial) (by kernel_rfl) (i := 0) (oi := _) (v := ?_) rfl (by kernel_rfl) (by kernel_rfl) (by kernel_rfl) (fun _ _ _ h => h) (by assumption) (Or.inl ⟨by kernel_rfl, ?_⟩) ?_
      rotate_left
      · intro wz hSw; obtain ⟨c1, c2, c3, c4⟩ := hSw; (first | (go_simp; done) | (go_simp; with_reducible rfl))
      (try simp only [Act.put, List.setIfInBounds_toArray, List.set_cons_zero, List.set_cons_succ])
      refine held_take (fun _ => trivial) (by kernel_rfl) (i := 1) (oi := _) (v := ?_) rfl (by kernel_rfl) (by kernel_rfl) (by kernel_rfl) (fun _ _ _ h => h) (by assumption) (Or.inl ⟨by kernel_rfl, ?_⟩) ?_
      rotate_left
      · intro wz hSw; obtain ⟨c1, c2, c3, c4⟩ := hSw; (first | (go_simp; done) | (go_simp; with_reducible rfl))
      (try simp only [Act.put, List.setIfInBounds_toArray, List.set_cons_zero, List.set_cons_succ])
      refine held_take (fun _ => trivial) (by kernel_rfl) (i := 2) (oi := _) (v := ?_) rfl (by kernel_rfl) (by kernel_rfl) (by kernel_rfl) (fun _ _ _ h => h) (by assumption) (Or.inl ⟨by kernel_rfl, ?_⟩) ?_
      rotate_left
      · intro wz hSw; obtain ⟨c1, c2, c3, c4⟩ := hSw; (first | (go_simp; done) | (go_simp; with_reducible rfl))
      (try simp only [Act.put, List.setIfInBounds_toArray, List.set_cons_zero, List.set_cons_succ])
      refine held_take (fun _ => trivial) (by kernel_rfl) (i := 3) (oi := _) (v := ?_) rfl (by kernel_rfl) (by kernel_rfl) (by kernel_rfl) (fun _ _ _ h => h) (by assumption) (Or.inl ⟨by kernel_rfl, ?_⟩) ?_
      rotate_left
      · intro wz hSw; obtain ⟨c1, c2, c3, c4⟩ := hSw; (first | (go_simp; done) | (go_simp; with_reducible rfl))
      (try simp only [Act.put, List.setIfInBounds_toArray, List.set_cons_zero, List.set_cons_succ])
      refine held_take (fun _ => trivial) (by kernel_rfl) (i := 4) (oi := _) (v := ?_) rfl (by kernel_rfl) (by kernel_rfl) (by kernel_rfl) (fun _ _ _ h => h) (by assumption) (Or.inl ⟨by kernel_rfl, ?_⟩) ?_
      rotate_left
      · intro wz hSw; obtain ⟨c1, c2, c3, c4⟩ := hSw; (first | (go_simp; done) | (go_simp; with_reducible rfl))
      (try simp only [Act.put, List.setIfInBounds_toArray, List.set_cons_zero, List.set_cons_succ])
      refine held_take (fun _ => trivial) (by kernel_rfl) (i := 5) (oi := _) (v := ?_) rfl (by kernel_rfl) (by kernel_rfl) (by kernel_rfl) (fun _ _ _ h => h) (by assumption) (Or.inl ⟨by kernel_rfl, ?_⟩) ?_
      rotate_left
      · intro wz hSw; obtain ⟨c1, c2, c3, c4⟩ := hSw; (first | (go_simp; done) | (go_simp; with_reducible rfl))
      (try simp only [Act.put, List.setIfInBounds_toArray, List.set_cons_zero, List.set_cons_succ])
      refine held_take (fun _ => trivial) (by kernel_rfl) (i := 6) (oi := _) (v := ?_) rfl (by kernel_rfl) (by kernel_rfl) (by kernel_rfl) (fun _ _ _ h => h) (by assumption) (Or.inl ⟨by kernel_rfl, ?_⟩) ?_
      rotate_left
      · intro wz hSw; obtain ⟨c1, c2, c3, c4⟩ := hSw; (first | (go_simp; done) | (go_simp; with_reducible rfl))
      (try simp only [Act.put, List.setIfInBounds_toArray, List.set_cons_zero, List.set_cons_succ])
      refine held_take (fun _ => trivial) (by kernel_rfl) (i := 7) (oi := _) (v := ?_) rfl (by kernel_rfl) (by kernel_rfl) (by kernel_rfl) (fun _ _ _ h => h) (by assumption) (Or.inl ⟨by kernel_rfl, ?_⟩) ?_
      rotate_left
      · intro wz hSw; obtain ⟨c1, c2, c3, c4⟩ := hSw; (first | (go_simp; done) | (go_simp; with_reducible rfl))
      (try simp only [Act.put, List.setIfInBounds_toArray, List.set_cons_zero, List.set_cons_succ])
      refine held_take (fun _ => trivial) (by kernel_rfl) (i := 8) (oi := _) (v := ?_) rfl (by kernel_rfl) (by kernel_rfl) (by kernel_rfl) (fun _ _ _ h => h) (by assumption) (Or.inl ⟨by kernel_rfl, ?_⟩) ?_
      rotate_left
      · intro wz hSw; obtain ⟨c1, c2, c3, c4⟩ := hSw; (first | (go_simp; done) | (go_simp; with_reducible rfl))
      (try simp only [Act.put, List.setIfInBounds_toArray, List.set_cons_zero, List.set_cons_succ])
      refine held_step (fun _ => trivial) (i := 9) (o := _) (by kernel_rfl) rfl (fun K hK => ?_)
      go_simp
      refine hR.mono ?_
      rintro e W3 (⟨rfl, hJ3⟩ | ⟨rfl, hJx3⟩)
      · refine hK.out _ _ (HSH.out _ (HJB.out _ _ hJ3)) (fun hHeld => ?_)
        clear hK K
        refine held_take (fun _ => trivial) (by kernel_rfl) (i := 10) (oi := _) (v := ?_) rfl (by kernel_rfl) (by kernel_rfl) (by kernel_rfl) (fun _ _ _ h => h) (by assumption) (Or.inl ⟨by kernel_rfl, ?_⟩) ?_
        rotate_left
        · intro wz hSw; obtain ⟨c1, c2, c3, c4⟩ := hSw; (first | (go_simp; done) | (go_simp; with_reducible rfl))
        (try simp only [Act.put, List.setIfInBounds_toArray, List.set_cons_zero, List.set_cons_succ])
        refine held_done (by kernel_rfl) ?_ _
        clear hHeld
        gi_wp2
        go_roundw
        case rel => exact ⟨k + 1, by go_num, by omega, hJ3⟩
        case measure => simp [intOf]; omega
      · refine hK.out _ _ (HSH.out _ (HJxB.out _ hJx3)) (fun hHeld => ?_)
        clear hK K
        refine held_take (fun _ => trivial) (by kernel_rfl) (i := 10) (oi := _) (v := ?_) rfl (by kernel_rfl) (by kernel_rfl) (by kernel_rfl) (fun _ _ _ h => h) (by assumption) (Or.inl ⟨by kernel_rfl, ?_⟩) ?_
        rotate_left
        · intro wz hSw; obtain ⟨c1, c2, c3, c4⟩ := hSw; (first | (go_simp; done) | (go_simp; with_reducible rfl))
        (try simp only [Act.put, List.setIfInBounds_toArray, List.set_cons_zero, List.set_cons_succ])
        refine held_done (by kernel_rfl) ?_ _
        clear hHeld
        gi_wp2
        refine bodyPost_ret (results_none rfl _ _ _) rfl ?_
        exact ⟨⟨_, rfl⟩, .inr hJx3⟩
    · have hkm : k = min xs.length ys.length := by omega
      have hnlt : ¬ (k : Int) < min (xs.length : Int) (ys.length : Int) := by omega
      have HKM := Lib.hid hkm
      clear hkm
      gi_wp2
      go_end0
      exact ⟨⟨_, rfl⟩, .inl (by rw [← HKM.out]; exact hJ)⟩
theorem pairs_w (oa ob : Option Addr) (la lb ca cb : Nat) (w : World) : Calls Try.prog 75 #[.slice oa la ca, .slice ob lb cb] w fun e w' =>
    e = .returned (.func (.func 80) #[] #[.pointer (some ⟨w.heap.size, 0, none⟩), .pointer (some ⟨w.heap.size + 1, 0, none⟩)]) ∧ w' = (w.alloc (.cells #[.slice oa la ca] 115)).alloc (.cells #[.slice ob lb cb] 115) := by
  go_enter Try.func75, Try.ntmps75
  go_wp2
  go_ret
  exact ⟨rfl, rfl⟩
end Go.Proofs.Ytgkglkoipocgaaa.Fx
