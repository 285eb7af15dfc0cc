import Derived.Laws.Rows
import Derived.Test.YtbbhmhihpdmoiaaGreatProg
import Derived.Shelf.Abstract
import Derived.Shelf.RegionOpen
import Derived.WalkKit
import Derived.OwnWalkIn
import Derived.TacticsInMore
import Derived.LoopNIn
import Derived.LoopIn
import Derived.Lib.Hide
import Derived.Outline
import Derived.Deep.QuietTactic
import Derived.BigQuiet
import Derived.Deep.RegionHeld3
import Derived.Test.YtbbhmhihpdmoiaaGreatMv01
import Derived.Test.YtbbhmhihpdmoiaaGreatMv02
import Derived.Test.YtbbhmhihpdmoiaaGreatMv03
import Derived.Test.YtbbhmhihpdmoiaaGreatMv04
set_option linter.unusedVariables false
set_option linter.unusedSimpArgs false
namespace Go.Proofs.YtbbhmhihpdmoiaaGreat.Fx
open Go Go.RowKit Go.Shelf
attribute [local go_sem] Oper.semAt_some
def Sl (W : World) (o : Option Addr) (xs : List Int) : Prop :=
 ∀ j, j < xs.length → ∃ b off, o = some ⟨b, off, none⟩ ∧ W.cell? ⟨b, off + j, none⟩ = some (.int .i64 (xs.getD j 0))
theorem Sl.below {w W : World} (h : Below w.heap.size w W) {o : Option Addr} {xs : List Int} (s : Sl w o xs) : Sl W o xs := fun j hj =>
 let ⟨b, off, e, hc⟩ := s j hj
 ⟨b, off, e, keep_cell h hc⟩
def PairM (xs ys : List Int) (oa ob : Option Addr) (ca cb A B : Nat) (X : World) : Prop :=
 X.cell? ⟨A, 0, none⟩ = some (.slice oa xs.length ca) ∧ X.cell? ⟨B, 0, none⟩ = some (.slice ob ys.length cb) ∧ Sl X oa xs ∧ Sl X ob ys
def pairElem (xs ys : List Int) (k : Nat) : Array Value := #[.int .i64 (xs.getD k 0), .int .i64 (ys.getD k 0)]
set_option maxRecDepth 100000 in
set_option maxHeartbeats 1000000 in
theorem pairs_hands (xs ys : List Int) (oa ob : Option Addr) (ca cb A B : Nat) (lx : xs.length ≤ 1000000) (ly : ys.length ≤ 1000000) :
  Hands Fence.wide 4 Tryz.prog 181 #[.pointer (some ⟨A, 0, none⟩), .pointer (some ⟨B, 0, none⟩)] (pairElem xs ys) (min xs.length ys.length) (PairM xs ys oa ob ca cb A B) := by
 intro l J Jx W hJ1 hJ2 hJB hJxB hY h0
 obtain ⟨ca', cb', _, _⟩ := hJB 0 W h0
 have HY := Lib.hid hY; clear hY
 have HJ1 := Lib.hid hJ1; clear hJ1
 have HJ2 := Lib.hid hJ2; clear hJ2
 have HJB := Lib.hid hJB; clear hJB
 have HJxB := Lib.hid hJxB; clear hJxB
 refine callsIn_of_wp Tryz.func181 rfl trivial ?_ rfl
 simp only [Tryz.ntmps181, List.size_toArray, List.length_cons, List.length_nil, Nat.reduceAdd, Nat.reduceSub, Array.replicate_succ, Array.replicate_zero, List.push_toArray, List.append_toArray, List.nil_append, List.cons_append]
 gi_wp2
 gi_loopw [10] (fun v10 wr => ∃ k : Nat, v10 = .int .i64 (k : Int) ∧ k ≤ min xs.length ys.length ∧ J k wr) (fun v10 _ => min xs.length ys.length - (intOf v10).toNat)
 case atStart => exact ⟨0, rfl, by omega, h0⟩
 case round =>
  obtain ⟨k, rfl, hkN, hJ⟩ := hrel
  by_cases hk : k < min xs.length ys.length
  ·obtain ⟨_, _, sx, sy⟩ := HJB.out k wr hJ
   obtain ⟨b, off, rfl, hcx⟩ := sx k (by omega)
   obtain ⟨b2, off2, rfl, hcy⟩ := sy k (by omega)
   clear sx sy hcx hcy
   have k1 : (k : Int) < (xs.length : Int) := by omega
   have k2 : (k : Int) < (ys.length : Int) := by omega
   have hJd := HJ1.out k wr wr.drew hJ (bdrew0 _ wr 1)
   obtain ⟨fn, tmps, assign, body, hy, hR⟩ := HY.out k wr.drew hk hJd
   dsimp only [pairElem] at hy
   have HS : ∀ X, PairM xs ys (some ⟨b, off, none⟩) (some ⟨b2, off2, none⟩) ca cb A B X → X.cell? ⟨A, 0, none⟩ = some (.slice (some ⟨b, off, none⟩) xs.length ca) ∧ X.cell? ⟨B, 0, none⟩ = some (.slice (some ⟨b2, off2, none⟩) ys.length cb) ∧ X.cell? ⟨b, off + k, none⟩ = some (.int .i64 (xs.getD k 0)) ∧ X.cell? ⟨b2, off2 + k, none⟩ = some (.int .i64 (ys.getD k 0)) := fun X ⟨h1, h2, h3, h4⟩ =>
    ⟨h1, h2, by obtain ⟨_, _, e, h⟩ := h3 k (by omega); cases e; exact h, by obtain ⟨_, _, e, h⟩ := h4 k (by omega); cases e; exact h⟩
   obtain ⟨x, hxk⟩ : ∃ x, xs.getD k 0 = x := ⟨_, rfl⟩
   obtain ⟨y, hyk⟩ : ∃ y, ys.getD k 0 = y := ⟨_, rfl⟩
   rw [hxk] at hy HS
   rw [hyk] at hy HS
   have HSH := Lib.hid HS
   have HKX := Lib.hid hxk
   have HKY := Lib.hid hyk
   have n0 : (0 : Int) ≤ (k : Int) := by omega
   clear ca' cb' HS hxk hyk
   gi_wp2
   refine held_region (S := fun X => X.cell? ⟨A, 0, none⟩ = some (.slice (some ⟨b, off, none⟩) xs.length ca) ∧ X.cell? ⟨B, 0, none⟩ = some (.slice (some ⟨b2, off2, none⟩) ys.length cb) ∧ X.cell? ⟨b, off + k, none⟩ = some (.int .i64 x) ∧ X.cell? ⟨b2, off2 + k, none⟩ = some (.int .i64 y)) (by kernel_rfl) (HSH.out _ (HJB.out _ _ hJd)) (fun hHeld => ?_)
   refine held_take (fun _ => trivial) (by kernel_rfl) (i := 0) (oi := _) (v := ?_) rfl (by kernel_rfl) (by kernel_rfl) (by kernel_rfl) (fun _ _ _ h => h) (by assumption) (Or.inl ⟨by kernel_rfl, ?_⟩) ?_
   rotate_left
   ·intro wz hSw; obtain ⟨c1, c2, c3, c4⟩ := hSw; (first | (go_simp; done) | (go_simp; with_reducible rfl))
   (try simp only [Act.put, List.setIfInBounds_toArray, List.set_cons_zero, List.set_cons_succ])
   refine held_take (fun _ => trivial) (by kernel_rfl) (i := 1) (oi := _) (v := ?_) rfl (by kernel_rfl) (by kernel_rfl) (by kernel_rfl) (fun _ _ _ h => h) (by assumption) (Or.inl ⟨by kernel_rfl, ?_⟩) ?_
   rotate_left
   ·intro wz hSw; obtain ⟨c1, c2, c3, c4⟩ := hSw; (first | (go_simp; done) | (go_simp; with_reducible rfl))
   (try simp only [Act.put, List.setIfInBounds_toArray, List.set_cons_zero, List.set_cons_succ])
   refine held_take (fun _ => trivial) (by kernel_rfl) (i := 2) (oi := _) (v := ?_) rfl (by kernel_rfl) (by kernel_rfl) (by kernel_rfl) (fun _ _ _ h => h) (by assumption) (Or.inl ⟨by kernel_rfl, ?_⟩) ?_
   rotate_left
   ·intro wz hSw; obtain ⟨c1, c2, c3, c4⟩ := hSw; (first | (go_simp; done) | (go_simp; with_reducible rfl))
   (try simp only [Act.put, List.setIfInBounds_toArray, List.set_cons_zero, List.set_cons_succ])
   refine held_take (fun _ => trivial) (by kernel_rfl) (i := 3) (oi := _) (v := ?_) rfl (by kernel_rfl) (by kernel_rfl) (by kernel_rfl) (fun _ _ _ h => h) (by assumption) (Or.inl ⟨by kernel_rfl, ?_⟩) ?_
   rotate_left
   ·intro wz hSw; obtain ⟨c1, c2, c3, c4⟩ := hSw; (first | (go_simp; done) | (go_simp; with_reducible rfl))
   (try simp only [Act.put, List.setIfInBounds_toArray, List.set_cons_zero, List.set_cons_succ])
   refine held_take (fun _ => trivial) (by kernel_rfl) (i := 4) (oi := _) (v := ?_) rfl (by kernel_rfl) (by kernel_rfl) (by kernel_rfl) (fun _ _ _ h => h) (by assumption) (Or.inl ⟨by kernel_rfl, ?_⟩) ?_
   rotate_left
   ·intro wz hSw; obtain ⟨c1, c2, c3, c4⟩ := hSw; (first | (go_simp; done) | (go_simp; with_reducible rfl))
   (try simp only [Act.put, List.setIfInBounds_toArray, List.set_cons_zero, List.set_cons_succ])
   refine held_take (fun _ => trivial) (by kernel_rfl) (i := 5) (oi := _) (v := ?_) rfl (by kernel_rfl) (by kernel_rfl) (by kernel_rfl) (fun _ _ _ h => h) (by assumption) (Or.inl ⟨by kernel_rfl, ?_⟩) ?_
   rotate_left
   ·intro wz hSw; obtain ⟨c1, c2, c3, c4⟩ := hSw; (first | (go_simp; done) | (go_simp; with_reducible rfl))
   (try simp only [Act.put, List.setIfInBounds_toArray, List.set_cons_zero, List.set_cons_succ])
   refine held_take (fun _ => trivial) (by kernel_rfl) (i := 6) (oi := _) (v := ?_) rfl (by kernel_rfl) (by kernel_rfl) (by kernel_rfl) (fun _ _ _ h => h) (by assumption) (Or.inl ⟨by kernel_rfl, ?_⟩) ?_
   rotate_left
   ·intro wz hSw; obtain ⟨c1, c2, c3, c4⟩ := hSw; (first | (go_simp; done) | (go_simp; with_reducible rfl))
   (try simp only [Act.put, List.setIfInBounds_toArray, List.set_cons_zero, List.set_cons_succ])
   refine held_take (fun _ => trivial) (by kernel_rfl) (i := 7) (oi := _) (v := ?_) rfl (by kernel_rfl) (by kernel_rfl) (by kernel_rfl) (fun _ _ _ h => h) (by assumption) (Or.inl ⟨by kernel_rfl, ?_⟩) ?_
   rotate_left
   ·intro wz hSw; obtain ⟨c1, c2, c3, c4⟩ := hSw; (first | (go_simp; done) | (go_simp; with_reducible rfl))
   (try simp only [Act.put, List.setIfInBounds_toArray, List.set_cons_zero, List.set_cons_succ])
   refine held_take (fun _ => trivial) (by kernel_rfl) (i := 8) (oi := _) (v := ?_) rfl (by kernel_rfl) (by kernel_rfl) (by kernel_rfl) (fun _ _ _ h => h) (by assumption) (Or.inl ⟨by kernel_rfl, ?_⟩) ?_
   rotate_left
   ·intro wz hSw; obtain ⟨c1, c2, c3, c4⟩ := hSw; (first | (go_simp; done) | (go_simp; with_reducible rfl))
   (try simp only [Act.put, List.setIfInBounds_toArray, List.set_cons_zero, List.set_cons_succ])
   refine held_step (fun _ => trivial) (i := 9) (o := _) (by kernel_rfl) rfl (fun K hK => ?_)
   go_simp
   refine hR.mono ?_
   rintro e W3 (⟨rfl, hJ3⟩ | ⟨rfl, hJx3⟩)
   ·refine hK.out _ _ (HSH.out _ (HJB.out _ _ hJ3)) (fun hHeld => ?_)
    clear hK K
    refine held_take (fun _ => trivial) (by kernel_rfl) (i := 10) (oi := _) (v := ?_) rfl (by kernel_rfl) (by kernel_rfl) (by kernel_rfl) (fun _ _ _ h => h) (by assumption) (Or.inl ⟨by kernel_rfl, ?_⟩) ?_
    rotate_left
    ·intro wz hSw; obtain ⟨c1, c2, c3, c4⟩ := hSw; (first | (go_simp; done) | (go_simp; with_reducible rfl))
    (try simp only [Act.put, List.setIfInBounds_toArray, List.set_cons_zero, List.set_cons_succ])
    refine held_done (by kernel_rfl) ?_ _
    clear hHeld
    gi_wp2
    go_roundw
    case rel => exact ⟨k + 1, by go_num, by omega, hJ3⟩
    case measure => simp [intOf]; omega
   ·refine hK.out _ _ (HSH.out _ (HJxB.out _ hJx3)) (fun hHeld => ?_)
    clear hK K
    refine held_take (fun _ => trivial) (by kernel_rfl) (i := 10) (oi := _) (v := ?_) rfl (by kernel_rfl) (by kernel_rfl) (by kernel_rfl) (fun _ _ _ h => h) (by assumption) (Or.inl ⟨by kernel_rfl, ?_⟩) ?_
    rotate_left
    ·intro wz hSw; obtain ⟨c1, c2, c3, c4⟩ := hSw; (first | (go_simp; done) | (go_simp; with_reducible rfl))
    (try simp only [Act.put, List.setIfInBounds_toArray, List.set_cons_zero, List.set_cons_succ])
    refine held_done (by kernel_rfl) ?_ _
    clear hHeld
    gi_wp2
    refine bodyPost_ret (results_none rfl _ _ _) rfl ?_
    exact ⟨⟨_, rfl⟩, .inr hJx3⟩
  ·have hkm : k = min xs.length ys.length := by omega
   have hnlt : ¬ (k : Int) < min (xs.length : Int) (ys.length : Int) := by omega
   have HKM := Lib.hid hkm
   clear hkm
   gi_wp2
   go_end0
   exact ⟨⟨_, rfl⟩, .inl (by rw [← HKM.out]; exact hJ)⟩
theorem pairs_w (oa ob : Option Addr) (la lb ca cb : Nat) (w : World) : Calls Tryz.prog 171 #[.slice oa la ca, .slice ob lb cb] w fun e w' =>
  e = .returned (.func (.func 181) #[] #[.pointer (some ⟨w.heap.size, 0, none⟩), .pointer (some ⟨w.heap.size + 1, 0, none⟩)]) ∧ w' = (w.alloc (.cells #[.slice oa la ca] 196)).alloc (.cells #[.slice ob lb cb] 196) := by
 go_enter Tryz.func171, Tryz.ntmps171
 go_wp2
 go_ret
 exact ⟨rfl, rfl⟩
end Go.Proofs.YtbbhmhihpdmoiaaGreat.Fx

set_option linter.unusedVariables false
set_option linter.unusedSimpArgs false
namespace Go.Proofs.YtbbhmhihpdmoiaaGreat.Fx
open Go Go.RowKit Wm
set_option maxHeartbeats 1000000 in
theorem add_ttt (xh yh H : Int) (xl yl n m p q b b2 : Nat) (w : World) (r1 : Words0 182 xl yl n b) (r2 : Words 182 p q b m b2)
  (e1 : IntKind.u64.wrap xh = (p : Int)) (e2 : IntKind.u64.wrap yh = (q : Int)) (e3 : IntKind.i64.wrap (m : Int) = H)
  (Hx : Hid (decide (xh < 0) = true)) (Hy : Hid (decide (yh < 0) = true)) (HH : Hid (decide (H < 0) = true)) :
  Calls Tryz.prog 172 #[.agg #[.int .i64 xh, .int .u64 xl], .agg #[.int .i64 yh, .int .u64 yl]] w fun e w' => e = .returned (.tuple #[.agg #[.int .i64 H, .int .u64 n], .int .i64 0]) ∧ Below w.heap.size w w' := by
 unfold Words Words0 at *
 go_enter Tryz.func172, Tryz.ntmps172
 go_wp2
 go_region_held3 (fun w' => w'.cell? ⟨w.heap.size, 0, none⟩ = some (.int .i64 xh) ∧ w'.cell? ⟨w.heap.size, 1, none⟩ = some (.int .u64 xl) ∧ w'.cell? ⟨w.heap.size + 1, 0, none⟩ = some (.int .i64 yh) ∧ w'.cell? ⟨w.heap.size + 1, 1, none⟩ = some (.int .u64 yl) ∧ w'.cell? ⟨w.heap.size + 1 + 1, 0, none⟩ = some (.int .i64 0) ∧ w'.cell? ⟨w.heap.size + 1 + 1, 1, none⟩ = some (.int .u64 0) ∧ w'.cell? ⟨w.heap.size + 1 + 1 + 1, 0, none⟩ = some (.int .i64 H) ∧ w'.cell? ⟨w.heap.size + 1 + 1 + 1, 1, none⟩ = some (.int .u64 n) ∧ w'.frozen? ⟨w.heap.size + 1 + 1, 0, none⟩ = false ∧ w'.frozen? ⟨w.heap.size + 1 + 1, 1, none⟩ = false ∧ w.heap.size + 1 + 1 + 1 + 1 ≤ w'.heap.size ∧ Below w.heap.size w w')
  (first | (go_split_ands; refine ⟨keep_cell (by assumption) (by assumption), keep_cell (by assumption) (by assumption), keep_cell (by assumption) (by assumption), keep_cell (by assumption) (by assumption), keep_cell (by assumption) (by assumption), keep_cell (by assumption) (by assumption), keep_cell (by assumption) (by assumption), keep_cell (by assumption) (by assumption), keep_free (by assumption) (by omega) (by assumption), keep_free (by assumption) (by omega) (by assumption), Nat.le_trans (by assumption) (Below.size (by assumption)), bnext (by assumption) (by assumption)⟩) | (refine ⟨?_, ?_, ?_, ?_, ?_, ?_, ?_, ?_, ?_, ?_, ?_, ?_⟩ <;> first | (with_reducible assumption) | (go_grown; done) | (simp [go_sem, *]; done) | (simp [go_sem, *]; omega)))
  ((first | (go_at_call 177; (with_reducible refine (below_val xh xl _ _ Hx).mono ?_); rintro e w' ⟨rfl, hbb⟩) | (go_at_call 177; (with_reducible refine (below_val yh yl _ _ Hy).mono ?_); rintro e w' ⟨rfl, hbb⟩) | (go_at_call 177; (with_reducible refine (below_val H n _ _ HH).mono ?_); rintro e w' ⟨rfl, hbb⟩)))
 go_split_ands
 all_goals
  go_wp2
  refine bodyPost_ret (v := .tuple #[.agg #[.int .i64 H, .int .u64 n], .int .i64 0]) (by simp [results, Tryz.results172, go_sem, *]) rfl ⟨rfl, by (repeat' (first | (with_reducible exact Below.refl _ _) | (with_reducible assumption) | (with_reducible refine Below.drew ?_) | (with_reducible refine Below.setCell ?_ ?_ _) | (with_reducible refine bnext ?_ (by assumption)) | (with_reducible refine Below.alloc ?_ ?_ _) | go_size))⟩
set_option maxHeartbeats 1000000 in
theorem add_ttf (xh yh H : Int) (xl yl n m p q b b2 : Nat) (w : World) (r1 : Words0 182 xl yl n b) (r2 : Words 182 p q b m b2)
  (e1 : IntKind.u64.wrap xh = (p : Int)) (e2 : IntKind.u64.wrap yh = (q : Int)) (e3 : IntKind.i64.wrap (m : Int) = H)
  (Hx : Hid (decide (xh < 0) = true)) (Hy : Hid (decide (yh < 0) = true)) (HH : Hid (decide (H < 0) = false)) :
  Calls Tryz.prog 172 #[.agg #[.int .i64 xh, .int .u64 xl], .agg #[.int .i64 yh, .int .u64 yl]] w fun e w' => e = .returned (.tuple #[.agg #[.int .i64 0, .int .u64 0], .int .i64 20]) ∧ Below w.heap.size w w' := by
 unfold Words Words0 at *
 go_enter Tryz.func172, Tryz.ntmps172
 go_wp2
 go_region_held3 (fun w' => w'.cell? ⟨w.heap.size, 0, none⟩ = some (.int .i64 xh) ∧ w'.cell? ⟨w.heap.size, 1, none⟩ = some (.int .u64 xl) ∧ w'.cell? ⟨w.heap.size + 1, 0, none⟩ = some (.int .i64 yh) ∧ w'.cell? ⟨w.heap.size + 1, 1, none⟩ = some (.int .u64 yl) ∧ w'.cell? ⟨w.heap.size + 1 + 1, 0, none⟩ = some (.int .i64 0) ∧ w'.cell? ⟨w.heap.size + 1 + 1, 1, none⟩ = some (.int .u64 0) ∧ w'.cell? ⟨w.heap.size + 1 + 1 + 1, 0, none⟩ = some (.int .i64 H) ∧ w'.cell? ⟨w.heap.size + 1 + 1 + 1, 1, none⟩ = some (.int .u64 n) ∧ w'.frozen? ⟨w.heap.size + 1 + 1, 0, none⟩ = false ∧ w'.frozen? ⟨w.heap.size + 1 + 1, 1, none⟩ = false ∧ w.heap.size + 1 + 1 + 1 + 1 ≤ w'.heap.size ∧ Below w.heap.size w w')
  (first | (go_split_ands; refine ⟨keep_cell (by assumption) (by assumption), keep_cell (by assumption) (by assumption), keep_cell (by assumption) (by assumption), keep_cell (by assumption) (by assumption), keep_cell (by assumption) (by assumption), keep_cell (by assumption) (by assumption), keep_cell (by assumption) (by assumption), keep_cell (by assumption) (by assumption), keep_free (by assumption) (by omega) (by assumption), keep_free (by assumption) (by omega) (by assumption), Nat.le_trans (by assumption) (Below.size (by assumption)), bnext (by assumption) (by assumption)⟩) | (refine ⟨?_, ?_, ?_, ?_, ?_, ?_, ?_, ?_, ?_, ?_, ?_, ?_⟩ <;> first | (with_reducible assumption) | (go_grown; done) | (simp [go_sem, *]; done) | (simp [go_sem, *]; omega)))
  ((first | (go_at_call 177; (with_reducible refine (below_val xh xl _ _ Hx).mono ?_); rintro e w' ⟨rfl, hbb⟩) | (go_at_call 177; (with_reducible refine (below_val yh yl _ _ Hy).mono ?_); rintro e w' ⟨rfl, hbb⟩) | (go_at_call 177; (with_reducible refine (below_val H n _ _ HH).mono ?_); rintro e w' ⟨rfl, hbb⟩)))
 go_split_ands
 all_goals
  go_wp2
  refine bodyPost_ret (v := .tuple #[.agg #[.int .i64 0, .int .u64 0], .int .i64 20]) (by simp [results, Tryz.results172, go_sem, *]) rfl ⟨rfl, by (repeat' (first | (with_reducible exact Below.refl _ _) | (with_reducible assumption) | (with_reducible refine Below.drew ?_) | (with_reducible refine Below.setCell ?_ ?_ _) | (with_reducible refine bnext ?_ (by assumption)) | (with_reducible refine Below.alloc ?_ ?_ _) | go_size))⟩
set_option maxHeartbeats 1000000 in
theorem add_tf (xh yh H : Int) (xl yl n m p q b b2 : Nat) (w : World) (r1 : Words0 182 xl yl n b) (r2 : Words 182 p q b m b2)
  (e1 : IntKind.u64.wrap xh = (p : Int)) (e2 : IntKind.u64.wrap yh = (q : Int)) (e3 : IntKind.i64.wrap (m : Int) = H)
  (Hx : Hid (decide (xh < 0) = true)) (Hy : Hid (decide (yh < 0) = false)) :
  Calls Tryz.prog 172 #[.agg #[.int .i64 xh, .int .u64 xl], .agg #[.int .i64 yh, .int .u64 yl]] w fun e w' => e = .returned (.tuple #[.agg #[.int .i64 H, .int .u64 n], .int .i64 0]) ∧ Below w.heap.size w w' := by
 unfold Words Words0 at *
 go_enter Tryz.func172, Tryz.ntmps172
 go_wp2
 go_region_with ((go_at_call 177; first | ((with_reducible refine (below_val xh xl _ _ Hx).mono ?_); rintro e w' ⟨rfl, hbb⟩; have k0 : w'.cell? ⟨w.heap.size, 0, none⟩ = some (.int .i64 xh) := keep_cell hbb (by first | assumption | (simp [go_sem]; done)); have k1 : w'.cell? ⟨w.heap.size, 1, none⟩ = some (.int .u64 xl) := keep_cell hbb (by first | assumption | (simp [go_sem]; done)); have k2 : w'.cell? ⟨w.heap.size + 1, 0, none⟩ = some (.int .i64 yh) := keep_cell hbb (by first | assumption | (simp [go_sem]; done)); have k3 : w'.cell? ⟨w.heap.size + 1, 1, none⟩ = some (.int .u64 yl) := keep_cell hbb (by first | assumption | (simp [go_sem]; done)); have k4 : w'.cell? ⟨w.heap.size + 1 + 1, 0, none⟩ = some (.int .i64 0) := keep_cell hbb (by first | assumption | (simp [go_sem]; done)); have k5 : w'.cell? ⟨w.heap.size + 1 + 1, 1, none⟩ = some (.int .u64 0) := keep_cell hbb (by first | assumption | (simp [go_sem]; done)); have k6 : w'.cell? ⟨w.heap.size + 1 + 1 + 1, 0, none⟩ = some (.int .i64 H) := keep_cell hbb (by first | assumption | (simp [go_sem]; done)); have k7 : w'.cell? ⟨w.heap.size + 1 + 1 + 1, 1, none⟩ = some (.int .u64 n) := keep_cell hbb (by first | assumption | (simp [go_sem]; done)); have f0 : w'.frozen? ⟨w.heap.size + 1 + 1, 0, none⟩ = false := keep_free hbb (by first | omega | (simp [go_sem]; done) | (simp [go_sem]; omega)) (by first | assumption | (simp [go_sem]; done)); have f1 : w'.frozen? ⟨w.heap.size + 1 + 1, 1, none⟩ = false := keep_free hbb (by first | omega | (simp [go_sem]; done) | (simp [go_sem]; omega)) (by first | assumption | (simp [go_sem]; done)); have hs : w.heap.size + 1 + 1 + 1 + 1 ≤ w'.heap.size := Nat.le_trans (by first | assumption | (simp [go_sem]; done)) hbb.size) | ((with_reducible refine (below_val yh yl _ _ Hy).mono ?_); rintro e w' ⟨rfl, hbb⟩; have k0 : w'.cell? ⟨w.heap.size, 0, none⟩ = some (.int .i64 xh) := keep_cell hbb (by first | assumption | (simp [go_sem]; done)); have k1 : w'.cell? ⟨w.heap.size, 1, none⟩ = some (.int .u64 xl) := keep_cell hbb (by first | assumption | (simp [go_sem]; done)); have k2 : w'.cell? ⟨w.heap.size + 1, 0, none⟩ = some (.int .i64 yh) := keep_cell hbb (by first | assumption | (simp [go_sem]; done)); have k3 : w'.cell? ⟨w.heap.size + 1, 1, none⟩ = some (.int .u64 yl) := keep_cell hbb (by first | assumption | (simp [go_sem]; done)); have k4 : w'.cell? ⟨w.heap.size + 1 + 1, 0, none⟩ = some (.int .i64 0) := keep_cell hbb (by first | assumption | (simp [go_sem]; done)); have k5 : w'.cell? ⟨w.heap.size + 1 + 1, 1, none⟩ = some (.int .u64 0) := keep_cell hbb (by first | assumption | (simp [go_sem]; done)); have k6 : w'.cell? ⟨w.heap.size + 1 + 1 + 1, 0, none⟩ = some (.int .i64 H) := keep_cell hbb (by first | assumption | (simp [go_sem]; done)); have k7 : w'.cell? ⟨w.heap.size + 1 + 1 + 1, 1, none⟩ = some (.int .u64 n) := keep_cell hbb (by first | assumption | (simp [go_sem]; done)); have f0 : w'.frozen? ⟨w.heap.size + 1 + 1, 0, none⟩ = false := keep_free hbb (by first | omega | (simp [go_sem]; done) | (simp [go_sem]; omega)) (by first | assumption | (simp [go_sem]; done)); have f1 : w'.frozen? ⟨w.heap.size + 1 + 1, 1, none⟩ = false := keep_free hbb (by first | omega | (simp [go_sem]; done) | (simp [go_sem]; omega)) (by first | assumption | (simp [go_sem]; done)); have hs : w.heap.size + 1 + 1 + 1 + 1 ≤ w'.heap.size := Nat.le_trans (by first | assumption | (simp [go_sem]; done)) hbb.size)))
 all_goals
  go_wp2
  refine bodyPost_ret (v := .tuple #[.agg #[.int .i64 H, .int .u64 n], .int .i64 0]) (by simp [results, Tryz.results172, go_sem, *]) rfl ⟨rfl, by (repeat' (first | (with_reducible exact Below.refl _ _) | (with_reducible assumption) | (with_reducible refine Below.drew ?_) | (with_reducible refine Below.setCell ?_ ?_ _) | (with_reducible refine bnext ?_ (by assumption)) | (with_reducible refine Below.alloc ?_ ?_ _) | go_size))⟩
set_option maxHeartbeats 1000000 in
theorem add_ft (xh yh H : Int) (xl yl n m p q b b2 : Nat) (w : World) (r1 : Words0 182 xl yl n b) (r2 : Words 182 p q b m b2)
  (e1 : IntKind.u64.wrap xh = (p : Int)) (e2 : IntKind.u64.wrap yh = (q : Int)) (e3 : IntKind.i64.wrap (m : Int) = H)
  (Hx : Hid (decide (xh < 0) = false)) (Hy : Hid (decide (yh < 0) = true)) :
  Calls Tryz.prog 172 #[.agg #[.int .i64 xh, .int .u64 xl], .agg #[.int .i64 yh, .int .u64 yl]] w fun e w' => e = .returned (.tuple #[.agg #[.int .i64 H, .int .u64 n], .int .i64 0]) ∧ Below w.heap.size w w' := by
 unfold Words Words0 at *
 go_enter Tryz.func172, Tryz.ntmps172
 go_wp2
 go_region_with ((go_at_call 177; first | ((with_reducible refine (below_val xh xl _ _ Hx).mono ?_); rintro e w' ⟨rfl, hbb⟩; have k0 : w'.cell? ⟨w.heap.size, 0, none⟩ = some (.int .i64 xh) := keep_cell hbb (by first | assumption | (simp [go_sem]; done)); have k1 : w'.cell? ⟨w.heap.size, 1, none⟩ = some (.int .u64 xl) := keep_cell hbb (by first | assumption | (simp [go_sem]; done)); have k2 : w'.cell? ⟨w.heap.size + 1, 0, none⟩ = some (.int .i64 yh) := keep_cell hbb (by first | assumption | (simp [go_sem]; done)); have k3 : w'.cell? ⟨w.heap.size + 1, 1, none⟩ = some (.int .u64 yl) := keep_cell hbb (by first | assumption | (simp [go_sem]; done)); have k4 : w'.cell? ⟨w.heap.size + 1 + 1, 0, none⟩ = some (.int .i64 0) := keep_cell hbb (by first | assumption | (simp [go_sem]; done)); have k5 : w'.cell? ⟨w.heap.size + 1 + 1, 1, none⟩ = some (.int .u64 0) := keep_cell hbb (by first | assumption | (simp [go_sem]; done)); have k6 : w'.cell? ⟨w.heap.size + 1 + 1 + 1, 0, none⟩ = some (.int .i64 H) := keep_cell hbb (by first | assumption | (simp [go_sem]; done)); have k7 : w'.cell? ⟨w.heap.size + 1 + 1 + 1, 1, none⟩ = some (.int .u64 n) := keep_cell hbb (by first | assumption | (simp [go_sem]; done)); have f0 : w'.frozen? ⟨w.heap.size + 1 + 1, 0, none⟩ = false := keep_free hbb (by first | omega | (simp [go_sem]; done) | (simp [go_sem]; omega)) (by first | assumption | (simp [go_sem]; done)); have f1 : w'.frozen? ⟨w.heap.size + 1 + 1, 1, none⟩ = false := keep_free hbb (by first | omega | (simp [go_sem]; done) | (simp [go_sem]; omega)) (by first | assumption | (simp [go_sem]; done)); have hs : w.heap.size + 1 + 1 + 1 + 1 ≤ w'.heap.size := Nat.le_trans (by first | assumption | (simp [go_sem]; done)) hbb.size) | ((with_reducible refine (below_val yh yl _ _ Hy).mono ?_); rintro e w' ⟨rfl, hbb⟩; have k0 : w'.cell? ⟨w.heap.size, 0, none⟩ = some (.int .i64 xh) := keep_cell hbb (by first | assumption | (simp [go_sem]; done)); have k1 : w'.cell? ⟨w.heap.size, 1, none⟩ = some (.int .u64 xl) := keep_cell hbb (by first | assumption | (simp [go_sem]; done)); have k2 : w'.cell? ⟨w.heap.size + 1, 0, none⟩ = some (.int .i64 yh) := keep_cell hbb (by first | assumption | (simp [go_sem]; done)); have k3 : w'.cell? ⟨w.heap.size + 1, 1, none⟩ = some (.int .u64 yl) := keep_cell hbb (by first | assumption | (simp [go_sem]; done)); have k4 : w'.cell? ⟨w.heap.size + 1 + 1, 0, none⟩ = some (.int .i64 0) := keep_cell hbb (by first | assumption | (simp [go_sem]; done)); have k5 : w'.cell? ⟨w.heap.size + 1 + 1, 1, none⟩ = some (.int .u64 0) := keep_cell hbb (by first | assumption | (simp [go_sem]; done)); have k6 : w'.cell? ⟨w.heap.size + 1 + 1 + 1, 0, none⟩ = some (.int .i64 H) := keep_cell hbb (by first | assumption | (simp [go_sem]; done)); have k7 : w'.cell? ⟨w.heap.size + 1 + 1 + 1, 1, none⟩ = some (.int .u64 n) := keep_cell hbb (by first | assumption | (simp [go_sem]; done)); have f0 : w'.frozen? ⟨w.heap.size + 1 + 1, 0, none⟩ = false := keep_free hbb (by first | omega | (simp [go_sem]; done) | (simp [go_sem]; omega)) (by first | assumption | (simp [go_sem]; done)); have f1 : w'.frozen? ⟨w.heap.size + 1 + 1, 1, none⟩ = false := keep_free hbb (by first | omega | (simp [go_sem]; done) | (simp [go_sem]; omega)) (by first | assumption | (simp [go_sem]; done)); have hs : w.heap.size + 1 + 1 + 1 + 1 ≤ w'.heap.size := Nat.le_trans (by first | assumption | (simp [go_sem]; done)) hbb.size)))
 all_goals
  go_wp2
  refine bodyPost_ret (v := .tuple #[.agg #[.int .i64 H, .int .u64 n], .int .i64 0]) (by simp [results, Tryz.results172, go_sem, *]) rfl ⟨rfl, by (repeat' (first | (with_reducible exact Below.refl _ _) | (with_reducible assumption) | (with_reducible refine Below.drew ?_) | (with_reducible refine Below.setCell ?_ ?_ _) | (with_reducible refine bnext ?_ (by assumption)) | (with_reducible refine Below.alloc ?_ ?_ _) | go_size))⟩
set_option maxHeartbeats 1000000 in
theorem add_fft (xh yh H : Int) (xl yl n m p q b b2 : Nat) (w : World) (r1 : Words0 182 xl yl n b) (r2 : Words 182 p q b m b2)
  (e1 : IntKind.u64.wrap xh = (p : Int)) (e2 : IntKind.u64.wrap yh = (q : Int)) (e3 : IntKind.i64.wrap (m : Int) = H)
  (Hx : Hid (decide (xh < 0) = false)) (Hy : Hid (decide (yh < 0) = false)) (HH : Hid (decide (H < 0) = true)) :
  Calls Tryz.prog 172 #[.agg #[.int .i64 xh, .int .u64 xl], .agg #[.int .i64 yh, .int .u64 yl]] w fun e w' => e = .returned (.tuple #[.agg #[.int .i64 0, .int .u64 0], .int .i64 20]) ∧ Below w.heap.size w w' := by
 unfold Words Words0 at *
 go_enter Tryz.func172, Tryz.ntmps172
 go_wp2
 go_region_held3 (fun w' => w'.cell? ⟨w.heap.size, 0, none⟩ = some (.int .i64 xh) ∧ w'.cell? ⟨w.heap.size, 1, none⟩ = some (.int .u64 xl) ∧ w'.cell? ⟨w.heap.size + 1, 0, none⟩ = some (.int .i64 yh) ∧ w'.cell? ⟨w.heap.size + 1, 1, none⟩ = some (.int .u64 yl) ∧ w'.cell? ⟨w.heap.size + 1 + 1, 0, none⟩ = some (.int .i64 0) ∧ w'.cell? ⟨w.heap.size + 1 + 1, 1, none⟩ = some (.int .u64 0) ∧ w'.cell? ⟨w.heap.size + 1 + 1 + 1, 0, none⟩ = some (.int .i64 H) ∧ w'.cell? ⟨w.heap.size + 1 + 1 + 1, 1, none⟩ = some (.int .u64 n) ∧ w'.frozen? ⟨w.heap.size + 1 + 1, 0, none⟩ = false ∧ w'.frozen? ⟨w.heap.size + 1 + 1, 1, none⟩ = false ∧ w.heap.size + 1 + 1 + 1 + 1 ≤ w'.heap.size ∧ Below w.heap.size w w')
  (first | (go_split_ands; refine ⟨keep_cell (by assumption) (by assumption), keep_cell (by assumption) (by assumption), keep_cell (by assumption) (by assumption), keep_cell (by assumption) (by assumption), keep_cell (by assumption) (by assumption), keep_cell (by assumption) (by assumption), keep_cell (by assumption) (by assumption), keep_cell (by assumption) (by assumption), keep_free (by assumption) (by omega) (by assumption), keep_free (by assumption) (by omega) (by assumption), Nat.le_trans (by assumption) (Below.size (by assumption)), bnext (by assumption) (by assumption)⟩) | (refine ⟨?_, ?_, ?_, ?_, ?_, ?_, ?_, ?_, ?_, ?_, ?_, ?_⟩ <;> first | (with_reducible assumption) | (go_grown; done) | (simp [go_sem, *]; done) | (simp [go_sem, *]; omega)))
  ((first | (go_at_call 177; (with_reducible refine (below_val xh xl _ _ Hx).mono ?_); rintro e w' ⟨rfl, hbb⟩) | (go_at_call 177; (with_reducible refine (below_val yh yl _ _ Hy).mono ?_); rintro e w' ⟨rfl, hbb⟩) | (go_at_call 177; (with_reducible refine (below_val H n _ _ HH).mono ?_); rintro e w' ⟨rfl, hbb⟩)))
 go_split_ands
 all_goals
  go_wp2
  refine bodyPost_ret (v := .tuple #[.agg #[.int .i64 0, .int .u64 0], .int .i64 20]) (by simp [results, Tryz.results172, go_sem, *]) rfl ⟨rfl, by (repeat' (first | (with_reducible exact Below.refl _ _) | (with_reducible assumption) | (with_reducible refine Below.drew ?_) | (with_reducible refine Below.setCell ?_ ?_ _) | (with_reducible refine bnext ?_ (by assumption)) | (with_reducible refine Below.alloc ?_ ?_ _) | go_size))⟩
set_option maxHeartbeats 1000000 in
theorem add_fff (xh yh H : Int) (xl yl n m p q b b2 : Nat) (w : World) (r1 : Words0 182 xl yl n b) (r2 : Words 182 p q b m b2)
  (e1 : IntKind.u64.wrap xh = (p : Int)) (e2 : IntKind.u64.wrap yh = (q : Int)) (e3 : IntKind.i64.wrap (m : Int) = H)
  (Hx : Hid (decide (xh < 0) = false)) (Hy : Hid (decide (yh < 0) = false)) (HH : Hid (decide (H < 0) = false)) :
  Calls Tryz.prog 172 #[.agg #[.int .i64 xh, .int .u64 xl], .agg #[.int .i64 yh, .int .u64 yl]] w fun e w' => e = .returned (.tuple #[.agg #[.int .i64 H, .int .u64 n], .int .i64 0]) ∧ Below w.heap.size w w' := by
 unfold Words Words0 at *
 go_enter Tryz.func172, Tryz.ntmps172
 go_wp2
 go_region_held3 (fun w' => w'.cell? ⟨w.heap.size, 0, none⟩ = some (.int .i64 xh) ∧ w'.cell? ⟨w.heap.size, 1, none⟩ = some (.int .u64 xl) ∧ w'.cell? ⟨w.heap.size + 1, 0, none⟩ = some (.int .i64 yh) ∧ w'.cell? ⟨w.heap.size + 1, 1, none⟩ = some (.int .u64 yl) ∧ w'.cell? ⟨w.heap.size + 1 + 1, 0, none⟩ = some (.int .i64 0) ∧ w'.cell? ⟨w.heap.size + 1 + 1, 1, none⟩ = some (.int .u64 0) ∧ w'.cell? ⟨w.heap.size + 1 + 1 + 1, 0, none⟩ = some (.int .i64 H) ∧ w'.cell? ⟨w.heap.size + 1 + 1 + 1, 1, none⟩ = some (.int .u64 n) ∧ w'.frozen? ⟨w.heap.size + 1 + 1, 0, none⟩ = false ∧ w'.frozen? ⟨w.heap.size + 1 + 1, 1, none⟩ = false ∧ w.heap.size + 1 + 1 + 1 + 1 ≤ w'.heap.size ∧ Below w.heap.size w w')
  (first | (go_split_ands; refine ⟨keep_cell (by assumption) (by assumption), keep_cell (by assumption) (by assumption), keep_cell (by assumption) (by assumption), keep_cell (by assumption) (by assumption), keep_cell (by assumption) (by assumption), keep_cell (by assumption) (by assumption), keep_cell (by assumption) (by assumption), keep_cell (by assumption) (by assumption), keep_free (by assumption) (by omega) (by assumption), keep_free (by assumption) (by omega) (by assumption), Nat.le_trans (by assumption) (Below.size (by assumption)), bnext (by assumption) (by assumption)⟩) | (refine ⟨?_, ?_, ?_, ?_, ?_, ?_, ?_, ?_, ?_, ?_, ?_, ?_⟩ <;> first | (with_reducible assumption) | (go_grown; done) | (simp [go_sem, *]; done) | (simp [go_sem, *]; omega)))
  ((first | (go_at_call 177; (with_reducible refine (below_val xh xl _ _ Hx).mono ?_); rintro e w' ⟨rfl, hbb⟩) | (go_at_call 177; (with_reducible refine (below_val yh yl _ _ Hy).mono ?_); rintro e w' ⟨rfl, hbb⟩) | (go_at_call 177; (with_reducible refine (below_val H n _ _ HH).mono ?_); rintro e w' ⟨rfl, hbb⟩)))
 go_split_ands
 all_goals
  go_wp2
  refine bodyPost_ret (v := .tuple #[.agg #[.int .i64 H, .int .u64 n], .int .i64 0]) (by simp [results, Tryz.results172, go_sem, *]) rfl ⟨rfl, by (repeat' (first | (with_reducible exact Below.refl _ _) | (with_reducible assumption) | (with_reducible refine Below.drew ?_) | (with_reducible refine Below.setCell ?_ ?_ _) | (with_reducible refine bnext ?_ (by assumption)) | (with_reducible refine Below.alloc ?_ ?_ _) | go_size))⟩
end Go.Proofs.YtbbhmhihpdmoiaaGreat.Fx
set_option linter.unusedVariables false
set_option linter.unusedSimpArgs false
namespace Go.Proofs.YtbbhmhihpdmoiaaGreat.Fx
open Go Go.RowKit Wm
end Go.Proofs.YtbbhmhihpdmoiaaGreat.Fx
