import Derived.Laws.Rows
import Derived.Test.YtbbhmhihpdmoiaaGreatProg
import Derived.WalkKit
import Derived.Lib.Hide
import Derived.Outline
import Derived.Shelf.Abstract
import Derived.Shelf.RegionOpen
import Derived.OwnWalkIn
import Derived.TacticsInMore
import Derived.Deep.QuietTactic
import Derived.BigQuiet
import Derived.Deep.WholeRow
import Derived.Laws.OwnMore
import Derived.Laws.StructEq
import Derived.Laws.Cover3
import Derived.Laws.BytesString
import Derived.Lib.SlBytesConst
import Derived.Laws.AppendOwnNone
import Derived.Laws.Concat
import Derived.Deep.LoopGhost
import Derived.Test.YtbbhmhihpdmoiaaGreatMx01
import Derived.Test.YtbbhmhihpdmoiaaGreatMx33
/- Open, walked. -/
set_option linter.unusedVariables false
set_option linter.unusedSimpArgs false
namespace Go.Proofs.YtbbhmhihpdmoiaaGreat.Cx
open Go.Proofs.YtbbhmhihpdmoiaaGreat.Fx (held_done held_region held_step held_take)
open Go Go.RowKit Go.Shelf
attribute [local go_sem] Oper.semAt_some
theorem all_range_nat : ∀ (xs ys : List Nat), xs.length = ys.length → ((List.range xs.length).all fun i => xs.getD i 0 == ys.getD i 0) = (xs == ys)
  | [], [], _ => rfl
  | x :: xs, y :: ys, h => by
    have ih := all_range_nat xs ys (by simpa using h)
    rw [List.length_cons, List.range_succ_eq_map, List.all_cons, List.all_map]
    simp only [List.getD_cons_zero, Function.comp_def, List.getD_cons_succ, ih]
    simp [List.cons_beq_cons]
  | [], _ :: _, h => by simp at h
  | _ :: _, [], h => by simp at h
set_option maxRecDepth 100000 in
theorem eqIn_four (w : World) (d : Nat) (xs ys : List Nat) (hx : xs.length = 4) (hy : ys.length = 4) :
    (Op.equalIn (d + 2) 112 (.agg (xs.map encB).toArray) (.agg (ys.map encB).toArray)).run Tryz.prog w = .ok (xs == ys) w := by
  have ht := Tryz.underlying112
  have he := Tryz.underlying5
  have hsz := Tryz.sizeOf5
  rw [← all_range_nat xs ys (hx.trans hy.symm), hx, List.range_eq_range', Op.equalIn]
  simp only [Sem.run_bind, run_underlying ht, Result.andThen_ok, hsz, Std.Legacy.Range.forIn_eq_forIn_range', Std.Legacy.Range.size, Nat.sub_zero, Nat.add_sub_cancel, Nat.div_one]
  have hl : ∀ i ∈ List.range' 0 4 1, i < 4 := fun i hi => by simpa using (List.mem_range'_1.1 hi).2
  generalize List.range' 0 4 1 = l at hl ⊢
  induction l with
  | nil => simp
  | cons i l ih =>
    have hi : i < 4 := hl i (by simp)
    have px : (part 5 (xs.map encB).toArray (i * 1)).run Tryz.prog w = .ok (encB (xs.getD i 0)) w := by
      simp [part, isAgg, run_underlying he, List.getD, List.getElem?_eq_getElem (show i < xs.length by omega)]
    have py : (part 5 (ys.map encB).toArray (i * 1)).run Tryz.prog w = .ok (encB (ys.getD i 0)) w := by
      simp [part, isAgg, run_underlying he, List.getD, List.getElem?_eq_getElem (show i < ys.length by omega)]
    have pe : (Op.equalIn (d + 1) 5 (encB (xs.getD i 0)) (encB (ys.getD i 0))).run Tryz.prog w = .ok (xs.getD i 0 == ys.getD i 0) w := by
      rw [encB, encB, run_equalIn_int w d 5 .u8 .u8 _ _ he]
      congr 1
      rw [Bool.eq_iff_iff, beq_iff_eq, beq_iff_eq]
      omega
    simp only [List.forIn_cons, Sem.run_bind, px, py, pe, Result.andThen_ok, List.all_cons]
    cases hb : (xs.getD i 0 == ys.getD i 0)
    · simp
    · simp only [Bool.not_true, Bool.false_eq_true, if_false, Sem.run_pure, Result.andThen_ok, Bool.true_and]
      exact ih fun j hj => hl j (by simp [hj])
theorem neq_four (w : World) (c0 c1 c2 c3 : Nat) (ys : List Nat) (hy : ys.length = 4) :
    (binOp .neq 112 (.agg #[.int .u8 (c0 : Int), .int .u8 (c1 : Int), .int .u8 (c2 : Int), .int .u8 (c3 : Int)]) (.agg (bR ys))).run Tryz.prog w = .ok (.bool (!([c0, c1, c2, c3] == ys))) w := by
  have h := eqIn_four w 9998 [c0, c1, c2, c3] ys rfl hy
  show ((do pure (.bool (!(← Op.equal 112 _ _)))) : Sem Value).run Tryz.prog w = _
  have h2 : (Op.equal 112 (.agg #[.int .u8 (c0 : Int), .int .u8 (c1 : Int), .int .u8 (c2 : Int), .int .u8 (c3 : Int)]) (.agg (bR ys))).run Tryz.prog w = .ok ([c0, c1, c2, c3] == ys) w := h
  simp only [Sem.run_bind, h2, Result.andThen_ok, Sem.run_pure]
/-- none: the error alone -/
def No (w : World) (e : Ending) (w' : World) : Prop := e = .returned (.tuple #[.slice none 0 0, .int .i64 40]) ∧ Below w.heap.size w w'
set_option maxRecDepth 100000 in
set_option maxHeartbeats 2000000 in
theorem open_short (n : Nat) (o : Option Addr) (cap : Nat) (w : World) (hn : n < 4) :
    Calls Tryz.prog 71 #[.slice o n cap] w (No w) := by
  have t1 : (n : Int) - 4 < 0 := by omega
  go_enter Tryz.func71, Tryz.ntmps71
  go_wp2_with fail
  refine (wpIn_wide (n := 5)).1 (held_region (F := Fence.wide) (S := fun X => Below w.heap.size w X) (by kernel_rfl) (bdrew0 _ _ 1) (fun hHeld => ?_))
  refine held_take (fun _ => trivial) (by kernel_rfl) (i := 0) (oi := _) (v := ?_) rfl (by kernel_rfl) (by kernel_rfl) (by kernel_rfl) (fun _ _ _ h => h) (by assumption) (Or.inl ⟨by kernel_rfl, ?_⟩) ?_
  rotate_left
  · intro wz hSw; (first | (go_simp; done) | (go_simp; with_reducible rfl))
  (try simp only [Act.put, List.getElem_toArray, List.getElem_cons_zero, List.getElem_cons_succ, List.setIfInBounds_toArray, List.set_cons_zero, List.set_cons_succ])
  refine held_take (fun _ => trivial) (by kernel_rfl) (i := 1) (oi := _) (v := ?_) rfl (by kernel_rfl) (by kernel_rfl) (by kernel_rfl) (fun _ _ _ h => h) (by assumption) (Or.inl ⟨by kernel_rfl, ?_⟩) ?_
  rotate_left
  · intro wz hSw; (first | (go_simp; done) | (go_simp; with_reducible rfl))
  (try simp only [Act.put, List.getElem_toArray, List.getElem_cons_zero, List.getElem_cons_succ, List.setIfInBounds_toArray, List.set_cons_zero, List.set_cons_succ])
  refine held_take (fun _ => trivial) (by kernel_rfl) (i := 2) (oi := _) (v := ?_) rfl (by kernel_rfl) (by kernel_rfl) (by kernel_rfl) (fun _ _ _ h => h) (by assumption) (Or.inl ⟨by kernel_rfl, ?_⟩) ?_
  rotate_left
  · intro wz hSw; (first | (go_simp; done) | (go_simp; with_reducible rfl))
  (try simp only [Act.put, List.getElem_toArray, List.getElem_cons_zero, List.getElem_cons_succ, List.setIfInBounds_toArray, List.set_cons_zero, List.set_cons_succ])
  refine held_take (fun _ => trivial) (by kernel_rfl) (i := 3) (oi := _) (v := undef) rfl (by kernel_rfl) (by kernel_rfl) (by kernel_rfl) (fun _ _ _ h => h) (by assumption) (Or.inr ⟨by kernel_rfl, rfl⟩) ?_
  (try simp only [Act.put, List.getElem_toArray, List.getElem_cons_zero, List.getElem_cons_succ, List.setIfInBounds_toArray, List.set_cons_zero, List.set_cons_succ])
  refine held_take (fun _ => trivial) (by kernel_rfl) (i := 4) (oi := _) (v := undef) rfl (by kernel_rfl) (by kernel_rfl) (by kernel_rfl) (fun _ _ _ h => h) (by assumption) (Or.inr ⟨by kernel_rfl, rfl⟩) ?_
  (try simp only [Act.put, List.getElem_toArray, List.getElem_cons_zero, List.getElem_cons_succ, List.setIfInBounds_toArray, List.set_cons_zero, List.set_cons_succ])
  refine held_take (fun _ => trivial) (by kernel_rfl) (i := 5) (oi := _) (v := undef) rfl (by kernel_rfl) (by kernel_rfl) (by kernel_rfl) (fun _ _ _ h => h) (by assumption) (Or.inr ⟨by kernel_rfl, rfl⟩) ?_
  (try simp only [Act.put, List.getElem_toArray, List.getElem_cons_zero, List.getElem_cons_succ, List.setIfInBounds_toArray, List.set_cons_zero, List.set_cons_succ])
  refine held_take (fun _ => trivial) (by kernel_rfl) (i := 6) (oi := _) (v := undef) rfl (by kernel_rfl) (by kernel_rfl) (by kernel_rfl) (fun _ _ _ h => h) (by assumption) (Or.inr ⟨by kernel_rfl, rfl⟩) ?_
  (try simp only [Act.put, List.getElem_toArray, List.getElem_cons_zero, List.getElem_cons_succ, List.setIfInBounds_toArray, List.set_cons_zero, List.set_cons_succ])
  refine held_take (fun _ => trivial) (by kernel_rfl) (i := 7) (oi := _) (v := undef) rfl (by kernel_rfl) (by kernel_rfl) (by kernel_rfl) (fun _ _ _ h => h) (by assumption) (Or.inr ⟨by kernel_rfl, rfl⟩) ?_
  (try simp only [Act.put, List.getElem_toArray, List.getElem_cons_zero, List.getElem_cons_succ, List.setIfInBounds_toArray, List.set_cons_zero, List.set_cons_succ])
  refine held_take (fun _ => trivial) (by kernel_rfl) (i := 8) (oi := _) (v := undef) rfl (by kernel_rfl) (by kernel_rfl) (by kernel_rfl) (fun _ _ _ h => h) (by assumption) (Or.inr ⟨by kernel_rfl, rfl⟩) ?_
  (try simp only [Act.put, List.getElem_toArray, List.getElem_cons_zero, List.getElem_cons_succ, List.setIfInBounds_toArray, List.set_cons_zero, List.set_cons_succ])
  refine held_take (fun _ => trivial) (by kernel_rfl) (i := 9) (oi := _) (v := undef) rfl (by kernel_rfl) (by kernel_rfl) (by kernel_rfl) (fun _ _ _ h => h) (by assumption) (Or.inr ⟨by kernel_rfl, rfl⟩) ?_
  (try simp only [Act.put, List.getElem_toArray, List.getElem_cons_zero, List.getElem_cons_succ, List.setIfInBounds_toArray, List.set_cons_zero, List.set_cons_succ])
  refine held_take (fun _ => trivial) (by kernel_rfl) (i := 10) (oi := _) (v := undef) rfl (by kernel_rfl) (by kernel_rfl) (by kernel_rfl) (fun _ _ _ h => h) (by assumption) (Or.inr ⟨by kernel_rfl, rfl⟩) ?_
  (try simp only [Act.put, List.getElem_toArray, List.getElem_cons_zero, List.getElem_cons_succ, List.setIfInBounds_toArray, List.set_cons_zero, List.set_cons_succ])
  refine held_step (fun _ => trivial) (i := 11) (o := _) (by kernel_rfl) rfl (fun K hK => ?_)
  go_simp
  refine hK.out _ _ (hHeld) (fun hHeld => ?_)
  clear hK K
  (try simp only [Act.put, List.getElem_toArray, List.getElem_cons_zero, List.getElem_cons_succ, List.setIfInBounds_toArray, List.set_cons_zero, List.set_cons_succ])
  refine held_step (fun _ => trivial) (i := 12) (o := _) (by kernel_rfl) rfl (fun K hK => ?_)
  go_simp
  refine hK.out _ _ (hHeld) (fun hHeld => ?_)
  clear hK K
  (try simp only [Act.put, List.getElem_toArray, List.getElem_cons_zero, List.getElem_cons_succ, List.setIfInBounds_toArray, List.set_cons_zero, List.set_cons_succ])
  refine held_take (fun _ => trivial) (by kernel_rfl) (i := 13) (oi := _) (v := undef) rfl (by kernel_rfl) (by kernel_rfl) (by kernel_rfl) (fun _ _ _ h => h) (by assumption) (Or.inr ⟨by kernel_rfl, rfl⟩) ?_
  (try simp only [Act.put, List.getElem_toArray, List.getElem_cons_zero, List.getElem_cons_succ, List.setIfInBounds_toArray, List.set_cons_zero, List.set_cons_succ])
  refine held_take (fun _ => trivial) (by kernel_rfl) (i := 14) (oi := _) (v := ?_) rfl (by kernel_rfl) (by kernel_rfl) (by kernel_rfl) (fun _ _ _ h => h) (by assumption) (Or.inl ⟨by kernel_rfl, ?_⟩) ?_
  rotate_left
  · intro wz hSw; (first | (go_simp; done) | (go_simp; with_reducible rfl))
  (try simp only [Act.put, List.getElem_toArray, List.getElem_cons_zero, List.getElem_cons_succ, List.setIfInBounds_toArray, List.set_cons_zero, List.set_cons_succ])
  refine held_done (by kernel_rfl) ?_ _
  have HH := Lib.hid hHeld
  clear hHeld
  go_wp2_with fail
  go_ret2
  exact ⟨rfl, HH.out⟩
set_option maxRecDepth 100000 in
set_option maxHeartbeats 2000000 in
theorem open_long (l : List Nat) (c0 c1 c2 c3 b off cap : Nat) (w : World) (hl : By l) (hlen : l.length ≤ 1000000) (hcap : l.length + 4 ≤ cap) (hcap2 : cap ≤ 9223372036854775807) (hb : Bs w (some ⟨b, off, none⟩) l)
    (h0 : w.cell? ⟨b, off + l.length, none⟩ = some (.int .u8 (c0 : Int))) (h1 : w.cell? ⟨b, off + l.length + 1, none⟩ = some (.int .u8 (c1 : Int))) (h2 : w.cell? ⟨b, off + l.length + 2, none⟩ = some (.int .u8 (c2 : Int))) (h3 : w.cell? ⟨b, off + l.length + 3, none⟩ = some (.int .u8 (c3 : Int))) :
    Calls Tryz.prog 71 #[.slice (some ⟨b, off, none⟩) (l.length + 4) cap] w fun e w' =>
      if ([c0, c1, c2, c3] == le4 (more 0 l)) = true then (∃ v, e = .returned (.tuple #[v, .int .i64 0]) ∧ Own w' w.heap.size v l) ∧ Below w.heap.size w w' else No w e w' := by
  have hs := more_lt hl (show 0 < 4294967296 by omega)
  have H0 := Lib.hid (fun W h => sum_any l (some ⟨b, off, none⟩) cap W hl (by omega) h)
  have H1 := Lib.hid (fun W => inbytes_any (more 0 l) W hs)
  have H2 := Lib.hid (fun W h => clone_any l b off cap W (by omega) h)
  have HBS := Lib.hid hb
  have HC0 := Lib.hid h0; have HC1 := Lib.hid h1; have HC2 := Lib.hid h2; have HC3 := Lib.hid h3
  have hck : ¬ cap = l.length := by omega
  have hc1 : (l.length : Int) ≤ (cap : Int) := by omega
  have hc2 : (l.length : Int) + 4 ≤ (cap : Int) := by omega
  have hc3 : (l.length : Int) ≤ (l.length : Int) + 4 := by omega
  have hat : ∀ W, (Instr.arrayAt 112 (.slice (some ⟨b, off + l.length, none⟩) 4 (cap - l.length))).run Tryz.prog W = .ok (.pointer (some ⟨b, off + l.length, none⟩)) W := fun W => run_arrayAt W 112 _ 4 _ 4 _ Tryz.underlying112 (by omega)
  have hneq := fun W => neq_four W c0 c1 c2 c3 (le4 (more 0 l)) rfl
  clear hb h0 h1 h2 h3 hs hl
  generalize more 0 l = s at *
  generalize ([c0, c1, c2, c3] == le4 s) = q at *
  go_enter Tryz.func71, Tryz.ntmps71
  go_wp2_with fail
  refine (wpIn_wide (n := 5)).1 (held_region (F := Fence.wide) (S := fun X => Below w.heap.size w X) (by kernel_rfl) (bdrew0 _ _ 1) (fun hHeld => ?_))
  refine held_take (fun _ => trivial) (by kernel_rfl) (i := 0) (oi := _) (v := ?_) rfl (by kernel_rfl) (by kernel_rfl) (by kernel_rfl) (fun _ _ _ h => h) (by assumption) (Or.inl ⟨by kernel_rfl, ?_⟩) ?_
  rotate_left
  · intro wz hSw; (first | (go_simp; done) | (go_simp; with_reducible rfl))
  (try simp only [Act.put, List.getElem_toArray, List.getElem_cons_zero, List.getElem_cons_succ, List.setIfInBounds_toArray, List.set_cons_zero, List.set_cons_succ])
  refine held_take (fun _ => trivial) (by kernel_rfl) (i := 1) (oi := _) (v := ?_) rfl (by kernel_rfl) (by kernel_rfl) (by kernel_rfl) (fun _ _ _ h => h) (by assumption) (Or.inl ⟨by kernel_rfl, ?_⟩) ?_
  rotate_left
  · intro wz hSw; (first | (go_simp; done) | (go_simp; with_reducible rfl))
  (try simp only [Act.put, List.getElem_toArray, List.getElem_cons_zero, List.getElem_cons_succ, List.setIfInBounds_toArray, List.set_cons_zero, List.set_cons_succ])
  refine held_take (fun _ => trivial) (by kernel_rfl) (i := 2) (oi := _) (v := ?_) rfl (by kernel_rfl) (by kernel_rfl) (by kernel_rfl) (fun _ _ _ h => h) (by assumption) (Or.inl ⟨by kernel_rfl, ?_⟩) ?_
  rotate_left
  · intro wz hSw; (first | (go_simp; done) | (go_simp; with_reducible rfl))
  (try simp only [Act.put, List.getElem_toArray, List.getElem_cons_zero, List.getElem_cons_succ, List.setIfInBounds_toArray, List.set_cons_zero, List.set_cons_succ])
  refine held_take (fun _ => trivial) (by kernel_rfl) (i := 3) (oi := _) (v := ?_) rfl (by kernel_rfl) (by kernel_rfl) (by kernel_rfl) (fun _ _ _ h => h) (by assumption) (Or.inl ⟨by kernel_rfl, ?_⟩) ?_
  rotate_left
  · intro wz hSw; (first | (go_simp; done) | (go_simp; with_reducible rfl))
  (try simp only [Act.put, List.getElem_toArray, List.getElem_cons_zero, List.getElem_cons_succ, List.setIfInBounds_toArray, List.set_cons_zero, List.set_cons_succ])
  refine held_take (fun _ => trivial) (by kernel_rfl) (i := 4) (oi := _) (v := ?_) rfl (by kernel_rfl) (by kernel_rfl) (by kernel_rfl) (fun _ _ _ h => h) (by assumption) (Or.inl ⟨by kernel_rfl, ?_⟩) ?_
  rotate_left
  · intro wz hSw; (first | (go_simp; done) | (go_simp; with_reducible rfl))
  (try simp only [Act.put, List.getElem_toArray, List.getElem_cons_zero, List.getElem_cons_succ, List.setIfInBounds_toArray, List.set_cons_zero, List.set_cons_succ])
  refine held_take (fun _ => trivial) (by kernel_rfl) (i := 5) (oi := _) (v := ?_) rfl (by kernel_rfl) (by kernel_rfl) (by kernel_rfl) (fun _ _ _ h => h) (by assumption) (Or.inl ⟨by kernel_rfl, ?_⟩) ?_
  rotate_left
  · intro wz hSw; (first | (go_simp; done) | (go_simp; with_reducible rfl))
  (try simp only [Act.put, List.getElem_toArray, List.getElem_cons_zero, List.getElem_cons_succ, List.setIfInBounds_toArray, List.set_cons_zero, List.set_cons_succ])
  refine held_take (fun _ => trivial) (by kernel_rfl) (i := 6) (oi := _) (v := ?_) rfl (by kernel_rfl) (by kernel_rfl) (by kernel_rfl) (fun _ _ _ h => h) (by assumption) (Or.inl ⟨by kernel_rfl, ?_⟩) ?_
  rotate_left
  · intro wz hSw; (first | (go_simp; done) | (go_simp; with_reducible rfl))
  (try simp only [Act.put, List.getElem_toArray, List.getElem_cons_zero, List.getElem_cons_succ, List.setIfInBounds_toArray, List.set_cons_zero, List.set_cons_succ])
  refine held_take (fun _ => trivial) (by kernel_rfl) (i := 7) (oi := _) (v := ?_) rfl (by kernel_rfl) (by kernel_rfl) (by kernel_rfl) (fun _ _ _ h => h) (by assumption) (Or.inl ⟨by kernel_rfl, ?_⟩) ?_
  rotate_left
  · intro wz hSw; have d0 := keep_cell hSw HC0.out; have d1 := keep_cell hSw HC1.out; have d2 := keep_cell hSw HC2.out; have d3 := keep_cell hSw HC3.out; (first | (go_simp; done) | (go_simp; with_reducible rfl))
  (try simp only [Act.put, List.getElem_toArray, List.getElem_cons_zero, List.getElem_cons_succ, List.setIfInBounds_toArray, List.set_cons_zero, List.set_cons_succ])
  refine held_take (fun _ => trivial) (by kernel_rfl) (i := 8) (oi := _) (v := ?_) rfl (by kernel_rfl) (by kernel_rfl) (by kernel_rfl) (fun _ _ _ h => h) (by assumption) (Or.inl ⟨by kernel_rfl, ?_⟩) ?_
  rotate_left
  · intro wz hSw; (first | (go_simp; done) | (go_simp; with_reducible rfl))
  (try simp only [Act.put, List.getElem_toArray, List.getElem_cons_zero, List.getElem_cons_succ, List.setIfInBounds_toArray, List.set_cons_zero, List.set_cons_succ])
  refine held_take (fun _ => trivial) (by kernel_rfl) (i := 9) (oi := _) (v := ?_) rfl (by kernel_rfl) (by kernel_rfl) (by kernel_rfl) (fun _ _ _ h => h) (by assumption) (Or.inl ⟨by kernel_rfl, ?_⟩) ?_
  rotate_left
  · intro wz hSw; (first | (go_simp; done) | (go_simp; with_reducible rfl))
  (try simp only [Act.put, List.getElem_toArray, List.getElem_cons_zero, List.getElem_cons_succ, List.setIfInBounds_toArray, List.set_cons_zero, List.set_cons_succ])
  refine held_take (fun _ => trivial) (by kernel_rfl) (i := 10) (oi := _) (v := ?_) rfl (by kernel_rfl) (by kernel_rfl) (by kernel_rfl) (fun _ _ _ h => h) (by assumption) (Or.inl ⟨by kernel_rfl, ?_⟩) ?_
  rotate_left
  · intro wz hSw; (first | (go_simp; done) | (go_simp; with_reducible rfl))
  (try simp only [Act.put, List.getElem_toArray, List.getElem_cons_zero, List.getElem_cons_succ, List.setIfInBounds_toArray, List.set_cons_zero, List.set_cons_succ])
  refine held_step (fun _ => trivial) (i := 11) (o := _) (by kernel_rfl) rfl (fun K hK => ?_)
  go_simp
  refine ⟨trivial, callsIn_wide.2 ((H0.out _ (HBS.out.below hHeld)).mono ?_)⟩
  rintro e wz ⟨rfl, rfl⟩
  dsimp only
  refine hK.out _ _ (hHeld) (fun hHeld => ?_)
  clear hK K
  (try simp only [Act.put, List.getElem_toArray, List.getElem_cons_zero, List.getElem_cons_succ, List.setIfInBounds_toArray, List.set_cons_zero, List.set_cons_succ])
  refine held_step (fun _ => trivial) (i := 12) (o := _) (by kernel_rfl) rfl (fun K hK => ?_)
  go_simp
  refine ⟨trivial, callsIn_wide.2 ((H1.out _).mono ?_)⟩
  rintro e wz ⟨rfl, hbz⟩
  dsimp only
  refine hK.out _ _ (bnext hHeld hbz) (fun hHeld => ?_)
  clear hK K
  (try simp only [Act.put, List.getElem_toArray, List.getElem_cons_zero, List.getElem_cons_succ, List.setIfInBounds_toArray, List.set_cons_zero, List.set_cons_succ])
  refine held_take (fun _ => trivial) (by kernel_rfl) (i := 13) (oi := _) (v := ?_) rfl (by kernel_rfl) (by kernel_rfl) (by kernel_rfl) (fun _ _ _ h => h) (by assumption) (Or.inl ⟨by kernel_rfl, ?_⟩) ?_
  rotate_left
  · intro wz hSw; (first | (go_simp; done) | (go_simp; with_reducible rfl))
  (try simp only [Act.put, List.getElem_toArray, List.getElem_cons_zero, List.getElem_cons_succ, List.setIfInBounds_toArray, List.set_cons_zero, List.set_cons_succ])
  refine held_take (fun _ => trivial) (by kernel_rfl) (i := 14) (oi := _) (v := ?_) rfl (by kernel_rfl) (by kernel_rfl) (by kernel_rfl) (fun _ _ _ h => h) (by assumption) (Or.inl ⟨by kernel_rfl, ?_⟩) ?_
  rotate_left
  · intro wz hSw; (first | (go_simp; done) | (go_simp; with_reducible rfl))
  (try simp only [Act.put, List.getElem_toArray, List.getElem_cons_zero, List.getElem_cons_succ, List.setIfInBounds_toArray, List.set_cons_zero, List.set_cons_succ])
  refine held_done (by kernel_rfl) ?_ _
  have HH := Lib.hid hHeld
  have HBZ := Lib.hid (HBS.out.below hHeld)
  clear hHeld
  rw [show decide ((l.length : Int) < 0) = false from decide_eq_false (by omega)]
  cases q
  · go_wp2_with fail
    go_ret2
    exact ⟨rfl, HH.out⟩
  · go_wp2_with fail
    refine (H2.out _ HBZ.out).mono ?_
    rintro e w5 ⟨⟨v, rfl, hown⟩, hb5⟩
    go_wp2_with fail
    go_ret2
    exact ⟨⟨_, rfl, Own.mono HH.out.size hown⟩, bnext HH.out hb5⟩
end Go.Proofs.YtbbhmhihpdmoiaaGreat.Cx


/- Bytes as strings; Open and Sum of rows; CrcNames, walked. -/
set_option linter.unusedVariables false
set_option linter.unusedSimpArgs false
namespace Go.Proofs.YtbbhmhihpdmoiaaGreat.Cx
open Go Go.RowKit
/-- the string that bytes make -/
def bstr (l : List Nat) : ByteArray := ⟨(l.map UInt8.ofNat).toArray⟩
theorem push_all (l : List Nat) : ∀ (b : ByteArray), (l.map fun x : Nat => (x : Int)).foldl (fun r n => r.push (UInt8.ofNat n.toNat)) b = ⟨b.data ++ (l.map UInt8.ofNat).toArray⟩ := by
  induction l with
  | nil => intro b; simp
  | cons x l ih =>
    intro b
    simp only [List.map_cons, List.foldl_cons]
    rw [ih]
    simp [ByteArray.push]
theorem conv_bs {W : World} {o : Option Addr} {l : List Nat} {n : Nat} (cap : Nat) (hn : l.length = n) (h : Bs W o l) : (convert 31 9 (.slice o n cap)).run Tryz.prog W = .ok (.string (bstr l)) W := by
  subst hn
  rw [run_convert_bytes_string W _ _ _ _ _ _ Tryz.underlying31 Tryz.underlying5 Tryz.underlying9]
  cases o with
  | none =>
    have : l = [] := by
      cases l with
      | nil => rfl
      | cons x l => obtain ⟨_, _, e, _⟩ := h 0 (by simp); cases e
    subst this
    rfl
  | some a =>
    have hl := run_loadCells_list (P := Tryz.prog) (w := W) a (l.map encB) (news_any h a rfl)
    rw [List.length_map] at hl
    have hm : l.map encB = (l.map fun x : Nat => (x : Int)).map (Value.int .u8) := by simp [encB]
    rw [hm] at hl
    rw [run_bytesToString W _ _ _ _ hl, push_all]
    simp [bstr, ByteArray.empty, ByteArray.emptyWithCapacity]
    rfl
theorem bs_part {W : World} {b off : Nat} {l m : List Nat} (h : Bs W (some ⟨b, off, none⟩) (l ++ m)) : Bs W (some ⟨b, off, none⟩) l := by
  have := h.take l.length
  rwa [List.take_left] at this
theorem bs_at {W : World} {b off : Nat} {l : List Nat} (h : Bs W (some ⟨b, off, none⟩) l) {j : Nat} (hj : j < l.length) : W.cell? ⟨b, off + j, none⟩ = some (.int .u8 ((l.getD j 0 : Nat) : Int)) := by
  obtain ⟨_, _, e, hc⟩ := h j hj
  cases e
  exact hc
/-- Open of bytes with four behind -/
theorem open_at (l : List Nat) (c0 c1 c2 c3 b off cap : Nat) (w : World) (hl : By l) (hlen : l.length ≤ 1000000) (hcap : l.length + 4 ≤ cap) (hcap2 : cap ≤ 9223372036854775807) (hb : Bs w (some ⟨b, off, none⟩) (l ++ [c0, c1, c2, c3])) :
    Calls Tryz.prog 71 #[.slice (some ⟨b, off, none⟩) (l.length + 4) cap] w fun e w' =>
      if ([c0, c1, c2, c3] == le4 (more 0 l)) = true then (∃ v, e = .returned (.tuple #[v, .int .i64 0]) ∧ Own w' w.heap.size v l) ∧ Below w.heap.size w w' else No w e w' := by
  have g0 := bs_at hb (j := l.length) (by simp)
  have g1 := bs_at hb (j := l.length + 1) (by simp)
  have g2 := bs_at hb (j := l.length + 2) (by simp)
  have g3 := bs_at hb (j := l.length + 3) (by simp)
  simp [List.getD] at g0 g1 g2 g3
  exact open_long l c0 c1 c2 c3 b off cap w hl hlen hcap hcap2 (bs_part hb) g0 (by rw [Nat.add_assoc]; exact g1) (by rw [Nat.add_assoc]; exact g2) (by rw [Nat.add_assoc]; exact g3)
theorem lit_row (w : World) (l : List Nat) (C : Array Value) (hC : C = bR l) (fr : Nat × Nat) : Bs (w.alloc (.cells C 5 fr)) (some ⟨w.heap.size, 0, none⟩) l := by
  subst hC
  exact Bs.row (heap_alloc_new w _)
end Go.Proofs.YtbbhmhihpdmoiaaGreat.Cx


/- The document's Twin, Seal and Open, walked. -/
set_option linter.unusedVariables false
set_option linter.unusedSimpArgs false
namespace Go.Proofs.YtbbhmhihpdmoiaaGreat.Cx
open Go.Proofs.YtbbhmhihpdmoiaaGreat.Fx (held_done held_region held_take)
open Go Go.RowKit Go.Shelf
attribute [local go_sem] Oper.semAt_some
theorem nil_of {W : World} {l : List Nat} (h : Bs W none l) : l = [] := by
  cases l with
  | nil => rfl
  | cons x l => obtain ⟨_, _, e, _⟩ := h 0 (by simp); cases e
theorem le4_val {c0 c1 c2 c3 s : Nat} (h0 : c0 < 256) (h1 : c1 < 256) (h2 : c2 < 256) (h3 : c3 < 256) (hs : s < 4294967296) : (c0 + 256 * c1 + 65536 * c2 + 16777216 * c3 = s) ↔ [c0, c1, c2, c3] = le4 s := by
  simp only [le4, List.cons.injEq, and_true]
  omega
end Go.Proofs.YtbbhmhihpdmoiaaGreat.Cx


/- CrcSeals, walked. -/
set_option linter.unusedVariables false
set_option linter.unusedSimpArgs false
namespace Go.Proofs.YtbbhmhihpdmoiaaGreat.Cx
open Go.Proofs.YtbbhmhihpdmoiaaGreat.Fx (held_done held_region held_step held_take)
open Go Go.RowKit Go.Shelf
attribute [local go_sem] Oper.semAt_some
theorem bstr_size (l : List Nat) : (bstr l).size = l.length := by
  show (l.map UInt8.ofNat).toArray.size = _
  simp
/-- what bytes were sealed of -/
def opened (l : List Nat) : Option (List Nat) := if 4 ≤ l.length ∧ l.drop (l.length - 4) = le4 (more 0 (l.take (l.length - 4))) then some (l.take (l.length - 4)) else none
def erO (R : Option (List Nat)) : Int := if R.isSome then 0 else 40
def RetO (R : Option (List Nat)) (B : Nat) (e : Ending) (w' : World) : Prop := ∃ v, e = .returned (.tuple #[v, .int .i64 (erO R)]) ∧ Own w' B v (R.getD [])
theorem No.ret {w w' : World} {e : Ending} (h : No w e w') : RetO none w.heap.size e w' ∧ Below w.heap.size w w' := ⟨⟨_, h.1, World.ownsRow_nil _ _ _ _⟩, h.2⟩
theorem four_of {l : List Nat} {n : Nat} (h : l.length = n + 4) : l = l.take n ++ [l.getD n 0, l.getD (n + 1) 0, l.getD (n + 2) 0, l.getD (n + 3) 0] := by
  have e : l.drop n = [l.getD n 0, l.getD (n + 1) 0, l.getD (n + 2) 0, l.getD (n + 3) 0] := by
    apply List.ext_getElem?
    intro i
    rw [List.getElem?_drop]
    have g : ∀ j, j < l.length → l[j]? = some (l.getD j 0) := fun j hj => by simp [List.getD, hj]
    match i with
    | 0 => exact g _ (by omega)
    | 1 => exact g _ (by omega)
    | 2 => exact g _ (by omega)
    | 3 => exact g _ (by omega)
    | i + 4 =>
      rw [List.getElem?_eq_none (by omega)]
      rfl
  rw [← e, List.take_append_drop]
theorem opened_long {l t : List Nat} {c0 c1 c2 c3 : Nat} (h : l = t ++ [c0, c1, c2, c3]) : opened l = if ([c0, c1, c2, c3] == le4 (more 0 t)) = true then some t else none := by
  have hl : l.length = t.length + 4 := by rw [h]; simp
  have ht : l.take (l.length - 4) = t := by rw [hl, Nat.add_sub_cancel, h, List.take_left]
  have hd : l.drop (l.length - 4) = [c0, c1, c2, c3] := by rw [hl, Nat.add_sub_cancel, h, List.drop_left]
  unfold opened
  rw [ht, hd]
  by_cases hc : [c0, c1, c2, c3] = le4 (more 0 t)
  · rw [if_pos ⟨by omega, hc⟩, if_pos (by rw [hc]; exact beq_self_eq_true _)]
  · rw [if_neg (fun h => hc h.2), if_neg (fun h => hc (by simpa using h))]
theorem opened_short {l : List Nat} (h : l.length < 4) : opened l = none := by
  unfold opened
  rw [if_neg (fun h2 => by omega)]
theorem open_all (l : List Nat) (n : Nat) (hn : l.length = n) (o : Option Addr) (cap : Nat) (w : World) (hl : By l) (hlen : l.length ≤ 900000) (hcap : l.length ≤ cap) (hcap2 : cap ≤ 9223372036854775807) (hb : Bs w o l) :
    Calls Tryz.prog 71 #[.slice o n cap] w fun e w' => RetO (opened l) w.heap.size e w' ∧ Below w.heap.size w w' := by
  subst hn
  by_cases h4 : l.length < 4
  · rw [opened_short h4]
    exact (open_short _ o cap w h4).mono fun e w' h => h.ret
  · obtain ⟨b, off, rfl, _⟩ := hb 0 (by omega)
    have hf := four_of (l := l) (n := l.length - 4) (by omega)
    have hlt : (l.take (l.length - 4)).length + 4 = l.length := by rw [List.length_take]; omega
    rw [opened_long hf]
    have := open_at (l.take (l.length - 4)) _ _ _ _ b off cap w (hl.take _) (by omega) (by omega) hcap2 (by rw [← hf]; exact hb)
    rw [hlt] at this
    refine this.mono ?_
    intro e w' h
    split at h
    · rename_i hc
      rw [if_pos hc]
      obtain ⟨⟨v, he, ho⟩, hbel⟩ := h
      exact ⟨⟨v, he, ho⟩, hbel⟩
    · rename_i hc
      rw [if_neg hc]
      exact h.ret
theorem grown_trans {a b c : World} {r : Option Nat} (h1 : a.grownBy b r) (h2 : b.grownBy c r) : a.grownBy c r :=
  ⟨h2.os.trans h1.os, h2.tape.trans h1.tape, h2.output.trans h1.output, Nat.le_trans h1.size h2.size, fun k hk hr => (h2.block k (Nat.lt_of_lt_of_le hk h1.size) hr).trans (h1.block k hk hr)⟩
/-- one byte raised by one -/
theorem bump {W : World} {B g cap k : Nat} {ls : List Nat} (h : Own W B (.slice (some ⟨g, 0, none⟩) ls.length cap) ls) (c : Nat) :
    Own (W.setCell ⟨g, k, none⟩ (.int .u8 (c : Int))) B (.slice (some ⟨g, 0, none⟩) ls.length cap) (ls.set k c) ∧ W.grownBy (W.setCell ⟨g, k, none⟩ (.int .u8 (c : Int))) (some g) := by
  obtain ⟨h1, h2⟩ := World.ownsRow.stored h k (.int .u8 (c : Int))
  refine ⟨?_, h2⟩
  unfold Own
  rw [List.length_set, List.map_set]
  exact h1
/-- the loop's relation: v holds some bytes, and nothing but its row was written -/
def Bump (W0 : World) (B N : Nat) (v : Value) (wx : World) : Prop := ∃ ls, ls.length = N ∧ By ls ∧ Own wx B v ls ∧ W0.grownBy wx v.ownBlock
theorem Bump.facts {W0 wx : World} {B N k cap : Nat} {o : Option Addr} (h : Bump W0 B N (.slice o N cap) wx) (hk : k < N) :
    ∃ g c, o = some ⟨g, 0, none⟩ ∧ c < 256 ∧ wx.cell? ⟨g, k, none⟩ = some (.int .u8 ((c : Nat) : Int)) ∧ wx.frozen? ⟨g, k, none⟩ = false ∧
      Bump W0 B N (.slice (some ⟨g, 0, none⟩) N cap) (wx.setCell ⟨g, k, none⟩ (.int .u8 (((c + 1) % 256 : Nat) : Int))) := by
  obtain ⟨ls, hN, hby, hown, hgr⟩ := h
  obtain ⟨o2, cap2, e, hbs, _, _, _, hfr⟩ := hown.open
  cases e
  obtain ⟨b, off, e, hc⟩ := hbs k (by omega)
  obtain ⟨g, e2, _, _, hf⟩ := hfr _ e
  cases e2
  subst e
  have hb := bump (k := k) hown ((ls.getD k 0 + 1) % 256)
  refine ⟨b, ls.getD k 0, rfl, hby.get k, by simpa using hc, hf k, ls.set k ((ls.getD k 0 + 1) % 256), by simp, ?_, hb.1, grown_trans hgr hb.2⟩
  intro c hc2
  rcases List.mem_or_eq_of_mem_set hc2 with h | rfl
  · exact hby c h
  · exact Nat.mod_lt _ (by omega)
end Go.Proofs.YtbbhmhihpdmoiaaGreat.Cx

