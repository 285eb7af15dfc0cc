import Derived.Laws.Rows
import Derived.Test.YtbbhmhihpdmoiaaGreatProg
import Derived.Laws.StructEq
import Derived.Deep.MidRow
import Derived.Outline
import Derived.Shelf.Abstract
import Derived.Shelf.RegionOpen
import Derived.WalkKit
import Derived.OwnWalkIn
import Derived.TacticsInMore
import Derived.LoopNIn
import Derived.LoopIn
import Derived.Lib.Hide
import Derived.Deep.QuietTactic
import Derived.BigQuiet
import Derived.WalkMore
import Derived.Test.YtbbhmhihpdmoiaaGreatMz00
import Derived.Test.YtbbhmhihpdmoiaaGreatMz01
import Derived.Test.YtbbhmhihpdmoiaaGreatMz08
import Derived.Test.YtbbhmhihpdmoiaaGreatMz10
/- The document's numbers of layer 2, plain: a sign, and twenty digits of 16 bits; none, walked. -/
set_option linter.unusedVariables false
set_option linter.unusedSimpArgs false
namespace Go.Proofs.YtbbhmhihpdmoiaaGreat.Fx
open Go Go.RowKit Wm
def encN (x : Nat) : Value := .int .u64 (x : Int)
/-- the cells of a number -/
def bigC (neg : Bool) (d : List Nat) : Array Value := (Value.bool neg :: d.map encN).toArray
theorem all_range_nat : ∀ (xs ys : List Nat), xs.length = ys.length → ((List.range xs.length).all fun i => xs.getD i 0 == ys.getD i 0) = (xs == ys)
  | [], [], _ => rfl
  | x :: xs, y :: ys, h => by
    have ih := all_range_nat xs ys (by simpa using h)
    rw [List.length_cons, List.range_succ_eq_map, List.all_cons, List.all_map]
    simp only [List.getD_cons_zero, Function.comp_def, List.getD_cons_succ, ih]
    simp [List.cons_beq_cons]
  | [], _ :: _, h => by simp at h
  | _ :: _, [], h => by simp at h
def zeros : List Nat := List.replicate 20 0
theorem size21 : (Tryz.prog.info? 214).map (·.size) = some 21 := by kernel_rfl
theorem big_size (neg : Bool) (d : List Nat) : (bigC neg d).size = d.length + 1 := by simp [bigC]
theorem big_one (neg : Bool) (d : List Nat) : (bigC neg d).all (·.oneCell') = true := by
  rw [Array.all_eq_true_iff_forall_mem]
  intro v hv
  simp only [bigC, List.mem_toArray, List.mem_cons, List.mem_map] at hv
  rcases hv with rfl | ⟨x, _, rfl⟩ <;> rfl
theorem wpList_store_big {P : Program} {ops : Array Oper} {rest : List Oper} {op : Oper} {a : Act} {w : World} {Q : Exit → Act → World → Prop} (hgd : op.guard = none) (ty : TypeId) (x y : Operand) (ho : op.op = .store ty x y)
    (g : Nat) (t : TypeId) (c c' : Array Value) (hx : a.eval x = .pointer (some ⟨g, 0, none⟩)) (hy : a.eval y = .agg c') (hg : w.heap[g]? = some (.cells c t (0, 0)))
    (hi : (P.info? ty).map (·.size) = some c'.size) (hs : c.size = c'.size) (h1 : c'.all (·.oneCell') = true)
    (h : wpList P ops Q rest (a.put op.dst undef) (w.setRow g c')) : wpList P ops Q (op :: rest) a w := by
  refine wpList_plain hgd fun K hK => ?_
  unfold Oper.wp execOp
  simp only [ho, hx, hy, Instr.storeAt, Instr.sureAddr, Sem.run_bind, Sem.run_pure, Result.andThen_ok, run_storeVar_row w g t ty c c' hg hi hs h1]
  exact hK _ _ h
theorem Below.row {B : Nat} {a w : World} (h : Below B a w) {g : Nat} (hg : B ≤ g) (c : Array Value) : Below B a (w.setRow g c) :=
  ⟨h.os, h.tape, h.output, by simpa using h.size, fun k hk => (setRow_other w g k c (by omega)).trans (h.block k hk)⟩
end Go.Proofs.YtbbhmhihpdmoiaaGreat.Fx


/- matrix.numbers, walked: what it hands on. -/
set_option linter.unusedVariables false
set_option linter.unusedSimpArgs false
namespace Go.Proofs.YtbbhmhihpdmoiaaGreat.Fx
open Go Go.RowKit Go.Shelf
attribute [local go_sem] Oper.semAt_some
def encI (x : Int) : Value := .int .i64 x
/-- rows of four numbers behind a slice's box -/
def RowsM (m : List Int) (n b cap A : Nat) (X : World) : Prop :=
  X.cell? ⟨A, 0, none⟩ = some (.slice (some ⟨b, 0, none⟩) n cap) ∧ ∀ j, j < 4 * n → X.cell? ⟨b, j, none⟩ = some (.int .i64 (m.getD j 0))
def numElem (m : List Int) (k : Nat) : Array Value := #[.agg #[.int .i64 ((k / 4 : Nat) : Int), .int .i64 ((k % 4 : Nat) : Int)], .int .i64 (m.getD k 0)]
theorem vec_at (x0 x1 x2 x3 : Int) (c : Nat) (h : c < 4) (w : World) : (Instr.index 23 (.agg #[.int .i64 x0, .int .i64 x1, .int .i64 x2, .int .i64 x3]) (.int .i64 (c : Int))).run Tryz.prog w = .ok (.int .i64 ([x0, x1, x2, x3].getD c 0)) w := by
  have hd : c = 0 ∨ c = 1 ∨ c = 2 ∨ c = 3 := by omega
  rcases hd with rfl | rfl | rfl | rfl <;> (show _ = _; kernel_rfl)
set_option maxRecDepth 100000 in
set_option maxHeartbeats 1000000 in
theorem numbers_hands (m : List Int) (n b cap A : Nat) (hn : n ≤ 4) :
    Hands Fence.wide 4 Tryz.prog 149 #[.pointer (some ⟨A, 0, none⟩)] (numElem m) (4 * n) (RowsM m n b cap A) := by
  intro l J Jx W hJ1 hJ2 hJB hJxB hY h0
  obtain ⟨cA, _⟩ := hJB 0 W h0
  have HY := Lib.hid hY; clear hY
  have HJ1 := Lib.hid hJ1; clear hJ1
  have HJ2 := Lib.hid hJ2; clear hJ2
  have HJB := Lib.hid hJB; clear hJB
  have HJxB := Lib.hid hJxB; clear hJxB
  refine callsIn_of_wp Tryz.func149 rfl trivial ?_ rfl
  simp only [Tryz.ntmps149, List.size_toArray, List.length_cons, List.length_nil, Nat.reduceAdd, Nat.reduceSub, Array.replicate_succ, Array.replicate_zero, List.push_toArray, List.append_toArray, List.nil_append, List.cons_append]
  gi_wp2
  gi_loopw [9] (fun v9 wr => ∃ r : Nat, v9 = .int .i64 (r : Int) ∧ r ≤ n ∧ J (r * 4) wr) (fun v9 _ => n - (intOf v9).toNat)
  case atStart => exact ⟨0, rfl, by omega, h0⟩
  case round =>
    clear cA
    obtain ⟨r, rfl, hrn, hJ⟩ := hrel
    by_cases hr : r < n
    · obtain ⟨_, hc⟩ := HJB.out _ wr hJ
      have q0 := hc (r * 4) (by omega)
      have q1 := hc (r * 4 + 1) (by omega)
      have q2 := hc (r * 4 + 2) (by omega)
      have q3 := hc (r * 4 + 3) (by omega)
      clear hc
      obtain ⟨x0, hx0⟩ : ∃ x, m.getD (r * 4) 0 = x := ⟨_, rfl⟩
      obtain ⟨x1, hx1⟩ : ∃ x, m.getD (r * 4 + 1) 0 = x := ⟨_, rfl⟩
      obtain ⟨x2, hx2⟩ : ∃ x, m.getD (r * 4 + 2) 0 = x := ⟨_, rfl⟩
      obtain ⟨x3, hx3⟩ : ∃ x, m.getD (r * 4 + 3) 0 = x := ⟨_, rfl⟩
      rw [hx0] at q0
      rw [hx1] at q1
      rw [hx2] at q2
      rw [hx3] at q3
      have hrow : ∀ c, c < 4 → m.getD (r * 4 + c) 0 = [x0, x1, x2, x3].getD c 0 := by
        intro c hc
        have hd : c = 0 ∨ c = 1 ∨ c = 2 ∨ c = 3 := by omega
        rcases hd with rfl | rfl | rfl | rfl
        · exact hx0
        · exact hx1
        · exact hx2
        · exact hx3
      have HROW := Lib.hid hrow
      clear hrow hx0 hx1 hx2 hx3
      have r0 : (0 : Int) ≤ (r : Int) := by omega
      have r1 : (r : Int) < (n : Int) := by omega
      have r2 : (r : Int) < 4 := by omega
      gi_wp2
      have hJV := HJ1.out _ _ (wr.alloc (.cells #[.int .i64 x0, .int .i64 x1, .int .i64 x2, .int .i64 x3] 23)) hJ ((Below.refl _ wr).alloc (Nat.le_refl _) _)
      generalize wr.alloc (.cells #[.int .i64 x0, .int .i64 x1, .int .i64 x2, .int .i64 x3] 23) = V at hJV ⊢
      clear q0 q1 q2 q3
      gi_loopw [15] (fun v15 wx => ∃ c : Nat, v15 = .int .i64 (c : Int) ∧ c ≤ 4 ∧ J (r * 4 + c) wx) (fun v15 _ => 4 - (intOf v15).toNat)
      case atStart => exact ⟨0, rfl, by omega, hJV⟩
      case round =>
        rename_i wx _ _ _ _ _ _ _ _ _ _ _ _ _
        obtain ⟨c, rfl, hc4, hJc⟩ := hrel
        by_cases hc : c < 4
        · obtain ⟨fn, tmps, assign, body, hy, hR⟩ := HY.out (r * 4 + c) _ (by omega) hJc
          simp only [numElem, show (r * 4 + c) / 4 = r from by omega, show (r * 4 + c) % 4 = c from by omega, HROW.out c hc] at hy
          have hix := vec_at x0 x1 x2 x3 c hc
          generalize [x0, x1, x2, x3].getD c 0 = x at hy hix
          have c0 : (0 : Int) ≤ (c : Int) := by omega
          have c1 : (c : Int) < 4 := by omega
          gi_wp2
          refine hR.mono ?_
          rintro e W3 (⟨rfl, hJ3⟩ | ⟨rfl, hJx3⟩)
          · gi_wp2
            go_roundw
            case rel => exact ⟨c + 1, by go_num, by omega, hJ3⟩
            case measure => simp [intOf]; omega
          · gi_wp2
            refine bodyPost_ret (results_none rfl _ _ _) rfl ?_
            exact ⟨⟨_, rfl⟩, .inr hJx3⟩
        · have hce : c = 4 := by omega
          subst hce
          have hJ4 : J ((r + 1) * 4) wr := by rw [show (r + 1) * 4 = r * 4 + 4 from by omega]; exact hJc
          have HJ4 := Lib.hid hJ4
          clear hJ4
          gi_wp2
          go_roundw
          case rel => exact ⟨r + 1, by go_num, by omega, HJ4.out⟩
          case measure => simp [intOf]; omega
    · have hrm : r = n := by omega
      have hnlt : ¬ (r : Int) < (n : Int) := by omega
      have HJN : Hid (J (4 * n) wr) := Lib.hid (by rw [show 4 * n = r * 4 from by omega]; exact hJ)
      clear hrm
      gi_wp2
      go_end0
      exact ⟨⟨_, rfl⟩, .inl HJN.out⟩
theorem numbers_w (oa : Option Addr) (la ca : Nat) (w : World) : Calls Tryz.prog 140 #[.slice oa la ca] w fun e w' =>
    e = .returned (.func (.func 149) #[] #[.pointer (some ⟨w.heap.size, 0, none⟩)]) ∧ w' = w.alloc (.cells #[.slice oa la ca] 171) := by
  go_enter Tryz.func140, Tryz.ntmps140
  go_wp2
  go_ret
  exact ⟨rfl, rfl⟩
end Go.Proofs.YtbbhmhihpdmoiaaGreat.Fx


/- matrix.within, walked: are numbers within a bound? -/
set_option linter.unusedVariables false
set_option linter.unusedSimpArgs false
namespace Go.Proofs.YtbbhmhihpdmoiaaGreat.Fx
open Go Go.RowKit Go.Shelf
attribute [local go_sem] Oper.semAt_some
/-- is a number within a bound? -/
def okB (bound x : Int) : Bool := decide (0 ≤ bound ∧ -bound ≤ x ∧ x ≤ bound)
/-- are the first k? -/
def wB (bound : Int) (m : List Int) (k : Nat) : Bool := (List.range k).all fun j => okB bound (m.getD j 0)
theorem wB_succ (bound : Int) (m : List Int) (k : Nat) : wB bound m (k + 1) = (wB bound m k && okB bound (m.getD k 0)) := by simp [wB, List.range_succ]
theorem wB_false {bound : Int} {m : List Int} {k n : Nat} (h : k < n) (hk : okB bound (m.getD k 0) = false) : wB bound m n = false := by
  unfold wB
  rw [List.all_eq_false]
  exact ⟨k, by simpa using h, by rw [hk]; simp⟩
theorem wB_iff {bound : Int} {m : List Int} {k : Nat} : wB bound m k = true ↔ ∀ j, j < k → 0 ≤ bound ∧ -bound ≤ m.getD j 0 ∧ m.getD j 0 ≤ bound := by simp [wB, okB]
/-- what the iterator reads, and the boxes of the bound and the answer -/
structure WM (bound : Int) (b : Bool) (n g cap : Nat) (w W : World) : Prop where
  a : W.heap[w.heap.size]? = some (.cells #[.int .i64 bound] 2 (0, 0))
  b : W.heap[w.heap.size + 1]? = some (.cells #[.bool b] 4 (0, 0))
  r : W.heap[w.heap.size + 1 + 1]? = some (.cells #[.slice (some ⟨g, 0, none⟩) n cap] 171 (0, 0))
  below : Below w.heap.size w W
theorem WM.kept {bound : Int} {b : Bool} {n g cap B : Nat} {w W X : World} (hB : w.heap.size ≤ B) (k : Kept B W X) (s : WM bound b n g cap w W) : WM bound b n g cap w X := ⟨k.cells s.a, k.cells s.b, k.cells s.r, k.below hB s.below⟩
def Fours (m : List Int) (n g : Nat) (X : World) : Prop := ∀ j, j < 4 * n → X.cell? ⟨g, j, none⟩ = some (.int .i64 (m.getD j 0))
theorem Fours.below {m : List Int} {n g : Nat} {w X : World} (h : Below w.heap.size w X) (s : Fours m n g w) : Fours m n g X := fun j hj => keep_cell h (s j hj)
theorem WM.reads {bound : Int} {b : Bool} {n g cap : Nat} {m : List Int} {w W : World} (s : WM bound b n g cap w W) (hm : Fours m n g w) : RowsM m n g cap (w.heap.size + 1 + 1) W :=
  ⟨by rw [cell_of_row _ _ _ _ _ _ s.r]; rfl, hm.below s.below⟩
theorem WM.facts {bound : Int} {b : Bool} {n g cap : Nat} {w W : World} (s : WM bound b n g cap w W) :
    W.cell? ⟨w.heap.size, 0, none⟩ = some (.int .i64 bound) ∧ W.cell? ⟨w.heap.size + 1, 0, none⟩ = some (.bool b) ∧ W.frozen? ⟨w.heap.size + 1, 0, none⟩ = false :=
  ⟨by rw [cell_of_row _ _ _ _ _ _ s.a]; rfl, by rw [cell_of_row _ _ _ _ _ _ s.b]; rfl, frozen_row s.b⟩
theorem WM.set {bound : Int} {b c : Bool} {n g cap : Nat} {w W : World} (s : WM bound b n g cap w W) : WM bound c n g cap w (W.setCell ⟨w.heap.size + 1, 0, none⟩ (.bool c)) :=
  ⟨by rw [heap_setCell_other _ _ _ _ (by show _ ≠ w.heap.size + 1; omega)]; exact s.a, heap_setCell_same _ _ 0 _ _ _ s.b, by rw [heap_setCell_other _ _ _ _ (by show _ ≠ w.heap.size + 1; omega)]; exact s.r,
    s.below.setCell (p := ⟨w.heap.size + 1, 0, none⟩) (by show _ ≤ w.heap.size + 1; omega) _⟩
def WI (bound : Int) (m : List Int) (n g cap : Nat) (w : World) (k : Nat) (W : World) : Prop := wB bound m k = true ∧ WM bound true n g cap w W
def WX (bound : Int) (m : List Int) (n g cap : Nat) (w : World) (W : World) : Prop := wB bound m (4 * n) = false ∧ WM bound false n g cap w W
def WA (bound : Int) (m : List Int) (n g cap : Nat) (w : World) (k : Nat) (a : Act) : Prop :=
  a = { tmps := #[.int .i64 bound, .slice (some ⟨g, 0, none⟩) n cap, .pointer (some ⟨w.heap.size, 0, none⟩), undef, .bool false, .pointer (some ⟨w.heap.size + 1, 0, none⟩), undef, .int .i64 (m.getD k 0), .slice (some ⟨g, 0, none⟩) n cap,
    .func (.func 149) #[] #[.pointer (some ⟨w.heap.size + 1 + 1, 0, none⟩)], .agg #[.int .i64 ((k / 4 : Nat) : Int), .int .i64 ((k % 4 : Nat) : Int)], .int .i64 (m.getD k 0), undef, undef, undef, undef, undef, undef, undef, undef, undef, undef, undef, undef, undef, undef], defers := [] }
def RetBool (b : Bool) (w : World) (e : Ending) (w' : World) : Prop := e = .returned (.bool b) ∧ Below w.heap.size w w'
theorem block3s (w : World) (A B C : Obj) : (((w.alloc A).alloc B).alloc C).heap[w.heap.size]? = some A ∧ (((w.alloc A).alloc B).alloc C).heap[w.heap.size + 1]? = some B ∧ (((w.alloc A).alloc B).alloc C).heap[w.heap.size + 1 + 1]? = some C := by
  have h0 := heap_alloc_new w A
  have h1 := heap_alloc_new (w.alloc A) B
  have h2 := heap_alloc_new ((w.alloc A).alloc B) C
  simp only [World.size_alloc] at h1 h2
  exact ⟨step_row (step_row h0), step_row h1, h2⟩
set_option maxRecDepth 100000 in
set_option maxHeartbeats 2000000 in
theorem within_any (bound : Int) (m : List Int) (n g cap : Nat) (w : World) (hn : n ≤ 4) (b0 : -9223372036854775808 ≤ bound) (b1 : bound ≤ 9223372036854775807) (hm : Fours m n g w) :
    Calls Tryz.prog 117 #[.int .i64 bound, .slice (some ⟨g, 0, none⟩) n cap] w (RetBool (wB bound m (4 * n)) w) := by
  have HM := Lib.hid hm; clear hm
  refine (callsIn_wide (n := 5)).1 ?_
  refine callsIn_of_wp_marks Tryz.func117 rfl trivial ?_ rfl
  simp only [Tryz.ntmps117, List.size_toArray, List.length_cons, List.length_nil, Nat.reduceAdd, Nat.reduceSub, Array.replicate_succ, Array.replicate_zero, List.push_toArray, List.append_toArray, List.nil_append, List.cons_append]
  refine wpIn_wide.2 ?_
  go_wp2_with fail
  go_step3
  go_wp2_with fail
  go_step3
  go_wp2_with fail
  refine (numbers_w _ _ _ _).mono ?_
  rintro e w' ⟨rfl, rfl⟩
  go_wp2_with fail
  obtain ⟨W0, hW0⟩ : ∃ W0, (((w.alloc (.cells #[.int .i64 bound] 2)).alloc (.cells #[.bool true] 4)).alloc (.cells #[.slice (some ⟨g, 0, none⟩) n cap] 171)) = W0 := ⟨_, rfl⟩
  have hB0 : Below w.heap.size w W0 := by rw [← hW0]; go_grown
  have hS0 : W0.heap.size = w.heap.size + 3 := by rw [← hW0]; simp
  have wm0 : WM bound true n g cap w W0 := by
    rw [← hW0]
    exact ⟨(block3s w _ _ _).1, (block3s w _ _ _).2.1, (block3s w _ _ _).2.2, by rw [hW0]; exact hB0⟩
  rw [hW0]
  clear hW0
  have LB : WI bound m n g cap w 0 W0 := ⟨rfl, wm0⟩
  clear wm0
  refine wpIn_wide.1 (wpIn_range_num (F := Fence.wide) (n := 5) rfl (by omega) (gf := 149) (lb := #[.pointer (some ⟨w.heap.size + 1 + 1, 0, none⟩)]) rfl trivial (enters_of Tryz.func149 (by kernel_rfl) rfl)
    (numbers_hands m n g cap (w.heap.size + 1 + 1) hn) (fun _ => rfl) 0 (WI bound m n g cap w) (WX bound m n g cap w) (fun k a' W => WA bound m n g cap w k a' ∧ WI bound m n g cap w k W)
    ?i1 ?i2 ?i3 ?i4 ?i5 LB ?assign ?body ?done ?stop)
  case i1 => rintro k W X ⟨h1, h4⟩ hk; exact ⟨h1, h4.kept (by omega) hk⟩
  case i2 => rintro W X ⟨h1, h4⟩ hk; exact ⟨h1, h4.kept (by omega) hk⟩
  case i3 => rintro k a W X ⟨h0, h1, h4⟩ hk; exact ⟨h0, h1, h4.kept (by omega) hk⟩
  case i4 => rintro k W ⟨h1, h4⟩; exact h4.reads HM.out
  case i5 => rintro W ⟨h1, h4⟩; exact h4.reads HM.out
  case assign =>
    intro l k W C hk hI hC
    simp only [numElem]
    gi_wp2
    exact hC _ _ (KeepsFrom.refl _ _) ⟨rfl, hI⟩
  case body =>
    rintro l k a' W hk ⟨ha, hw, wm⟩
    unfold WA at ha
    subst ha
    have hsucc := wB_succ bound m k
    obtain ⟨x, hxk⟩ : ∃ x, m.getD k 0 = x := ⟨_, rfl⟩
    have HW := Lib.hid hw
    have HSU := Lib.hid hsucc
    have HXK := Lib.hid hxk
    rw [hxk]
    obtain ⟨c0, c1, f1⟩ := wm.facts
    have WMH := Lib.hid wm
    clear hw hsucc wm hxk
    by_cases t1 : bound < 0
    · have hno : Hid (okB bound (m.getD k 0) = false) := Lib.hid (by rw [HXK.out]; unfold okB; simp; omega)
      gi_wp2
      exact ⟨rfl, (KeepsOthers.setCell _ _ _).from _, wB_false hk hno.out, WMH.out.set⟩
    by_cases t2 : x < -bound
    · have hno : Hid (okB bound (m.getD k 0) = false) := Lib.hid (by rw [HXK.out]; unfold okB; simp; omega)
      have t1' : 0 ≤ bound := by omega
      gi_wp2
      exact ⟨rfl, (KeepsOthers.setCell _ _ _).from _, wB_false hk hno.out, WMH.out.set⟩
    by_cases t3 : bound < x
    · have hno : Hid (okB bound (m.getD k 0) = false) := Lib.hid (by rw [HXK.out]; unfold okB; simp; omega)
      have t1' : 0 ≤ bound := by omega
      have t2' : -bound ≤ x := by omega
      gi_wp2
      exact ⟨rfl, (KeepsOthers.setCell _ _ _).from _, wB_false hk hno.out, WMH.out.set⟩
    have hyes : Hid (okB bound (m.getD k 0) = true) := Lib.hid (by rw [HXK.out]; unfold okB; simp; omega)
    have t1' : 0 ≤ bound := by omega
    have t2' : -bound ≤ x := by omega
    have t3' : x ≤ bound := by omega
    gi_wp2
    exact ⟨KeepsFrom.refl _ _, by rw [HSU.out, HW.out, hyes.out]; rfl, WMH.out⟩
  case done =>
    rintro D W hD ⟨hw, wm⟩ hdef
    obtain ⟨c0, c1, f1⟩ := wm.facts
    have HW := Lib.hid hw
    have hB := wm.below
    clear hw wm
    go_wp2_with fail
    rw [Exit.noGoto_ret]
    refine ⟨by simp, .inl ⟨_, _, rfl, run_takeDeferred hdef, ?_⟩⟩
    exact ⟨_, results_tmp rfl _ _ _, by rw [HW.out]; rfl, hB.trans (belowK_b (w := w) (Nat.le_refl _) _ D _ _ (by omega) hdef rfl rfl)⟩
  case stop =>
    rintro D W hD ⟨hw, wm⟩ hdef
    obtain ⟨c0, c1, f1⟩ := wm.facts
    have HW := Lib.hid hw
    have hB := wm.below
    clear hw wm
    refine wpIn_wide.2 ?_
    go_wp2_with fail
    rw [Exit.noGoto_ret]
    refine ⟨by simp, .inl ⟨_, _, rfl, run_takeDeferred hdef, ?_⟩⟩
    exact ⟨_, results_tmp rfl _ _ _, by rw [HW.out]; rfl, hB.trans (belowK_b (w := w) (Nat.le_refl _) _ D _ _ (by omega) hdef rfl rfl)⟩
end Go.Proofs.YtbbhmhihpdmoiaaGreat.Fx

