/- The document's sums of sizes, walked. 
  The document's comparison of sizes, walked. 
  The document's differences of sizes, walked. 
  The document's numbers with the other sign, walked. 
  The document's numbers of layer 2, plain: what their digits come to. -/
import Derived.Test.YtgkglkoipocgaaaProg
import Derived.Test.YtgkglkoipocgaaaR0
import Derived.Test.YtgkglkoipocgaaaT1
import Derived.BigQuiet
import Derived.Deep.QuietTactic
import Derived.Deep.LoopGhost
set_option linter.unusedVariables false
set_option linter.unusedSimpArgs false
namespace Go.Proofs.Ytgkglkoipocgaaa.Fx
open Go Go.RowKit Wm
/-- twenty digits -/
def Dg (d : List Nat) : Prop := d.length = 20 ∧ ∀ x ∈ d, x < 65536
def addL : List Nat → List Nat → Nat → List Nat
  | x :: xs, y :: ys, c => (x + y + c) % 65536 :: addL xs ys ((x + y + c) / 65536)
  | _, _, _ => []
theorem addL_len : ∀ (xs ys : List Nat) (c : Nat), xs.length = ys.length → (addL xs ys c).length = xs.length
  | [], [], _, _ => rfl
  | x :: xs, y :: ys, c, h => by simp only [addL, List.length_cons]; rw [addL_len xs ys _ (by simpa using h)]
  | [], _ :: _, _, h => by simp at h
  | _ :: _, [], _, h => by simp at h
theorem addL_lt : ∀ (xs ys : List Nat) (c : Nat), ∀ z ∈ addL xs ys c, z < 65536
  | [], _, _, z, h => by simp [addL] at h
  | _ :: _, [], _, z, h => by simp [addL] at h
  | x :: xs, y :: ys, c, z, h => by
    simp only [addL, List.mem_cons] at h
    rcases h with h | h
    · omega
    · exact addL_lt xs ys _ z h
/-- a number whose first digits are laid -/
def pad (p : List Nat) : List Nat := p ++ List.replicate (20 - p.length) 0
theorem pad_put (p : List Nat) (v : Nat) (neg : Bool) (h : p.length < 20) : (bigC neg (pad p)).setIfInBounds (1 + p.length) (.int .u64 (v : Int)) = bigC neg (pad (p ++ [v])) := by
  unfold bigC pad
  rw [List.setIfInBounds_toArray]
  congr 1
  rw [Nat.add_comm, List.set_cons_succ]
  congr 1
  rw [show 20 - p.length = (20 - (p ++ [v]).length) + 1 from by simp; omega, List.replicate_succ]
  simp [encN, List.set_append_right]
theorem big_at (neg : Bool) (d : List Nat) (k : Nat) (h : k < d.length) : (bigC neg d)[1 + k]? = some (.int .u64 ((d.getD k 0 : Nat) : Int)) := by
  unfold bigC
  rw [List.getElem?_toArray, Nat.add_comm, List.getElem?_cons_succ, List.getElem?_map]
  simp [List.getD_eq_getElem?_getD, h, encN]
theorem pad_len (p : List Nat) (h : p.length ≤ 20) : (pad p).length = 20 := by simp [pad]; omega
structure MInv (nx ny : Bool) (dx dy : List Nat) (w : World) (k c : Nat) (p : List Nat) (wr : World) : Prop where
  kl : k ≤ 20
  pl : p.length = k
  cl : c ≤ 1
  eq : addL dx dy 0 = p ++ addL (dx.drop k) (dy.drop k) c
  bx : wr.heap[w.heap.size]? = some (.cells (bigC nx dx) 79 (0, 0))
  by0 : wr.heap[w.heap.size + 1]? = some (.cells (bigC ny dy) 79 (0, 0))
  bz : wr.heap[w.heap.size + 1 + 1 + 1]? = some (.cells (bigC false (pad p)) 79 (0, 0))
  br : wr.heap[w.heap.size + 1 + 1]? = some (.cells (bigC false zeros) 79 (0, 0))
  below : Below w.heap.size w wr
theorem block3 (w : World) (A B C D : Obj) : (((((w.alloc A).alloc B).alloc C).alloc D).heap[w.heap.size]? = some A ∧ ((((w.alloc A).alloc B).alloc C).alloc D).heap[w.heap.size + 1]? = some B) ∧ ((((w.alloc A).alloc B).alloc C).alloc D).heap[w.heap.size + 1 + 1]? = some C ∧ ((((w.alloc A).alloc B).alloc C).alloc D).heap[w.heap.size + 1 + 1 + 1]? = some D := by
  have h0 : (w.alloc A).heap[w.heap.size]? = some A := heap_alloc_new w A
  have h1 : ((w.alloc A).alloc B).heap[w.heap.size + 1]? = some B := heap_alloc2_new w A B
  have h2 : (((w.alloc A).alloc B).alloc C).heap[w.heap.size + 1 + 1]? = some C := by
    have := heap_alloc_new ((w.alloc A).alloc B) C
    simpa only [World.size_alloc] using this
  have h3 : ((((w.alloc A).alloc B).alloc C).alloc D).heap[w.heap.size + 1 + 1 + 1]? = some D := by
    have := heap_alloc_new (((w.alloc A).alloc B).alloc C) D
    simpa only [World.size_alloc] using this
  exact ⟨⟨step_row (step_row (step_row h0)), step_row (step_row h1)⟩, step_row h2, h3⟩
theorem addL_step (dx dy : List Nat) (k c : Nat) (hx : k < dx.length) (hy : k < dy.length) :
    addL (dx.drop k) (dy.drop k) c = ((dx.getD k 0 + dy.getD k 0 + c) % 65536) :: addL (dx.drop (k + 1)) (dy.drop (k + 1)) ((dx.getD k 0 + dy.getD k 0 + c) / 65536) := by
  rw [List.drop_eq_getElem_cons hx, List.drop_eq_getElem_cons hy, addL]
  simp [List.getD_eq_getElem?_getD, hx, hy]
theorem MInv.next {nx ny : Bool} {dx dy : List Nat} {w wr : World} {k c a b nq : Nat} {p : List Nat} (I : MInv nx ny dx dy w k c p wr) (hx : Dg dx) (hy : Dg dy) (hk : k < 20) (ha : dx.getD k 0 = a) (hb : dy.getD k 0 = b) (ha1 : a < 65536) (hb1 : b < 65536) :
    MInv nx ny dx dy w (k + 1) ((a + b + c) / 65536) (p ++ [(a + b + c) % 65536]) ((wr.drewN nq).setCell ⟨w.heap.size + 1 + 1 + 1, 1 + k, none⟩ (.int .u64 (((a + b + c) % 65536 : Nat) : Int))) := by
  have hc := I.cl
  have hp := I.pl
  have hz : (wr.drewN nq).heap[w.heap.size + 1 + 1 + 1]? = some (.cells (bigC false (pad p)) 79 (0, 0)) := I.bz
  refine { kl := (by omega), pl := (by rw [List.length_append, hp]; rfl), cl := (by omega), eq := ?_, bx := ?_, by0 := ?_, bz := ?_, br := ?_, below := ?_ }
  · rw [I.eq, addL_step dx dy k c (by rw [hx.1]; exact hk) (by rw [hy.1]; exact hk), ha, hb, List.append_assoc]
    rfl
  · rw [heap_setCell_other _ _ _ _ (show w.heap.size ≠ w.heap.size + 1 + 1 + 1 by omega)]; exact I.bx
  · rw [heap_setCell_other _ _ _ _ (show w.heap.size + 1 ≠ w.heap.size + 1 + 1 + 1 by omega)]; exact I.by0
  · rw [heap_setCell_same _ _ _ _ _ _ hz, ← hp, pad_put p _ false (by omega)]
  · rw [heap_setCell_other _ _ _ _ (show w.heap.size + 1 + 1 ≠ w.heap.size + 1 + 1 + 1 by omega)]; exact I.br
  · exact Below.setCell (show Below w.heap.size w (wr.drewN nq) from ⟨I.below.os, I.below.tape, I.below.output, I.below.size, I.below.block⟩) (show w.heap.size ≤ w.heap.size + 1 + 1 + 1 by omega) _
def MRel (nx ny : Bool) (dx dy : List Nat) (w : World) (g : Nat) (s6 s7 : Value) (wr : World) : Prop :=
  ∃ k c p, g = 20 - k ∧ s6 = .int .u64 ((c : Nat) : Int) ∧ s7 = .int .i64 ((k : Nat) : Int) ∧ MInv nx ny dx dy w k c p wr
/-- answers a number -/
def RetB (neg : Bool) (d : List Nat) (w : World) (e : Ending) (w' : World) : Prop := e = .returned (.agg (bigC neg d)) ∧ Below w.heap.size w w'
set_option maxHeartbeats 2000000 in
set_option maxRecDepth 100000 in
theorem more_any (nx ny : Bool) (dx dy : List Nat) (w : World) (hx : Dg dx) (hy : Dg dy) :
    Calls Try.prog 55 #[.agg (bigC nx dx), .agg (bigC ny dy)] w (RetB false (addL dx dy 0) w) := by
  have HX := Lib.hid hx
  have HY := Lib.hid hy
  clear hx hy
  go_enter Try.func55, Try.ntmps55
  go_wp2_with fail
  go_loopg [6, 7] 20 (MRel nx ny dx dy w)
  case atStart =>
    refine ⟨0, 0, [], rfl, rfl, rfl, ?_⟩
    refine { kl := (by omega), pl := rfl, cl := (by omega), eq := rfl, bx := ?_, by0 := ?_, bz := ?_, br := ?_, below := (by go_grown) }
    · exact (block3 w _ _ _ _).1.1
    · exact (block3 w _ _ _ _).1.2
    · exact (block3 w _ _ _ _).2.2
    · exact (block3 w _ _ _ _).2.1
  case round =>
    obtain ⟨k, c, p, rfl, rfl, rfl, I⟩ := hrel
    have HI := Lib.hid I
    by_cases hk : k < 20
    · obtain ⟨a, ha⟩ : ∃ a, dx.getD k 0 = a := ⟨_, rfl⟩
      obtain ⟨b, hb⟩ : ∃ b, dy.getD k 0 = b := ⟨_, rfl⟩
      have ha1 : a < 65536 := HX.out.2 a (by rw [← ha]; have := HX.out.1; simp [List.getD_eq_getElem?_getD, show k < dx.length by omega])
      have hb1 : b < 65536 := HY.out.2 b (by rw [← hb]; have := HY.out.1; simp [List.getD_eq_getElem?_getD, show k < dy.length by omega])
      have cx : wr.cell? ⟨w.heap.size, 1 + k, none⟩ = some (.int .u64 (a : Int)) := by rw [cell_of_row _ _ _ _ _ _ I.bx, big_at _ _ _ (by rw [HX.out.1]; exact hk), ha]
      have cy : wr.cell? ⟨w.heap.size + 1, 1 + k, none⟩ = some (.int .u64 (b : Int)) := by rw [cell_of_row _ _ _ _ _ _ I.by0, big_at _ _ _ (by rw [HY.out.1]; exact hk), hb]
      have cz : wr.cell? ⟨w.heap.size + 1 + 1 + 1, 1 + k, none⟩ = some (.int .u64 (((pad p).getD k 0 : Nat) : Int)) := by rw [cell_of_row _ _ _ _ _ _ I.bz, big_at _ _ _ (by rw [pad_len p (by have := I.pl; omega)]; exact hk)]
      have fz : wr.frozen? ⟨w.heap.size + 1 + 1 + 1, 1 + k, none⟩ = false := frozen_row I.bz
      have hc1 := I.cl
      have k0 : (0 : Int) ≤ (k : Int) := by omega
      have k1 : (k : Int) < 20 := by omega
      have HA := Lib.hid ha
      have HB := Lib.hid hb
      clear ha hb I
      go_wp2_with fail
      go_quiet (fail)
      go_wp2_with fail
      go_roundg (20 - (k + 1))
      case measure => omega
      case rel => exact ⟨k + 1, _, _, rfl, by go_num, by go_num, by have := HI.out.next (nq := nq) HX.out HY.out hk HA.out HB.out ha1 hb1; simpa using this⟩
    · have hk20 : k = 20 := by have := I.kl; omega
      have hp := I.pl
      have hpd : pad p = p := by unfold pad; rw [hp, hk20]; simp
      have hres : addL dx dy 0 = p := by
        rw [I.eq, hk20, List.drop_of_length_le (by rw [HX.out.1]; omega)]
        simp [addL]
      have bz := I.bz
      have br := I.br
      rw [hpd] at bz
      have hpl : p.length = 20 := by omega
      have hs1 : (bigC false p).size = 21 := by rw [big_size, hpl]
      have hi1 : (Try.prog.info? 79).map (·.size) = some (bigC false p).size := by rw [size21, hs1]
      have hs0 : (bigC false zeros).size = (bigC false p).size := by rw [hs1]; rfl
      have k1 : ¬ (k : Int) < 20 := by omega
      have HRES := Lib.hid hres
      have BZ := Lib.hid bz
      have BR := Lib.hid br
      have HI1 := Lib.hid hi1
      have HS0 := Lib.hid hs0
      have BB := Lib.hid I.below
      clear hk20 hp hpd hres bz br hpl hs1 hi1 hs0 I
      go_wp2_with (first | (refine wpList_load_row rfl 79 (.tmp 5) rfl (w.heap.size + 1 + 1 + 1) rfl _ _ _ _ BZ.out Try.underlying79 rfl HI1.out ?_) | (refine wpList_store_big rfl 79 (.tmp 4) (.tmp 31) rfl (w.heap.size + 1 + 1) _ _ (bigC false p) rfl rfl BR.out HI1.out HS0.out (big_one _ _) ?_))
      refine bodyPost_ret (v := .agg (bigC false p)) (results_cell_row rfl _ _ (w.heap.size + 1 + 1) _ _ _ _ rfl (setRow_heap _ _ _ _ _ _ BR.out) Try.underlying79 rfl HI1.out) rfl ?_
      rw [HRES.out]
      exact ⟨rfl, Below.row BB.out (by omega) _⟩
end Go.Proofs.Ytgkglkoipocgaaa.Fx
set_option linter.unusedVariables false
set_option linter.unusedSimpArgs false
namespace Go.Proofs.Ytgkglkoipocgaaa.Fx
open Go Go.RowKit Wm
/-- less, from digit k - 1 down -/
def lessT (dx dy : List Nat) : Nat → Bool
  | 0 => false
  | k + 1 => if dx.getD k 0 = dy.getD k 0 then lessT dx dy k else decide (dx.getD k 0 < dy.getD k 0)
def LRel (nx ny : Bool) (dx dy : List Nat) (w : World) (g : Nat) (s5 : Value) (wr : World) : Prop :=
  ∃ k : Nat, k = g ∧ k ≤ 20 ∧ s5 = .int .i64 ((k : Int) - 1) ∧ lessT dx dy 20 = lessT dx dy k ∧ wr.heap[w.heap.size]? = some (.cells (bigC nx dx) 79 (0, 0)) ∧
    wr.heap[w.heap.size + 1]? = some (.cells (bigC ny dy) 79 (0, 0)) ∧ Below w.heap.size w wr
set_option maxHeartbeats 2000000 in
set_option maxRecDepth 100000 in
theorem less_big (nx ny : Bool) (dx dy : List Nat) (w : World) (hx : dx.length = 20) (hy : dy.length = 20) :
    Calls Try.prog 56 #[.agg (bigC nx dx), .agg (bigC ny dy)] w fun e w' => e = .returned (.bool (lessT dx dy 20)) ∧ Below w.heap.size w w' := by
  have HX := Lib.hid hx
  have HY := Lib.hid hy
  clear hx hy
  go_enter Try.func56, Try.ntmps56
  go_wp2_with fail
  go_loopg [5] 20 (LRel nx ny dx dy w)
  case atStart => exact ⟨20, rfl, by omega, rfl, rfl, step_row (heap_alloc_new _ _), heap_alloc2_new w _ _, by go_grown⟩
  case round =>
    obtain ⟨k, rfl, hk, rfl, hl, bx, bb, hB⟩ := hrel
    have HL := Lib.hid hl
    have BX := Lib.hid bx
    have BY := Lib.hid bb
    have HB := Lib.hid hB
    clear hl bx bb hB
    match k, hk with
    | 0, hk =>
      go_wp2_with fail
      go_ret
      exact ⟨by rw [HL.out]; rfl, HB.out⟩
    | j + 1, hk =>
      obtain ⟨a, ha⟩ : ∃ a, dx.getD j 0 = a := ⟨_, rfl⟩
      obtain ⟨b, hb⟩ : ∃ b, dy.getD j 0 = b := ⟨_, rfl⟩
      have cx : wr.cell? ⟨w.heap.size, 1 + j, none⟩ = some (.int .u64 (a : Int)) := by rw [cell_of_row _ _ _ _ _ _ BX.out, big_at _ _ _ (by rw [HX.out]; omega), ha]
      have cy : wr.cell? ⟨w.heap.size + 1, 1 + j, none⟩ = some (.int .u64 (b : Int)) := by rw [cell_of_row _ _ _ _ _ _ BY.out, big_at _ _ _ (by rw [HY.out]; omega), hb]
      have k0 : (0 : Int) ≤ (j : Int) := by omega
      have k1 : (j : Int) < 20 := by omega
      have e1 : ((j + 1 : Nat) : Int) - 1 = (j : Int) := by omega
      rw [e1]
      have HA : Hid (dx.getD j 0 = a) := Lib.hid ha
      have HBB : Hid (dy.getD j 0 = b) := Lib.hid hb
      clear ha hb e1
      by_cases hab : a = b
      · have t1 : ((a : Int) != (b : Int)) = false := by simp; omega
        have NX : Hid (lessT dx dy 20 = lessT dx dy j) := Lib.hid (by rw [HL.out]; show (if dx.getD j 0 = dy.getD j 0 then _ else _) = _; rw [if_pos (by rw [HA.out, HBB.out]; exact hab)])
        clear hab
        go_wp2_with fail
        go_quiet (fail)
        go_wp2_with fail
        go_roundg j
        case measure => omega
        case rel => exact ⟨j, rfl, by omega, rfl, NX.out, BX.out, BY.out, bdrewN _ HB.out⟩
      · have t1 : ((a : Int) != (b : Int)) = true := by simp; omega
        have NX : Hid (lessT dx dy 20 = decide (a < b)) := Lib.hid (by rw [HL.out]; show (if dx.getD j 0 = dy.getD j 0 then _ else _) = _; rw [if_neg (by rw [HA.out, HBB.out]; exact hab), HA.out, HBB.out])
        clear hab
        go_wp2_with fail
        go_quiet (fail)
        go_wp2_with fail
        go_quiet (fail)
        go_wp2_with fail
        go_ret
        exact ⟨ret_bool NX.out.symm, bdrewN _ (bdrewN _ HB.out)⟩
end Go.Proofs.Ytgkglkoipocgaaa.Fx
set_option linter.unusedVariables false
set_option linter.unusedSimpArgs false
namespace Go.Proofs.Ytgkglkoipocgaaa.Fx
open Go Go.RowKit Wm
/-- the greater size less the lesser one, with what was borrowed -/
def subL : List Nat → List Nat → Nat → List Nat
  | x :: xs, y :: ys, c => (x + 65536 - y - c) % 65536 :: subL xs ys (1 - (x + 65536 - y - c) / 65536)
  | _, _, _ => []
theorem subL_len : ∀ (xs ys : List Nat) (c : Nat), xs.length = ys.length → (subL xs ys c).length = xs.length
  | [], [], _, _ => rfl
  | x :: xs, y :: ys, c, h => by simp only [subL, List.length_cons]; rw [subL_len xs ys _ (by simpa using h)]
  | [], _ :: _, _, h => by simp at h
  | _ :: _, [], _, h => by simp at h
theorem subL_lt : ∀ (xs ys : List Nat) (c : Nat), ∀ z ∈ subL xs ys c, z < 65536
  | [], _, _, z, h => by simp [subL] at h
  | _ :: _, [], _, z, h => by simp [subL] at h
  | x :: xs, y :: ys, c, z, h => by
    simp only [subL, List.mem_cons] at h
    rcases h with h | h
    · omega
    · exact subL_lt xs ys _ z h
structure AInv (nx ny : Bool) (dx dy : List Nat) (w : World) (k c : Nat) (p : List Nat) (wr : World) : Prop where
  kl : k ≤ 20
  pl : p.length = k
  cl : c ≤ 1
  eq : subL dx dy 0 = p ++ subL (dx.drop k) (dy.drop k) c
  bx : wr.heap[w.heap.size]? = some (.cells (bigC nx dx) 79 (0, 0))
  by0 : wr.heap[w.heap.size + 1]? = some (.cells (bigC ny dy) 79 (0, 0))
  bz : wr.heap[w.heap.size + 1 + 1 + 1]? = some (.cells (bigC false (pad p)) 79 (0, 0))
  br : wr.heap[w.heap.size + 1 + 1]? = some (.cells (bigC false zeros) 79 (0, 0))
  below : Below w.heap.size w wr
theorem subL_step (dx dy : List Nat) (k c : Nat) (hx : k < dx.length) (hy : k < dy.length) :
    subL (dx.drop k) (dy.drop k) c = ((dx.getD k 0 + 65536 - dy.getD k 0 - c) % 65536) :: subL (dx.drop (k + 1)) (dy.drop (k + 1)) (1 - (dx.getD k 0 + 65536 - dy.getD k 0 - c) / 65536) := by
  rw [List.drop_eq_getElem_cons hx, List.drop_eq_getElem_cons hy, subL]
  simp [List.getD_eq_getElem?_getD, hx, hy]
theorem AInv.next {nx ny : Bool} {dx dy : List Nat} {w wr : World} {k c a b s nq : Nat} {p : List Nat} (I : AInv nx ny dx dy w k c p wr) (hx : Dg dx) (hy : Dg dy) (hk : k < 20) (ha : dx.getD k 0 = a) (hb : dy.getD k 0 = b) (ha1 : a < 65536) (hb1 : b < 65536) (hs : a + 65536 - b - c = s) :
    AInv nx ny dx dy w (k + 1) (1 - s / 65536) (p ++ [s % 65536]) ((wr.drewN nq).setCell ⟨w.heap.size + 1 + 1 + 1, 1 + k, none⟩ (.int .u64 ((s % 65536 : Nat) : Int))) := by
  have hc := I.cl
  have hp := I.pl
  have hz : (wr.drewN nq).heap[w.heap.size + 1 + 1 + 1]? = some (.cells (bigC false (pad p)) 79 (0, 0)) := I.bz
  refine { kl := (by omega), pl := (by rw [List.length_append, hp]; rfl), cl := (by omega), eq := ?_, bx := ?_, by0 := ?_, bz := ?_, br := ?_, below := ?_ }
  · rw [I.eq, subL_step dx dy k c (by rw [hx.1]; exact hk) (by rw [hy.1]; exact hk), ha, hb, hs, List.append_assoc]
    rfl
  · rw [heap_setCell_other _ _ _ _ (show w.heap.size ≠ w.heap.size + 1 + 1 + 1 by omega)]; exact I.bx
  · rw [heap_setCell_other _ _ _ _ (show w.heap.size + 1 ≠ w.heap.size + 1 + 1 + 1 by omega)]; exact I.by0
  · rw [heap_setCell_same _ _ _ _ _ _ hz, ← hp, pad_put p _ false (by omega)]
  · rw [heap_setCell_other _ _ _ _ (show w.heap.size + 1 + 1 ≠ w.heap.size + 1 + 1 + 1 by omega)]; exact I.br
  · exact Below.setCell (show Below w.heap.size w (wr.drewN nq) from ⟨I.below.os, I.below.tape, I.below.output, I.below.size, I.below.block⟩) (show w.heap.size ≤ w.heap.size + 1 + 1 + 1 by omega) _
def ARel (nx ny : Bool) (dx dy : List Nat) (w : World) (g : Nat) (s6 s7 : Value) (wr : World) : Prop :=
  ∃ k c p, g = 20 - k ∧ s6 = .int .u64 ((c : Nat) : Int) ∧ s7 = .int .i64 ((k : Nat) : Int) ∧ AInv nx ny dx dy w k c p wr
set_option maxHeartbeats 2000000 in
set_option maxRecDepth 100000 in
theorem away_any (nx ny : Bool) (dx dy : List Nat) (w : World) (hx : Dg dx) (hy : Dg dy) :
    Calls Try.prog 57 #[.agg (bigC nx dx), .agg (bigC ny dy)] w (RetB false (subL dx dy 0) w) := by
  have HX := Lib.hid hx
  have HY := Lib.hid hy
  clear hx hy
  go_enter Try.func57, Try.ntmps57
  go_wp2_with fail
  go_loopg [6, 7] 20 (ARel nx ny dx dy w)
  case atStart =>
    refine ⟨0, 0, [], rfl, rfl, rfl, ?_⟩
    refine { kl := (by omega), pl := rfl, cl := (by omega), eq := rfl, bx := ?_, by0 := ?_, bz := ?_, br := ?_, below := (by go_grown) }
    · exact (block3 w _ _ _ _).1.1
    · exact (block3 w _ _ _ _).1.2
    · exact (block3 w _ _ _ _).2.2
    · exact (block3 w _ _ _ _).2.1
  case round =>
    obtain ⟨k, c, p, rfl, rfl, rfl, I⟩ := hrel
    have HI := Lib.hid I
    by_cases hk : k < 20
    · obtain ⟨a, ha⟩ : ∃ a, dx.getD k 0 = a := ⟨_, rfl⟩
      obtain ⟨b, hb⟩ : ∃ b, dy.getD k 0 = b := ⟨_, rfl⟩
      have ha1 : a < 65536 := HX.out.2 a (by rw [← ha]; have := HX.out.1; simp [List.getD_eq_getElem?_getD, show k < dx.length by omega])
      have hb1 : b < 65536 := HY.out.2 b (by rw [← hb]; have := HY.out.1; simp [List.getD_eq_getElem?_getD, show k < dy.length by omega])
      have cx : wr.cell? ⟨w.heap.size, 1 + k, none⟩ = some (.int .u64 (a : Int)) := by rw [cell_of_row _ _ _ _ _ _ I.bx, big_at _ _ _ (by rw [HX.out.1]; exact hk), ha]
      have cy : wr.cell? ⟨w.heap.size + 1, 1 + k, none⟩ = some (.int .u64 (b : Int)) := by rw [cell_of_row _ _ _ _ _ _ I.by0, big_at _ _ _ (by rw [HY.out.1]; exact hk), hb]
      have cz : wr.cell? ⟨w.heap.size + 1 + 1 + 1, 1 + k, none⟩ = some (.int .u64 (((pad p).getD k 0 : Nat) : Int)) := by rw [cell_of_row _ _ _ _ _ _ I.bz, big_at _ _ _ (by rw [pad_len p (by have := I.pl; omega)]; exact hk)]
      have fz : wr.frozen? ⟨w.heap.size + 1 + 1 + 1, 1 + k, none⟩ = false := frozen_row I.bz
      have hc1 := I.cl
      have k0 : (0 : Int) ≤ (k : Int) := by omega
      have k1 : (k : Int) < 20 := by omega
      obtain ⟨s, hs⟩ : ∃ s, a + 65536 - b - c = s := ⟨_, rfl⟩
      have s1 : (a : Int) + 65536 - (b : Int) - (c : Int) = (s : Int) := by omega
      have s2 : s < 131072 := by omega
      have HS := Lib.hid hs
      have HA := Lib.hid ha
      have HB := Lib.hid hb
      clear ha hb hs I
      go_wp2_with fail
      go_quiet (fail)
      go_wp2_with fail
      go_roundg (20 - (k + 1))
      case measure => omega
      case rel => exact ⟨k + 1, 1 - s / 65536, _, rfl, by congr 1; omega, by go_num, by have := HI.out.next (nq := nq) HX.out HY.out hk HA.out HB.out ha1 hb1 HS.out; simpa using this⟩
    · have hk20 : k = 20 := by have := I.kl; omega
      have hp := I.pl
      have hpd : pad p = p := by unfold pad; rw [hp, hk20]; simp
      have hres : subL dx dy 0 = p := by
        rw [I.eq, hk20, List.drop_of_length_le (by rw [HX.out.1]; omega)]
        simp [subL]
      have bz := I.bz
      have br := I.br
      rw [hpd] at bz
      have hpl : p.length = 20 := by omega
      have hs1 : (bigC false p).size = 21 := by rw [big_size, hpl]
      have hi1 : (Try.prog.info? 79).map (·.size) = some (bigC false p).size := by rw [size21, hs1]
      have hs0 : (bigC false zeros).size = (bigC false p).size := by rw [hs1]; rfl
      have k1 : ¬ (k : Int) < 20 := by omega
      have HRES := Lib.hid hres
      have BZ := Lib.hid bz
      have BR := Lib.hid br
      have HI1 := Lib.hid hi1
      have HS0 := Lib.hid hs0
      have BB := Lib.hid I.below
      clear hk20 hp hpd hres bz br hpl hs1 hi1 hs0 I
      go_wp2_with (first | (refine wpList_load_row rfl 79 (.tmp 5) rfl (w.heap.size + 1 + 1 + 1) rfl _ _ _ _ BZ.out Try.underlying79 rfl HI1.out ?_) | (refine wpList_store_big rfl 79 (.tmp 4) (.tmp 33) rfl (w.heap.size + 1 + 1) _ _ (bigC false p) rfl rfl BR.out HI1.out HS0.out (big_one _ _) ?_))
      refine bodyPost_ret (v := .agg (bigC false p)) (results_cell_row rfl _ _ (w.heap.size + 1 + 1) _ _ _ _ rfl (setRow_heap _ _ _ _ _ _ BR.out) Try.underlying79 rfl HI1.out) rfl ?_
      rw [HRES.out]
      exact ⟨rfl, Below.row BB.out (by omega) _⟩
end Go.Proofs.Ytgkglkoipocgaaa.Fx
set_option linter.unusedVariables false
set_option linter.unusedSimpArgs false
namespace Go.Proofs.Ytgkglkoipocgaaa.Fx
open Go Go.RowKit Wm
theorem big_sign (neg x : Bool) (d : List Nat) : (bigC neg d).setIfInBounds 0 (.bool x) = bigC x d := by
  unfold bigC
  rw [List.setIfInBounds_toArray]
  rfl
theorem big_head (neg : Bool) (d : List Nat) : (bigC neg d)[0]? = some (.bool neg) := by
  unfold bigC
  rw [List.getElem?_toArray]
  rfl
theorem big_info (neg : Bool) (d : List Nat) (h : d.length = 20) : (Try.prog.info? 79).map (·.size) = some (bigC neg d).size := by rw [size21, big_size, h]
theorem big_same (a b : Bool) (d e : List Nat) (h : d.length = 20) (g : e.length = 20) : (bigC a d).size = (bigC b e).size := by rw [big_size, big_size, h, g]
theorem wpList_want {P : Program} {ops : Array Oper} {Q : Exit → Act → World → Prop} {rest : List Oper} {o : Oper} {a : Act} {w : World} (hw : Region.wanted o (yielded ops a.tmps) = true)
    (h : ∀ K : Act → World → Prop, (∀ a w, wpList P ops Q rest a w → K a w) → o.wp P a w K Q) : wpList P ops Q (o :: rest) a w :=
  wpList_step fun K hK => by rw [hw]; simp only [if_true]; exact h K hK
theorem wpList_load_big {P : Program} {ops : Array Oper} {rest : List Oper} {o : Oper} {a : Act} {w : World} {Q : Exit → Act → World → Prop} (hw : Region.wanted o (yielded ops a.tmps) = true) (ty : TypeId) (x : Operand) (ho : o.op = .load ty x)
    (g : Nat) (hx : a.eval x = .pointer (some ⟨g, 0, none⟩)) (t : TypeId) (cs : Array Value) (fr : Nat × Nat) (d : TypeDesc) (hg : w.heap[g]? = some (.cells cs t fr))
    (hu : P.underlying ty = some d) (hd : (match d with | .struct _ | .array _ _ => true | _ => false) = true) (hi : (P.info? ty).map (·.size) = some cs.size)
    (h : wpList P ops Q rest (a.put o.dst (.agg cs)) w) : wpList P ops Q (o :: rest) a w :=
  wpList_want hw fun _ hK => wp_load_row ty x ho g hx t cs fr d hg hu hd hi (hK _ _ h)
/-- the sign of the other one -/
def negB (neg : Bool) (d : List Nat) : Bool := !neg && !(d == zeros)
set_option maxHeartbeats 1000000 in
set_option maxRecDepth 100000 in
theorem neg_any (neg : Bool) (d : List Nat) (w : World) (hd : d.length = 20) :
    Calls Try.prog 59 #[.agg (bigC neg d)] w (RetB (negB neg d) d w) := by
  have HI := Lib.hid (big_info neg d hd)
  have HI2 := Lib.hid (big_info (negB neg d) d hd)
  have HS := Lib.hid (big_same false (negB neg d) zeros d rfl hd)
  have NA := Lib.hid (fun w => none_any neg d w hd)
  have b0 : ((w.alloc (.cells (bigC neg d) 79)).alloc (.cells (bigC false zeros) 79)).heap[w.heap.size]? = some (.cells (bigC neg d) 79 (0, 0)) := step_row (heap_alloc_new w _)
  have b1 : ((w.alloc (.cells (bigC neg d) 79)).alloc (.cells (bigC false zeros) 79)).heap[w.heap.size + 1]? = some (.cells (bigC false zeros) 79 (0, 0)) := heap_alloc2_new w _ _
  have B0 := Lib.hid b0
  have B1 := Lib.hid b1
  have c0 : ((w.alloc (.cells (bigC neg d) 79)).alloc (.cells (bigC false zeros) 79)).cell? ⟨w.heap.size, 0, none⟩ = some (.bool neg) := by rw [cell_of_row _ _ _ _ _ _ b0, big_head]
  have f0 : ((w.alloc (.cells (bigC neg d) 79)).alloc (.cells (bigC false zeros) 79)).frozen? ⟨w.heap.size, 0, none⟩ = false := frozen_row b0
  have hB : Below w.heap.size w ((w.alloc (.cells (bigC neg d) 79)).alloc (.cells (bigC false zeros) 79)) := by go_grown
  have hz : bigC false zeros = #[.bool false, .int .u64 0, .int .u64 0, .int .u64 0, .int .u64 0, .int .u64 0, .int .u64 0, .int .u64 0, .int .u64 0, .int .u64 0, .int .u64 0, .int .u64 0, .int .u64 0, .int .u64 0, .int .u64 0, .int .u64 0, .int .u64 0, .int .u64 0, .int .u64 0, .int .u64 0, .int .u64 0] := rfl
  rw [hz] at c0 f0
  clear b0 b1 hz hd
  cases neg with
  | true =>
    go_enter Try.func59, Try.ntmps59
    have hL : ((w.alloc (.cells ((bigC true d).setIfInBounds 0 (.bool false)) 79)).alloc (.cells (bigC false zeros) 79)).heap[w.heap.size]? = some (.cells (bigC false d) 79 (0, 0)) := by
      rw [← big_sign true false d]
      exact step_row (heap_alloc_new w _)
    have hL2 : ((w.alloc (.cells ((bigC true d).setIfInBounds 0 (.bool false)) 79)).alloc (.cells (bigC false zeros) 79)).heap[w.heap.size + 1]? = some (.cells (bigC false zeros) 79 (0, 0)) := heap_alloc2_new w _ _
    have HL := Lib.hid hL
    have HL2 := Lib.hid hL2
    clear hL hL2
    go_wp2_with (first | (refine wpList_load_row rfl 79 (.tmp 1) rfl w.heap.size rfl _ _ _ _ HL.out Try.underlying79 rfl HI2.out ?_) | (refine wpList_store_big rfl 79 (.tmp 2) (.tmp 12) rfl (w.heap.size + 1) _ _ (bigC false d) rfl rfl HL2.out HI2.out HS.out (big_one _ _) ?_))
    refine bodyPost_ret (v := .agg (bigC false d)) (results_cell_row rfl _ _ (w.heap.size + 1) _ _ _ _ rfl (setRow_heap _ _ _ _ _ _ HL2.out) Try.underlying79 rfl HI2.out) rfl ?_
    exact ⟨rfl, Below.row (by go_grown) (by omega) _⟩
  | false =>
    go_enter Try.func59, Try.ntmps59
    go_wp2_with (refine wpList_load_big (by kernel_rfl) 79 (.tmp 1) rfl w.heap.size rfl _ _ _ _ B0.out Try.underlying79 rfl HI.out ?_)
    refine (NA.out _).mono ?_
    rintro e w1 ⟨rfl, hb⟩
    have k0 := keep_cell hb c0
    have g0 := keep_free hb (by simp only [World.size_alloc]; omega) f0
    have R0 : Hid ((w1.setCell ⟨w.heap.size, 0, none⟩ (.bool (!(d == zeros)))).heap[w.heap.size]? = some (.cells (bigC (negB false d) d) 79 (0, 0))) := Lib.hid (by rw [heap_setCell_same _ _ _ _ _ _ (keep_row hb B0.out), big_sign]; rfl)
    have R1 : Hid ((w1.setCell ⟨w.heap.size, 0, none⟩ (.bool (!(d == zeros)))).heap[w.heap.size + 1]? = some (.cells (bigC false zeros) 79 (0, 0))) := Lib.hid (by rw [heap_setCell_other _ _ _ _ (show w.heap.size + 1 ≠ w.heap.size by omega)]; exact keep_row hb B1.out)
    have HB : Hid (Below w.heap.size w w1) := Lib.hid (by (repeat' (first | (with_reducible exact Below.refl _ _) | (with_reducible assumption) | (with_reducible refine Below.drew ?_) | (with_reducible refine Below.setCell ?_ ?_ _) | (with_reducible refine bnext ?_ (by assumption)) | (with_reducible refine Below.alloc ?_ ?_ _) | go_size)))
    clear hb c0 f0 hB
    go_wp2_with (first | (refine wpList_load_row rfl 79 (.tmp 1) rfl w.heap.size rfl _ _ _ _ R0.out Try.underlying79 rfl HI2.out ?_) | (refine wpList_store_big rfl 79 (.tmp 2) (.tmp 12) rfl (w.heap.size + 1) _ _ (bigC (negB false d) d) rfl rfl R1.out HI2.out HS.out (big_one _ _) ?_))
    refine bodyPost_ret (v := .agg (bigC (negB false d) d)) (results_cell_row rfl _ _ (w.heap.size + 1) _ _ _ _ rfl (setRow_heap _ _ _ _ _ _ R1.out) Try.underlying79 rfl HI2.out) rfl ?_
    exact ⟨rfl, Below.row (HB.out.setCell (Nat.le_refl _) _) (by omega) _⟩
end Go.Proofs.Ytgkglkoipocgaaa.Fx
set_option linter.unusedVariables false
namespace Go.Proofs.Ytgkglkoipocgaaa.Fx
open Go Go.RowKit Wm
/-- the lowest k digits -/
def dgF : Nat → Nat → List Nat
  | 0, _ => []
  | k + 1, n => n % 65536 :: dgF k (n / 65536)
def dg (n : Nat) : List Nat := dgF 20 n
theorem dgF_len : ∀ (k n : Nat), (dgF k n).length = k
  | 0, _ => rfl
  | k + 1, n => by rw [dgF, List.length_cons, dgF_len k]
theorem dgF_lt : ∀ (k n : Nat), ∀ x ∈ dgF k n, x < 65536
  | 0, _, x, h => by simp [dgF] at h
  | k + 1, n, x, h => by
    rw [dgF, List.mem_cons] at h
    rcases h with rfl | h
    · omega
    · exact dgF_lt k _ x h
theorem dg_dg (n : Nat) : Dg (dg n) := ⟨dgF_len 20 n, dgF_lt 20 n⟩
theorem dg_len (n : Nat) : (dg n).length = 20 := dgF_len 20 n
theorem addL_dgF : ∀ (k m n c : Nat), addL (dgF k m) (dgF k n) c = dgF k (m + n + c)
  | 0, _, _, _ => rfl
  | k + 1, m, n, c => by
    simp only [dgF, addL]
    rw [addL_dgF k]
    congr 1
    · omega
    · congr 1
      omega
theorem subL_dgF : ∀ (k m n c : Nat), c ≤ 1 → n + c ≤ m → subL (dgF k m) (dgF k n) c = dgF k (m - n - c)
  | 0, _, _, _, _, _ => rfl
  | k + 1, m, n, c, hc, h => by
    simp only [dgF, subL]
    rw [subL_dgF k _ _ _ (by omega) (by omega)]
    congr 1
    · omega
    · congr 1
      omega
theorem dgF_at : ∀ (k n i : Nat), i < k → (dgF k n).getD i 0 = n / 65536 ^ i % 65536
  | 0, _, _, h => absurd h (by omega)
  | k + 1, n, 0, _ => by simp [dgF]
  | k + 1, n, i + 1, h => by
    rw [dgF, List.getD_cons_succ, dgF_at k _ i (by omega), Nat.div_div_eq_div_mul, Nat.pow_succ, Nat.mul_comm]
theorem lessT_dg (m n : Nat) : ∀ k, k ≤ 20 → lessT (dg m) (dg n) k = decide (m % 65536 ^ k < n % 65536 ^ k)
  | 0, _ => by simp [lessT, Nat.mod_one]
  | k + 1, h => by
    rw [lessT, lessT_dg m n k (by omega)]
    unfold dg
    rw [dgF_at 20 m k (by omega), dgF_at 20 n k (by omega), Nat.mod_pow_succ, Nat.mod_pow_succ]
    have hp : 0 < 65536 ^ k := Nat.pow_pos (by omega)
    have h1 : m % 65536 ^ k < 65536 ^ k := Nat.mod_lt _ hp
    have h2 : n % 65536 ^ k < 65536 ^ k := Nat.mod_lt _ hp
    generalize m / 65536 ^ k % 65536 = a
    generalize n / 65536 ^ k % 65536 = b
    generalize m % 65536 ^ k = u at *
    generalize n % 65536 ^ k = v at *
    generalize 65536 ^ k = P at *
    split
    · subst_vars
      simp
    · rename_i hab
      rw [decide_eq_decide]
      rcases Nat.lt_or_gt_of_ne hab with h | h
      · refine ⟨fun _ => ?_, fun _ => h⟩
        have : P * (a + 1) ≤ P * b := Nat.mul_le_mul_left _ h
        rw [Nat.mul_add] at this
        omega
      · refine ⟨fun hh => absurd hh (by omega), fun hh => ?_⟩
        have : P * (b + 1) ≤ P * a := Nat.mul_le_mul_left _ h
        rw [Nat.mul_add] at this
        omega
/-- less than this many may be written -/
def BB : Nat := 65536 ^ 20
theorem less_dg {m n : Nat} (hm : m < BB) (hn : n < BB) : lessT (dg m) (dg n) 20 = decide (m < n) := by
  rw [lessT_dg m n 20 (by omega)]
  unfold BB at hm hn
  rw [Nat.mod_eq_of_lt hm, Nat.mod_eq_of_lt hn]
theorem add_dg (m n : Nat) : addL (dg m) (dg n) 0 = dg (m + n) := addL_dgF 20 m n 0
theorem sub_dg {m n : Nat} (h : n ≤ m) : subL (dg m) (dg n) 0 = dg (m - n) := subL_dgF 20 m n 0 (by omega) (by omega)
theorem zeros_dg : zeros = dg 0 := rfl
/-- what digits come to -/
def num : List Nat → Nat
  | [] => 0
  | x :: xs => x + 65536 * num xs
theorem num_dgF : ∀ (k n : Nat), num (dgF k n) = n % 65536 ^ k
  | 0, n => by simp [dgF, num, Nat.mod_one]
  | k + 1, n => by
    rw [dgF, num, num_dgF k, Nat.pow_succ, Nat.mul_comm (65536 ^ k), Nat.mod_mul]
theorem num_dg {n : Nat} (h : n < BB) : num (dg n) = n := by
  unfold dg
  rw [num_dgF]
  exact Nat.mod_eq_of_lt h
theorem dgF_num : ∀ (d : List Nat), (∀ x ∈ d, x < 65536) → dgF d.length (num d) = d
  | [], _ => rfl
  | x :: d, h => by
    have hx := h x (by simp)
    rw [List.length_cons, dgF, num, show (x + 65536 * num d) % 65536 = x by omega, show (x + 65536 * num d) / 65536 = num d by omega, dgF_num d fun y hy => h y (by simp [hy])]
theorem dg_num {d : List Nat} (h : Dg d) : dg (num d) = d := by
  have := dgF_num d h.2
  rw [h.1] at this
  exact this
theorem dg_zero {n : Nat} (h : n < BB) : (dg n == zeros) = decide (n = 0) := by
  rw [zeros_dg]
  by_cases hn : n = 0
  · subst hn
    simp
  · rw [decide_eq_false hn, beq_eq_false_iff_ne]
    intro e
    have := congrArg num e
    rw [num_dg h, num_dg (by unfold BB; exact Nat.pow_pos (by omega))] at this
    exact hn this
/-- a number as the document writes it -/
def bv (z : Int) : Array Value := bigC (decide (z < 0)) (dg z.natAbs)
theorem bv_eq {n : Bool} {d : List Nat} {z : Int} (h1 : n = decide (z < 0)) (h2 : d = dg z.natAbs) : bigC n d = bv z := by rw [h1, h2]; rfl
theorem bv_inj {x y : Int} (hx : x.natAbs < BB) (hy : y.natAbs < BB) (h1 : decide (x < 0) = decide (y < 0)) (h2 : dg x.natAbs = dg y.natAbs) : x = y := by
  have := congrArg num h2
  rw [num_dg hx, num_dg hy] at this
  have h3 := decide_eq_decide.1 h1
  omega
/-- answers a number -/
def RetZ (z : Int) (w : World) (e : Ending) (w' : World) : Prop := e = .returned (.agg (bv z)) ∧ Below w.heap.size w w'
theorem neg_z (x : Int) (w : World) (hx : x.natAbs < BB) : Calls Try.prog 59 #[.agg (bv x)] w (RetZ (-x) w) := by
  refine (neg_any (decide (x < 0)) (dg x.natAbs) w (dg_len _)).mono ?_
  rintro e w' ⟨rfl, hb⟩
  refine ⟨?_, hb⟩
  rw [bv_eq (z := -x) ?_ (by rw [Int.natAbs_neg])]
  unfold negB
  rw [dg_zero hx, Bool.eq_iff_iff]
  simp only [Bool.and_eq_true, Bool.not_eq_true', decide_eq_true_eq, decide_eq_false_iff_not]
  omega
end Go.Proofs.Ytgkglkoipocgaaa.Fx
