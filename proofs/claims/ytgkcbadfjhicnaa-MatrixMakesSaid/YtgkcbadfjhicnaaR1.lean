/- The document's sums of sizes, walked. -/
import Derived.Test.YtgkcbadfjhicnaaProg
import Derived.Test.YtgkcbadfjhicnaaR0
import Derived.Test.YtgkcbadfjhicnaaT2
import Derived.BigQuiet
import Derived.Deep.QuietTactic
import Derived.Deep.LoopGhost
set_option linter.unusedVariables false
set_option linter.unusedSimpArgs false
namespace Go.Proofs.Ytgkcbadfjhicnaa.Fx
open Go Go.RowKit Wm
/-- twenty digits -/
def Dg (d : List Nat) : Prop := d.length = 20 ∧ ∀ x ∈ d, x < 65536
def addL : List Nat → List Nat → Nat → List Nat
  | x :: xs, y :: ys, c => (x + y + c) % 65536 :: addL xs ys ((x + y + c) / 65536)
  | _, _, _ => []
theorem addL_len : ∀ (xs ys : List Nat) (c : Nat), xs.length = ys.length → (addL xs ys c).length = xs.length
  | [], [], _, _ => rfl
  | x :: xs, y :: ys, c, h => by simp only [addL, List.length_cons]; rw [addL_len xs ys _ (by simpa using h)]
  | [], _ :: _, _, h => by simp at h
  | _ :: _, [], _, h => by simp at h
theorem addL_lt : ∀ (xs ys : List Nat) (c : Nat), ∀ z ∈ addL xs ys c, z < 65536
  | [], _, _, z, h => by simp [addL] at h
  | _ :: _, [], _, z, h => by simp [addL] at h
  | x :: xs, y :: ys, c, z, h => by
    simp only [addL, List.mem_cons] at h
    rcases h with h | h
    · omega
    · exact addL_lt xs ys _ z h
/-- a number whose first digits are laid -/
def pad (p : List Nat) : List Nat := p ++ List.replicate (20 - p.length) 0
theorem pad_put (p : List Nat) (v : Nat) (neg : Bool) (h : p.length < 20) : (bigC neg (pad p)).setIfInBounds (1 + p.length) (.int .u64 (v : Int)) = bigC neg (pad (p ++ [v])) := by
  unfold bigC pad
  rw [List.setIfInBounds_toArray]
  congr 1
  rw [Nat.add_comm, List.set_cons_succ]
  congr 1
  rw [show 20 - p.length = (20 - (p ++ [v]).length) + 1 from by simp; omega, List.replicate_succ]
  simp [encN, List.set_append_right]
theorem big_at (neg : Bool) (d : List Nat) (k : Nat) (h : k < d.length) : (bigC neg d)[1 + k]? = some (.int .u64 ((d.getD k 0 : Nat) : Int)) := by
  unfold bigC
  rw [List.getElem?_toArray, Nat.add_comm, List.getElem?_cons_succ, List.getElem?_map]
  simp [List.getD_eq_getElem?_getD, h, encN]
theorem pad_len (p : List Nat) (h : p.length ≤ 20) : (pad p).length = 20 := by simp [pad]; omega
structure MInv (nx ny : Bool) (dx dy : List Nat) (w : World) (k c : Nat) (p : List Nat) (wr : World) : Prop where
  kl : k ≤ 20
  pl : p.length = k
  cl : c ≤ 1
  eq : addL dx dy 0 = p ++ addL (dx.drop k) (dy.drop k) c
  bx : wr.heap[w.heap.size]? = some (.cells (bigC nx dx) 27 (0, 0))
  by0 : wr.heap[w.heap.size + 1]? = some (.cells (bigC ny dy) 27 (0, 0))
  bz : wr.heap[w.heap.size + 1 + 1 + 1]? = some (.cells (bigC false (pad p)) 27 (0, 0))
  br : wr.heap[w.heap.size + 1 + 1]? = some (.cells (bigC false zeros) 27 (0, 0))
  below : Below w.heap.size w wr
theorem block3 (w : World) (A B C D : Obj) : (((((w.alloc A).alloc B).alloc C).alloc D).heap[w.heap.size]? = some A ∧ ((((w.alloc A).alloc B).alloc C).alloc D).heap[w.heap.size + 1]? = some B) ∧ ((((w.alloc A).alloc B).alloc C).alloc D).heap[w.heap.size + 1 + 1]? = some C ∧ ((((w.alloc A).alloc B).alloc C).alloc D).heap[w.heap.size + 1 + 1 + 1]? = some D := by
  have h0 : (w.alloc A).heap[w.heap.size]? = some A := heap_alloc_new w A
  have h1 : ((w.alloc A).alloc B).heap[w.heap.size + 1]? = some B := heap_alloc2_new w A B
  have h2 : (((w.alloc A).alloc B).alloc C).heap[w.heap.size + 1 + 1]? = some C := by
    have := heap_alloc_new ((w.alloc A).alloc B) C
    simpa only [World.size_alloc] using this
  have h3 : ((((w.alloc A).alloc B).alloc C).alloc D).heap[w.heap.size + 1 + 1 + 1]? = some D := by
    have := heap_alloc_new (((w.alloc A).alloc B).alloc C) D
    simpa only [World.size_alloc] using this
  exact ⟨⟨step_row (step_row (step_row h0)), step_row (step_row h1)⟩, step_row h2, h3⟩
theorem addL_step (dx dy : List Nat) (k c : Nat) (hx : k < dx.length) (hy : k < dy.length) :
    addL (dx.drop k) (dy.drop k) c = ((dx.getD k 0 + dy.getD k 0 + c) % 65536) :: addL (dx.drop (k + 1)) (dy.drop (k + 1)) ((dx.getD k 0 + dy.getD k 0 + c) / 65536) := by
  rw [List.drop_eq_getElem_cons hx, List.drop_eq_getElem_cons hy, addL]
  simp [List.getD_eq_getElem?_getD, hx, hy]
theorem MInv.next {nx ny : Bool} {dx dy : List Nat} {w wr : World} {k c a b nq : Nat} {p : List Nat} (I : MInv nx ny dx dy w k c p wr) (hx : Dg dx) (hy : Dg dy) (hk : k < 20) (ha : dx.getD k 0 = a) (hb : dy.getD k 0 = b) (ha1 : a < 65536) (hb1 : b < 65536) :
    MInv nx ny dx dy w (k + 1) ((a + b + c) / 65536) (p ++ [(a + b + c) % 65536]) ((wr.drewN nq).setCell ⟨w.heap.size + 1 + 1 + 1, 1 + k, none⟩ (.int .u64 (((a + b + c) % 65536 : Nat) : Int))) := by
  have hc := I.cl
  have hp := I.pl
  have hz : (wr.drewN nq).heap[w.heap.size + 1 + 1 + 1]? = some (.cells (bigC false (pad p)) 27 (0, 0)) := I.bz
  refine { kl := (by omega), pl := (by rw [List.length_append, hp]; rfl), cl := (by omega), eq := ?_, bx := ?_, by0 := ?_, bz := ?_, br := ?_, below := ?_ }
  · rw [I.eq, addL_step dx dy k c (by rw [hx.1]; exact hk) (by rw [hy.1]; exact hk), ha, hb, List.append_assoc]
    rfl
  · rw [heap_setCell_other _ _ _ _ (show w.heap.size ≠ w.heap.size + 1 + 1 + 1 by omega)]; exact I.bx
  · rw [heap_setCell_other _ _ _ _ (show w.heap.size + 1 ≠ w.heap.size + 1 + 1 + 1 by omega)]; exact I.by0
  · rw [heap_setCell_same _ _ _ _ _ _ hz, ← hp, pad_put p _ false (by omega)]
  · rw [heap_setCell_other _ _ _ _ (show w.heap.size + 1 + 1 ≠ w.heap.size + 1 + 1 + 1 by omega)]; exact I.br
  · exact Below.setCell (show Below w.heap.size w (wr.drewN nq) from ⟨I.below.os, I.below.tape, I.below.output, I.below.size, I.below.block⟩) (show w.heap.size ≤ w.heap.size + 1 + 1 + 1 by omega) _
def MRel (nx ny : Bool) (dx dy : List Nat) (w : World) (g : Nat) (s6 s7 : Value) (wr : World) : Prop :=
  ∃ k c p, g = 20 - k ∧ s6 = .int .u64 ((c : Nat) : Int) ∧ s7 = .int .i64 ((k : Nat) : Int) ∧ MInv nx ny dx dy w k c p wr
/-- answers a number -/
def RetB (neg : Bool) (d : List Nat) (w : World) (e : Ending) (w' : World) : Prop := e = .returned (.agg (bigC neg d)) ∧ Below w.heap.size w w'
set_option maxHeartbeats 2000000 in
set_option maxRecDepth 100000 in
theorem more_any (nx ny : Bool) (dx dy : List Nat) (w : World) (hx : Dg dx) (hy : Dg dy) :
    Calls Try.prog 49 #[.agg (bigC nx dx), .agg (bigC ny dy)] w (RetB false (addL dx dy 0) w) := by
  have HX := Lib.hid hx
  have HY := Lib.hid hy
  clear hx hy
  go_enter Try.func49, Try.ntmps49
  go_wp2_with fail
  go_loopg [6, 7] 20 (MRel nx ny dx dy w)
  case atStart =>
    refine ⟨0, 0, [], rfl, rfl, rfl, ?_⟩
    refine { kl := (by omega), pl := rfl, cl := (by omega), eq := rfl, bx := ?_, by0 := ?_, bz := ?_, br := ?_, below := (by go_grown) }
    · exact (block3 w _ _ _ _).1.1
    · exact (block3 w _ _ _ _).1.2
    · exact (block3 w _ _ _ _).2.2
    · exact (block3 w _ _ _ _).2.1
  case round =>
    obtain ⟨k, c, p, rfl, rfl, rfl, I⟩ := hrel
    have HI := Lib.hid I
    by_cases hk : k < 20
    · obtain ⟨a, ha⟩ : ∃ a, dx.getD k 0 = a := ⟨_, rfl⟩
      obtain ⟨b, hb⟩ : ∃ b, dy.getD k 0 = b := ⟨_, rfl⟩
      have ha1 : a < 65536 := HX.out.2 a (by rw [← ha]; have := HX.out.1; simp [List.getD_eq_getElem?_getD, show k < dx.length by omega])
      have hb1 : b < 65536 := HY.out.2 b (by rw [← hb]; have := HY.out.1; simp [List.getD_eq_getElem?_getD, show k < dy.length by omega])
      have cx : wr.cell? ⟨w.heap.size, 1 + k, none⟩ = some (.int .u64 (a : Int)) := by rw [cell_of_row _ _ _ _ _ _ I.bx, big_at _ _ _ (by rw [HX.out.1]; exact hk), ha]
      have cy : wr.cell? ⟨w.heap.size + 1, 1 + k, none⟩ = some (.int .u64 (b : Int)) := by rw [cell_of_row _ _ _ _ _ _ I.by0, big_at _ _ _ (by rw [HY.out.1]; exact hk), hb]
      have cz : wr.cell? ⟨w.heap.size + 1 + 1 + 1, 1 + k, none⟩ = some (.int .u64 (((pad p).getD k 0 : Nat) : Int)) := by rw [cell_of_row _ _ _ _ _ _ I.bz, big_at _ _ _ (by rw [pad_len p (by have := I.pl; omega)]; exact hk)]
      have fz : wr.frozen? ⟨w.heap.size + 1 + 1 + 1, 1 + k, none⟩ = false := frozen_row I.bz
      have hc1 := I.cl
      have k0 : (0 : Int) ≤ (k : Int) := by omega
      have k1 : (k : Int) < 20 := by omega
      have HA := Lib.hid ha
      have HB := Lib.hid hb
      clear ha hb I
      go_wp2_with fail
      go_quiet (fail)
      go_wp2_with fail
      go_roundg (20 - (k + 1))
      case measure => omega
      case rel => exact ⟨k + 1, _, _, rfl, by go_num, by go_num, by have := HI.out.next (nq := nq) HX.out HY.out hk HA.out HB.out ha1 hb1; simpa using this⟩
    · have hk20 : k = 20 := by have := I.kl; omega
      have hp := I.pl
      have hpd : pad p = p := by unfold pad; rw [hp, hk20]; simp
      have hres : addL dx dy 0 = p := by
        rw [I.eq, hk20, List.drop_of_length_le (by rw [HX.out.1]; omega)]
        simp [addL]
      have bz := I.bz
      have br := I.br
      rw [hpd] at bz
      have hpl : p.length = 20 := by omega
      have hs1 : (bigC false p).size = 21 := by rw [big_size, hpl]
      have hi1 : (Try.prog.info? 27).map (·.size) = some (bigC false p).size := by rw [size21, hs1]
      have hs0 : (bigC false zeros).size = (bigC false p).size := by rw [hs1]; rfl
      have k1 : ¬ (k : Int) < 20 := by omega
      have HRES := Lib.hid hres
      have BZ := Lib.hid bz
      have BR := Lib.hid br
      have HI1 := Lib.hid hi1
      have HS0 := Lib.hid hs0
      have BB := Lib.hid I.below
      clear hk20 hp hpd hres bz br hpl hs1 hi1 hs0 I
      go_wp2_with (first | (refine wpList_load_row rfl 27 (.tmp 5) rfl (w.heap.size + 1 + 1 + 1) rfl _ _ _ _ BZ.out Try.underlying27 rfl HI1.out ?_) | (refine wpList_store_big rfl 27 (.tmp 4) (.tmp 31) rfl (w.heap.size + 1 + 1) _ _ (bigC false p) rfl rfl BR.out HI1.out HS0.out (big_one _ _) ?_))
      refine bodyPost_ret (v := .agg (bigC false p)) (results_cell_row rfl _ _ (w.heap.size + 1 + 1) _ _ _ _ rfl (setRow_heap _ _ _ _ _ _ BR.out) Try.underlying27 rfl HI1.out) rfl ?_
      rw [HRES.out]
      exact ⟨rfl, Below.row BB.out (by omega) _⟩
end Go.Proofs.Ytgkcbadfjhicnaa.Fx
