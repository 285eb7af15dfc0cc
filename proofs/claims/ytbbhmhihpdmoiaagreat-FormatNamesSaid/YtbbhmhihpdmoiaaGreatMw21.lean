import Derived.Laws.Rows
import Derived.Test.YtbbhmhihpdmoiaaGreatProg
import Derived.Laws.ResultCell
import Derived.Laws.StructEq
import Derived.Laws.AppendOwn
import Derived.ProofKit
import Derived.Test.YtbbhmhihpdmoiaaGreatMw02
import Derived.Test.YtbbhmhihpdmoiaaGreatMw10
import Derived.Test.YtbbhmhihpdmoiaaGreatMw11
import Derived.Test.YtbbhmhihpdmoiaaGreatMw19
import Derived.Test.YtbbhmhihpdmoiaaGreatMw20
set_option linter.unusedVariables false
set_option linter.unusedSimpArgs false
namespace Go.Proofs.YtbbhmhihpdmoiaaGreat.Fx
open Go Go.RowKit Wm
theorem big_put (neg : Bool) (d : List Nat) (q v : Nat) : (bigC neg d).setIfInBounds (1 + q) (.int .u64 (v : Int)) = bigC neg (d.set q v) := by
 unfold bigC
 rw [List.setIfInBounds_toArray, Nat.add_comm, List.set_cons_succ, List.map_set]
 rfl
structure TwI (q v : Nat) (w W : World) : Prop where
 br : W.heap[w.heap.size]? = some (.cells (bigC false zeros) 214 (0, 0))
 bz : W.heap[w.heap.size + 1]? = some (.cells (bigC false (zeros.set q v)) 214 (0, 0))
 below : Below w.heap.size w W
theorem TwI.next {q v : Nat} {w W : World} (h : TwI q v w W) (u : Nat) : TwI q u w (W.setCell ⟨w.heap.size + 1, 1 + q, none⟩ (.int .u64 (u : Int))) := by
 refine ⟨?_, ?_, h.below.setCell (p := ⟨w.heap.size + 1, 1 + q, none⟩) (by show _ ≤ w.heap.size + 1; omega) _⟩
 ·rw [heap_setCell_other _ _ _ _ (by show _ ≠ w.heap.size + 1; omega)]; exact h.br
 ·rw [heap_setCell_same _ _ _ _ _ _ h.bz, big_put, List.set_set]
theorem TwI.cell {q v : Nat} {w W : World} (h : TwI q v w W) (hq : q < 20) : W.cell? ⟨w.heap.size + 1, 1 + q, none⟩ = some (.int .u64 (v : Int)) ∧ W.frozen? ⟨w.heap.size + 1, 1 + q, none⟩ = false := by
 refine ⟨?_, frozen_row h.bz⟩
 rw [cell_of_row _ _ _ _ _ _ h.bz, big_at _ _ _ (by rw [List.length_set]; exact hq)]
 congr 3
 simp [List.getD_eq_getElem?_getD, hq, zeros]
end Go.Proofs.YtbbhmhihpdmoiaaGreat.Fx
set_option linter.unusedVariables false
set_option linter.unusedSimpArgs false
namespace Go.Proofs.YtbbhmhihpdmoiaaGreat.Fx
open Go Go.RowKit Wm
theorem num_set : ∀ (d : List Nat) (k v : Nat), k < d.length → num (d.set k v) + d.getD k 0 * 65536 ^ k = num d + v * 65536 ^ k
 | [], k, v, h => by simp at h
 | x :: d, 0, v, h => by
  simp only [List.set_cons_zero, num, List.getD_cons_zero, Nat.pow_zero, Nat.mul_one]
  omega
 | x :: d, k + 1, v, h => by
  have ih := num_set d k v (by simpa using h)
  simp only [List.set_cons_succ, num, List.getD_cons_succ]
  rw [Nat.pow_succ, ← Nat.mul_assoc, ← Nat.mul_assoc]
  generalize d.getD k 0 * 65536 ^ k = A at *
  generalize v * 65536 ^ k = B at *
  omega
theorem dg_set {d : List Nat} (h : Dg d) (k : Nat) {v : Nat} (hv : v < 65536) : Dg (d.set k v) := by
 refine ⟨by rw [List.length_set]; exact h.1, fun x hx => ?_⟩
 rcases List.mem_or_eq_of_mem_set hx with hx | rfl
 ·exact h.2 x hx
 ·exact hv
theorem dg_at_lt {d : List Nat} (h : Dg d) (k : Nat) : d.getD k 0 < 65536 := by
 rw [List.getD_eq_getElem?_getD]
 by_cases hk : k < d.length
 ·rw [List.getElem?_eq_getElem hk]
  exact h.2 _ (List.getElem_mem hk)
 ·rw [List.getElem?_eq_none (by omega)]
  simp
theorem getD_set_n (l : List Nat) (k p : Nat) (x : Nat) (hk : k < l.length) : (l.set k x).getD p 0 = if k = p then x else l.getD p 0 := by
 simp only [List.getD_eq_getElem?_getD, List.getElem?_set]
 split
 ·subst_vars
  simp [hk]
 ·rfl
structure Pr (m n i j c : Nat) (d : List Nat) : Prop where
 hd : Dg d
 eq : num d + c * 65536 ^ (i + j) = m % 65536 ^ i * n + m / 65536 ^ i % 65536 * (n % 65536 ^ j) * 65536 ^ i
 hc : c < 65536
 up : ∀ p, i + 9 ≤ p → d.getD p 0 = 0
set_option maxRecDepth 100000 in
theorem Pr.next {m n i j c a b s : Nat} {d : List Nat} (h : Pr m n i j c d) (hij : i + j < 20) (hj : j < 9) (ha : m / 65536 ^ i % 65536 = a) (hb : n / 65536 ^ j % 65536 = b) (hs : s = d.getD (i + j) 0 + a * b + c) :
  Pr m n i (j + 1) (s / 65536) (d.set (i + j) (s % 65536)) := by
 have hz := dg_at_lt h.hd (i + j)
 have hab : a * b ≤ 65535 * 65535 := Nat.mul_le_mul (by omega) (by omega)
 have hc := h.hc
 refine ⟨dg_set h.hd _ (by omega), ?_, by omega, fun p hp => ?_⟩
 ·have e1 := num_set d (i + j) (s % 65536) (by rw [h.hd.1]; exact hij)
  have e2 := h.eq
  rw [ha] at e2 ⊢
  have e3 : n % 65536 ^ (j + 1) = n % 65536 ^ j + 65536 ^ j * b := by rw [Nat.mod_pow_succ, hb]
  have e4 : a * (65536 ^ j * b) * 65536 ^ i = a * b * 65536 ^ (i + j) := by rw [Nat.pow_add]; ac_rfl
  have e5 : 65536 ^ (i + (j + 1)) = 65536 ^ (i + j) * 65536 := by rw [← Nat.pow_succ]; rfl
  rw [e3, Nat.mul_add, Nat.add_mul, e4, e5]
  have e6 : s / 65536 * (65536 ^ (i + j) * 65536) + s % 65536 * 65536 ^ (i + j) = s * 65536 ^ (i + j) := by
   rw [Nat.mul_comm (65536 ^ (i + j)) 65536, ← Nat.mul_assoc, ← Nat.add_mul, Nat.div_add_mod']
  have e7 : s * 65536 ^ (i + j) = d.getD (i + j) 0 * 65536 ^ (i + j) + a * b * 65536 ^ (i + j) + c * 65536 ^ (i + j) := by rw [hs, Nat.add_mul, Nat.add_mul]
  generalize s / 65536 * (65536 ^ (i + j) * 65536) = A1 at *
  generalize s % 65536 * 65536 ^ (i + j) = A2 at *
  generalize s * 65536 ^ (i + j) = A3 at *
  generalize d.getD (i + j) 0 * 65536 ^ (i + j) = A4 at *
  generalize a * b * 65536 ^ (i + j) = A5 at *
  generalize c * 65536 ^ (i + j) = A6 at *
  generalize a * (n % 65536 ^ j) * 65536 ^ i = A7 at *
  generalize m % 65536 ^ i * n = A8 at *
  omega
 ·rw [getD_set_n _ _ _ _ (by rw [h.hd.1]; exact hij), if_neg (by omega)]
  exact h.up p hp
theorem Pr.row {m n i c : Nat} {d : List Nat} (h : Pr m n i 9 c d) (hi : i < 9) (hn : n < 65536 ^ 9) : Pr m n (i + 1) 0 0 (d.set (i + 9) c) := by
 refine ⟨dg_set h.hd _ h.hc, ?_, by omega, fun p hp => ?_⟩
 ·have e1 := num_set d (i + 9) c (by rw [h.hd.1]; omega)
  have e2 := h.eq
  rw [h.up (i + 9) (by omega), Nat.zero_mul] at e1
  rw [Nat.mod_eq_of_lt hn] at e2
  rw [Nat.mod_pow_succ, Nat.zero_mul, Nat.pow_zero, Nat.mod_one, Nat.mul_zero, Nat.zero_mul, Nat.add_mul]
  have e3 : 65536 ^ i * (m / 65536 ^ i % 65536) * n = m / 65536 ^ i % 65536 * n * 65536 ^ i := by ac_rfl
  rw [e3]
  omega
 ·rw [getD_set_n _ _ _ _ (by rw [h.hd.1]; omega), if_neg (by omega)]
  exact h.up p (by omega)
theorem Pr.done {m n : Nat} {d : List Nat} (h : Pr m n 9 0 0 d) (hm : m < 65536 ^ 9) : d = dg (m * n) := by
 have e := h.eq
 rw [Nat.mod_eq_of_lt hm, Nat.pow_zero, Nat.mod_one, Nat.mul_zero, Nat.zero_mul, Nat.add_zero, Nat.add_zero] at e
 rw [← e]
 exact (dg_num h.hd).symm
theorem AddI.put {nx ny nz : Bool} {dx dy dz : List Nat} {w W : World} (h : AddI nx ny nz dx dy dz w W) (k v : Nat) : AddI nx ny nz dx dy (dz.set k v) w (W.setCell ⟨w.heap.size + 1 + 1 + 1, 1 + k, none⟩ (.int .u64 (v : Int))) :=
 ⟨by rw [heap_setCell_other _ _ _ _ (by show _ ≠ w.heap.size + 1 + 1 + 1; omega)]; exact h.bx, by rw [heap_setCell_other _ _ _ _ (by show _ ≠ w.heap.size + 1 + 1 + 1; omega)]; exact h.by0, by rw [heap_setCell_other _ _ _ _ (by show _ ≠ w.heap.size + 1 + 1 + 1; omega)]; exact h.br,
  by rw [heap_setCell_same _ _ _ _ _ _ h.bz, big_put], h.below.setCell (p := ⟨w.heap.size + 1 + 1 + 1, 1 + k, none⟩) (by show _ ≤ w.heap.size + 1 + 1 + 1; omega) _⟩
theorem AddI.drewN {nx ny nz : Bool} {dx dy dz : List Nat} {w W : World} (h : AddI nx ny nz dx dy dz w W) (q : Nat) : AddI nx ny nz dx dy dz w (W.drewN q) := h.up (bdrew0 _ _ q)
end Go.Proofs.YtbbhmhihpdmoiaaGreat.Fx
set_option linter.unusedVariables false
set_option linter.unusedSimpArgs false
namespace Go.Proofs.YtbbhmhihpdmoiaaGreat.Fx
open Go Go.RowKit Wm
def BigAt (g : Nat) (z : Int) (W : World) : Prop := W.heap[g]? = some (.cells (bv z) 214 (0, 0))
theorem BigAt.below {W X : World} {g : Nat} {z : Int} (hb : Below W.heap.size W X) (h : BigAt g z W) : BigAt g z X := keep_row hb h
theorem BigAt.head {g : Nat} {z : Int} {W : World} (h : BigAt g z W) : W.cell? ⟨g, 0, none⟩ = some (.bool (decide (z < 0))) := by rw [cell_of_row _ _ _ _ _ _ h]; exact big_head _ _
end Go.Proofs.YtbbhmhihpdmoiaaGreat.Fx
set_option linter.unusedVariables false
set_option linter.unusedSimpArgs false
namespace Go.Proofs.YtbbhmhihpdmoiaaGreat.Fx
open Go Go.RowKit Wm
structure FrI (h : Int) (l : Nat) (p : List Nat) (w W : World) : Prop where
 bw : W.heap[w.heap.size]? = some (.cells #[.int .i64 h, .int .u64 l] 220 (0, 0))
 br : W.heap[w.heap.size + 1]? = some (.cells (bigC false zeros) 214 (0, 0))
 bl : W.heap[w.heap.size + 1 + 1]? = some (.cells (bigC false (pad p)) 214 (0, 0))
 below : Below w.heap.size w W
theorem FrI.next {h : Int} {l : Nat} {p : List Nat} {w W : World} (i : FrI h l p w W) (v : Nat) (hp : p.length < 20) : FrI h l (p ++ [v]) w (W.setCell ⟨w.heap.size + 1 + 1, 1 + p.length, none⟩ (.int .u64 (v : Int))) := by
 refine ⟨?_, ?_, ?_, i.below.setCell (p := ⟨w.heap.size + 1 + 1, 1 + p.length, none⟩) (by show _ ≤ w.heap.size + 1 + 1; omega) _⟩
 ·rw [heap_setCell_other _ _ _ _ (by show _ ≠ w.heap.size + 1 + 1; omega)]; exact i.bw
 ·rw [heap_setCell_other _ _ _ _ (by show _ ≠ w.heap.size + 1 + 1; omega)]; exact i.br
 ·rw [heap_setCell_same _ _ _ _ _ _ i.bl, pad_put p v false hp]
structure FrS (h : Int) (l : Nat) (w W : World) : Prop where
 bw : W.heap[w.heap.size]? = some (.cells #[.int .i64 h, .int .u64 l] 220 (0, 0))
 bl : BigAt (w.heap.size + 1 + 1) (l : Int) W
 below : Below w.heap.size w W
theorem FrS.up {h : Int} {l : Nat} {w W X : World} (i : FrS h l w W) (hb : Below W.heap.size W X) : FrS h l w X := ⟨keep_row hb i.bw, BigAt.below hb i.bl, bnext i.below hb⟩
theorem FrS.c0 {h : Int} {l : Nat} {w W : World} (i : FrS h l w W) : W.cell? ⟨w.heap.size, 0, none⟩ = some (.int .i64 h) := by rw [cell_of_row _ _ _ _ _ _ i.bw]; rfl
theorem FrS.put {h : Int} {l : Nat} {w W : World} (i : FrS h l w W) (c : Array Value) : FrS h l w (W.setRow (w.heap.size + 1) c) :=
 ⟨by rw [setRow_other _ _ _ _ (by omega)]; exact i.bw, by unfold BigAt; rw [setRow_other _ _ _ _ (by omega)]; exact i.bl, Below.row i.below (by omega) _⟩
end Go.Proofs.YtbbhmhihpdmoiaaGreat.Fx
set_option linter.unusedVariables false
set_option linter.unusedSimpArgs false
namespace Go.Proofs.YtbbhmhihpdmoiaaGreat.Fx
open Go Go.RowKit Wm
theorem results_row_tmp {P : Program} {fn : Func} {p u : Tmp} {ty : TypeId} (h : fn.results = #[.cell p ty, .tmp u]) (tmps : Array Value) (w : World) (g : Nat) (t : TypeId) (cs : Array Value) (fr : Nat × Nat) (d : TypeDesc) (v : Value)
  (hp : tmps.getD p undef = .pointer (some ⟨g, 0, none⟩)) (hg : w.heap[g]? = some (.cells cs t fr))
  (hu : P.underlying ty = some d) (hd : (match d with | .struct _ | .array _ _ => true | _ => false) = true) (hi : (P.info? ty).map (·.size) = some cs.size) (hv : tmps.getD u undef = v) :
  (results fn tmps).run P w = .ok (.tuple #[.agg cs, v]) w := by
 rw [results_cell_tmp h, hp, hv]
 simp [asAddr, Result.andThen, run_loadVar_row w g t ty cs fr d hg hu hd hi]
def WideAt (g : Nat) (h : Int) (l : Nat) (W : World) : Prop := W.heap[g]? = some (.cells #[.int .i64 h, .int .u64 l] 220 (0, 0))
theorem WideAt.below {W X : World} {g l : Nat} {h : Int} (hb : Below W.heap.size W X) (i : WideAt g h l W) : WideAt g h l X := keep_row hb i
theorem WideAt.c0 {W : World} {g l : Nat} {h : Int} (i : WideAt g h l W) : W.cell? ⟨g, 0, none⟩ = some (.int .i64 h) := by rw [cell_of_row _ _ _ _ _ _ i]; rfl
theorem WideAt.c1 {W : World} {g l : Nat} {h : Int} (i : WideAt g h l W) : W.cell? ⟨g, 1, none⟩ = some (.int .u64 (l : Int)) := by rw [cell_of_row _ _ _ _ _ _ i]; rfl
theorem WideAt.fr {W : World} {g l : Nat} {h : Int} (i : WideAt g h l W) (j : Nat) : W.frozen? ⟨g, j, none⟩ = false := frozen_row i
theorem WideAt.put2 {W : World} {g b l : Nat} {a h : Int} (i : WideAt g a b W) : WideAt g h l ((W.setCell ⟨g, 0, none⟩ (.int .i64 h)).setCell ⟨g, 1, none⟩ (.int .u64 (l : Int))) := by
 unfold WideAt
 rw [heap_setCell_same _ _ _ _ _ _ (heap_setCell_same _ _ _ _ _ _ i)]
 rfl
theorem Below.put2 {B : Nat} {v W : World} {g : Nat} (hb : Below B v W) (hg : B ≤ g) (x y : Value) : Below B v ((W.setCell ⟨g, 0, none⟩ x).setCell ⟨g, 1, none⟩ y) :=
 (hb.setCell (p := ⟨g, 0, none⟩) hg _).setCell (p := ⟨g, 1, none⟩) hg _
structure ToI (y : Nat) (w W : World) : Prop where
 bx : BigAt w.heap.size (y : Int) W
 br : WideAt (w.heap.size + 1) 0 0 W
 below : Below w.heap.size w W
structure ToS (x : Int) (w W : World) : Prop where
 bx : BigAt w.heap.size x W
 br : WideAt (w.heap.size + 1) 0 0 W
 below : Below w.heap.size w W
theorem ToS.up {x : Int} {w W X : World} (i : ToS x w W) (hb : Below W.heap.size W X) : ToS x w X := ⟨BigAt.below hb i.bx, WideAt.below hb i.br, bnext i.below hb⟩
theorem ToS.put {x : Int} {w W : World} (y : Nat) (i : ToS x w W) : ToI y w (W.setRow w.heap.size (bv (y : Int))) :=
 ⟨setRow_heap _ _ _ _ _ _ i.bx, by unfold WideAt; rw [setRow_other _ _ _ _ (by omega)]; exact i.br, Below.row i.below (Nat.le_refl _) _⟩
end Go.Proofs.YtbbhmhihpdmoiaaGreat.Fx
set_option linter.unusedVariables false
set_option linter.unusedSimpArgs false
namespace Go.Proofs.YtbbhmhihpdmoiaaGreat.Fx
open Go Go.RowKit Wm
end Go.Proofs.YtbbhmhihpdmoiaaGreat.Fx
set_option linter.unusedVariables false
set_option linter.unusedSimpArgs false
namespace Go.Proofs.YtbbhmhihpdmoiaaGreat.Fx
open Go Go.RowKit Wm
theorem BigAt.set_sign {g : Nat} {z : Int} {W : World} (h : BigAt g z W) (b : Bool) : (W.setCell ⟨g, 0, none⟩ (.bool b)).heap[g]? = some (.cells (bigC b (dg z.natAbs)) 214 (0, 0)) := by
 rw [heap_setCell_same _ _ _ _ _ _ h]
 unfold bv
 rw [big_sign]
theorem BigAt.neg {g : Nat} {q : Nat} {W : World} (h : BigAt g (q : Int) W) (b : Bool) (z : Int) (hz : decide (z < 0) = b) (hq : z.natAbs = q) : BigAt g z (W.setCell ⟨g, 0, none⟩ (.bool b)) := by
 have := h.set_sign b
 unfold BigAt bv
 rw [hz, hq, this, Int.natAbs_natCast]
theorem BigAt.row {g : Nat} {z : Int} {W : World} (h : BigAt g z W) (y : Int) : BigAt g y (W.setRow g (bv y)) := setRow_heap _ _ _ _ _ _ h
theorem BigAt.other {g k : Nat} {z : Int} {W : World} (h : BigAt g z W) (hk : g ≠ k) (c : Array Value) : BigAt g z (W.setRow k c) := by unfold BigAt; rw [setRow_other _ _ _ _ hk]; exact h
theorem BigAt.otherC {g k j : Nat} {z : Int} {W : World} (h : BigAt g z W) (hk : g ≠ k) (v : Value) : BigAt g z (W.setCell ⟨k, j, none⟩ v) := by unfold BigAt; rw [heap_setCell_other _ _ _ _ (by show g ≠ k; exact hk)]; exact h
structure DvI (x c : Int) (n q r B : Nat) (w W : World) : Prop where
 bx : BigAt w.heap.size x W
 bc : BigAt (w.heap.size + 1) c W
 r1 : BigAt (w.heap.size + 1 + 1) 0 W
 r2 : BigAt (w.heap.size + 1 + 1 + 1) 0 W
 bq : BigAt B (q : Int) W
 br : BigAt (B + 1) (r : Int) W
 bd : BigAt (B + 1 + 1) (n : Int) W
 hB : w.heap.size + 1 + 1 + 1 < B
 below : Below w.heap.size w W
theorem DvI.up {x c : Int} {n q r B : Nat} {w W X : World} (i : DvI x c n q r B w W) (hb : Below W.heap.size W X) : DvI x c n q r B w X :=
 ⟨BigAt.below hb i.bx, BigAt.below hb i.bc, BigAt.below hb i.r1, BigAt.below hb i.r2, BigAt.below hb i.bq, BigAt.below hb i.br, BigAt.below hb i.bd, i.hB, bnext i.below hb⟩
end Go.Proofs.YtbbhmhihpdmoiaaGreat.Fx

set_option linter.unusedVariables false
set_option linter.unusedSimpArgs false
namespace Go.Proofs.YtbbhmhihpdmoiaaGreat.Fx
open Go Go.RowKit Wm
structure DvS (x c Q : Int) (B : Nat) (w W : World) : Prop where
 bx : BigAt w.heap.size x W
 bc : BigAt (w.heap.size + 1) c W
 bq : BigAt B Q W
 hB : w.heap.size + 1 + 1 + 1 < B
 below : Below w.heap.size w W
theorem DvS.up {x c Q : Int} {B : Nat} {w W X : World} (i : DvS x c Q B w W) (hb : Below W.heap.size W X) : DvS x c Q B w X :=
 ⟨BigAt.below hb i.bx, BigAt.below hb i.bc, BigAt.below hb i.bq, i.hB, bnext i.below hb⟩
theorem DvS.put {x c Q : Int} {B : Nat} {w W : World} (i : DvS x c Q B w W) (g : Nat) (h1 : g = w.heap.size + 1 + 1 ∨ g = w.heap.size + 1 + 1 + 1) (a : Array Value) : DvS x c Q B w (W.setRow g a) := by
 have hB := i.hB
 exact ⟨i.bx.other (by omega) _, i.bc.other (by omega) _, i.bq.other (by omega) _, hB, Below.row i.below (by omega) _⟩
theorem DvI.done {x c Q : Int} {n q r B : Nat} {w W : World} (i : DvI x c n q r B w W) (b : Bool) (hz : decide (Q < 0) = b) (hq : Q.natAbs = q) :
  DvS x c Q B w (W.setCell ⟨B, 0, none⟩ (.bool b)) ∧ BigAt (w.heap.size + 1 + 1) 0 (W.setCell ⟨B, 0, none⟩ (.bool b)) ∧ BigAt (w.heap.size + 1 + 1 + 1) 0 (W.setCell ⟨B, 0, none⟩ (.bool b)) := by
 have hB := i.hB
 exact ⟨⟨i.bx.otherC (by omega) _, i.bc.otherC (by omega) _, i.bq.neg b Q hz hq, hB, i.below.setCell (p := ⟨B, 0, none⟩) (by show _ ≤ B; omega) _⟩, i.r1.otherC (by omega) _, i.r2.otherC (by omega) _⟩
end Go.Proofs.YtbbhmhihpdmoiaaGreat.Fx
set_option linter.unusedVariables false
set_option linter.unusedSimpArgs false
namespace Go.Proofs.YtbbhmhihpdmoiaaGreat.Fx
open Go Go.RowKit Wm
end Go.Proofs.YtbbhmhihpdmoiaaGreat.Fx

set_option linter.unusedVariables false
namespace Go.Proofs.YtbbhmhihpdmoiaaGreat.Fx
open Go Go.RowKit Wm
section
variable {n : Nat} {P : Program} {ops : Array Oper} {Q : Exit → Act → World → Prop} {md : Region.Mode} {S : World → Prop} {Z : List Nat}
def RowAt (t : TypeId) (g : Nat) (cs : Array Value) (W : World) : Prop := W.heap[g]? = some (.cells cs t (0, 0))
theorem RowAt.below {t : TypeId} {g : Nat} {cs : Array Value} {W X : World} (hb : Below W.heap.size W X) (h : RowAt t g cs W) : RowAt t g cs X := keep_row hb h
theorem RowAt.row {t : TypeId} {g : Nat} {cs : Array Value} {W : World} (h : RowAt t g cs W) (c : Array Value) : RowAt t g c (W.setRow g c) := setRow_heap _ _ _ _ _ _ h
theorem RowAt.other {t : TypeId} {g k : Nat} {cs : Array Value} {W : World} (h : RowAt t g cs W) (hk : g ≠ k) (c : Array Value) : RowAt t g cs (W.setRow k c) := by unfold RowAt; rw [setRow_other _ _ _ _ hk]; exact h
theorem RowAt.lt {t : TypeId} {g : Nat} {cs : Array Value} {W : World} (h : RowAt t g cs W) : g < W.heap.size := (Array.getElem?_eq_some_iff.1 h).1
theorem RowAt.new (W : World) (t : TypeId) (cs : Array Value) : RowAt t W.heap.size cs (W.alloc (.cells cs t)) := heap_alloc_new _ _
theorem RowAt.alloc {t : TypeId} {g : Nat} {cs : Array Value} {W : World} (h : RowAt t g cs W) (o : Obj) : RowAt t g cs (W.alloc o) := step_row h
theorem RowAt.cell {t : TypeId} {g j : Nat} {cs : Array Value} {W : World} (h : RowAt t g cs W) : W.cell? ⟨g, j, none⟩ = cs[j]? := cell_of_row _ _ _ _ _ _ h
theorem RowAt.free {t : TypeId} {g j : Nat} {cs : Array Value} {W : World} (h : RowAt t g cs W) : W.frozen? ⟨g, j, none⟩ = false := frozen_row h
theorem grow_take (D : List Nat) (i : Nat) (v : Value) (s : Sound P ops Q S) {oi : Oper} {fuel : Nat} {listed : Array Bool} {a : Act} {w : World} (hi : ops[i]? = some oi)
  (hk : okTake md ops Z listed i D = true) (hS : S w) (hy : Gives P ops S oi v a)
  (h : ∀ w3, S w3 → Below w.heap.size w w3 → HeldG n P md ops Q S Z fuel (listed.setIfInBounds i true) (a.put oi.dst v) w3) : HeldG n P md ops Q S Z (fuel + 1) listed a w := by
 unfold okTake at hk
 simp only [Bool.and_eq_true] at hk
 obtain ⟨⟨⟨hf, hr⟩, hz⟩, hc⟩ := hk
 refine give_first s.calm hi (Region.noSelect_spec s.nosel) (fun c a w => s.pan _ _ _ _ _) D (fun z hz' => ?_) s.mono fuel listed a w (Region.free_spec hi hf) (by simpa using hr) (chain_spec hc) hy hS fun w3 hb => h w3 (s.mono _ _ hS hb) hb
 have := List.all_eq_true.1 hz z hz'
 exact List.contains_iff_mem.1 this
theorem grow_pure (D : List Nat) (i : Nat) (v : Value) (s : Sound P ops Q S) {oi : Oper} {fuel : Nat} {listed : Array Bool} {a : Act} {w : World} (hi : ops[i]? = some oi)
  (hk : okTake md ops Z listed i D = true) (hS : S w) (hw : Region.wanted oi (yielded ops a.tmps) = true) (hv : ∀ w, S w → (execOp a.eval oi).run P w = .ok (.value v) w)
  (h : ∀ w3, S w3 → Below w.heap.size w w3 → HeldG n P md ops Q S Z fuel (listed.setIfInBounds i true) (a.put oi.dst v) w3) : HeldG n P md ops Q S Z (fuel + 1) listed a w :=
 grow_take D i v s hi hk hS (Or.inl ⟨hw, fun w hS => Or.inl (hv w hS)⟩) h
theorem grow_call (D : List Nat) (i : Nat) (f : FuncId) (args : Array Value) (v : Value) (s : Sound P ops Q S) {oi : Oper} {fuel : Nat} {listed : Array Bool} {a : Act} {w : World} (hi : ops[i]? = some oi)
  (hk : okTake md ops Z listed i D = true) (hS : S w) (hw : Region.wanted oi (yielded ops a.tmps) = true) (hv : ∀ w, (execOp a.eval oi).run P w = .ok (.enter f args) w)
  (hc : ∀ w, Calls P f args w fun e w' => e = .returned v ∧ Below w.heap.size w w')
  (h : ∀ w3, S w3 → Below w.heap.size w w3 → HeldG n P md ops Q S Z fuel (listed.setIfInBounds i true) (a.put oi.dst v) w3) : HeldG n P md ops Q S Z (fuel + 1) listed a w :=
 grow_take D i v s hi hk hS (Or.inl ⟨hw, fun w _ => Or.inr ⟨f, args, hv w, hc w⟩⟩) h
end
end Go.Proofs.YtbbhmhihpdmoiaaGreat.Fx
set_option linter.unusedVariables false
set_option linter.unusedSimpArgs false
namespace Go.Proofs.YtbbhmhihpdmoiaaGreat.Fx
open Go Go.RowKit Wm
end Go.Proofs.YtbbhmhihpdmoiaaGreat.Fx
set_option linter.unusedVariables false
set_option linter.unusedSimpArgs false
namespace Go.Proofs.YtbbhmhihpdmoiaaGreat.Fx
open Go Go.RowKit Wm
def dsum (a v : List Int) : Nat → Int
 | 0 => 0
 | k + 1 => dsum a v k + a.getD k 0 * v.getD k 0
structure SuI (a v : List Int) (B k : Nat) (w W : World) : Prop where
 ra : RowAt 23 w.heap.size (mC a) W
 rv : RowAt 23 (w.heap.size + 1) (mC v) W
 rs : RowAt 214 B (bv (dsum a v k)) W
 below : Below w.heap.size w W
 lt : w.heap.size + 1 < B
theorem SuI.up {a v : List Int} {B k : Nat} {w W V : World} (i : SuI a v B k w W) (hb : Below W.heap.size W V) : SuI a v B k w V := ⟨i.ra.below hb, i.rv.below hb, i.rs.below hb, bnext i.below hb, i.lt⟩
theorem SuI.put {a v : List Int} {B k : Nat} {w W : World} (i : SuI a v B k w W) : SuI a v B (k + 1) w (W.setRow B (bv (dsum a v (k + 1)))) :=
 ⟨i.ra.other (by have := i.lt; omega) _, i.rv.other (by have := i.lt; omega) _, i.rs.row _, Below.row i.below (by have := i.lt; omega) _, i.lt⟩
end Go.Proofs.YtbbhmhihpdmoiaaGreat.Fx

set_option linter.unusedVariables false
set_option linter.unusedSimpArgs false
namespace Go.Proofs.YtbbhmhihpdmoiaaGreat.Fx
open Go Go.RowKit Wm
theorem size4 : (Tryz.prog.info? 23).map (·.size) = some 4 := by kernel_rfl
end Go.Proofs.YtbbhmhihpdmoiaaGreat.Fx
set_option linter.unusedVariables false
set_option linter.unusedSimpArgs false
namespace Go.Proofs.YtbbhmhihpdmoiaaGreat.Fx
open Go Go.RowKit Wm
def colX (a b : List Int) (c r : Nat) : Int := ((colO a b c).getD []).getD r 0
def outL (a b : List Int) (c r : Nat) : List Int := (List.range 16).map fun p => if p % 4 < c ∨ (p % 4 = c ∧ p / 4 < r) then colX a b (p % 4) (p / 4) else 0
theorem outL_step (a b : List Int) (c r : Nat) (hc : c < 4) (hr : r < 4) : (outL a b c r).set (r * 4 + c) (colX a b c r) = outL a b c (r + 1) := by
 have hd : c = 0 ∨ c = 1 ∨ c = 2 ∨ c = 3 := by omega
 have he : r = 0 ∨ r = 1 ∨ r = 2 ∨ r = 3 := by omega
 rcases hd with rfl | rfl | rfl | rfl <;> rcases he with rfl | rfl | rfl | rfl <;> rfl
structure MzI (a b : List Int) (B c r : Nat) (w W : World) : Prop where
 ra : RowAt 25 w.heap.size (mC a) W
 rb : RowAt 25 (w.heap.size + 1) (mC b) W
 rr : RowAt 25 (w.heap.size + 1 + 1) (mC zero16) W
 ro : RowAt 25 B (mC (outL a b c r)) W
 below : Below w.heap.size w W
 lt : w.heap.size + 1 + 1 < B
theorem MzI.up {a b : List Int} {B c r : Nat} {w W V : World} (i : MzI a b B c r w W) (hb : Below W.heap.size W V) : MzI a b B c r w V := ⟨i.ra.below hb, i.rb.below hb, i.rr.below hb, i.ro.below hb, bnext i.below hb, i.lt⟩
theorem RowAt.otherC {t : TypeId} {g k j : Nat} {cs : Array Value} {W : World} (h : RowAt t g cs W) (hk : g ≠ k) (v : Value) : RowAt t g cs (W.setCell ⟨k, j, none⟩ v) := by unfold RowAt; rw [heap_setCell_other _ _ _ _ (by show g ≠ k; exact hk)]; exact h
theorem MzI.next {a b : List Int} {B c r : Nat} {w W : World} (i : MzI a b B c r w W) (hc : c < 4) (hr : r < 4) : MzI a b B c (r + 1) w (W.setCell ⟨B, r * 4 + c, none⟩ (.int .i64 (colX a b c r))) := by
 have hB := i.lt
 refine ⟨i.ra.otherC (by omega) _, i.rb.otherC (by omega) _, i.rr.otherC (by omega) _, ?_, i.below.setCell (p := ⟨B, r * 4 + c, none⟩) (by show _ ≤ B; omega) _, hB⟩
 have := heap_setCell_same _ _ (r * 4 + c) _ _ (.int .i64 (colX a b c r)) i.ro
 unfold RowAt
 rw [this, mC_put, outL_step _ _ _ _ hc hr]
end Go.Proofs.YtbbhmhihpdmoiaaGreat.Fx

set_option linter.unusedVariables false
set_option linter.unusedSimpArgs false
namespace Go.Proofs.YtbbhmhihpdmoiaaGreat.Fx
open Go Go.RowKit
def keep5 (s : ScR) (x : ObjR) (k : Nat) : Bool := wB 16777216 x.m 16
def mayB (o : Option (List Int)) : Bool := match o with
 | none => false
 | some m => wB 67108864 m 16
def keep6 (s : ScR) (x : ObjR) (k : Nat) : Bool := mayB (mulO s.cam x.m)
theorem sizeM {m : List Int} (h : m.length = 16) : (Tryz.prog.info? 25).map (·.size) = some (m.map encI).length := by rw [size16, List.length_map, h]
theorem range_mC {V : World} {b : Nat} {m : List Int} {t : TypeId} {fr : Nat × Nat} (h : V.heap[b]? = some (.cells (mC m) t fr)) : V.rangeAt b 0 (m.map encI) := fun j v hj => by
 rw [cell_of_row _ _ _ _ _ _ h, Nat.zero_add]
 simpa [mC] using hj
theorem mulO_len {a b m : List Int} (h : mulO a b = some m) : m.length = 16 := by
 unfold mulO at h
 split at h
 ·cases h; rfl
 ·cases h
def keepZ (s : ScR) (x : ObjR) (k r : Nat) : Bool := if r = 4 then keep4 s x k else if r = 5 then keep5 s x k else if r = 6 then keep6 s x k else if r = 7 then keep7 s x k else keep8 s x k
end Go.Proofs.YtbbhmhihpdmoiaaGreat.Fx
set_option linter.unusedVariables false
set_option linter.unusedSimpArgs false
namespace Go.Proofs.YtbbhmhihpdmoiaaGreat.Fx
open Go Go.RowKit
def badAt (s : ScR) (r k : Nat) : Bool := match s.os[k]? with
 | some x => !keepZ s x k r
 | none => false
def badIn (s : ScR) (r : Nat) : Option Nat := (List.range s.os.length).find? (badAt s r)
def sizeB (s : ScR) : Bool := decide (s.w < 1) || decide (64 < s.w) || decide (s.h < 1) || decide (64 < s.h)
def wrongZ (s : ScR) : Int × Int :=
 if sizeB s = true then (1, -1) else if wB 16777216 s.cam 16 = false then (2, -1) else if 16 < s.os.length then (3, -1) else
 (([4, 5, 6, 7, 8] : List Nat).findSome? fun r => (badIn s r).map fun k => ((r : Int), (k : Int))).getD (0, -1)
theorem badIn_none {s : ScR} {r : Nat} (h : ∀ k, k < s.os.length → badAt s r k = false) : badIn s r = none := by
 unfold badIn
 rw [List.find?_eq_none]
 intro k hk
 rw [h k (by simpa using hk)]
 simp
theorem badIn_some {s : ScR} {r k : Nat} (hk : k < s.os.length) (h : ∀ j, j < k → badAt s r j = false) (hb : badAt s r k = true) : badIn s r = some k := by
 unfold badIn
 rw [List.find?_eq_some_iff_append]
 refine ⟨hb, List.range k, (List.range (s.os.length - k - 1)).map (· + (k + 1)), ?_, ?_⟩
 ·rw [show s.os.length = k + (1 + (s.os.length - k - 1)) by omega, List.range_add, List.range_add]
  simp
  intro a ha
  omega
 ·intro j hj
  rw [h j (by simpa using hj)]
  rfl
theorem wrong_at {s : ScR} {r k : Nat} (h1 : sizeB s = false) (h2 : wB 16777216 s.cam 16 = true) (h3 : s.os.length ≤ 16) (h4 : 4 ≤ r) (h8 : r ≤ 8) (hn : ∀ q, 4 ≤ q → q < r → badIn s q = none) (hb : badIn s r = some k) : wrongZ s = ((r : Int), (k : Int)) := by
 unfold wrongZ
 rw [if_neg (by simp [h1]), if_neg (by simp [h2]), if_neg (by omega)]
 obtain rfl | rfl | rfl | rfl | rfl : r = 4 ∨ r = 5 ∨ r = 6 ∨ r = 7 ∨ r = 8 := by omega
 ·simp [List.findSome?, hb]
 ·simp [List.findSome?, hb, hn 4 (by omega) (by omega)]
 ·simp [List.findSome?, hb, hn 4 (by omega) (by omega), hn 5 (by omega) (by omega)]
 ·simp [List.findSome?, hb, hn 4 (by omega) (by omega), hn 5 (by omega) (by omega), hn 6 (by omega) (by omega)]
 ·simp [List.findSome?, hb, hn 4 (by omega) (by omega), hn 5 (by omega) (by omega), hn 6 (by omega) (by omega), hn 7 (by omega) (by omega)]
theorem wrong_not {s : ScR} (h1 : sizeB s = false) (h2 : wB 16777216 s.cam 16 = true) (h3 : s.os.length ≤ 16) (hn : ∀ q, 4 ≤ q → q < 9 → badIn s q = none) : wrongZ s = (0, -1) := by
 unfold wrongZ
 rw [if_neg (by simp [h1]), if_neg (by simp [h2]), if_neg (by omega)]
 simp [List.findSome?, hn 4 (by omega) (by omega), hn 5 (by omega) (by omega), hn 6 (by omega) (by omega), hn 7 (by omega) (by omega), hn 8 (by omega) (by omega)]
structure WrI (s : ScR) (w V : World) : Prop where
 sc : ScAt w.heap.size s V
 ob : ObjsAt V s.oo s.os
 bel : Below w.heap.size w V
theorem WrI.up {s : ScR} {w V X : World} (i : WrI s w V) (hb : Below V.heap.size V X) : WrI s w X := ⟨i.sc.below hb, i.ob.below hb, bnext i.bel hb⟩
theorem WrI.new {s : ScR} {w : World} (h : ObjsAt w s.oo s.os) : WrI s w (w.alloc (.cells (scC s) 28)) :=
 ⟨ScAt.new w s, h.below (by go_grown), by go_grown⟩
theorem WrI.all {s : ScR} {w V : World} (i : WrI s w V) : V.rangeAt w.heap.size 0 (scL s) := fun j v hj => by
 rw [Nat.zero_add]
 exact i.sc.at.trans hj
def RetWrong (p : Int × Int) (w : World) (e : Ending) (w' : World) : Prop := e = .returned (.tuple #[.int .i64 p.1, .int .i64 p.2]) ∧ Below w.heap.size w w'
def okZ (s : ScR) : Bool := decide ((wrongZ s).1 = 0)
end Go.Proofs.YtbbhmhihpdmoiaaGreat.Fx

set_option linter.unusedVariables false
set_option linter.unusedSimpArgs false
namespace Go.Proofs.YtbbhmhihpdmoiaaGreat.Fx
open Go Go.RowKit
def OwnN (W : World) (B : Nat) (v : Value) (l : List Int) : Prop := W.ownsRow B 3 1 v l.length (l.map encI)
theorem OwnN.below {w W : World} {B : Nat} {v : Value} {l : List Int} (h : Below w.heap.size w W) (s : OwnN w B v l) : OwnN W B v l := by
 obtain ⟨h1, h2⟩ := s
 refine ⟨h1, ?_⟩
 rcases h2 with h2 | ⟨g, cap, cur, e, hb, hg, h3⟩
 ·exact Or.inl h2
 ·exact Or.inr ⟨g, cap, cur, e, hb, keep_row h hg, h3⟩
theorem OwnN.alloc {w : World} {B : Nat} {v : Value} {l : List Int} (s : OwnN w B v l) (o : Obj) : OwnN (w.alloc o) B v l := by
 obtain ⟨h1, h2⟩ := s
 refine ⟨h1, ?_⟩
 rcases h2 with h2 | ⟨g, cap, cur, e, hb, hg, h3⟩
 ·exact Or.inl h2
 ·exact Or.inr ⟨g, cap, cur, e, hb, step_row hg, h3⟩
theorem OwnN.blk {w : World} {B : Nat} {v : Value} {l : List Int} (s : OwnN w B v l) : ∀ k, v.ownBlock = some k → B ≤ k := by
 intro k hk
 obtain ⟨h1, h2⟩ := s
 rcases h2 with ⟨rfl, _⟩ | ⟨g, cap, cur, rfl, hb, _⟩
 ·cases hk
 ·cases hk
  exact hb
theorem OwnN.base {w : World} {B C : Nat} {v : Value} {l : List Int} (hc : C ≤ B) (s : OwnN w B v l) : OwnN w C v l := by
 obtain ⟨h1, h2⟩ := s
 refine ⟨h1, ?_⟩
 rcases h2 with h2 | ⟨g, cap, cur, e, hb, hg, h3⟩
 ·exact Or.inl h2
 ·exact Or.inr ⟨g, cap, cur, e, Nat.le_trans hc hb, hg, h3⟩
def IntsAt (W : World) (o : Option Addr) (l : List Int) : Prop := ∀ i, i < l.length → ∃ b off, o = some ⟨b, off, none⟩ ∧ W.cell? ⟨b, off + i, none⟩ = some (.int .i64 (l.getD i 0))
theorem IntsAt.below {w W : World} {o : Option Addr} {l : List Int} (hb : Below w.heap.size w W) (h : IntsAt w o l) : IntsAt W o l := fun i hi => by
 obtain ⟨b, off, e, hc⟩ := h i hi
 exact ⟨b, off, e, keep_cell hb hc⟩
theorem OwnN.form {W : World} {B : Nat} {v : Value} {l : List Int} (s : OwnN W B v l) : ∃ o cap, v = .slice o l.length cap ∧ IntsAt W o l ∧ l.length ≤ maxLen := by
 obtain ⟨h1, h2⟩ := s
 rcases h2 with ⟨rfl, h0⟩ | ⟨g, cap, cur, rfl, hb, hg, hle, hm, hsz, htk⟩
 ·exact ⟨none, 0, by rw [h0], fun i hi => by omega, by omega⟩
 ·refine ⟨some ⟨g, 0, none⟩, cap, rfl, fun i hi => ⟨g, 0, rfl, ?_⟩, Nat.le_trans hle hm⟩
  rw [cell_of_row _ _ _ _ _ _ hg, Nat.zero_add]
  have h3 : (l.map encI)[i]? = some (.int .i64 (l.getD i 0)) := by
   rw [List.getElem?_map, List.getElem?_eq_getElem hi]
   simp [encI, List.getD, List.getElem?_eq_getElem hi]
  rw [← htk, List.getElem?_take, if_pos (by omega)] at h3
  simpa using h3
theorem below_grown2 {B : Nat} {W X Y : World} {row : Option Nat} (hB : B ≤ W.heap.size) (hb : Below B W X) (hg : X.grownBy Y row) (hr : ∀ k, row = some k → B ≤ k) : Below B W Y :=
 ⟨hg.os.trans hb.os, hg.tape.trans hb.tape, hg.output.trans hb.output, Nat.le_trans hb.size hg.size, fun k hk => (hg.block k (Nat.lt_of_lt_of_le hk (Nat.le_trans hB hb.size)) (fun e => by have := hr k e.symm; omega)).trans (hb.block k hk)⟩
end Go.Proofs.YtbbhmhihpdmoiaaGreat.Fx
