/- The document's numbers with the other sign, walked. -/
import Derived.Test.YtgkcbadfjhicnaaProg
import Derived.Test.YtgkcbadfjhicnaaR3
set_option linter.unusedVariables false
set_option linter.unusedSimpArgs false
namespace Go.Proofs.Ytgkcbadfjhicnaa.Fx
open Go Go.RowKit Wm
theorem big_sign (neg x : Bool) (d : List Nat) : (bigC neg d).setIfInBounds 0 (.bool x) = bigC x d := by
  unfold bigC
  rw [List.setIfInBounds_toArray]
  rfl
theorem big_head (neg : Bool) (d : List Nat) : (bigC neg d)[0]? = some (.bool neg) := by
  unfold bigC
  rw [List.getElem?_toArray]
  rfl
theorem big_info (neg : Bool) (d : List Nat) (h : d.length = 20) : (Try.prog.info? 27).map (·.size) = some (bigC neg d).size := by rw [size21, big_size, h]
theorem big_same (a b : Bool) (d e : List Nat) (h : d.length = 20) (g : e.length = 20) : (bigC a d).size = (bigC b e).size := by rw [big_size, big_size, h, g]
theorem wpList_want {P : Program} {ops : Array Oper} {Q : Exit → Act → World → Prop} {rest : List Oper} {o : Oper} {a : Act} {w : World} (hw : Region.wanted o (yielded ops a.tmps) = true)
    (h : ∀ K : Act → World → Prop, (∀ a w, wpList P ops Q rest a w → K a w) → o.wp P a w K Q) : wpList P ops Q (o :: rest) a w :=
  wpList_step fun K hK => by rw [hw]; simp only [if_true]; exact h K hK
theorem wpList_load_big {P : Program} {ops : Array Oper} {rest : List Oper} {o : Oper} {a : Act} {w : World} {Q : Exit → Act → World → Prop} (hw : Region.wanted o (yielded ops a.tmps) = true) (ty : TypeId) (x : Operand) (ho : o.op = .load ty x)
    (g : Nat) (hx : a.eval x = .pointer (some ⟨g, 0, none⟩)) (t : TypeId) (cs : Array Value) (fr : Nat × Nat) (d : TypeDesc) (hg : w.heap[g]? = some (.cells cs t fr))
    (hu : P.underlying ty = some d) (hd : (match d with | .struct _ | .array _ _ => true | _ => false) = true) (hi : (P.info? ty).map (·.size) = some cs.size)
    (h : wpList P ops Q rest (a.put o.dst (.agg cs)) w) : wpList P ops Q (o :: rest) a w :=
  wpList_want hw fun _ hK => wp_load_row ty x ho g hx t cs fr d hg hu hd hi (hK _ _ h)
/-- the sign of the other one -/
def negB (neg : Bool) (d : List Nat) : Bool := !neg && !(d == zeros)
set_option maxHeartbeats 1000000 in
set_option maxRecDepth 100000 in
theorem neg_any (neg : Bool) (d : List Nat) (w : World) (hd : d.length = 20) :
    Calls Try.prog 17 #[.agg (bigC neg d)] w (RetB (negB neg d) d w) := by
  have HI := Lib.hid (big_info neg d hd)
  have HI2 := Lib.hid (big_info (negB neg d) d hd)
  have HS := Lib.hid (big_same false (negB neg d) zeros d rfl hd)
  have NA := Lib.hid (fun w => none_any neg d w hd)
  have b0 : ((w.alloc (.cells (bigC neg d) 27)).alloc (.cells (bigC false zeros) 27)).heap[w.heap.size]? = some (.cells (bigC neg d) 27 (0, 0)) := step_row (heap_alloc_new w _)
  have b1 : ((w.alloc (.cells (bigC neg d) 27)).alloc (.cells (bigC false zeros) 27)).heap[w.heap.size + 1]? = some (.cells (bigC false zeros) 27 (0, 0)) := heap_alloc2_new w _ _
  have B0 := Lib.hid b0
  have B1 := Lib.hid b1
  have c0 : ((w.alloc (.cells (bigC neg d) 27)).alloc (.cells (bigC false zeros) 27)).cell? ⟨w.heap.size, 0, none⟩ = some (.bool neg) := by rw [cell_of_row _ _ _ _ _ _ b0, big_head]
  have f0 : ((w.alloc (.cells (bigC neg d) 27)).alloc (.cells (bigC false zeros) 27)).frozen? ⟨w.heap.size, 0, none⟩ = false := frozen_row b0
  have hB : Below w.heap.size w ((w.alloc (.cells (bigC neg d) 27)).alloc (.cells (bigC false zeros) 27)) := by go_grown
  have hz : bigC false zeros = #[.bool false, .int .u64 0, .int .u64 0, .int .u64 0, .int .u64 0, .int .u64 0, .int .u64 0, .int .u64 0, .int .u64 0, .int .u64 0, .int .u64 0, .int .u64 0, .int .u64 0, .int .u64 0, .int .u64 0, .int .u64 0, .int .u64 0, .int .u64 0, .int .u64 0, .int .u64 0, .int .u64 0] := rfl
  rw [hz] at c0 f0
  clear b0 b1 hz hd
  cases neg with
  | true =>
    go_enter Try.func17, Try.ntmps17
    have hL : ((w.alloc (.cells ((bigC true d).setIfInBounds 0 (.bool false)) 27)).alloc (.cells (bigC false zeros) 27)).heap[w.heap.size]? = some (.cells (bigC false d) 27 (0, 0)) := by
      rw [← big_sign true false d]
      exact step_row (heap_alloc_new w _)
    have hL2 : ((w.alloc (.cells ((bigC true d).setIfInBounds 0 (.bool false)) 27)).alloc (.cells (bigC false zeros) 27)).heap[w.heap.size + 1]? = some (.cells (bigC false zeros) 27 (0, 0)) := heap_alloc2_new w _ _
    have HL := Lib.hid hL
    have HL2 := Lib.hid hL2
    clear hL hL2
    go_wp2_with (first | (refine wpList_load_row rfl 27 (.tmp 1) rfl w.heap.size rfl _ _ _ _ HL.out Try.underlying27 rfl HI2.out ?_) | (refine wpList_store_big rfl 27 (.tmp 2) (.tmp 12) rfl (w.heap.size + 1) _ _ (bigC false d) rfl rfl HL2.out HI2.out HS.out (big_one _ _) ?_))
    refine bodyPost_ret (v := .agg (bigC false d)) (results_cell_row rfl _ _ (w.heap.size + 1) _ _ _ _ rfl (setRow_heap _ _ _ _ _ _ HL2.out) Try.underlying27 rfl HI2.out) rfl ?_
    exact ⟨rfl, Below.row (by go_grown) (by omega) _⟩
  | false =>
    go_enter Try.func17, Try.ntmps17
    go_wp2_with (refine wpList_load_big (by kernel_rfl) 27 (.tmp 1) rfl w.heap.size rfl _ _ _ _ B0.out Try.underlying27 rfl HI.out ?_)
    refine (NA.out _).mono ?_
    rintro e w1 ⟨rfl, hb⟩
    have k0 := keep_cell hb c0
    have g0 := keep_free hb (by simp only [World.size_alloc]; omega) f0
    have R0 : Hid ((w1.setCell ⟨w.heap.size, 0, none⟩ (.bool (!(d == zeros)))).heap[w.heap.size]? = some (.cells (bigC (negB false d) d) 27 (0, 0))) := Lib.hid (by rw [heap_setCell_same _ _ _ _ _ _ (keep_row hb B0.out), big_sign]; rfl)
    have R1 : Hid ((w1.setCell ⟨w.heap.size, 0, none⟩ (.bool (!(d == zeros)))).heap[w.heap.size + 1]? = some (.cells (bigC false zeros) 27 (0, 0))) := Lib.hid (by rw [heap_setCell_other _ _ _ _ (show w.heap.size + 1 ≠ w.heap.size by omega)]; exact keep_row hb B1.out)
    have HB : Hid (Below w.heap.size w w1) := Lib.hid (by (repeat' (first | (with_reducible exact Below.refl _ _) | (with_reducible assumption) | (with_reducible refine Below.drew ?_) | (with_reducible refine Below.setCell ?_ ?_ _) | (with_reducible refine bnext ?_ (by assumption)) | (with_reducible refine Below.alloc ?_ ?_ _) | go_size)))
    clear hb c0 f0 hB
    go_wp2_with (first | (refine wpList_load_row rfl 27 (.tmp 1) rfl w.heap.size rfl _ _ _ _ R0.out Try.underlying27 rfl HI2.out ?_) | (refine wpList_store_big rfl 27 (.tmp 2) (.tmp 12) rfl (w.heap.size + 1) _ _ (bigC (negB false d) d) rfl rfl R1.out HI2.out HS.out (big_one _ _) ?_))
    refine bodyPost_ret (v := .agg (bigC (negB false d) d)) (results_cell_row rfl _ _ (w.heap.size + 1) _ _ _ _ rfl (setRow_heap _ _ _ _ _ _ R1.out) Try.underlying27 rfl HI2.out) rfl ?_
    exact ⟨rfl, Below.row (HB.out.setCell (Nat.le_refl _) _) (by omega) _⟩
end Go.Proofs.Ytgkcbadfjhicnaa.Fx
