/- The number of 128 bits of a number, as the document has it, walked. -/
import Derived.Test.YtgkcbadfjhicnaaProg
import Derived.Test.YtgkcbadfjhicnaaK2
import Derived.Laws.ResultCell
set_option linter.unusedVariables false
set_option linter.unusedSimpArgs false
namespace Go.Proofs.Ytgkcbadfjhicnaa.Fx
open Go Go.RowKit Wm
theorem results_row_tmp {P : Program} {fn : Func} {p u : Tmp} {ty : TypeId} (h : fn.results = #[.cell p ty, .tmp u]) (tmps : Array Value) (w : World) (g : Nat) (t : TypeId) (cs : Array Value) (fr : Nat × Nat) (d : TypeDesc) (v : Value)
    (hp : tmps.getD p undef = .pointer (some ⟨g, 0, none⟩)) (hg : w.heap[g]? = some (.cells cs t fr))
    (hu : P.underlying ty = some d) (hd : (match d with | .struct _ | .array _ _ => true | _ => false) = true) (hi : (P.info? ty).map (·.size) = some cs.size) (hv : tmps.getD u undef = v) :
    (results fn tmps).run P w = .ok (.tuple #[.agg cs, v]) w := by
  rw [results_cell_tmp h, hp, hv]
  simp [asAddr, Result.andThen, run_loadVar_row w g t ty cs fr d hg hu hd hi]
def WideAt (g : Nat) (h : Int) (l : Nat) (W : World) : Prop := W.heap[g]? = some (.cells #[.int .i64 h, .int .u64 l] 24 (0, 0))
theorem WideAt.below {W X : World} {g l : Nat} {h : Int} (hb : Below W.heap.size W X) (i : WideAt g h l W) : WideAt g h l X := keep_row hb i
theorem WideAt.c0 {W : World} {g l : Nat} {h : Int} (i : WideAt g h l W) : W.cell? ⟨g, 0, none⟩ = some (.int .i64 h) := by rw [cell_of_row _ _ _ _ _ _ i]; rfl
theorem WideAt.c1 {W : World} {g l : Nat} {h : Int} (i : WideAt g h l W) : W.cell? ⟨g, 1, none⟩ = some (.int .u64 (l : Int)) := by rw [cell_of_row _ _ _ _ _ _ i]; rfl
theorem WideAt.fr {W : World} {g l : Nat} {h : Int} (i : WideAt g h l W) (j : Nat) : W.frozen? ⟨g, j, none⟩ = false := frozen_row i
theorem WideAt.put2 {W : World} {g b l : Nat} {a h : Int} (i : WideAt g a b W) : WideAt g h l ((W.setCell ⟨g, 0, none⟩ (.int .i64 h)).setCell ⟨g, 1, none⟩ (.int .u64 (l : Int))) := by
  unfold WideAt
  rw [heap_setCell_same _ _ _ _ _ _ (heap_setCell_same _ _ _ _ _ _ i)]
  rfl
theorem Below.put2 {B : Nat} {v W : World} {g : Nat} (hb : Below B v W) (hg : B ≤ g) (x y : Value) : Below B v ((W.setCell ⟨g, 0, none⟩ x).setCell ⟨g, 1, none⟩ y) :=
  (hb.setCell (p := ⟨g, 0, none⟩) hg _).setCell (p := ⟨g, 1, none⟩) hg _
theorem wpIn_load_row {F : Fence} {n : Nat} {P : Program} {o : Oper} {a : Act} {w : World} {K : Act → World → Prop} {Q : Exit → Act → World → Prop} (hF : ∀ f, F.fn f) (ty : TypeId) (x : Operand) (ho : o.op = .load ty x)
    (g : Nat) (hx : a.eval x = .pointer (some ⟨g, 0, none⟩)) (t : TypeId) (cs : Array Value) (fr : Nat × Nat) (d : TypeDesc) (hg : w.heap[g]? = some (.cells cs t fr))
    (hu : P.underlying ty = some d) (hd : (match d with | .struct _ | .array _ _ => true | _ => false) = true) (hi : (P.info? ty).map (·.size) = some cs.size) (h : K (a.put o.dst (.agg cs)) w) : Oper.wpIn F n P o a w K Q := by
  unfold Oper.wpIn
  rw [Oper.semAt_plain F _ _ (by intro c e; rw [ho] at e; cases e)]
  rw [exec_load_row ty x ho g hx t cs fr d hg hu hd hi]
  exact ⟨fun f _ => hF f, h⟩
structure ToI (y : Nat) (w W : World) : Prop where
  bx : BigAt w.heap.size (y : Int) W
  br : WideAt (w.heap.size + 1) 0 0 W
  below : Below w.heap.size w W
structure ToS (x : Int) (w W : World) : Prop where
  bx : BigAt w.heap.size x W
  br : WideAt (w.heap.size + 1) 0 0 W
  below : Below w.heap.size w W
theorem ToS.up {x : Int} {w W X : World} (i : ToS x w W) (hb : Below W.heap.size W X) : ToS x w X := ⟨BigAt.below hb i.bx, WideAt.below hb i.br, bnext i.below hb⟩
theorem ToS.put {x : Int} {w W : World} (y : Nat) (i : ToS x w W) : ToI y w (W.setRow w.heap.size (bv (y : Int))) :=
  ⟨setRow_heap _ _ _ _ _ _ i.bx, by unfold WideAt; rw [setRow_other _ _ _ _ (by omega)]; exact i.br, Below.row i.below (Nat.le_refl _) _⟩
def ToRel (y : Nat) (w : World) (g : Nat) (s5 s6 s7 : Value) (W : World) : Prop :=
  ∃ k : Nat, g = k ∧ s5 = .int .u64 ((y / 65536 ^ k % 65536 ^ (4 - k) : Nat) : Int) ∧ s6 = .int .u64 ((y / 65536 ^ (k + 4) % 65536 ^ (4 - k) : Nat) : Int) ∧ s7 = .int .i64 ((k : Int) - 1) ∧ k ≤ 4 ∧ ToI y w W
theorem to_step (y k : Nat) (hk : k < 4) : y / 65536 ^ k % 65536 ^ (4 - k) = y / 65536 ^ (k + 1) % 65536 ^ (4 - (k + 1)) * 65536 + y / 65536 ^ k % 65536 := by
  have h1 : y / 65536 ^ (k + 1) = y / 65536 ^ k / 65536 := by rw [Nat.pow_succ, Nat.div_div_eq_div_mul]
  obtain ⟨m, hm⟩ : ∃ m, 4 - (k + 1) = m := ⟨_, rfl⟩
  rw [h1, hm, show 4 - k = m + 1 by omega]
  generalize y / 65536 ^ k = q
  rw [Nat.pow_succ, Nat.mul_comm (65536 ^ m) 65536, Nat.mod_mul]
  omega
theorem to_lt (y k : Nat) (hk : 1 ≤ k) : y % 65536 ^ (4 - k) < 281474976710656 := by
  have h1 : y % 65536 ^ (4 - k) < 65536 ^ (4 - k) := Nat.mod_lt _ (Nat.pow_pos (by omega))
  have h2 : 65536 ^ (4 - k) ≤ 65536 ^ 3 := Nat.pow_le_pow_right (by omega) (by omega)
  have h3 : (65536 : Nat) ^ 3 = 281474976710656 := by decide
  omega
set_option maxRecDepth 100000 in
set_option maxHeartbeats 4000000 in
theorem to_big (x t : Int) (w : World) (cT : Hid (Ans 20 #[.int .i64 127] (.agg (bv t)))) (cL : Hid (Ans 18 #[.agg (bv x), .agg (bv t)] (.bool false)))
    : Calls Try.prog 10 #[.agg (bv x)] w (fun e w' => e = .returned (.tuple #[.agg #[.int .i64 0, .int .u64 0], .bool false]) ∧ Below w.heap.size w w') := by
  go_enter Try.func10, Try.ntmps10
  go_wp2_with fail
  refine (cT.out _).mono ?_
  rintro e w1 ⟨rfl, hb1⟩
  have rX : BigAt w.heap.size x (w1.alloc (.cells (bv t) 27)) := step_row (BigAt.below hb1 (step_row (heap_alloc_new _ _)))
  have rR : WideAt (w.heap.size + 1) 0 0 (w1.alloc (.cells (bv t) 27)) := step_row (WideAt.below hb1 (heap_alloc2_new _ _ _))
  have rT : BigAt w1.heap.size t (w1.alloc (.cells (bv t) 27)) := heap_alloc_new _ _
  have hfalse : Below w.heap.size w w1 := (by go_grown : Below w.heap.size w ((w.alloc (.cells (bv x) 27)).alloc (.cells #[.int .i64 0, .int .u64 0] 24))).trans (hb1.mono (by simp; omega))
  have hBV : Below w.heap.size w (w1.alloc (.cells (bv t) 27)) := hfalse.alloc hfalse.size _
  have hsz : w.heap.size + 1 < w1.heap.size := by have := hb1.size; simp at this; omega
  clear hb1 hfalse
  go_wp2_with (refine wpList_store_new rfl 27 (.tmp 4) (.tmp 8) rfl w1.heap.size _ _ (bv t) rfl rfl rfl (bv_info _) (bv_same 0 _) (bv_one _) ?_)
  generalize (w1.alloc (.cells (bv t) 27)) = V at rX rR rT hBV ⊢
  generalize w1.heap.size = B at rT hsz ⊢
  have HX := Lib.hid rX
  have HR := Lib.hid rR
  have HT := Lib.hid rT
  have HBV := Lib.hid hBV
  clear rX rR rT hBV
  try rename_i KK hKK
  refine (wpIn_wide (n := 5)).1 (held_region (F := Fence.wide) (S := fun X => Below V.heap.size V X) (by kernel_rfl) (bdrew0 _ _ 1) (fun hHeld => ?_))
  refine held_take (fun _ => trivial) (by kernel_rfl) (i := 0) (oi := _) (v := .agg (bv x)) rfl (by kernel_rfl) (by kernel_rfl) (by kernel_rfl) (fun _ _ _ h => h) (by assumption) (Or.inl ⟨by kernel_rfl, ?_⟩) ?_
  · intro wz hSw; exact exec_load_row 27 (.tmp 1) (by kernel_rfl) (w.heap.size) (by kernel_rfl) _ _ _ _ (BigAt.below hSw HX.out) Try.underlying27 (by kernel_rfl) (bv_info _)
  (try simp only [Act.put, List.getElem_toArray, List.getElem_cons_zero, List.getElem_cons_succ, List.setIfInBounds_toArray, List.set_cons_zero, List.set_cons_succ])
  refine held_take (fun _ => trivial) (by kernel_rfl) (i := 1) (oi := _) (v := .agg (bv t)) rfl (by kernel_rfl) (by kernel_rfl) (by kernel_rfl) (fun _ _ _ h => h) (by assumption) (Or.inl ⟨by kernel_rfl, ?_⟩) ?_
  · intro wz hSw; exact exec_load_row 27 (.tmp 4) (by kernel_rfl) (B) (by kernel_rfl) _ _ _ _ (BigAt.below hSw HT.out) Try.underlying27 (by kernel_rfl) (bv_info _)
  (try simp only [Act.put, List.getElem_toArray, List.getElem_cons_zero, List.getElem_cons_succ, List.setIfInBounds_toArray, List.set_cons_zero, List.set_cons_succ])
  refine held_step (fun _ => trivial) (i := 2) (o := _) (by kernel_rfl) rfl (fun K hK => ?_)
  go_simp
  refine ⟨trivial, callsIn_wide.2 ((cL.out _).mono ?_)⟩
  rintro e x1 ⟨rfl, hb1⟩
  dsimp only
  refine hK.out _ _ (bnext hHeld hb1) (fun hHeld => ?_)
  clear hK K
  (try simp only [Act.put, List.getElem_toArray, List.getElem_cons_zero, List.getElem_cons_succ, List.setIfInBounds_toArray, List.set_cons_zero, List.set_cons_succ])
  refine held_take (fun _ => trivial) (by kernel_rfl) (i := 3) (oi := _) (v := ?_) rfl (by kernel_rfl) (by kernel_rfl) (by kernel_rfl) (fun _ _ _ h => h) (by assumption) (Or.inl ⟨by kernel_rfl, ?_⟩) ?_
  rotate_left
  · intro wz hSw; (first | (go_simp; done) | (go_simp; with_reducible rfl))
  (try simp only [Act.put, List.getElem_toArray, List.getElem_cons_zero, List.getElem_cons_succ, List.setIfInBounds_toArray, List.set_cons_zero, List.set_cons_succ])
  refine held_take (fun _ => trivial) (by kernel_rfl) (i := 4) (oi := _) (v := ?_) rfl (by kernel_rfl) (by kernel_rfl) (by kernel_rfl) (fun _ _ _ h => h) (by assumption) (Or.inl ⟨by kernel_rfl, ?_⟩) ?_
  rotate_left
  · intro wz hSw; (first | (go_simp; done) | (go_simp; with_reducible rfl))
  (try simp only [Act.put, List.getElem_toArray, List.getElem_cons_zero, List.getElem_cons_succ, List.setIfInBounds_toArray, List.set_cons_zero, List.set_cons_succ])
  refine held_take (fun _ => trivial) (by kernel_rfl) (i := 5) (oi := _) (v := undef) rfl (by kernel_rfl) (by kernel_rfl) (by kernel_rfl) (fun _ _ _ h => h) (by assumption) (Or.inr ⟨by kernel_rfl, rfl⟩) ?_
  (try simp only [Act.put, List.getElem_toArray, List.getElem_cons_zero, List.getElem_cons_succ, List.setIfInBounds_toArray, List.set_cons_zero, List.set_cons_succ])
  refine held_take (fun _ => trivial) (by kernel_rfl) (i := 6) (oi := _) (v := undef) rfl (by kernel_rfl) (by kernel_rfl) (by kernel_rfl) (fun _ _ _ h => h) (by assumption) (Or.inr ⟨by kernel_rfl, rfl⟩) ?_
  (try simp only [Act.put, List.getElem_toArray, List.getElem_cons_zero, List.getElem_cons_succ, List.setIfInBounds_toArray, List.set_cons_zero, List.set_cons_succ])
  refine held_step (fun _ => trivial) (i := 7) (o := _) (by kernel_rfl) rfl (fun K hK => ?_)
  go_simp
  refine hK.out _ _ (hHeld) (fun hHeld => ?_)
  clear hK K
  (try simp only [Act.put, List.getElem_toArray, List.getElem_cons_zero, List.getElem_cons_succ, List.setIfInBounds_toArray, List.set_cons_zero, List.set_cons_succ])
  refine held_step (fun _ => trivial) (i := 8) (o := _) (by kernel_rfl) rfl (fun K hK => ?_)
  go_simp
  refine hK.out _ _ (hHeld) (fun hHeld => ?_)
  clear hK K
  (try simp only [Act.put, List.getElem_toArray, List.getElem_cons_zero, List.getElem_cons_succ, List.setIfInBounds_toArray, List.set_cons_zero, List.set_cons_succ])
  refine held_take (fun _ => trivial) (by kernel_rfl) (i := 9) (oi := _) (v := ?_) rfl (by kernel_rfl) (by kernel_rfl) (by kernel_rfl) (fun _ _ _ h => h) (by assumption) (Or.inl ⟨by kernel_rfl, ?_⟩) ?_
  rotate_left
  · intro wz hSw; (first | (go_simp; done) | (go_simp; with_reducible rfl))
  (try simp only [Act.put, List.getElem_toArray, List.getElem_cons_zero, List.getElem_cons_succ, List.setIfInBounds_toArray, List.set_cons_zero, List.set_cons_succ])
  refine held_done (by kernel_rfl) ?_ _
  first | (refine hKK _ _ ?_) | skip
  have RR := Lib.hid (WideAt.below hHeld HR.out)
  have c0 := RR.out.c0
  have c1 := RR.out.c1
  have f0 := RR.out.fr 0
  have f1 := RR.out.fr 1
  have HB := Lib.hid (bnext HBV.out hHeld)
  clear hHeld
  go_wp2_with fail
  (try simp only [Exit.inBlock, Exit.then])
  refine bodyPost_ret (v := .tuple #[.agg #[.int .i64 0, .int .u64 0], .bool false]) (results_row_tmp rfl _ _ (w.heap.size + 1) _ _ _ _ _ rfl (WideAt.put2 (h := 0) (l := 0) RR.out) Try.underlying24 rfl (by kernel_rfl) rfl) rfl ?_
  exact ⟨rfl, Below.put2 HB.out (by omega) _ _⟩
set_option maxRecDepth 100000 in
set_option maxHeartbeats 4000000 in
theorem to_small (x t n : Int) (w : World) (cT : Hid (Ans 20 #[.int .i64 127] (.agg (bv t)))) (cL : Hid (Ans 18 #[.agg (bv x), .agg (bv t)] (.bool true))) (cN : Hid (Ans 17 #[.agg (bv t)] (.agg (bv n)))) (cL2 : Hid (Ans 18 #[.agg (bv x), .agg (bv n)] (.bool true)))
    : Calls Try.prog 10 #[.agg (bv x)] w (fun e w' => e = .returned (.tuple #[.agg #[.int .i64 0, .int .u64 0], .bool false]) ∧ Below w.heap.size w w') := by
  go_enter Try.func10, Try.ntmps10
  go_wp2_with fail
  refine (cT.out _).mono ?_
  rintro e w1 ⟨rfl, hb1⟩
  have rX : BigAt w.heap.size x (w1.alloc (.cells (bv t) 27)) := step_row (BigAt.below hb1 (step_row (heap_alloc_new _ _)))
  have rR : WideAt (w.heap.size + 1) 0 0 (w1.alloc (.cells (bv t) 27)) := step_row (WideAt.below hb1 (heap_alloc2_new _ _ _))
  have rT : BigAt w1.heap.size t (w1.alloc (.cells (bv t) 27)) := heap_alloc_new _ _
  have htrue : Below w.heap.size w w1 := (by go_grown : Below w.heap.size w ((w.alloc (.cells (bv x) 27)).alloc (.cells #[.int .i64 0, .int .u64 0] 24))).trans (hb1.mono (by simp; omega))
  have hBV : Below w.heap.size w (w1.alloc (.cells (bv t) 27)) := htrue.alloc htrue.size _
  have hsz : w.heap.size + 1 < w1.heap.size := by have := hb1.size; simp at this; omega
  clear hb1 htrue
  go_wp2_with (refine wpList_store_new rfl 27 (.tmp 4) (.tmp 8) rfl w1.heap.size _ _ (bv t) rfl rfl rfl (bv_info _) (bv_same 0 _) (bv_one _) ?_)
  generalize (w1.alloc (.cells (bv t) 27)) = V at rX rR rT hBV ⊢
  generalize w1.heap.size = B at rT hsz ⊢
  have HX := Lib.hid rX
  have HR := Lib.hid rR
  have HT := Lib.hid rT
  have HBV := Lib.hid hBV
  clear rX rR rT hBV
  try rename_i KK hKK
  refine (wpIn_wide (n := 5)).1 (held_region (F := Fence.wide) (S := fun X => Below V.heap.size V X) (by kernel_rfl) (bdrew0 _ _ 1) (fun hHeld => ?_))
  refine held_take (fun _ => trivial) (by kernel_rfl) (i := 0) (oi := _) (v := .agg (bv x)) rfl (by kernel_rfl) (by kernel_rfl) (by kernel_rfl) (fun _ _ _ h => h) (by assumption) (Or.inl ⟨by kernel_rfl, ?_⟩) ?_
  · intro wz hSw; exact exec_load_row 27 (.tmp 1) (by kernel_rfl) (w.heap.size) (by kernel_rfl) _ _ _ _ (BigAt.below hSw HX.out) Try.underlying27 (by kernel_rfl) (bv_info _)
  (try simp only [Act.put, List.getElem_toArray, List.getElem_cons_zero, List.getElem_cons_succ, List.setIfInBounds_toArray, List.set_cons_zero, List.set_cons_succ])
  refine held_take (fun _ => trivial) (by kernel_rfl) (i := 1) (oi := _) (v := .agg (bv t)) rfl (by kernel_rfl) (by kernel_rfl) (by kernel_rfl) (fun _ _ _ h => h) (by assumption) (Or.inl ⟨by kernel_rfl, ?_⟩) ?_
  · intro wz hSw; exact exec_load_row 27 (.tmp 4) (by kernel_rfl) (B) (by kernel_rfl) _ _ _ _ (BigAt.below hSw HT.out) Try.underlying27 (by kernel_rfl) (bv_info _)
  (try simp only [Act.put, List.getElem_toArray, List.getElem_cons_zero, List.getElem_cons_succ, List.setIfInBounds_toArray, List.set_cons_zero, List.set_cons_succ])
  refine held_step (fun _ => trivial) (i := 2) (o := _) (by kernel_rfl) rfl (fun K hK => ?_)
  go_simp
  refine ⟨trivial, callsIn_wide.2 ((cL.out _).mono ?_)⟩
  rintro e x1 ⟨rfl, hb1⟩
  dsimp only
  refine hK.out _ _ (bnext hHeld hb1) (fun hHeld => ?_)
  clear hK K
  (try simp only [Act.put, List.getElem_toArray, List.getElem_cons_zero, List.getElem_cons_succ, List.setIfInBounds_toArray, List.set_cons_zero, List.set_cons_succ])
  refine held_take (fun _ => trivial) (by kernel_rfl) (i := 3) (oi := _) (v := ?_) rfl (by kernel_rfl) (by kernel_rfl) (by kernel_rfl) (fun _ _ _ h => h) (by assumption) (Or.inl ⟨by kernel_rfl, ?_⟩) ?_
  rotate_left
  · intro wz hSw; (first | (go_simp; done) | (go_simp; with_reducible rfl))
  (try simp only [Act.put, List.getElem_toArray, List.getElem_cons_zero, List.getElem_cons_succ, List.setIfInBounds_toArray, List.set_cons_zero, List.set_cons_succ])
  refine held_take (fun _ => trivial) (by kernel_rfl) (i := 4) (oi := _) (v := ?_) rfl (by kernel_rfl) (by kernel_rfl) (by kernel_rfl) (fun _ _ _ h => h) (by assumption) (Or.inl ⟨by kernel_rfl, ?_⟩) ?_
  rotate_left
  · intro wz hSw; (first | (go_simp; done) | (go_simp; with_reducible rfl))
  (try simp only [Act.put, List.getElem_toArray, List.getElem_cons_zero, List.getElem_cons_succ, List.setIfInBounds_toArray, List.set_cons_zero, List.set_cons_succ])
  refine held_take (fun _ => trivial) (by kernel_rfl) (i := 5) (oi := _) (v := .agg (bv x)) rfl (by kernel_rfl) (by kernel_rfl) (by kernel_rfl) (fun _ _ _ h => h) (by assumption) (Or.inl ⟨by kernel_rfl, ?_⟩) ?_
  · intro wz hSw; exact exec_load_row 27 (.tmp 1) (by kernel_rfl) (w.heap.size) (by kernel_rfl) _ _ _ _ (BigAt.below hSw HX.out) Try.underlying27 (by kernel_rfl) (bv_info _)
  (try simp only [Act.put, List.getElem_toArray, List.getElem_cons_zero, List.getElem_cons_succ, List.setIfInBounds_toArray, List.set_cons_zero, List.set_cons_succ])
  refine held_take (fun _ => trivial) (by kernel_rfl) (i := 6) (oi := _) (v := .agg (bv t)) rfl (by kernel_rfl) (by kernel_rfl) (by kernel_rfl) (fun _ _ _ h => h) (by assumption) (Or.inl ⟨by kernel_rfl, ?_⟩) ?_
  · intro wz hSw; exact exec_load_row 27 (.tmp 4) (by kernel_rfl) (B) (by kernel_rfl) _ _ _ _ (BigAt.below hSw HT.out) Try.underlying27 (by kernel_rfl) (bv_info _)
  (try simp only [Act.put, List.getElem_toArray, List.getElem_cons_zero, List.getElem_cons_succ, List.setIfInBounds_toArray, List.set_cons_zero, List.set_cons_succ])
  refine held_step (fun _ => trivial) (i := 7) (o := _) (by kernel_rfl) rfl (fun K hK => ?_)
  go_simp
  refine ⟨trivial, callsIn_wide.2 ((cN.out _).mono ?_)⟩
  rintro e x2 ⟨rfl, hb2⟩
  dsimp only
  refine hK.out _ _ (bnext hHeld hb2) (fun hHeld => ?_)
  clear hK K
  (try simp only [Act.put, List.getElem_toArray, List.getElem_cons_zero, List.getElem_cons_succ, List.setIfInBounds_toArray, List.set_cons_zero, List.set_cons_succ])
  refine held_step (fun _ => trivial) (i := 8) (o := _) (by kernel_rfl) rfl (fun K hK => ?_)
  go_simp
  refine ⟨trivial, callsIn_wide.2 ((cL2.out _).mono ?_)⟩
  rintro e x3 ⟨rfl, hb3⟩
  dsimp only
  refine hK.out _ _ (bnext hHeld hb3) (fun hHeld => ?_)
  clear hK K
  (try simp only [Act.put, List.getElem_toArray, List.getElem_cons_zero, List.getElem_cons_succ, List.setIfInBounds_toArray, List.set_cons_zero, List.set_cons_succ])
  refine held_take (fun _ => trivial) (by kernel_rfl) (i := 9) (oi := _) (v := ?_) rfl (by kernel_rfl) (by kernel_rfl) (by kernel_rfl) (fun _ _ _ h => h) (by assumption) (Or.inl ⟨by kernel_rfl, ?_⟩) ?_
  rotate_left
  · intro wz hSw; (first | (go_simp; done) | (go_simp; with_reducible rfl))
  (try simp only [Act.put, List.getElem_toArray, List.getElem_cons_zero, List.getElem_cons_succ, List.setIfInBounds_toArray, List.set_cons_zero, List.set_cons_succ])
  refine held_done (by kernel_rfl) ?_ _
  first | (refine hKK _ _ ?_) | skip
  have RR := Lib.hid (WideAt.below hHeld HR.out)
  have c0 := RR.out.c0
  have c1 := RR.out.c1
  have f0 := RR.out.fr 0
  have f1 := RR.out.fr 1
  have HB := Lib.hid (bnext HBV.out hHeld)
  clear hHeld
  go_wp2_with fail
  (try simp only [Exit.inBlock, Exit.then])
  refine bodyPost_ret (v := .tuple #[.agg #[.int .i64 0, .int .u64 0], .bool false]) (results_row_tmp rfl _ _ (w.heap.size + 1) _ _ _ _ _ rfl (WideAt.put2 (h := 0) (l := 0) RR.out) Try.underlying24 rfl (by kernel_rfl) rfl) rfl ?_
  exact ⟨rfl, Below.put2 HB.out (by omega) _ _⟩
set_option maxRecDepth 100000 in
set_option maxHeartbeats 4000000 in
theorem to_pos (x t n : Int) (y lo hi : Nat) (h : Int) (w : World) (cT : Hid (Ans 20 #[.int .i64 127] (.agg (bv t)))) (cL : Hid (Ans 18 #[.agg (bv x), .agg (bv t)] (.bool true))) (cN : Hid (Ans 17 #[.agg (bv t)] (.agg (bv n)))) (cL2 : Hid (Ans 18 #[.agg (bv x), .agg (bv n)] (.bool false))) (hlo : Hid (y % 65536 ^ 4 = lo)) (hhi : Hid (y / 65536 ^ 4 % 65536 ^ 4 = hi)) (hh : IntKind.i64.wrap (hi : Int) = h) (hxy : Hid (x = (y : Int)))
    : Calls Try.prog 10 #[.agg (bv x)] w (fun e w' => e = .returned (.tuple #[.agg #[.int .i64 h, .int .u64 lo], .bool true]) ∧ Below w.heap.size w w') := by
  go_enter Try.func10, Try.ntmps10
  go_wp2_with fail
  refine (cT.out _).mono ?_
  rintro e w1 ⟨rfl, hb1⟩
  have rX : BigAt w.heap.size x (w1.alloc (.cells (bv t) 27)) := step_row (BigAt.below hb1 (step_row (heap_alloc_new _ _)))
  have rR : WideAt (w.heap.size + 1) 0 0 (w1.alloc (.cells (bv t) 27)) := step_row (WideAt.below hb1 (heap_alloc2_new _ _ _))
  have rT : BigAt w1.heap.size t (w1.alloc (.cells (bv t) 27)) := heap_alloc_new _ _
  have htrue : Below w.heap.size w w1 := (by go_grown : Below w.heap.size w ((w.alloc (.cells (bv x) 27)).alloc (.cells #[.int .i64 0, .int .u64 0] 24))).trans (hb1.mono (by simp; omega))
  have hBV : Below w.heap.size w (w1.alloc (.cells (bv t) 27)) := htrue.alloc htrue.size _
  have hsz : w.heap.size + 1 < w1.heap.size := by have := hb1.size; simp at this; omega
  clear hb1 htrue
  go_wp2_with (refine wpList_store_new rfl 27 (.tmp 4) (.tmp 8) rfl w1.heap.size _ _ (bv t) rfl rfl rfl (bv_info _) (bv_same 0 _) (bv_one _) ?_)
  generalize (w1.alloc (.cells (bv t) 27)) = V at rX rR rT hBV ⊢
  generalize w1.heap.size = B at rT hsz ⊢
  have HX := Lib.hid rX
  have HR := Lib.hid rR
  have HT := Lib.hid rT
  have HBV := Lib.hid hBV
  clear rX rR rT hBV
  try rename_i KK hKK
  refine (wpIn_wide (n := 5)).1 (held_region (F := Fence.wide) (S := fun X => Below V.heap.size V X) (by kernel_rfl) (bdrew0 _ _ 1) (fun hHeld => ?_))
  refine held_take (fun _ => trivial) (by kernel_rfl) (i := 0) (oi := _) (v := .agg (bv x)) rfl (by kernel_rfl) (by kernel_rfl) (by kernel_rfl) (fun _ _ _ h => h) (by assumption) (Or.inl ⟨by kernel_rfl, ?_⟩) ?_
  · intro wz hSw; exact exec_load_row 27 (.tmp 1) (by kernel_rfl) (w.heap.size) (by kernel_rfl) _ _ _ _ (BigAt.below hSw HX.out) Try.underlying27 (by kernel_rfl) (bv_info _)
  (try simp only [Act.put, List.getElem_toArray, List.getElem_cons_zero, List.getElem_cons_succ, List.setIfInBounds_toArray, List.set_cons_zero, List.set_cons_succ])
  refine held_take (fun _ => trivial) (by kernel_rfl) (i := 1) (oi := _) (v := .agg (bv t)) rfl (by kernel_rfl) (by kernel_rfl) (by kernel_rfl) (fun _ _ _ h => h) (by assumption) (Or.inl ⟨by kernel_rfl, ?_⟩) ?_
  · intro wz hSw; exact exec_load_row 27 (.tmp 4) (by kernel_rfl) (B) (by kernel_rfl) _ _ _ _ (BigAt.below hSw HT.out) Try.underlying27 (by kernel_rfl) (bv_info _)
  (try simp only [Act.put, List.getElem_toArray, List.getElem_cons_zero, List.getElem_cons_succ, List.setIfInBounds_toArray, List.set_cons_zero, List.set_cons_succ])
  refine held_step (fun _ => trivial) (i := 2) (o := _) (by kernel_rfl) rfl (fun K hK => ?_)
  go_simp
  refine ⟨trivial, callsIn_wide.2 ((cL.out _).mono ?_)⟩
  rintro e x1 ⟨rfl, hb1⟩
  dsimp only
  refine hK.out _ _ (bnext hHeld hb1) (fun hHeld => ?_)
  clear hK K
  (try simp only [Act.put, List.getElem_toArray, List.getElem_cons_zero, List.getElem_cons_succ, List.setIfInBounds_toArray, List.set_cons_zero, List.set_cons_succ])
  refine held_take (fun _ => trivial) (by kernel_rfl) (i := 3) (oi := _) (v := ?_) rfl (by kernel_rfl) (by kernel_rfl) (by kernel_rfl) (fun _ _ _ h => h) (by assumption) (Or.inl ⟨by kernel_rfl, ?_⟩) ?_
  rotate_left
  · intro wz hSw; (first | (go_simp; done) | (go_simp; with_reducible rfl))
  (try simp only [Act.put, List.getElem_toArray, List.getElem_cons_zero, List.getElem_cons_succ, List.setIfInBounds_toArray, List.set_cons_zero, List.set_cons_succ])
  refine held_take (fun _ => trivial) (by kernel_rfl) (i := 4) (oi := _) (v := ?_) rfl (by kernel_rfl) (by kernel_rfl) (by kernel_rfl) (fun _ _ _ h => h) (by assumption) (Or.inl ⟨by kernel_rfl, ?_⟩) ?_
  rotate_left
  · intro wz hSw; (first | (go_simp; done) | (go_simp; with_reducible rfl))
  (try simp only [Act.put, List.getElem_toArray, List.getElem_cons_zero, List.getElem_cons_succ, List.setIfInBounds_toArray, List.set_cons_zero, List.set_cons_succ])
  refine held_take (fun _ => trivial) (by kernel_rfl) (i := 5) (oi := _) (v := .agg (bv x)) rfl (by kernel_rfl) (by kernel_rfl) (by kernel_rfl) (fun _ _ _ h => h) (by assumption) (Or.inl ⟨by kernel_rfl, ?_⟩) ?_
  · intro wz hSw; exact exec_load_row 27 (.tmp 1) (by kernel_rfl) (w.heap.size) (by kernel_rfl) _ _ _ _ (BigAt.below hSw HX.out) Try.underlying27 (by kernel_rfl) (bv_info _)
  (try simp only [Act.put, List.getElem_toArray, List.getElem_cons_zero, List.getElem_cons_succ, List.setIfInBounds_toArray, List.set_cons_zero, List.set_cons_succ])
  refine held_take (fun _ => trivial) (by kernel_rfl) (i := 6) (oi := _) (v := .agg (bv t)) rfl (by kernel_rfl) (by kernel_rfl) (by kernel_rfl) (fun _ _ _ h => h) (by assumption) (Or.inl ⟨by kernel_rfl, ?_⟩) ?_
  · intro wz hSw; exact exec_load_row 27 (.tmp 4) (by kernel_rfl) (B) (by kernel_rfl) _ _ _ _ (BigAt.below hSw HT.out) Try.underlying27 (by kernel_rfl) (bv_info _)
  (try simp only [Act.put, List.getElem_toArray, List.getElem_cons_zero, List.getElem_cons_succ, List.setIfInBounds_toArray, List.set_cons_zero, List.set_cons_succ])
  refine held_step (fun _ => trivial) (i := 7) (o := _) (by kernel_rfl) rfl (fun K hK => ?_)
  go_simp
  refine ⟨trivial, callsIn_wide.2 ((cN.out _).mono ?_)⟩
  rintro e x2 ⟨rfl, hb2⟩
  dsimp only
  refine hK.out _ _ (bnext hHeld hb2) (fun hHeld => ?_)
  clear hK K
  (try simp only [Act.put, List.getElem_toArray, List.getElem_cons_zero, List.getElem_cons_succ, List.setIfInBounds_toArray, List.set_cons_zero, List.set_cons_succ])
  refine held_step (fun _ => trivial) (i := 8) (o := _) (by kernel_rfl) rfl (fun K hK => ?_)
  go_simp
  refine ⟨trivial, callsIn_wide.2 ((cL2.out _).mono ?_)⟩
  rintro e x3 ⟨rfl, hb3⟩
  dsimp only
  refine hK.out _ _ (bnext hHeld hb3) (fun hHeld => ?_)
  clear hK K
  (try simp only [Act.put, List.getElem_toArray, List.getElem_cons_zero, List.getElem_cons_succ, List.setIfInBounds_toArray, List.set_cons_zero, List.set_cons_succ])
  refine held_take (fun _ => trivial) (by kernel_rfl) (i := 9) (oi := _) (v := ?_) rfl (by kernel_rfl) (by kernel_rfl) (by kernel_rfl) (fun _ _ _ h => h) (by assumption) (Or.inl ⟨by kernel_rfl, ?_⟩) ?_
  rotate_left
  · intro wz hSw; (first | (go_simp; done) | (go_simp; with_reducible rfl))
  (try simp only [Act.put, List.getElem_toArray, List.getElem_cons_zero, List.getElem_cons_succ, List.setIfInBounds_toArray, List.set_cons_zero, List.set_cons_succ])
  refine held_done (by kernel_rfl) ?_ _
  first | (refine hKK _ _ ?_) | skip
  have rX2 := BigAt.below hHeld HX.out
  have rR2 := WideAt.below hHeld HR.out
  have HB := bnext HBV.out hHeld
  rw [hxy.out] at rX2
  have hd := rX2.head
  rw [decide_eq_false (by omega)] at hd
  have HI0 : Hid (ToI y w x3) := Lib.hid ⟨rX2, rR2, HB⟩
  clear hHeld HX HT HR HBV rX2 rR2 HB hsz
  go_wp2_with fail
  go_loopg [5, 6, 7] 4 (ToRel y w)
  case atStart => exact ⟨4, rfl, by simp [Nat.mod_one], by simp [Nat.mod_one], rfl, by omega, HI0.out⟩
  case round =>
    clear HI0
    obtain ⟨k, rfl, rfl, rfl, rfl, hk4, I⟩ := hrel
    cases gk with
    | succ k =>
      obtain ⟨a, ha⟩ : ∃ a, y / 65536 ^ (k + 1) % 65536 ^ (4 - (k + 1)) = a := ⟨_, rfl⟩
      obtain ⟨b, hb⟩ : ∃ b, y / 65536 ^ (k + 1 + 4) % 65536 ^ (4 - (k + 1)) = b := ⟨_, rfl⟩
      obtain ⟨d, hd⟩ : ∃ d, y / 65536 ^ k % 65536 = d := ⟨_, rfl⟩
      obtain ⟨f, hf⟩ : ∃ f, y / 65536 ^ (k + 4) % 65536 = f := ⟨_, rfl⟩
      obtain ⟨k4, hk5⟩ : ∃ k4, k + 4 = k4 := ⟨_, rfl⟩
      have al : a < 281474976710656 := by rw [← ha]; exact to_lt _ _ (by omega)
      have bl : b < 281474976710656 := by rw [← hb]; exact to_lt _ _ (by omega)
      have dl : d < 65536 := by omega
      have fl : f < 65536 := by omega
      have N1 : Hid (y / 65536 ^ k % 65536 ^ (4 - k) = a * 65536 + d) := Lib.hid (by rw [to_step y k (by omega), ha, hd])
      have N2 : Hid (y / 65536 ^ (k + 4) % 65536 ^ (4 - k) = b * 65536 + f) := Lib.hid (by
        have := to_step (y / 65536 ^ 4) k (by omega)
        rw [Nat.div_div_eq_div_mul, Nat.div_div_eq_div_mul, ← Nat.pow_add, ← Nat.pow_add, Nat.add_comm 4 k, show 4 + (k + 1) = k + 1 + 4 by omega, hb, hf] at this
        exact this)
      have cz : wr.cell? ⟨w.heap.size, 1 + k, none⟩ = some (.int .u64 (d : Int)) := by rw [I.bx.dig k (by omega), Int.natAbs_natCast, hd]
      have cy : wr.cell? ⟨w.heap.size, 1 + k4, none⟩ = some (.int .u64 (f : Int)) := by rw [I.bx.dig k4 (by omega), Int.natAbs_natCast, ← hk5, hf]
      have s1 : (((k + 1 : Nat) : Int) - 1) = (k : Int) := by omega
      have HI := Lib.hid I
      have k0 : (0 : Int) ≤ (k : Int) := by omega
      have k1 : (k : Int) < 20 := by omega
      have k00 : (0 : Int) ≤ (k4 : Int) := by omega
      have k11 : (k4 : Int) < 20 := by omega
      have E0 : IntKind.i64.wrap ((k : Int) + 4) = (k4 : Int) := by rw [IntKind.wrap_i64]; omega
      have E00 : (k : Int) + 4 = (k4 : Int) := by omega
      have E1 : IntKind.u64.wrap ((a : Int) * 65536) = ((a * 65536 : Nat) : Int) := by rw [IntKind.wrap_u64]; omega
      have E2 : IntKind.u64.wrap (((a * 65536 : Nat) : Int) + (d : Int)) = ((a * 65536 + d : Nat) : Int) := by rw [IntKind.wrap_u64]; omega
      have E3 : IntKind.u64.wrap ((b : Int) * 65536) = ((b * 65536 : Nat) : Int) := by rw [IntKind.wrap_u64]; omega
      have E4 : IntKind.u64.wrap (((b * 65536 : Nat) : Int) + (f : Int)) = ((b * 65536 + f : Nat) : Int) := by rw [IntKind.wrap_u64]; omega
      obtain ⟨A1, hA1⟩ : ∃ A1, a * 65536 = A1 := ⟨_, rfl⟩
      obtain ⟨A2, hA2⟩ : ∃ A2, A1 + d = A2 := ⟨_, rfl⟩
      obtain ⟨B1, hB1⟩ : ∃ B1, b * 65536 = B1 := ⟨_, rfl⟩
      obtain ⟨B2, hB2⟩ : ∃ B2, B1 + f = B2 := ⟨_, rfl⟩
      rw [hA1] at E1 E2
      rw [hA2] at E2
      rw [hB1] at E3 E4
      rw [hB2] at E4
      rw [ha, hb, s1]
      have N3 : Hid (y / 65536 ^ k % 65536 ^ (4 - k) = A2) := Lib.hid (by rw [N1.out, hA1, hA2])
      have N4 : Hid (y / 65536 ^ (k + 4) % 65536 ^ (4 - k) = B2) := Lib.hid (by rw [N2.out, hB1, hB2])
      clear I ha hb hd hf hk5 s1 hA1 hA2 hB1 hB2 N1 N2 al bl dl fl
      go_wp2_with fail
      go_roundg k
      case measure => omega
      case rel =>
        refine ⟨k, rfl, ?_, ?_, ?_, by omega, HI.out⟩
        · rw [N3.out]
        · rw [N4.out]
        · go_num
    | zero =>
      have HI := Lib.hid I
      have e1 : y / 65536 ^ 0 % 65536 ^ (4 - 0) = lo := by rw [Nat.pow_zero, Nat.div_one]; exact hlo.out
      have e2 : y / 65536 ^ (0 + 4) % 65536 ^ (4 - 0) = hi := hhi.out
      rw [e1, e2]
      have BR := Lib.hid I.br
      clear I e1 e2
      have n0 : ¬ (0 : Int) ≤ ((0 : Nat) : Int) - 1 := by omega
      have c0 := BR.out.c0
      have c1 := BR.out.c1
      have f0 := BR.out.fr 0
      have f1 := BR.out.fr 1
      go_wp2_with fail
      (try simp only [Exit.inBlock, Exit.then])
      refine bodyPost_ret (v := .tuple #[.agg #[.int .i64 h, .int .u64 lo], .bool true]) (results_row_tmp rfl _ _ (w.heap.size + 1) _ _ _ _ _ rfl (WideAt.put2 (h := h) (l := lo) BR.out) Try.underlying24 rfl (by kernel_rfl) rfl) rfl ?_
      exact ⟨rfl, Below.put2 HI.out.below (by omega) _ _⟩
set_option maxRecDepth 100000 in
set_option maxHeartbeats 4000000 in
theorem to_neg (x t n t2 : Int) (y lo hi : Nat) (h : Int) (w : World) (cT : Hid (Ans 20 #[.int .i64 127] (.agg (bv t)))) (cL : Hid (Ans 18 #[.agg (bv x), .agg (bv t)] (.bool true))) (cN : Hid (Ans 17 #[.agg (bv t)] (.agg (bv n)))) (cL2 : Hid (Ans 18 #[.agg (bv x), .agg (bv n)] (.bool false))) (hlo : Hid (y % 65536 ^ 4 = lo)) (hhi : Hid (y / 65536 ^ 4 % 65536 ^ 4 = hi)) (hh : IntKind.i64.wrap (hi : Int) = h) (hneg : Hid (x < 0)) (cT2 : Hid (Ans 20 #[.int .i64 128] (.agg (bv t2)))) (cA : Hid (Ans 15 #[.agg (bv x), .agg (bv t2)] (.agg (bv (y : Int)))))
    : Calls Try.prog 10 #[.agg (bv x)] w (fun e w' => e = .returned (.tuple #[.agg #[.int .i64 h, .int .u64 lo], .bool true]) ∧ Below w.heap.size w w') := by
  go_enter Try.func10, Try.ntmps10
  go_wp2_with fail
  refine (cT.out _).mono ?_
  rintro e w1 ⟨rfl, hb1⟩
  have rX : BigAt w.heap.size x (w1.alloc (.cells (bv t) 27)) := step_row (BigAt.below hb1 (step_row (heap_alloc_new _ _)))
  have rR : WideAt (w.heap.size + 1) 0 0 (w1.alloc (.cells (bv t) 27)) := step_row (WideAt.below hb1 (heap_alloc2_new _ _ _))
  have rT : BigAt w1.heap.size t (w1.alloc (.cells (bv t) 27)) := heap_alloc_new _ _
  have htrue : Below w.heap.size w w1 := (by go_grown : Below w.heap.size w ((w.alloc (.cells (bv x) 27)).alloc (.cells #[.int .i64 0, .int .u64 0] 24))).trans (hb1.mono (by simp; omega))
  have hBV : Below w.heap.size w (w1.alloc (.cells (bv t) 27)) := htrue.alloc htrue.size _
  have hsz : w.heap.size + 1 < w1.heap.size := by have := hb1.size; simp at this; omega
  clear hb1 htrue
  go_wp2_with (refine wpList_store_new rfl 27 (.tmp 4) (.tmp 8) rfl w1.heap.size _ _ (bv t) rfl rfl rfl (bv_info _) (bv_same 0 _) (bv_one _) ?_)
  generalize (w1.alloc (.cells (bv t) 27)) = V at rX rR rT hBV ⊢
  generalize w1.heap.size = B at rT hsz ⊢
  have HX := Lib.hid rX
  have HR := Lib.hid rR
  have HT := Lib.hid rT
  have HBV := Lib.hid hBV
  clear rX rR rT hBV
  try rename_i KK hKK
  refine (wpIn_wide (n := 5)).1 (held_region (F := Fence.wide) (S := fun X => Below V.heap.size V X) (by kernel_rfl) (bdrew0 _ _ 1) (fun hHeld => ?_))
  refine held_take (fun _ => trivial) (by kernel_rfl) (i := 0) (oi := _) (v := .agg (bv x)) rfl (by kernel_rfl) (by kernel_rfl) (by kernel_rfl) (fun _ _ _ h => h) (by assumption) (Or.inl ⟨by kernel_rfl, ?_⟩) ?_
  · intro wz hSw; exact exec_load_row 27 (.tmp 1) (by kernel_rfl) (w.heap.size) (by kernel_rfl) _ _ _ _ (BigAt.below hSw HX.out) Try.underlying27 (by kernel_rfl) (bv_info _)
  (try simp only [Act.put, List.getElem_toArray, List.getElem_cons_zero, List.getElem_cons_succ, List.setIfInBounds_toArray, List.set_cons_zero, List.set_cons_succ])
  refine held_take (fun _ => trivial) (by kernel_rfl) (i := 1) (oi := _) (v := .agg (bv t)) rfl (by kernel_rfl) (by kernel_rfl) (by kernel_rfl) (fun _ _ _ h => h) (by assumption) (Or.inl ⟨by kernel_rfl, ?_⟩) ?_
  · intro wz hSw; exact exec_load_row 27 (.tmp 4) (by kernel_rfl) (B) (by kernel_rfl) _ _ _ _ (BigAt.below hSw HT.out) Try.underlying27 (by kernel_rfl) (bv_info _)
  (try simp only [Act.put, List.getElem_toArray, List.getElem_cons_zero, List.getElem_cons_succ, List.setIfInBounds_toArray, List.set_cons_zero, List.set_cons_succ])
  refine held_step (fun _ => trivial) (i := 2) (o := _) (by kernel_rfl) rfl (fun K hK => ?_)
  go_simp
  refine ⟨trivial, callsIn_wide.2 ((cL.out _).mono ?_)⟩
  rintro e x1 ⟨rfl, hb1⟩
  dsimp only
  refine hK.out _ _ (bnext hHeld hb1) (fun hHeld => ?_)
  clear hK K
  (try simp only [Act.put, List.getElem_toArray, List.getElem_cons_zero, List.getElem_cons_succ, List.setIfInBounds_toArray, List.set_cons_zero, List.set_cons_succ])
  refine held_take (fun _ => trivial) (by kernel_rfl) (i := 3) (oi := _) (v := ?_) rfl (by kernel_rfl) (by kernel_rfl) (by kernel_rfl) (fun _ _ _ h => h) (by assumption) (Or.inl ⟨by kernel_rfl, ?_⟩) ?_
  rotate_left
  · intro wz hSw; (first | (go_simp; done) | (go_simp; with_reducible rfl))
  (try simp only [Act.put, List.getElem_toArray, List.getElem_cons_zero, List.getElem_cons_succ, List.setIfInBounds_toArray, List.set_cons_zero, List.set_cons_succ])
  refine held_take (fun _ => trivial) (by kernel_rfl) (i := 4) (oi := _) (v := ?_) rfl (by kernel_rfl) (by kernel_rfl) (by kernel_rfl) (fun _ _ _ h => h) (by assumption) (Or.inl ⟨by kernel_rfl, ?_⟩) ?_
  rotate_left
  · intro wz hSw; (first | (go_simp; done) | (go_simp; with_reducible rfl))
  (try simp only [Act.put, List.getElem_toArray, List.getElem_cons_zero, List.getElem_cons_succ, List.setIfInBounds_toArray, List.set_cons_zero, List.set_cons_succ])
  refine held_take (fun _ => trivial) (by kernel_rfl) (i := 5) (oi := _) (v := .agg (bv x)) rfl (by kernel_rfl) (by kernel_rfl) (by kernel_rfl) (fun _ _ _ h => h) (by assumption) (Or.inl ⟨by kernel_rfl, ?_⟩) ?_
  · intro wz hSw; exact exec_load_row 27 (.tmp 1) (by kernel_rfl) (w.heap.size) (by kernel_rfl) _ _ _ _ (BigAt.below hSw HX.out) Try.underlying27 (by kernel_rfl) (bv_info _)
  (try simp only [Act.put, List.getElem_toArray, List.getElem_cons_zero, List.getElem_cons_succ, List.setIfInBounds_toArray, List.set_cons_zero, List.set_cons_succ])
  refine held_take (fun _ => trivial) (by kernel_rfl) (i := 6) (oi := _) (v := .agg (bv t)) rfl (by kernel_rfl) (by kernel_rfl) (by kernel_rfl) (fun _ _ _ h => h) (by assumption) (Or.inl ⟨by kernel_rfl, ?_⟩) ?_
  · intro wz hSw; exact exec_load_row 27 (.tmp 4) (by kernel_rfl) (B) (by kernel_rfl) _ _ _ _ (BigAt.below hSw HT.out) Try.underlying27 (by kernel_rfl) (bv_info _)
  (try simp only [Act.put, List.getElem_toArray, List.getElem_cons_zero, List.getElem_cons_succ, List.setIfInBounds_toArray, List.set_cons_zero, List.set_cons_succ])
  refine held_step (fun _ => trivial) (i := 7) (o := _) (by kernel_rfl) rfl (fun K hK => ?_)
  go_simp
  refine ⟨trivial, callsIn_wide.2 ((cN.out _).mono ?_)⟩
  rintro e x2 ⟨rfl, hb2⟩
  dsimp only
  refine hK.out _ _ (bnext hHeld hb2) (fun hHeld => ?_)
  clear hK K
  (try simp only [Act.put, List.getElem_toArray, List.getElem_cons_zero, List.getElem_cons_succ, List.setIfInBounds_toArray, List.set_cons_zero, List.set_cons_succ])
  refine held_step (fun _ => trivial) (i := 8) (o := _) (by kernel_rfl) rfl (fun K hK => ?_)
  go_simp
  refine ⟨trivial, callsIn_wide.2 ((cL2.out _).mono ?_)⟩
  rintro e x3 ⟨rfl, hb3⟩
  dsimp only
  refine hK.out _ _ (bnext hHeld hb3) (fun hHeld => ?_)
  clear hK K
  (try simp only [Act.put, List.getElem_toArray, List.getElem_cons_zero, List.getElem_cons_succ, List.setIfInBounds_toArray, List.set_cons_zero, List.set_cons_succ])
  refine held_take (fun _ => trivial) (by kernel_rfl) (i := 9) (oi := _) (v := ?_) rfl (by kernel_rfl) (by kernel_rfl) (by kernel_rfl) (fun _ _ _ h => h) (by assumption) (Or.inl ⟨by kernel_rfl, ?_⟩) ?_
  rotate_left
  · intro wz hSw; (first | (go_simp; done) | (go_simp; with_reducible rfl))
  (try simp only [Act.put, List.getElem_toArray, List.getElem_cons_zero, List.getElem_cons_succ, List.setIfInBounds_toArray, List.set_cons_zero, List.set_cons_succ])
  refine held_done (by kernel_rfl) ?_ _
  first | (refine hKK _ _ ?_) | skip
  have rX2 := BigAt.below hHeld HX.out
  have rR2 := WideAt.below hHeld HR.out
  have HB := bnext HBV.out hHeld
  have hd := rX2.head
  rw [decide_eq_true hneg.out] at hd
  have HX2 := Lib.hid rX2
  have HR2 := Lib.hid rR2
  have HBB := Lib.hid HB
  clear hHeld HX HT HR HBV rX2 rR2 HB hsz
  go_wp2_with fail
  try rename_i KK2 hKK2
  have HTT : ∀ (X : World), ToI y w X → KK2 { tmps := #[.agg (bv x), .pointer (some ⟨w.heap.size, 0, none⟩), .pointer (some ⟨w.heap.size + 1, 0, none⟩), .bool false, .pointer (some ⟨B, 0, none⟩), undef, undef, undef, .agg (bv t), .agg (bv x), .agg (bv t), .bool true, .bool false, .bool false, .agg (bv x), .agg (bv t), .agg (bv n), .bool false, .bool false, undef, .pointer (some ⟨w.heap.size, 0, none⟩), .bool true, .agg (bv x), .agg (bv t2), .agg (bv (y : Int)), undef, undef, undef, undef, undef, undef, undef, undef, undef, undef, undef, undef, undef, undef, undef, undef, undef, undef, undef, undef, undef, undef, undef], defers := [] } X := by
    intro X hX
    refine hKK2 _ _ ?_
    have HI0 := Lib.hid hX
    clear hX
    go_wp2_with fail
    go_loopg [5, 6, 7] 4 (ToRel y w)
    case atStart => exact ⟨4, rfl, by simp [Nat.mod_one], by simp [Nat.mod_one], rfl, by omega, HI0.out⟩
    case round =>
      clear HI0
      obtain ⟨k, rfl, rfl, rfl, rfl, hk4, I⟩ := hrel
      cases gk with
      | succ k =>
        obtain ⟨a, ha⟩ : ∃ a, y / 65536 ^ (k + 1) % 65536 ^ (4 - (k + 1)) = a := ⟨_, rfl⟩
        obtain ⟨b, hb⟩ : ∃ b, y / 65536 ^ (k + 1 + 4) % 65536 ^ (4 - (k + 1)) = b := ⟨_, rfl⟩
        obtain ⟨d, hd⟩ : ∃ d, y / 65536 ^ k % 65536 = d := ⟨_, rfl⟩
        obtain ⟨f, hf⟩ : ∃ f, y / 65536 ^ (k + 4) % 65536 = f := ⟨_, rfl⟩
        obtain ⟨k4, hk5⟩ : ∃ k4, k + 4 = k4 := ⟨_, rfl⟩
        have al : a < 281474976710656 := by rw [← ha]; exact to_lt _ _ (by omega)
        have bl : b < 281474976710656 := by rw [← hb]; exact to_lt _ _ (by omega)
        have dl : d < 65536 := by omega
        have fl : f < 65536 := by omega
        have N1 : Hid (y / 65536 ^ k % 65536 ^ (4 - k) = a * 65536 + d) := Lib.hid (by rw [to_step y k (by omega), ha, hd])
        have N2 : Hid (y / 65536 ^ (k + 4) % 65536 ^ (4 - k) = b * 65536 + f) := Lib.hid (by
          have := to_step (y / 65536 ^ 4) k (by omega)
          rw [Nat.div_div_eq_div_mul, Nat.div_div_eq_div_mul, ← Nat.pow_add, ← Nat.pow_add, Nat.add_comm 4 k, show 4 + (k + 1) = k + 1 + 4 by omega, hb, hf] at this
          exact this)
        have cz : wr.cell? ⟨w.heap.size, 1 + k, none⟩ = some (.int .u64 (d : Int)) := by rw [I.bx.dig k (by omega), Int.natAbs_natCast, hd]
        have cy : wr.cell? ⟨w.heap.size, 1 + k4, none⟩ = some (.int .u64 (f : Int)) := by rw [I.bx.dig k4 (by omega), Int.natAbs_natCast, ← hk5, hf]
        have s1 : (((k + 1 : Nat) : Int) - 1) = (k : Int) := by omega
        have HI := Lib.hid I
        have k0 : (0 : Int) ≤ (k : Int) := by omega
        have k1 : (k : Int) < 20 := by omega
        have k00 : (0 : Int) ≤ (k4 : Int) := by omega
        have k11 : (k4 : Int) < 20 := by omega
        have E0 : IntKind.i64.wrap ((k : Int) + 4) = (k4 : Int) := by rw [IntKind.wrap_i64]; omega
        have E00 : (k : Int) + 4 = (k4 : Int) := by omega
        have E1 : IntKind.u64.wrap ((a : Int) * 65536) = ((a * 65536 : Nat) : Int) := by rw [IntKind.wrap_u64]; omega
        have E2 : IntKind.u64.wrap (((a * 65536 : Nat) : Int) + (d : Int)) = ((a * 65536 + d : Nat) : Int) := by rw [IntKind.wrap_u64]; omega
        have E3 : IntKind.u64.wrap ((b : Int) * 65536) = ((b * 65536 : Nat) : Int) := by rw [IntKind.wrap_u64]; omega
        have E4 : IntKind.u64.wrap (((b * 65536 : Nat) : Int) + (f : Int)) = ((b * 65536 + f : Nat) : Int) := by rw [IntKind.wrap_u64]; omega
        obtain ⟨A1, hA1⟩ : ∃ A1, a * 65536 = A1 := ⟨_, rfl⟩
        obtain ⟨A2, hA2⟩ : ∃ A2, A1 + d = A2 := ⟨_, rfl⟩
        obtain ⟨B1, hB1⟩ : ∃ B1, b * 65536 = B1 := ⟨_, rfl⟩
        obtain ⟨B2, hB2⟩ : ∃ B2, B1 + f = B2 := ⟨_, rfl⟩
        rw [hA1] at E1 E2
        rw [hA2] at E2
        rw [hB1] at E3 E4
        rw [hB2] at E4
        rw [ha, hb, s1]
        have N3 : Hid (y / 65536 ^ k % 65536 ^ (4 - k) = A2) := Lib.hid (by rw [N1.out, hA1, hA2])
        have N4 : Hid (y / 65536 ^ (k + 4) % 65536 ^ (4 - k) = B2) := Lib.hid (by rw [N2.out, hB1, hB2])
        clear I ha hb hd hf hk5 s1 hA1 hA2 hB1 hB2 N1 N2 al bl dl fl
        go_wp2_with fail
        go_roundg k
        case measure => omega
        case rel =>
          refine ⟨k, rfl, ?_, ?_, ?_, by omega, HI.out⟩
          · rw [N3.out]
          · rw [N4.out]
          · go_num
      | zero =>
        have HI := Lib.hid I
        have e1 : y / 65536 ^ 0 % 65536 ^ (4 - 0) = lo := by rw [Nat.pow_zero, Nat.div_one]; exact hlo.out
        have e2 : y / 65536 ^ (0 + 4) % 65536 ^ (4 - 0) = hi := hhi.out
        rw [e1, e2]
        have BR := Lib.hid I.br
        clear I e1 e2
        have n0 : ¬ (0 : Int) ≤ ((0 : Nat) : Int) - 1 := by omega
        have c0 := BR.out.c0
        have c1 := BR.out.c1
        have f0 := BR.out.fr 0
        have f1 := BR.out.fr 1
        go_wp2_with fail
        (try simp only [Exit.inBlock, Exit.then])
        refine bodyPost_ret (v := .tuple #[.agg #[.int .i64 h, .int .u64 lo], .bool true]) (results_row_tmp rfl _ _ (w.heap.size + 1) _ _ _ _ _ rfl (WideAt.put2 (h := h) (l := lo) BR.out) Try.underlying24 rfl (by kernel_rfl) rfl) rfl ?_
        exact ⟨rfl, Below.put2 HI.out.below (by omega) _ _⟩
  refine (wpIn_wide (n := 5)).1 (held_region (F := Fence.wide) (S := fun X => True) (by kernel_rfl) trivial (fun hHeld => ?_))
  clear hHeld
  have hs0 : ToS x w x3.drew := ToS.up ⟨HX2.out, HR2.out, HBB.out⟩ (bdrew0 _ _ 1)
  refine held_step2 (fun _ => trivial) (i := 0) (j := 1) (o := _) (o2 := _) (by kernel_rfl) rfl rfl (fun K hK => ?_) (fun K hK => ?_)
  · rw [if_pos (by kernel_rfl)]
    refine wpIn_load_row (fun _ => trivial) 27 (.tmp 1) (by kernel_rfl) (w.heap.size) (by kernel_rfl) _ (bv x) _ _ hs0.bx Try.underlying27 (by kernel_rfl) (bv_info _) ?_
    refine hK.out _ _ trivial (fun _ => ?_)
    clear hK K
    (try simp only [Act.put, List.getElem_toArray, List.getElem_cons_zero, List.getElem_cons_succ, List.setIfInBounds_toArray, List.set_cons_zero, List.set_cons_succ])
    refine held_step (fun _ => trivial) (i := 1) (o := _) (by kernel_rfl) rfl (fun K hK => ?_)
    go_simp
    refine ⟨trivial, callsIn_wide.2 ((cT2.out _).mono ?_)⟩
    rintro e x4 ⟨rfl, hb4⟩
    dsimp only
    have hs1 := ToS.up hs0 hb4
    refine hK.out _ _ (trivial) (fun hHeld => ?_)
    clear hK K
    (try simp only [Act.put, List.getElem_toArray, List.getElem_cons_zero, List.getElem_cons_succ, List.setIfInBounds_toArray, List.set_cons_zero, List.set_cons_succ])
    refine held_step (fun _ => trivial) (i := 2) (o := _) (by kernel_rfl) rfl (fun K hK => ?_)
    go_simp
    refine ⟨trivial, callsIn_wide.2 ((cA.out _).mono ?_)⟩
    rintro e x5 ⟨rfl, hb5⟩
    dsimp only
    have hs2 := ToS.up hs1 hb5
    refine hK.out _ _ (trivial) (fun hHeld => ?_)
    clear hK K
    (try simp only [Act.put, List.getElem_toArray, List.getElem_cons_zero, List.getElem_cons_succ, List.setIfInBounds_toArray, List.set_cons_zero, List.set_cons_succ])
    refine held_step (fun _ => trivial) (i := 3) (o := _) (by kernel_rfl) rfl (fun K hK => ?_)
    rw [if_pos (by kernel_rfl)]
    refine wpIn_store_row (fun _ => trivial) 27 (.tmp 1) (.tmp 24) (by kernel_rfl) (w.heap.size) _ _ (bv (y : Int)) (by kernel_rfl) (by kernel_rfl) hs2.bx (bv_info _) (bv_same _ _) (bv_one _) ?_
    refine hK.out _ _ trivial (fun _ => ?_)
    clear hK K
    (try simp only [Act.put, List.getElem_toArray, List.getElem_cons_zero, List.getElem_cons_succ, List.setIfInBounds_toArray, List.set_cons_zero, List.set_cons_succ])
    exact held_done (by kernel_rfl) (HTT _ (ToS.put y hs2)) _
  · go_simp
    refine ⟨trivial, callsIn_wide.2 ((cT2.out _).mono ?_)⟩
    rintro e x4 ⟨rfl, hb4⟩
    dsimp only
    have hs1 := ToS.up hs0 hb4
    refine hK.out _ _ (trivial) (fun hHeld => ?_)
    clear hK K
    (try simp only [Act.put, List.getElem_toArray, List.getElem_cons_zero, List.getElem_cons_succ, List.setIfInBounds_toArray, List.set_cons_zero, List.set_cons_succ])
    refine held_step (fun _ => trivial) (i := 0) (o := _) (by kernel_rfl) rfl (fun K hK => ?_)
    rw [if_pos (by kernel_rfl)]
    refine wpIn_load_row (fun _ => trivial) 27 (.tmp 1) (by kernel_rfl) (w.heap.size) (by kernel_rfl) _ (bv x) _ _ hs1.bx Try.underlying27 (by kernel_rfl) (bv_info _) ?_
    refine hK.out _ _ trivial (fun _ => ?_)
    clear hK K
    (try simp only [Act.put, List.getElem_toArray, List.getElem_cons_zero, List.getElem_cons_succ, List.setIfInBounds_toArray, List.set_cons_zero, List.set_cons_succ])
    refine held_step (fun _ => trivial) (i := 2) (o := _) (by kernel_rfl) rfl (fun K hK => ?_)
    go_simp
    refine ⟨trivial, callsIn_wide.2 ((cA.out _).mono ?_)⟩
    rintro e x5 ⟨rfl, hb5⟩
    dsimp only
    have hs2 := ToS.up hs1 hb5
    refine hK.out _ _ (trivial) (fun hHeld => ?_)
    clear hK K
    (try simp only [Act.put, List.getElem_toArray, List.getElem_cons_zero, List.getElem_cons_succ, List.setIfInBounds_toArray, List.set_cons_zero, List.set_cons_succ])
    refine held_step (fun _ => trivial) (i := 3) (o := _) (by kernel_rfl) rfl (fun K hK => ?_)
    rw [if_pos (by kernel_rfl)]
    refine wpIn_store_row (fun _ => trivial) 27 (.tmp 1) (.tmp 24) (by kernel_rfl) (w.heap.size) _ _ (bv (y : Int)) (by kernel_rfl) (by kernel_rfl) hs2.bx (bv_info _) (bv_same _ _) (bv_one _) ?_
    refine hK.out _ _ trivial (fun _ => ?_)
    clear hK K
    (try simp only [Act.put, List.getElem_toArray, List.getElem_cons_zero, List.getElem_cons_succ, List.setIfInBounds_toArray, List.set_cons_zero, List.set_cons_succ])
    exact held_done (by kernel_rfl) (HTT _ (ToS.put y hs2)) _
end Go.Proofs.Ytgkcbadfjhicnaa.Fx
