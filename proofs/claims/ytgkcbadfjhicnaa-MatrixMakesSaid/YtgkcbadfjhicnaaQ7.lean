/- MatrixMakes, walked. -/
import Derived.Test.YtgkcbadfjhicnaaProg
import Derived.Test.YtgkcbadfjhicnaaQ6
import Derived.Test.YtgkcbadfjhicnaaEq
import Derived.OpenShut
set_option linter.unusedVariables false
set_option linter.unusedSimpArgs false
namespace Go.Proofs.Ytgkcbadfjhicnaa.Fx
open Go Go.RowKit Wm
theorem wpList_build_big {P : Program} {ops : Array Oper} {rest : List Oper} {o : Oper} {a : Act} {w : World} {Q : Exit → Act → World → Prop} (hw : Region.wanted o (yielded ops a.tmps) = true) (t : TypeId) (parts : Array (Nat × Operand)) (ho : o.op = .build t parts)
    (cells : Array Value) (hb : P.built t (parts.map fun (i, x) => (i, a.eval x)).toList = some cells) (h : wpList P ops Q rest (a.put o.dst (.agg cells)) w) : wpList P ops Q (o :: rest) a w :=
  wpList_want hw fun _ hK => wp_build t parts ho (by rw [hb]; rfl) (hK _ _ (by rw [hb]; exact h))
theorem tr_cell (m : List Int) (r k : Nat) (hr : r < 4) (hk : k < 4) : (tr m).getD (r * 4 + k) 0 = m.getD (k * 4 + r) 0 := by
  have hd : r = 0 ∨ r = 1 ∨ r = 2 ∨ r = 3 := by omega
  have he : k = 0 ∨ k = 1 ∨ k = 2 ∨ k = 3 := by omega
  rcases hd with rfl | rfl | rfl | rfl <;> rcases he with rfl | rfl | rfl | rfl <;> rfl
structure MkI (m T : List Int) (x y z : Int) (B1 B2 B3 B4 : Nat) (w W : World) : Prop where
  rm : RowAt 64 w.heap.size (mC m) W
  ra : RowAt 64 B1 (mC (mvl x y z)) W
  rb : RowAt 64 (B1 + 1) (mC (scl x y z)) W
  rc : RowAt 64 (B1 + 1 + 1) (mC idl) W
  rt : RowAt 64 B2 (mC T) W
  ru : RowAt 64 B3 (mC T) W
  rd : RowAt 64 B4 (mC (tr m)) W
  below : Below w.heap.size w W
theorem MkI.up {m T : List Int} {x y z : Int} {B1 B2 B3 B4 : Nat} {w W V : World} (i : MkI m T x y z B1 B2 B3 B4 w W) (hb : Below W.heap.size W V) : MkI m T x y z B1 B2 B3 B4 w V := ⟨i.rm.below hb, i.ra.below hb, i.rb.below hb, i.rc.below hb, i.rt.below hb, i.ru.below hb, i.rd.below hb, bnext i.below hb⟩
def MkRel (m T : List Int) (x y z : Int) (B1 B2 B3 B4 : Nat) (w : World) (g : Nat) (s : Value) (W : World) : Prop := ∃ k, g = 4 - k ∧ s = .int .i64 (k : Int) ∧ k ≤ 4 ∧ MkI m T x y z B1 B2 B3 B4 w W
set_option maxRecDepth 100000 in
set_option maxHeartbeats 8000000 in
theorem makes_walk (m T : List Int) (x y z ax q e0 : Int) (w : World) (lm : m.length = 16) (lT : T.length = 16)
    (cV : Hid (Ans 39 #[.int .i64 x, .int .i64 y, .int .i64 z] (.agg (mC (mvl x y z)))))
    (cS : Hid (Ans 40 #[.int .i64 x, .int .i64 y, .int .i64 z] (.agg (mC (scl x y z)))))
    (cI : Hid (Ans 41 #[] (.agg (mC idl))))
    (cT : Hid (Ans 42 #[.int .i64 ax, .int .i64 q] (.tuple #[.agg (mC T), .int .i64 e0])))
    (cU : Hid (Ans 43 #[.int .i64 ax, .int .i64 q] (.tuple #[.agg (mC T), .int .i64 e0])))
    (cX : Hid (Ans 44 #[.agg (mC m)] (.agg (mC (tr m))))) :
    Calls Try.prog 7 #[.agg (mC m), .int .i64 x, .int .i64 y, .int .i64 z, .int .i64 ax, .int .i64 q] w fun e w' => e = .returned (.bool true) ∧ Below w.heap.size w w' := by
  have IM := Lib.hid (show (Try.prog.info? 64).map (·.size) = some (mC m).size by rw [size16, mC_size, lm])
  have IT := Lib.hid (show (Try.prog.info? 64).map (·.size) = some (mC T).size by rw [size16, mC_size, lT])
  have IX := Lib.hid (show (Try.prog.info? 64).map (·.size) = some (mC (tr m)).size by rw [size16, mC_size, tr_len])
  have ST : Hid ((#[.int .i64 0, .int .i64 0, .int .i64 0, .int .i64 0, .int .i64 0, .int .i64 0, .int .i64 0, .int .i64 0, .int .i64 0, .int .i64 0, .int .i64 0, .int .i64 0, .int .i64 0, .int .i64 0, .int .i64 0, .int .i64 0] : Array Value).size = (mC T).size) := Lib.hid (by rw [mC_size, lT]; rfl)
  have SX : Hid ((#[.int .i64 0, .int .i64 0, .int .i64 0, .int .i64 0, .int .i64 0, .int .i64 0, .int .i64 0, .int .i64 0, .int .i64 0, .int .i64 0, .int .i64 0, .int .i64 0, .int .i64 0, .int .i64 0, .int .i64 0, .int .i64 0] : Array Value).size = (mC (tr m)).size) := Lib.hid (by rw [mC_size, tr_len]; rfl)
  have HE1 := Lib.hid (fun W => eql_mat W (mvl x y z) (mvl x y z) rfl rfl)
  have HE2 := Lib.hid (fun W => eql_mat W (scl x y z) (scl x y z) rfl rfl)
  have HE3 := Lib.hid (fun W => eql_mat W idl idl rfl rfl)
  have HE4 := Lib.hid (fun W => eql_mat W T T lT lT)
  have LM := Lib.hid lm
  have Rm : Hid (RowAt 64 w.heap.size (mC m) (w.alloc (.cells (mC m) 64))) := Lib.hid (heap_alloc_new _ _)
  have HB : Hid (Below w.heap.size w (w.alloc (.cells (mC m) 64))) := Lib.hid (by go_grown)
  clear lm lT
  go_enter Try.func7, Try.ntmps7
  go_wp2_with fail
  refine (cV.out _).mono ?_
  rintro e w1 ⟨rfl, hb⟩
  replace Rm : Hid (RowAt 64 w.heap.size (mC m) w1) := Lib.hid (Rm.out.below hb)
  replace HB : Hid (Below w.heap.size w w1) := Lib.hid (bnext HB.out hb)
  clear hb
  go_wp2_with fail
  refine (cS.out _).mono ?_
  rintro e w2 ⟨rfl, hb⟩
  replace Rm : Hid (RowAt 64 w.heap.size (mC m) w2) := Lib.hid (Rm.out.below hb)
  replace HB : Hid (Below w.heap.size w w2) := Lib.hid (bnext HB.out hb)
  clear hb
  go_wp2_with fail
  refine (cI.out _).mono ?_
  rintro e w3 ⟨rfl, hb⟩
  replace Rm : Hid (RowAt 64 w.heap.size (mC m) w3) := Lib.hid (Rm.out.below hb)
  replace HB : Hid (Below w.heap.size w w3) := Lib.hid (bnext HB.out hb)
  clear hb
  have h3 := block3s w3 (.cells #[.int .i64 0, .int .i64 0, .int .i64 0, .int .i64 0, .int .i64 0, .int .i64 0, .int .i64 0, .int .i64 0, .int .i64 0, .int .i64 0, .int .i64 0, .int .i64 0, .int .i64 0, .int .i64 0, .int .i64 0, .int .i64 0] 64) (.cells #[.int .i64 0, .int .i64 0, .int .i64 0, .int .i64 0, .int .i64 0, .int .i64 0, .int .i64 0, .int .i64 0, .int .i64 0, .int .i64 0, .int .i64 0, .int .i64 0, .int .i64 0, .int .i64 0, .int .i64 0, .int .i64 0] 64) (.cells #[.int .i64 0, .int .i64 0, .int .i64 0, .int .i64 0, .int .i64 0, .int .i64 0, .int .i64 0, .int .i64 0, .int .i64 0, .int .i64 0, .int .i64 0, .int .i64 0, .int .i64 0, .int .i64 0, .int .i64 0, .int .i64 0] 64)
  have F1 : Hid (RowAt 64 w3.heap.size #[.int .i64 0, .int .i64 0, .int .i64 0, .int .i64 0, .int .i64 0, .int .i64 0, .int .i64 0, .int .i64 0, .int .i64 0, .int .i64 0, .int .i64 0, .int .i64 0, .int .i64 0, .int .i64 0, .int .i64 0, .int .i64 0] (((w3.alloc (.cells #[.int .i64 0, .int .i64 0, .int .i64 0, .int .i64 0, .int .i64 0, .int .i64 0, .int .i64 0, .int .i64 0, .int .i64 0, .int .i64 0, .int .i64 0, .int .i64 0, .int .i64 0, .int .i64 0, .int .i64 0, .int .i64 0] 64)).alloc (.cells #[.int .i64 0, .int .i64 0, .int .i64 0, .int .i64 0, .int .i64 0, .int .i64 0, .int .i64 0, .int .i64 0, .int .i64 0, .int .i64 0, .int .i64 0, .int .i64 0, .int .i64 0, .int .i64 0, .int .i64 0, .int .i64 0] 64)).alloc (.cells #[.int .i64 0, .int .i64 0, .int .i64 0, .int .i64 0, .int .i64 0, .int .i64 0, .int .i64 0, .int .i64 0, .int .i64 0, .int .i64 0, .int .i64 0, .int .i64 0, .int .i64 0, .int .i64 0, .int .i64 0, .int .i64 0] 64))) := Lib.hid h3.1
  have F2 : Hid (RowAt 64 (w3.heap.size + 1) #[.int .i64 0, .int .i64 0, .int .i64 0, .int .i64 0, .int .i64 0, .int .i64 0, .int .i64 0, .int .i64 0, .int .i64 0, .int .i64 0, .int .i64 0, .int .i64 0, .int .i64 0, .int .i64 0, .int .i64 0, .int .i64 0] ((((w3.alloc (.cells #[.int .i64 0, .int .i64 0, .int .i64 0, .int .i64 0, .int .i64 0, .int .i64 0, .int .i64 0, .int .i64 0, .int .i64 0, .int .i64 0, .int .i64 0, .int .i64 0, .int .i64 0, .int .i64 0, .int .i64 0, .int .i64 0] 64)).alloc (.cells #[.int .i64 0, .int .i64 0, .int .i64 0, .int .i64 0, .int .i64 0, .int .i64 0, .int .i64 0, .int .i64 0, .int .i64 0, .int .i64 0, .int .i64 0, .int .i64 0, .int .i64 0, .int .i64 0, .int .i64 0, .int .i64 0] 64)).alloc (.cells #[.int .i64 0, .int .i64 0, .int .i64 0, .int .i64 0, .int .i64 0, .int .i64 0, .int .i64 0, .int .i64 0, .int .i64 0, .int .i64 0, .int .i64 0, .int .i64 0, .int .i64 0, .int .i64 0, .int .i64 0, .int .i64 0] 64)).setRow w3.heap.size (mC (mvl x y z)))) := Lib.hid (RowAt.other h3.2.1 (by omega) _)
  have F3 : Hid (RowAt 64 (w3.heap.size + 1 + 1) #[.int .i64 0, .int .i64 0, .int .i64 0, .int .i64 0, .int .i64 0, .int .i64 0, .int .i64 0, .int .i64 0, .int .i64 0, .int .i64 0, .int .i64 0, .int .i64 0, .int .i64 0, .int .i64 0, .int .i64 0, .int .i64 0] (((((w3.alloc (.cells #[.int .i64 0, .int .i64 0, .int .i64 0, .int .i64 0, .int .i64 0, .int .i64 0, .int .i64 0, .int .i64 0, .int .i64 0, .int .i64 0, .int .i64 0, .int .i64 0, .int .i64 0, .int .i64 0, .int .i64 0, .int .i64 0] 64)).alloc (.cells #[.int .i64 0, .int .i64 0, .int .i64 0, .int .i64 0, .int .i64 0, .int .i64 0, .int .i64 0, .int .i64 0, .int .i64 0, .int .i64 0, .int .i64 0, .int .i64 0, .int .i64 0, .int .i64 0, .int .i64 0, .int .i64 0] 64)).alloc (.cells #[.int .i64 0, .int .i64 0, .int .i64 0, .int .i64 0, .int .i64 0, .int .i64 0, .int .i64 0, .int .i64 0, .int .i64 0, .int .i64 0, .int .i64 0, .int .i64 0, .int .i64 0, .int .i64 0, .int .i64 0, .int .i64 0] 64)).setRow w3.heap.size (mC (mvl x y z))).setRow (w3.heap.size + 1) (mC (scl x y z)))) := Lib.hid (RowAt.other (RowAt.other h3.2.2 (by omega) _) (by omega) _)
  have hm3 := Rm.out.lt
  replace Rm : Hid (RowAt 64 w.heap.size (mC m) ((((((w3.alloc (.cells #[.int .i64 0, .int .i64 0, .int .i64 0, .int .i64 0, .int .i64 0, .int .i64 0, .int .i64 0, .int .i64 0, .int .i64 0, .int .i64 0, .int .i64 0, .int .i64 0, .int .i64 0, .int .i64 0, .int .i64 0, .int .i64 0] 64)).alloc (.cells #[.int .i64 0, .int .i64 0, .int .i64 0, .int .i64 0, .int .i64 0, .int .i64 0, .int .i64 0, .int .i64 0, .int .i64 0, .int .i64 0, .int .i64 0, .int .i64 0, .int .i64 0, .int .i64 0, .int .i64 0, .int .i64 0] 64)).alloc (.cells #[.int .i64 0, .int .i64 0, .int .i64 0, .int .i64 0, .int .i64 0, .int .i64 0, .int .i64 0, .int .i64 0, .int .i64 0, .int .i64 0, .int .i64 0, .int .i64 0, .int .i64 0, .int .i64 0, .int .i64 0, .int .i64 0] 64)).setRow w3.heap.size (mC (mvl x y z))).setRow (w3.heap.size + 1) (mC (scl x y z))).setRow (w3.heap.size + 1 + 1) (mC idl))) := Lib.hid (RowAt.other (RowAt.other (RowAt.other (RowAt.alloc (RowAt.alloc (RowAt.alloc Rm.out _) _) _) (by omega) _) (by omega) _) (by omega) _)
  have Ra : Hid (RowAt 64 w3.heap.size (mC (mvl x y z)) ((((((w3.alloc (.cells #[.int .i64 0, .int .i64 0, .int .i64 0, .int .i64 0, .int .i64 0, .int .i64 0, .int .i64 0, .int .i64 0, .int .i64 0, .int .i64 0, .int .i64 0, .int .i64 0, .int .i64 0, .int .i64 0, .int .i64 0, .int .i64 0] 64)).alloc (.cells #[.int .i64 0, .int .i64 0, .int .i64 0, .int .i64 0, .int .i64 0, .int .i64 0, .int .i64 0, .int .i64 0, .int .i64 0, .int .i64 0, .int .i64 0, .int .i64 0, .int .i64 0, .int .i64 0, .int .i64 0, .int .i64 0] 64)).alloc (.cells #[.int .i64 0, .int .i64 0, .int .i64 0, .int .i64 0, .int .i64 0, .int .i64 0, .int .i64 0, .int .i64 0, .int .i64 0, .int .i64 0, .int .i64 0, .int .i64 0, .int .i64 0, .int .i64 0, .int .i64 0, .int .i64 0] 64)).setRow w3.heap.size (mC (mvl x y z))).setRow (w3.heap.size + 1) (mC (scl x y z))).setRow (w3.heap.size + 1 + 1) (mC idl))) := Lib.hid (RowAt.other (RowAt.other (RowAt.row F1.out _) (by omega) _) (by omega) _)
  have Rb : Hid (RowAt 64 (w3.heap.size + 1) (mC (scl x y z)) ((((((w3.alloc (.cells #[.int .i64 0, .int .i64 0, .int .i64 0, .int .i64 0, .int .i64 0, .int .i64 0, .int .i64 0, .int .i64 0, .int .i64 0, .int .i64 0, .int .i64 0, .int .i64 0, .int .i64 0, .int .i64 0, .int .i64 0, .int .i64 0] 64)).alloc (.cells #[.int .i64 0, .int .i64 0, .int .i64 0, .int .i64 0, .int .i64 0, .int .i64 0, .int .i64 0, .int .i64 0, .int .i64 0, .int .i64 0, .int .i64 0, .int .i64 0, .int .i64 0, .int .i64 0, .int .i64 0, .int .i64 0] 64)).alloc (.cells #[.int .i64 0, .int .i64 0, .int .i64 0, .int .i64 0, .int .i64 0, .int .i64 0, .int .i64 0, .int .i64 0, .int .i64 0, .int .i64 0, .int .i64 0, .int .i64 0, .int .i64 0, .int .i64 0, .int .i64 0, .int .i64 0] 64)).setRow w3.heap.size (mC (mvl x y z))).setRow (w3.heap.size + 1) (mC (scl x y z))).setRow (w3.heap.size + 1 + 1) (mC idl))) := Lib.hid (RowAt.other (RowAt.row F2.out _) (by omega) _)
  have Rc : Hid (RowAt 64 (w3.heap.size + 1 + 1) (mC idl) ((((((w3.alloc (.cells #[.int .i64 0, .int .i64 0, .int .i64 0, .int .i64 0, .int .i64 0, .int .i64 0, .int .i64 0, .int .i64 0, .int .i64 0, .int .i64 0, .int .i64 0, .int .i64 0, .int .i64 0, .int .i64 0, .int .i64 0, .int .i64 0] 64)).alloc (.cells #[.int .i64 0, .int .i64 0, .int .i64 0, .int .i64 0, .int .i64 0, .int .i64 0, .int .i64 0, .int .i64 0, .int .i64 0, .int .i64 0, .int .i64 0, .int .i64 0, .int .i64 0, .int .i64 0, .int .i64 0, .int .i64 0] 64)).alloc (.cells #[.int .i64 0, .int .i64 0, .int .i64 0, .int .i64 0, .int .i64 0, .int .i64 0, .int .i64 0, .int .i64 0, .int .i64 0, .int .i64 0, .int .i64 0, .int .i64 0, .int .i64 0, .int .i64 0, .int .i64 0, .int .i64 0] 64)).setRow w3.heap.size (mC (mvl x y z))).setRow (w3.heap.size + 1) (mC (scl x y z))).setRow (w3.heap.size + 1 + 1) (mC idl))) := Lib.hid (RowAt.row F3.out _)
  have hbs := HB.out.size
  have HB2 : Hid (Below w.heap.size w ((((((w3.alloc (.cells #[.int .i64 0, .int .i64 0, .int .i64 0, .int .i64 0, .int .i64 0, .int .i64 0, .int .i64 0, .int .i64 0, .int .i64 0, .int .i64 0, .int .i64 0, .int .i64 0, .int .i64 0, .int .i64 0, .int .i64 0, .int .i64 0] 64)).alloc (.cells #[.int .i64 0, .int .i64 0, .int .i64 0, .int .i64 0, .int .i64 0, .int .i64 0, .int .i64 0, .int .i64 0, .int .i64 0, .int .i64 0, .int .i64 0, .int .i64 0, .int .i64 0, .int .i64 0, .int .i64 0, .int .i64 0] 64)).alloc (.cells #[.int .i64 0, .int .i64 0, .int .i64 0, .int .i64 0, .int .i64 0, .int .i64 0, .int .i64 0, .int .i64 0, .int .i64 0, .int .i64 0, .int .i64 0, .int .i64 0, .int .i64 0, .int .i64 0, .int .i64 0, .int .i64 0] 64)).setRow w3.heap.size (mC (mvl x y z))).setRow (w3.heap.size + 1) (mC (scl x y z))).setRow (w3.heap.size + 1 + 1) (mC idl))) := Lib.hid (Below.row (Below.row (Below.row (((HB.out.alloc hbs _).alloc (by simp; omega) _).alloc (by simp; omega) _) (by omega) _) (by omega) _) (by omega) _)
  replace HB := HB2
  clear HB2 h3 hm3 hbs
  go_wp2_with (first | (refine wpList_store_big rfl 64 (.tmp 14) (.tmp 27) rfl (w3.heap.size) _ _ (mC (mvl x y z)) rfl rfl F1.out size16 rfl (mC_one _) ?_) | (refine wpList_store_big rfl 64 (.tmp 15) (.tmp 31) rfl (w3.heap.size + 1) _ _ (mC (scl x y z)) rfl rfl F2.out size16 rfl (mC_one _) ?_) | (refine wpList_store_big rfl 64 (.tmp 16) (.tmp 32) rfl (w3.heap.size + 1 + 1) _ _ (mC idl) rfl rfl F3.out size16 rfl (mC_one _) ?_))
  generalize ((((((w3.alloc (.cells #[.int .i64 0, .int .i64 0, .int .i64 0, .int .i64 0, .int .i64 0, .int .i64 0, .int .i64 0, .int .i64 0, .int .i64 0, .int .i64 0, .int .i64 0, .int .i64 0, .int .i64 0, .int .i64 0, .int .i64 0, .int .i64 0] 64)).alloc (.cells #[.int .i64 0, .int .i64 0, .int .i64 0, .int .i64 0, .int .i64 0, .int .i64 0, .int .i64 0, .int .i64 0, .int .i64 0, .int .i64 0, .int .i64 0, .int .i64 0, .int .i64 0, .int .i64 0, .int .i64 0, .int .i64 0] 64)).alloc (.cells #[.int .i64 0, .int .i64 0, .int .i64 0, .int .i64 0, .int .i64 0, .int .i64 0, .int .i64 0, .int .i64 0, .int .i64 0, .int .i64 0, .int .i64 0, .int .i64 0, .int .i64 0, .int .i64 0, .int .i64 0, .int .i64 0] 64)).setRow w3.heap.size (mC (mvl x y z))).setRow (w3.heap.size + 1) (mC (scl x y z))).setRow (w3.heap.size + 1 + 1) (mC idl)) = V3 at Rm Ra Rb Rc HB ⊢
  clear F1 F2 F3
  generalize w3.heap.size = B1 at Ra Rb Rc ⊢
  refine (cT.out _).mono ?_
  rintro e w4 ⟨rfl, hb⟩
  replace Rm : Hid (RowAt 64 w.heap.size (mC m) (w4.alloc (.cells (mC T) 64))) := Lib.hid ((Rm.out.below hb).alloc _)
  replace Ra : Hid (RowAt 64 B1 (mC (mvl x y z)) (w4.alloc (.cells (mC T) 64))) := Lib.hid ((Ra.out.below hb).alloc _)
  replace Rb : Hid (RowAt 64 (B1 + 1) (mC (scl x y z)) (w4.alloc (.cells (mC T) 64))) := Lib.hid ((Rb.out.below hb).alloc _)
  replace Rc : Hid (RowAt 64 (B1 + 1 + 1) (mC idl) (w4.alloc (.cells (mC T) 64))) := Lib.hid ((Rc.out.below hb).alloc _)
  replace HB : Hid (Below w.heap.size w (w4.alloc (.cells (mC T) 64))) := Lib.hid (by have h := bnext HB.out hb; exact h.alloc h.size _)
  have Rt : Hid (RowAt 64 w4.heap.size (mC T) (w4.alloc (.cells (mC T) 64))) := Lib.hid (heap_alloc_new _ _)
  clear hb
  go_wp2_with (refine wpList_store_new rfl 64 (.tmp 17) (.tmp 37) rfl (w4.heap.size) _ #[.int .i64 0, .int .i64 0, .int .i64 0, .int .i64 0, .int .i64 0, .int .i64 0, .int .i64 0, .int .i64 0, .int .i64 0, .int .i64 0, .int .i64 0, .int .i64 0, .int .i64 0, .int .i64 0, .int .i64 0, .int .i64 0] (mC T) rfl rfl rfl IT.out ST.out (mC_one _) ?_)
  generalize (w4.alloc (.cells (mC T) 64)) = V4 at Rm Ra Rb Rc Rt HB ⊢
  generalize w4.heap.size = B4 at Rt ⊢
  refine (cU.out _).mono ?_
  rintro e w5 ⟨rfl, hb⟩
  replace Rm : Hid (RowAt 64 w.heap.size (mC m) (w5.alloc (.cells (mC T) 64))) := Lib.hid ((Rm.out.below hb).alloc _)
  replace Ra : Hid (RowAt 64 B1 (mC (mvl x y z)) (w5.alloc (.cells (mC T) 64))) := Lib.hid ((Ra.out.below hb).alloc _)
  replace Rb : Hid (RowAt 64 (B1 + 1) (mC (scl x y z)) (w5.alloc (.cells (mC T) 64))) := Lib.hid ((Rb.out.below hb).alloc _)
  replace Rc : Hid (RowAt 64 (B1 + 1 + 1) (mC idl) (w5.alloc (.cells (mC T) 64))) := Lib.hid ((Rc.out.below hb).alloc _)
  replace Rt : Hid (RowAt 64 B4 (mC T) (w5.alloc (.cells (mC T) 64))) := Lib.hid ((Rt.out.below hb).alloc _)
  replace HB : Hid (Below w.heap.size w (w5.alloc (.cells (mC T) 64))) := Lib.hid (by have h := bnext HB.out hb; exact h.alloc h.size _)
  have Ru : Hid (RowAt 64 w5.heap.size (mC T) (w5.alloc (.cells (mC T) 64))) := Lib.hid (heap_alloc_new _ _)
  clear hb
  go_wp2_with (first | (refine wpList_store_new rfl 64 (.tmp 19) (.tmp 43) rfl (w5.heap.size) _ #[.int .i64 0, .int .i64 0, .int .i64 0, .int .i64 0, .int .i64 0, .int .i64 0, .int .i64 0, .int .i64 0, .int .i64 0, .int .i64 0, .int .i64 0, .int .i64 0, .int .i64 0, .int .i64 0, .int .i64 0, .int .i64 0] (mC T) rfl rfl rfl IT.out ST.out (mC_one _) ?_) | (refine wpList_load_row rfl 64 (.tmp 6) rfl (w.heap.size) rfl _ _ _ _ Rm.out Try.underlying64 rfl IM.out ?_))
  generalize (w5.alloc (.cells (mC T) 64)) = V5 at Rm Ra Rb Rc Rt Ru HB ⊢
  generalize w5.heap.size = B5 at Ru ⊢
  refine (cX.out _).mono ?_
  rintro e w6 ⟨rfl, hb⟩
  replace Rm : Hid (RowAt 64 w.heap.size (mC m) (w6.alloc (.cells (mC (tr m)) 64))) := Lib.hid ((Rm.out.below hb).alloc _)
  replace Ra : Hid (RowAt 64 B1 (mC (mvl x y z)) (w6.alloc (.cells (mC (tr m)) 64))) := Lib.hid ((Ra.out.below hb).alloc _)
  replace Rb : Hid (RowAt 64 (B1 + 1) (mC (scl x y z)) (w6.alloc (.cells (mC (tr m)) 64))) := Lib.hid ((Rb.out.below hb).alloc _)
  replace Rc : Hid (RowAt 64 (B1 + 1 + 1) (mC idl) (w6.alloc (.cells (mC (tr m)) 64))) := Lib.hid ((Rc.out.below hb).alloc _)
  replace Rt : Hid (RowAt 64 B4 (mC T) (w6.alloc (.cells (mC (tr m)) 64))) := Lib.hid ((Rt.out.below hb).alloc _)
  replace Ru : Hid (RowAt 64 B5 (mC T) (w6.alloc (.cells (mC (tr m)) 64))) := Lib.hid ((Ru.out.below hb).alloc _)
  replace HB : Hid (Below w.heap.size w (w6.alloc (.cells (mC (tr m)) 64))) := Lib.hid (by have h := bnext HB.out hb; exact h.alloc h.size _)
  have Rd : Hid (RowAt 64 w6.heap.size (mC (tr m)) (w6.alloc (.cells (mC (tr m)) 64))) := Lib.hid (heap_alloc_new _ _)
  clear hb
  go_wp2_with (refine wpList_store_new rfl 64 (.tmp 21) (.tmp 46) rfl (w6.heap.size) _ #[.int .i64 0, .int .i64 0, .int .i64 0, .int .i64 0, .int .i64 0, .int .i64 0, .int .i64 0, .int .i64 0, .int .i64 0, .int .i64 0, .int .i64 0, .int .i64 0, .int .i64 0, .int .i64 0, .int .i64 0, .int .i64 0] (mC (tr m)) rfl rfl rfl IX.out SX.out (mC_one _) ?_)
  generalize (w6.alloc (.cells (mC (tr m)) 64)) = V6 at Rm Ra Rb Rc Rt Ru Rd HB ⊢
  generalize w6.heap.size = B6 at Rd ⊢
  have I0 : Hid (MkI m T x y z B1 B4 B5 B6 w V6) := Lib.hid ⟨Rm.out, Ra.out, Rb.out, Rc.out, Rt.out, Ru.out, Rd.out, HB.out⟩
  clear Rm Ra Rb Rc Rt Ru Rd HB cV cS cI cT cU cX
  go_loopg [22] 4 (MkRel m T x y z B1 B4 B5 B6 w)
  case atStart => exact ⟨0, rfl, rfl, by omega, I0.out⟩
  case round =>
    clear I0
    obtain ⟨r, hg, rfl, hr4, I⟩ := hrel
    have HI := Lib.hid I
    clear I
    subst hg
    by_cases hr : r < 4
    · have r1 : (r : Int) < 4 := by omega
      go_wp2_with fail
      go_loopg [23] 4 (MkRel m T x y z B1 B4 B5 B6 w)
      case atStart => exact ⟨0, rfl, rfl, by omega, HI.out⟩
      case round =>
        clear HI
        obtain ⟨k, hg, rfl, hk4, I⟩ := hrel
        have HI := Lib.hid I
        clear I
        subst hg
        by_cases hk : k < 4
        · have k1 : (k : Int) < 4 := by omega
          obtain ⟨n, hn⟩ : ∃ n, m.getD (k * 4 + r) 0 = n := ⟨_, rfl⟩
          have hcm : Hid (∀ W, RowAt 64 w.heap.size (mC m) W → W.cell? ⟨w.heap.size, k * 4 + r, none⟩ = some (.int .i64 n)) := Lib.hid (fun W h => by rw [h.cell, mC_cell (by rw [LM.out]; omega), hn])
          have hct : Hid (∀ W, RowAt 64 B6 (mC (tr m)) W → W.cell? ⟨B6, r * 4 + k, none⟩ = some (.int .i64 n)) := Lib.hid (fun W h => by rw [h.cell, mC_cell (by rw [tr_len]; omega), tr_cell m r k hr hk, hn])
          clear hn
          go_wp2_with fail
          rename_i K12 hK12
          refine (wpIn_wide (n := 5)).1 (give_region (S := fun X => Below wr.heap.size wr X) (Z := []) (by kernel_rfl) (by kernel_rfl) below_mono (fun d _ _ _ _ h => by cases d <;> exact h) (bdrew0 _ _ 1) (fun hG vw0 hw0 => ?_))
          refine give_pure [] 0 (?_) hG rfl (by kernel_rfl) hw0 (by kernel_rfl) ?_ ?_
          rotate_left
          · intro wz hSw; (first | (go_simp; done) | (go_simp; with_reducible rfl))
          intro vw1 hw1
          clear hw0 vw0
          (try simp only [Act.put, List.getElem_toArray, List.getElem_cons_zero, List.getElem_cons_succ, List.setIfInBounds_toArray, List.set_cons_zero, List.set_cons_succ])
          refine give_pure [] 1 (?_) hG rfl (by kernel_rfl) hw1 (by kernel_rfl) ?_ ?_
          rotate_left
          · intro wz hSw; (first | (go_simp; done) | (go_simp; with_reducible rfl))
          intro vw2 hw2
          clear hw1 vw1
          (try simp only [Act.put, List.getElem_toArray, List.getElem_cons_zero, List.getElem_cons_succ, List.setIfInBounds_toArray, List.set_cons_zero, List.set_cons_succ])
          refine give_pure [] 2 (.pointer (some ⟨B6, r * 4, none⟩)) hG rfl (by kernel_rfl) hw2 (by kernel_rfl) ?_ ?_
          · intro wz hSw; (first | (go_simp; done) | (go_simp; with_reducible rfl))
          intro vw3 hw3
          clear hw2 vw2
          (try simp only [Act.put, List.getElem_toArray, List.getElem_cons_zero, List.getElem_cons_succ, List.setIfInBounds_toArray, List.set_cons_zero, List.set_cons_succ])
          refine give_pure [] 3 (.pointer (some ⟨B6, r * 4 + k, none⟩)) hG rfl (by kernel_rfl) hw3 (by kernel_rfl) ?_ ?_
          · intro wz hSw; (first | (go_simp; done) | (go_simp; with_reducible rfl))
          intro vw4 hw4
          clear hw3 vw3
          (try simp only [Act.put, List.getElem_toArray, List.getElem_cons_zero, List.getElem_cons_succ, List.setIfInBounds_toArray, List.set_cons_zero, List.set_cons_succ])
          refine give_pure [] 4 (.int .i64 n) hG rfl (by kernel_rfl) hw4 (by kernel_rfl) ?_ ?_
          · intro wz hSw; have hcc := hct.out wz (RowAt.below hSw HI.out.rd); (first | (go_simp; done) | (go_simp; with_reducible rfl))
          intro vw5 hw5
          clear hw4 vw4
          (try simp only [Act.put, List.getElem_toArray, List.getElem_cons_zero, List.getElem_cons_succ, List.setIfInBounds_toArray, List.set_cons_zero, List.set_cons_succ])
          refine give_pure [] 5 (?_) hG rfl (by kernel_rfl) hw5 (by kernel_rfl) ?_ ?_
          rotate_left
          · intro wz hSw; (first | (go_simp; done) | (go_simp; with_reducible rfl))
          intro vw6 hw6
          clear hw5 vw5
          (try simp only [Act.put, List.getElem_toArray, List.getElem_cons_zero, List.getElem_cons_succ, List.setIfInBounds_toArray, List.set_cons_zero, List.set_cons_succ])
          refine give_pure [] 6 (?_) hG rfl (by kernel_rfl) hw6 (by kernel_rfl) ?_ ?_
          rotate_left
          · intro wz hSw; (first | (go_simp; done) | (go_simp; with_reducible rfl))
          intro vw7 hw7
          clear hw6 vw6
          (try simp only [Act.put, List.getElem_toArray, List.getElem_cons_zero, List.getElem_cons_succ, List.setIfInBounds_toArray, List.set_cons_zero, List.set_cons_succ])
          refine give_pure [] 7 (.pointer (some ⟨w.heap.size, k * 4, none⟩)) hG rfl (by kernel_rfl) hw7 (by kernel_rfl) ?_ ?_
          · intro wz hSw; (first | (go_simp; done) | (go_simp; with_reducible rfl))
          intro vw8 hw8
          clear hw7 vw7
          (try simp only [Act.put, List.getElem_toArray, List.getElem_cons_zero, List.getElem_cons_succ, List.setIfInBounds_toArray, List.set_cons_zero, List.set_cons_succ])
          refine give_pure [] 8 (.pointer (some ⟨w.heap.size, k * 4 + r, none⟩)) hG rfl (by kernel_rfl) hw8 (by kernel_rfl) ?_ ?_
          · intro wz hSw; (first | (go_simp; done) | (go_simp; with_reducible rfl))
          intro vw9 hw9
          clear hw8 vw8
          (try simp only [Act.put, List.getElem_toArray, List.getElem_cons_zero, List.getElem_cons_succ, List.setIfInBounds_toArray, List.set_cons_zero, List.set_cons_succ])
          refine give_pure [] 9 (.int .i64 n) hG rfl (by kernel_rfl) hw9 (by kernel_rfl) ?_ ?_
          · intro wz hSw; have hcc := hcm.out wz (RowAt.below hSw HI.out.rm); (first | (go_simp; done) | (go_simp; with_reducible rfl))
          intro vw10 hw10
          clear hw9 vw9
          (try simp only [Act.put, List.getElem_toArray, List.getElem_cons_zero, List.getElem_cons_succ, List.setIfInBounds_toArray, List.set_cons_zero, List.set_cons_succ])
          refine give_pure [] 10 (.bool false) hG rfl (by kernel_rfl) hw10 (by kernel_rfl) ?_ ?_
          · intro wz hSw; (first | (go_simp; done) | (go_simp; with_reducible rfl))
          intro vw11 hw11
          clear hw10 vw10
          (try simp only [Act.put, List.getElem_toArray, List.getElem_cons_zero, List.getElem_cons_succ, List.setIfInBounds_toArray, List.set_cons_zero, List.set_cons_succ])
          refine give_done (by kernel_rfl) (?_) _
          refine hK12 _ _ ?_
          have I2 := Lib.hid (HI.out.up hw11)
          clear hK12 hG hcm hct HI hw11
          go_wp2_with fail
          go_roundg (4 - (k + 1))
          case measure => omega
          case rel => exact ⟨k + 1, rfl, by go_num, by omega, I2.out⟩
        · obtain rfl : k = 4 := by omega
          have k1 : ¬ ((4 : Nat) : Int) < 4 := by omega
          go_wp2_with fail
          go_roundg (4 - (r + 1))
          case measure => omega
          case rel => exact ⟨r + 1, rfl, by go_num, by omega, HI.out⟩
    · obtain rfl : r = 4 := by omega
      have r1 : ¬ ((4 : Nat) : Int) < 4 := by omega
      have Ra := Lib.hid HI.out.ra
      have Rb := Lib.hid HI.out.rb
      have Rc := Lib.hid HI.out.rc
      have Rt := Lib.hid HI.out.rt
      have Ru := Lib.hid HI.out.ru
      have HB := Lib.hid HI.out.below
      clear HI
      have he1 := HE1.out
      have he2 := HE2.out
      have he3 := HE3.out
      have he4 := HE4.out
      simp only [beq_self_eq_true] at he1 he2 he3 he4
      go_wp2_with (first | (refine wpList_load_row rfl 64 (.tmp 14) rfl (B1) rfl _ _ _ _ Ra.out Try.underlying64 rfl size16 ?_) | (refine wpList_load_big (by kernel_rfl) 64 (.tmp 15) rfl (B1 + 1) rfl _ _ _ _ Rb.out Try.underlying64 rfl size16 ?_) | (refine wpList_load_big (by kernel_rfl) 64 (.tmp 16) rfl (B1 + 1 + 1) rfl _ _ _ _ Rc.out Try.underlying64 rfl size16 ?_) | (refine wpList_load_big (by kernel_rfl) 64 (.tmp 17) rfl (B4) rfl _ _ _ _ Rt.out Try.underlying64 rfl IT.out ?_) | (refine wpList_load_big (by kernel_rfl) 64 (.tmp 19) rfl (B5) rfl _ _ _ _ Ru.out Try.underlying64 rfl IT.out ?_) | (refine wpList_build_big (by kernel_rfl) 64 #[(0, .tmp 69), (1, .tmp 72), (2, .tmp 75), (3, .tmp 77)] rfl (mC (mvl x y z)) (by kernel_rfl) ?_) | (refine wpList_build_big (by kernel_rfl) 64 #[(0, .tmp 83), (1, .tmp 85), (2, .tmp 87), (3, .tmp 89)] rfl (mC (scl x y z)) (by kernel_rfl) ?_) | (refine wpList_build_big (by kernel_rfl) 64 #[(0, .tmp 96), (1, .tmp 98), (2, .tmp 100), (3, .tmp 102)] rfl (mC (idl)) (by kernel_rfl) ?_))
      go_ret
      exact ⟨rfl, HB.out⟩
theorem turn_len (o : Nat) (r : Nat) : (trn o r).length = 16 := trn_len _ _
theorem law_matrixMakes (m : List Int) (lm : m.length = 16) (x : Int) (wx : (Lit.int .i64 x).wf = true) (y : Int) (wy : (Lit.int .i64 y).wf = true) (z : Int) (wz : (Lit.int .i64 z).wf = true) (ax q : Int) (w : World) :
    Calls Try.prog 7 #[.agg (mC m), .int .i64 x, .int .i64 y, .int .i64 z, .int .i64 ax, .int .i64 q] w fun e w' => e = .returned (.bool true) ∧ Below w.heap.size w w' := by
  have cV := Lib.hid fun w => move_any x y z w
  have cS := Lib.hid fun w => scale_any x y z w
  have cI := Lib.hid fun w => identity_any w
  have cX := Lib.hid fun w => across_any m w lm
  by_cases h : ax < 0 ∨ 3 ≤ ax
  · exact makes_walk m zero16 x y z ax q 2 w lm rfl cV cS cI (Lib.hid fun w => turn_no ax q w h) (Lib.hid fun w => zturn_no ax q w h) cX
  · obtain ⟨a, ha⟩ : ∃ a : Nat, ax = (a : Int) := ⟨ax.toNat, by omega⟩
    obtain ⟨r, hr⟩ : ∃ r : Nat, q % 4 = (r : Int) := ⟨(q % 4).toNat, by omega⟩
    subst ha
    exact makes_walk m (trn a r) x y z a q 0 w lm (trn_len _ _) cV cS cI (Lib.hid fun w => turn_any a q r (by omega) (by omega) hr w) (Lib.hid fun w => zturn_any a q r (by omega) (by omega) hr w) cX
end Go.Proofs.Ytgkcbadfjhicnaa.Fx
