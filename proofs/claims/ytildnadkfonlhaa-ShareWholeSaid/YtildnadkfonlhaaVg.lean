/- The first rule that a scene breaks, and by which object: the program's Wrong, walked. -/
import Derived.Test.YtildnadkfonlhaaProg
import Derived.Test.YtildnadkfonlhaaVm
import Derived.Test.YtildnadkfonlhaaHg
import Derived.Shelf.AbstractIn
import Derived.Laws.EntriesVeiled
set_option linter.unusedVariables false
set_option linter.unusedSimpArgs false
namespace Go.Proofs.Ytildnadkfonlhaa.Fx
open Go Go.RowKit Go.Shelf
attribute [local go_sem] Oper.semAt_some
theorem wpList_stop {P : Program} {ops : Array Oper} {rest : List Oper} {op : Oper} {a : Act} {w : World} {Q : Exit → Act → World → Prop} (o : Op) (ho : op.op = o) (h : Hid (wpList P ops Q (op :: rest) a w)) : wpList P ops Q (op :: rest) a w := h.out
/-- the boxes of Wrong: the scene, two results, the scene of the rules, the rules -/
structure WgS (s : ScR) (A : Nat) (x y : Int) (w W : World) : Prop where
  box : ScAt w.heap.size s W
  r1 : W.heap[w.heap.size + 1]? = some (.cells #[.int .i64 x] 3 (0, 0))
  r2 : W.heap[w.heap.size + 1 + 1]? = some (.cells #[.int .i64 y] 3 (0, 0))
  lt : w.heap.size + 1 + 1 < A
  dsc : ScAt A s W
  dut : DutyAt (A + 1) A W
  below : Below w.heap.size w W
theorem WgS.kept {s : ScR} {A : Nat} {x y : Int} {B : Nat} {w W X : World} (hB : w.heap.size ≤ B) (h : Kept B W X) (i : WgS s A x y w W) : WgS s A x y w X :=
  ⟨i.box.kept h, h.cells i.r1, h.cells i.r2, i.lt, i.dsc.kept h, h.cells i.dut, h.below hB i.below⟩
theorem WgS.up {s : ScR} {A : Nat} {x y : Int} {w W X : World} (h : Below W.heap.size W X) (i : WgS s A x y w W) : WgS s A x y w X :=
  ⟨i.box.below h, keep_row h i.r1, keep_row h i.r2, i.lt, i.dsc.below h, keep_row h i.dut, bnext i.below h⟩
theorem WgS.facts {s : ScR} {A : Nat} {x y : Int} {w W : World} (i : WgS s A x y w W) :
    W.cell? ⟨w.heap.size + 1, 0, none⟩ = some (.int .i64 x) ∧ W.cell? ⟨w.heap.size + 1 + 1, 0, none⟩ = some (.int .i64 y) ∧ W.frozen? ⟨w.heap.size + 1, 0, none⟩ = false ∧ W.frozen? ⟨w.heap.size + 1 + 1, 0, none⟩ = false :=
  ⟨by rw [cell_of_row _ _ _ _ _ _ i.r1]; rfl, by rw [cell_of_row _ _ _ _ _ _ i.r2]; rfl, frozen_row i.r1, frozen_row i.r2⟩
theorem WgS.put {s : ScR} {A : Nat} {x y x2 y2 : Int} {w W : World} (i : WgS s A x y w W) : WgS s A x2 y2 w ((W.setCell ⟨w.heap.size + 1, 0, none⟩ (.int .i64 x2)).setCell ⟨w.heap.size + 1 + 1, 0, none⟩ (.int .i64 y2)) := by
  have a1 := heap_setCell_same W _ 0 _ _ (.int .i64 x2) i.r1
  have hA := i.lt
  have o1 : ∀ {g : Nat} {ob : Obj}, g ≠ w.heap.size + 1 → g ≠ w.heap.size + 1 + 1 → W.heap[g]? = some ob → ((W.setCell ⟨w.heap.size + 1, 0, none⟩ (.int .i64 x2)).setCell ⟨w.heap.size + 1 + 1, 0, none⟩ (.int .i64 y2)).heap[g]? = some ob := fun h1 h2 h => by
    rw [heap_setCell_other _ _ _ _ h2, heap_setCell_other _ _ _ _ h1]
    exact h
  refine ⟨o1 (by omega) (by omega) i.box, ?_, ?_, hA, o1 (by omega) (by omega) i.dsc, o1 (by omega) (by omega) i.dut, (i.below.setCell (p := ⟨w.heap.size + 1, 0, none⟩) (by show _ ≤ w.heap.size + 1; omega) _).setCell (p := ⟨w.heap.size + 1 + 1, 0, none⟩) (by show _ ≤ w.heap.size + 1 + 1; omega) _⟩
  · rw [heap_setCell_other _ _ _ _ (by show _ ≠ w.heap.size + 1 + 1; omega)]
    exact a1
  · have a2 : (W.setCell ⟨w.heap.size + 1, 0, none⟩ (.int .i64 x2)).heap[w.heap.size + 1 + 1]? = some (.cells #[.int .i64 y] 3 (0, 0)) := by
      rw [heap_setCell_other _ _ _ _ (by show _ ≠ w.heap.size + 1; omega)]
      exact i.r2
    exact heap_setCell_same _ _ 0 _ _ (.int .i64 y2) a2
theorem WgS.drew {s : ScR} {A : Nat} {x y : Int} {w W : World} (i : WgS s A x y w W) : WgS s A x y w W.drew := i.up (bdrew0 _ W 1)
/-- in a round of the rules: the rule's number and itself, the iterator's scene -/
structure WnS (s : ScR) (A : Nat) (r : Int) (g : Nat) (lb : Array Value) (b : Nat) (x y : Int) (w W : World) : Prop where
  wg : WgS s A x y w W
  lt : A + 1 < b
  num : W.heap[b]? = some (.cells #[.int .i64 r] 3 (0, 0))
  rul : W.heap[b + 1]? = some (.cells #[.func (.func g) #[] lb] 71 (0, 0))
  it : ScAt (b + 1 + 1) s W
theorem WnS.kept {s : ScR} {A : Nat} {r : Int} {g : Nat} {lb : Array Value} {b : Nat} {x y : Int} {B : Nat} {w W X : World} (hB : w.heap.size ≤ B) (h : Kept B W X) (i : WnS s A r g lb b x y w W) : WnS s A r g lb b x y w X :=
  ⟨i.wg.kept hB h, i.lt, h.cells i.num, h.cells i.rul, i.it.kept h⟩
theorem WnS.up {s : ScR} {A : Nat} {r : Int} {g : Nat} {lb : Array Value} {b : Nat} {x y : Int} {w W X : World} (h : Below W.heap.size W X) (i : WnS s A r g lb b x y w W) : WnS s A r g lb b x y w X :=
  ⟨i.wg.up h, i.lt, keep_row h i.num, keep_row h i.rul, i.it.below h⟩
theorem WnS.facts {s : ScR} {A : Nat} {r : Int} {g : Nat} {lb : Array Value} {b : Nat} {x y : Int} {w W : World} (i : WnS s A r g lb b x y w W) : W.cell? ⟨b, 0, none⟩ = some (.int .i64 r) ∧ W.cell? ⟨b + 1, 0, none⟩ = some (.func (.func g) #[] lb) :=
  ⟨by rw [cell_of_row _ _ _ _ _ _ i.num]; rfl, by rw [cell_of_row _ _ _ _ _ _ i.rul]; rfl⟩
theorem WnS.put {s : ScR} {A : Nat} {r : Int} {g : Nat} {lb : Array Value} {b : Nat} {x y x2 y2 : Int} {w W : World} (i : WnS s A r g lb b x y w W) : WnS s A r g lb b x2 y2 w ((W.setCell ⟨w.heap.size + 1, 0, none⟩ (.int .i64 x2)).setCell ⟨w.heap.size + 1 + 1, 0, none⟩ (.int .i64 y2)) := by
  have hA := i.wg.lt
  have hb := i.lt
  have o1 : ∀ {g : Nat} {ob : Obj}, g ≠ w.heap.size + 1 → g ≠ w.heap.size + 1 + 1 → W.heap[g]? = some ob → ((W.setCell ⟨w.heap.size + 1, 0, none⟩ (.int .i64 x2)).setCell ⟨w.heap.size + 1 + 1, 0, none⟩ (.int .i64 y2)).heap[g]? = some ob := fun h1 h2 h => by
    rw [heap_setCell_other _ _ _ _ h2, heap_setCell_other _ _ _ _ h1]
    exact h
  exact ⟨i.wg.put, hb, o1 (by omega) (by omega) i.num, o1 (by omega) (by omega) i.rul, o1 (by omega) (by omega) i.it⟩
/-- ahead of the rules: the scene and the two results -/
structure WhS (s : ScR) (x y : Int) (w W : World) : Prop where
  box : ScAt w.heap.size s W
  r1 : W.heap[w.heap.size + 1]? = some (.cells #[.int .i64 x] 3 (0, 0))
  r2 : W.heap[w.heap.size + 1 + 1]? = some (.cells #[.int .i64 y] 3 (0, 0))
  below : Below w.heap.size w W
theorem WhS.up {s : ScR} {x y : Int} {w W X : World} (h : Below W.heap.size W X) (i : WhS s x y w W) : WhS s x y w X :=
  ⟨i.box.below h, keep_row h i.r1, keep_row h i.r2, bnext i.below h⟩
theorem WhS.new (s : ScR) (w : World) : WhS s 0 0 w (((w.alloc (.cells (scC s) 32)).alloc (.cells #[.int .i64 0] 3)).alloc (.cells #[.int .i64 0] 3)) := by
  refine ⟨step_row (step_row (ScAt.new w s)), ?_, ?_, (((Below.refl _ w).alloc (Nat.le_refl _) _).alloc (by simp) _).alloc (by simp; omega) _⟩
  · have := heap_alloc_new (w.alloc (.cells (scC s) 32)) (.cells #[.int .i64 0] 3)
    rw [World.size_alloc] at this
    exact step_row this
  · have := heap_alloc_new ((w.alloc (.cells (scC s) 32)).alloc (.cells #[.int .i64 0] 3)) (.cells #[.int .i64 0] 3)
    rw [World.size_alloc, World.size_alloc] at this
    exact this
theorem WhS.facts {s : ScR} {x y : Int} {w W : World} (i : WhS s x y w W) :
    W.cell? ⟨w.heap.size + 1, 0, none⟩ = some (.int .i64 x) ∧ W.cell? ⟨w.heap.size + 1 + 1, 0, none⟩ = some (.int .i64 y) ∧ W.frozen? ⟨w.heap.size + 1, 0, none⟩ = false ∧ W.frozen? ⟨w.heap.size + 1 + 1, 0, none⟩ = false :=
  ⟨by rw [cell_of_row _ _ _ _ _ _ i.r1]; rfl, by rw [cell_of_row _ _ _ _ _ _ i.r2]; rfl, frozen_row i.r1, frozen_row i.r2⟩
theorem WhS.put {s : ScR} {x y x2 y2 : Int} {w W : World} (i : WhS s x y w W) : WhS s x2 y2 w ((W.setCell ⟨w.heap.size + 1, 0, none⟩ (.int .i64 x2)).setCell ⟨w.heap.size + 1 + 1, 0, none⟩ (.int .i64 y2)) := by
  have a1 := heap_setCell_same W _ 0 _ _ (.int .i64 x2) i.r1
  refine ⟨?_, ?_, ?_, (i.below.setCell (p := ⟨w.heap.size + 1, 0, none⟩) (by show _ ≤ w.heap.size + 1; omega) _).setCell (p := ⟨w.heap.size + 1 + 1, 0, none⟩) (by show _ ≤ w.heap.size + 1 + 1; omega) _⟩
  · unfold ScAt
    rw [heap_setCell_other _ _ _ _ (by show _ ≠ w.heap.size + 1 + 1; omega), heap_setCell_other _ _ _ _ (by show _ ≠ w.heap.size + 1; omega)]
    exact i.box
  · rw [heap_setCell_other _ _ _ _ (by show _ ≠ w.heap.size + 1 + 1; omega)]
    exact a1
  · have a2 : (W.setCell ⟨w.heap.size + 1, 0, none⟩ (.int .i64 x2)).heap[w.heap.size + 1 + 1]? = some (.cells #[.int .i64 y] 3 (0, 0)) := by
      rw [heap_setCell_other _ _ _ _ (by show _ ≠ w.heap.size + 1; omega)]
      exact i.r2
    exact heap_setCell_same _ _ 0 _ _ (.int .i64 y2) a2
theorem WhS.put2 {s : ScR} {x y y2 : Int} {w W : World} (i : WhS s x y w W) : WhS s x y2 w (W.setCell ⟨w.heap.size + 1 + 1, 0, none⟩ (.int .i64 y2)) := by
  refine ⟨?_, ?_, heap_setCell_same _ _ 0 _ _ (.int .i64 y2) i.r2, i.below.setCell (p := ⟨w.heap.size + 1 + 1, 0, none⟩) (by show _ ≤ w.heap.size + 1 + 1; omega) _⟩
  · unfold ScAt
    rw [heap_setCell_other _ _ _ _ (by show _ ≠ w.heap.size + 1 + 1; omega)]
    exact i.box
  · rw [heap_setCell_other _ _ _ _ (by show _ ≠ w.heap.size + 1 + 1; omega)]
    exact i.r1
theorem WhS.kept {s : ScR} {x y : Int} {B : Nat} {w W X : World} (hB : w.heap.size ≤ B) (h : Kept B W X) (i : WhS s x y w W) : WhS s x y w X :=
  ⟨i.box.kept h, h.cells i.r1, h.cells i.r2, h.below hB i.below⟩
theorem keeps_drew (B : Nat) (W : World) : KeepsFrom B W W.drew := ⟨Nat.le_refl _, fun _ _ _ h _ => h⟩
theorem end_ret {n : Nat} {P : Program} {fn : Func} {R : Ending → World → Prop} {a : Act} {W : World} {B hi : Nat} (h : DefOk B hi a.defers W) (H : ∀ X, Kept B W X → LeavesInM Fence.wide n P fn a.tmps R [] .returning X) : Exit.noGoto (bodyPostM Fence.wide n P fn R) .ret a W :=
  leaves_all _ hi W h H
theorem size_side (s : ScR) : sizeB s = !((decide (1 ≤ s.w) && decide (s.w ≤ 64)) && (decide (1 ≤ s.h) && decide (s.h ≤ 64))) := by
  unfold sizeB
  by_cases h1 : 1 ≤ s.w <;> by_cases h2 : s.w ≤ 64 <;> by_cases h3 : 1 ≤ s.h <;> by_cases h4 : s.h ≤ 64 <;> simp [h1, h2, h3, h4] <;> omega
/-- what the outer loop hands on -/
def WgI (s : ScR) (A : Nat) (w : World) (n : Nat) (a : Act) (W : World) : Prop :=
  ∃ (r : Nat) (ds : List Deferred) (v0 v4 v5 v6 v7 v8 v9 v10 v11 v12 v13 v14 v15 v16 v17 v18 v19 v20 v21 v22 v23 v24 v25 v26 v27 v28 v29 v33 v34 v35 v36 v37 v38 v39 v40 v41 v42 v43 v44 v45 v46 v47 v48 v49 v50 v51 : Value), n = 5 - r ∧ r ≤ 5 ∧ (∀ q, 4 ≤ q → q < 4 + r → badIn s q = none) ∧ WgS s A 0 (-1) w W ∧ DefOk w.heap.size W.heap.size ds W ∧
  a = { tmps := #[v0, .pointer (some ⟨w.heap.size, 0, none⟩), .pointer (some ⟨w.heap.size + 1, 0, none⟩), .pointer (some ⟨w.heap.size + 1 + 1, 0, none⟩), v4, v5, v6, v7, v8, v9, v10, v11, v12, v13, v14, v15, v16, v17, v18, v19, v20, v21, v22, v23, v24, v25, v26, v27, v28, v29, .slice (some ⟨A + 1, 0, none⟩) 5 5, .int .i64 5, .int .i64 (r : Int), v33, v34, v35, v36, v37, v38, v39, v40, v41, v42, v43, v44, v45, v46, v47, v48, v49, v50, v51], defers := ds }
set_option maxRecDepth 100000 in
set_option maxHeartbeats 4000000 in
theorem pwrong_any (s : ScR) (w : World) (hs : ScWf s) (h : ObjsAt w s.oo s.os) :
    Calls Try.prog 23 #[.agg (scC s)] w (RetWrong (wrongZ s) w) := by
  have HI := Lib.hid (WhS.new s w)
  have HS := Lib.hid hs
  have HO := Lib.hid h
  obtain ⟨V, hV⟩ : ∃ V, (((w.alloc (.cells (scC s) 32)).alloc (.cells #[.int .i64 0] 3)).alloc (.cells #[.int .i64 0] 3)) = V := ⟨_, rfl⟩
  rw [hV] at HI
  have HV := Lib.hid hV
  obtain ⟨c1, c2, f1, f2⟩ := HI.out.facts
  have d0 : V.cell? ⟨w.heap.size, 0, none⟩ = some (.int .i64 s.w) := HI.out.box.c0
  have d1 : V.cell? ⟨w.heap.size, 1, none⟩ = some (.int .i64 s.h) := HI.out.box.c1
  have HZ := Lib.hid (size_side s)
  have HBAD : Hid (sizeB s = true → wrongZ s = (1, -1)) := Lib.hid (fun h => by unfold wrongZ; rw [if_pos h])
  have HW := Lib.hid (fun (W : World) => side_any s.w W)
  have HH := Lib.hid (fun (W : World) => side_any s.h W)
  clear h hs hV
  generalize (decide (1 ≤ s.w) && decide (s.w ≤ 64)) = b1 at HZ HW
  generalize (decide (1 ≤ s.h) && decide (s.h ≤ 64)) = b2 at HZ HH
  refine (callsIn_wide (n := 5)).1 ?_
  refine callsIn_of_wp_marks Try.func23 rfl trivial ?_ rfl
  simp only [Try.ntmps23, List.size_toArray, List.length_cons, List.length_nil, Nat.reduceAdd, Nat.reduceSub, Array.replicate_succ, Array.replicate_zero, List.push_toArray, List.append_toArray, List.nil_append, List.cons_append]
  refine wpIn_wide.2 ?_
  cases b1 with
  | false =>
    have HR := Lib.hid (HBAD.out (by rw [HZ.out]; rfl))
    go_wp2_with (first | go_step3 | (rw [HV.out]))
    refine (HW.out _).mono ?_
    rintro e w' ⟨rfl, rfl⟩
    go_wp2_with fail
    refine end_ret (B := w.heap.size) (hi := 0) (DefOk.nil _ _ _) (fun X hk => ?_)
    have fs2 := (HI.out.put (x2 := 1) (y2 := (-1))).kept (Nat.le_refl _) hk
    obtain ⟨d1, d2, _, _⟩ := fs2.facts
    have HBL := Lib.hid fs2.below
    clear fs2 hk
    refine ⟨.tuple #[.int .i64 1, .int .i64 (-1)], ?_, by rw [HR.out], HBL.out⟩
    simp [results, Try.results23, go_sem, *]
  | true =>
    go_wp2_with (first | go_step3 | (rw [HV.out]))
    refine (HW.out _).mono ?_
    rintro e w' ⟨rfl, rfl⟩
    go_wp2_with fail
    refine (HH.out _).mono ?_
    rintro e w1 ⟨rfl, rfl⟩
    cases b2 with
    | false =>
      have HR := Lib.hid (HBAD.out (by rw [HZ.out]; rfl))
      go_wp2_with fail
      refine end_ret (B := w.heap.size) (hi := 0) (DefOk.nil _ _ _) (fun X hk => ?_)
      have fs2 := (HI.out.put (x2 := 1) (y2 := (-1))).kept (Nat.le_refl _) hk
      obtain ⟨d1, d2, _, _⟩ := fs2.facts
      have HBL := Lib.hid fs2.below
      clear fs2 hk
      refine ⟨.tuple #[.int .i64 1, .int .i64 (-1)], ?_, by rw [HR.out], HBL.out⟩
      simp [results, Try.results23, go_sem, *]
    | true =>
      have HZ0 : Hid (sizeB s = false) := Lib.hid (by rw [HZ.out]; rfl)
      have hC := Lib.hid (sizeM HS.out.len)
      have HCH := Lib.hid (fun (W : World) => check_any s.cam 16777216 W HS.out.len (by omega) (by omega))
      obtain ⟨ok, hok⟩ : ∃ b, wB 16777216 s.cam 16 = b := ⟨_, rfl⟩
      have HOK := Lib.hid hok
      rw [hok] at HCH
      clear hok HBAD HZ HW HH d0 d1
      cases ok with
      | false =>
        have HR : Hid (wrongZ s = (2, -1)) := Lib.hid (by unfold wrongZ; rw [if_neg (by simp [HZ0.out]), if_pos HOK.out])
        go_wp2_with (refine wpList_load_mid rfl 29 (.tmp 20) rfl w.heap.size 2 rfl (s.cam.map encI) _ HI.out.box.cam Try.underlying29 rfl hC.out ?_)
        refine (HCH.out _).mono ?_
        rintro e w2 ⟨rfl, hb⟩
        have HI2 := Lib.hid (HI.out.up hb)
        clear hb c1 c2 f1 f2 HI
        obtain ⟨c1, c2, f1, f2⟩ := HI2.out.facts
        go_wp2_with fail
        refine end_ret (B := w.heap.size) (hi := 0) (DefOk.nil _ _ _) (fun X hk => ?_)
        have fs2 := (HI2.out.put (x2 := 2) (y2 := (-1))).kept (Nat.le_refl _) hk
        obtain ⟨d1, d2, _, _⟩ := fs2.facts
        have HBL := Lib.hid fs2.below
        clear fs2 hk
        refine ⟨.tuple #[.int .i64 2, .int .i64 (-1)], ?_, by rw [HR.out], HBL.out⟩
        simp [results, Try.results23, go_sem, *]
      | true =>
        go_wp2_with (refine wpList_load_mid rfl 29 (.tmp 20) rfl w.heap.size 2 rfl (s.cam.map encI) _ HI.out.box.cam Try.underlying29 rfl hC.out ?_)
        refine (HCH.out _).mono ?_
        rintro e w2 ⟨rfl, hb⟩
        have HI2 := Lib.hid (HI.out.up hb)
        clear hb c1 c2 f1 f2 HI
        obtain ⟨c1, c2, f1, f2⟩ := HI2.out.facts
        have c18 := HI2.out.box.c18 HS.out
        have hcap := HS.out.cap.1
        obtain ⟨n, hn⟩ : ∃ n, s.os.length = n := ⟨_, rfl⟩
        have HN := Lib.hid hn
        rw [hn] at c18 hcap
        have n0 : (0 : Int) ≤ (n : Int) := by omega
        have n1 : (n : Int) ≤ 9223372036854775807 := by omega
        clear hn hcap
        by_cases h16 : 16 < n
        · have t1 : (16 : Int) < (n : Int) := by omega
          have HR : Hid (wrongZ s = (3, -1)) := Lib.hid (by unfold wrongZ; rw [if_neg (by simp [HZ0.out]), if_neg (by simp [HOK.out]), if_pos (by rw [HN.out]; exact h16)])
          go_wp2_with fail
          refine end_ret (B := w.heap.size) (hi := 0) (DefOk.nil _ _ _) (fun X hk => ?_)
          have fs2 := (HI2.out.put (x2 := 3) (y2 := (-1))).kept (Nat.le_refl _) hk
          obtain ⟨d1, d2, _, _⟩ := fs2.facts
          have HBL := Lib.hid fs2.below
          clear fs2 hk
          refine ⟨.tuple #[.int .i64 3, .int .i64 (-1)], ?_, by rw [HR.out], HBL.out⟩
          simp [results, Try.results23, go_sem, *]
        · have t1 : ¬ (16 : Int) < (n : Int) := by omega
          have H16 : Hid (s.os.length ≤ 16) := Lib.hid (by rw [HN.out]; omega)
          have HI3 := Lib.hid (HI2.out.put2 (y2 := -1))
          have hall := Lib.hid (sizeS HS.out)
          clear h16
          go_wp2_with (first | go_step3 | refine wpList_load_mid rfl 32 (.tmp 1) rfl w.heap.size 0 rfl (scL s) _ HI3.out.box.all Try.underlying32 rfl hall.out ?_)
          clear c18 t1 c1 c2 f1 f2 HI2
          refine (duties_w s _).mono ?_
          obtain ⟨W3, hW3⟩ : ∃ W3, w2.setCell ⟨w.heap.size + 1 + 1, 0, none⟩ (.int .i64 (-1)) = W3 := ⟨_, rfl⟩
          rw [hW3] at HI3 ⊢
          clear hW3
          rintro e w3 ⟨rfl, rfl⟩
          obtain ⟨A, hA⟩ : ∃ A, W3.heap.size = A := ⟨_, rfl⟩
          obtain ⟨W4, hW4⟩ : ∃ W4, (W3.alloc (.cells (scC s) 32)).alloc (.cells (dutyC A) 71) = W4 := ⟨_, rfl⟩
          have HG : Hid (WgS s A 0 (-1) w W4) := Lib.hid (by
            have hB : Below W3.heap.size W3 W4 := by rw [← hW4]; exact ((Below.refl _ W3).alloc (Nat.le_refl _) _).alloc (by simp) _
            have i := HI3.out.up hB
            refine ⟨i.box, i.r1, i.r2, ?_, ?_, ?_, i.below⟩
            · have := (Array.getElem?_eq_some_iff.1 HI3.out.r2).1
              omega
            · rw [← hW4, ← hA]
              exact step_row (ScAt.new W3 s)
            · rw [← hW4, ← hA]
              have := heap_alloc_new (W3.alloc (.cells (scC s) 32)) (.cells (dutyC W3.heap.size) 71)
              rw [World.size_alloc] at this
              exact this)
          have HHS : Hid (w.heap.size ≤ W4.heap.size) := Lib.hid HG.out.below.size
          rw [hA, hW4]
          clear hA hW4 HI3
          go_wp2_with fail
          refine wp_loop_ghost_k (WgI s A w) 5 ⟨0, [], _, _, _, _, _, _, _, _, _, _, _, _, _, _, _, _, _, _, _, _, _, _, _, _, _, _, _, _, _, _, _, _, _, _, _, _, _, _, _, _, _, _, _, _, _, _, rfl, by omega, fun q h1 h2 => absurd h2 (by omega), HG.out, DefOk.nil _ _ _, rfl⟩ ?_
          rintro g a W ⟨r, ds, v0, v4, v5, v6, v7, v8, v9, v10, v11, v12, v13, v14, v15, v16, v17, v18, v19, v20, v21, v22, v23, v24, v25, v26, v27, v28, v29, v33, v34, v35, v36, v37, v38, v39, v40, v41, v42, v43, v44, v45, v46, v47, v48, v49, v50, v51, rfl, hr, hq, hi, hd, rfl⟩ J K hJ hK
          have HI := Lib.hid hi
          have HD := Lib.hid hd
          have HQ := Lib.hid hq
          have HJ := Lib.hid hJ
          have r0 : (0 : Int) ≤ (r : Int) := by omega
          clear hi hd hq HG hJ
          by_cases hr5 : r < 5
          · have t1 : (r : Int) < 5 := by omega
            have c := HI.out.dut.cell hr5
            have eg := duty_enter hr5
            have HDU := Lib.hid (fun (x : ObjR) (k A : Nat) (w : World) => duty_any s x k r A w hr5)
            unfold dutyV at c
            obtain ⟨g, hg⟩ : ∃ g, dutyF r = g := ⟨_, rfl⟩
            obtain ⟨lb, hlb⟩ : ∃ lb, dutyL A r = lb := ⟨_, rfl⟩
            have HLB := Lib.hid hlb
            rw [hg] at c eg HDU
            rw [hlb] at c
            clear hg hlb
            obtain ⟨W5, hW5⟩ : ∃ W5, (W.alloc (.cells #[.int .i64 (r : Int)] 3)).alloc (.cells #[.func (.func g) #[] lb] 71) = W5 := ⟨_, rfl⟩
            obtain ⟨W6, hW6⟩ : ∃ W6, W5.alloc (.cells (scC s) 32) = W6 := ⟨_, rfl⟩
            have hs5 : W5.heap.size = W.heap.size + 1 + 1 := by rw [← hW5]; simp
            have hs6 : W6.heap.size = W.heap.size + 1 + 1 + 1 := by rw [← hW6, World.size_alloc, hs5]
            have hB5 : Below W.heap.size W W5 := by rw [← hW5]; exact ((Below.refl _ W).alloc (Nat.le_refl _) _).alloc (by simp) _
            have hB56 : Below W5.heap.size W5 W6 := by rw [← hW6]; exact (Below.refl _ W5).alloc (Nat.le_refl _) _
            have hB6 : Below W.heap.size W W6 := bnext hB5 hB56
            have HN0 : Hid (WnS s A (r : Int) g lb W.heap.size 0 (-1) w W6) := Lib.hid (by
              refine ⟨HI.out.up hB6, ?_, keep_row hB56 ?_, keep_row hB56 ?_, ?_⟩
              · have := (Array.getElem?_eq_some_iff.1 HI.out.dut).1
                omega
              · rw [← hW5]
                exact step_row (heap_alloc_new _ _)
              · rw [← hW5]
                have := heap_alloc_new (W.alloc (.cells #[.int .i64 (r : Int)] 3)) (.cells #[.func (.func g) #[] lb] 71)
                rw [World.size_alloc] at this
                exact this
              · rw [← hW6, ← hs5]
                exact ScAt.new W5 s)
            have HD6 : Hid (DefOk w.heap.size W.heap.size ds W6) := Lib.hid (HD.out.keeps (below_keeps hB6 _))
            have HBX : Hid (W5.rangeAt w.heap.size 0 (scL s)) := Lib.hid (HI.out.up hB5).box.all
            have HS6 := Lib.hid hs6
            have HS5 := Lib.hid hs5
            have HW6 := Lib.hid hW6
            have HW5 := Lib.hid hW5
            have HWW : Hid (w.heap.size ≤ W.heap.size) := Lib.hid HI.out.below.size
            clear hW5 hB5 hB56 hB6 hs5 hs6 hW6
            go_wp2_with (rw [HW5.out]; refine wpList_load_mid rfl 32 (.tmp 1) rfl w.heap.size 0 rfl (scL s) _ HBX.out Try.underlying32 rfl hall.out ?_)
            clear c t1
            refine (objects_w s _).mono ?_
            rintro e w' ⟨rfl, rfl⟩
            rw [HS5.out, HW6.out]
            go_wp2_with fail
            refine wpIn_wide.1 (wpIn_range_jump (F := Fence.wide) (n := 5) rfl (by omega) (gf := 47) (lb := #[.pointer (some ⟨W.heap.size + 1 + 1, 0, none⟩)]) rfl trivial (enters_of Try.func47 (by kernel_rfl) rfl)
              (obj_hands s (W.heap.size + 1 + 1) HS.out) (fun _ => rfl) (.exit 1)
              (fun j V => WnS s A (r : Int) g lb W.heap.size 0 (-1) w V ∧ DefOk w.heap.size W.heap.size ds V ∧ ∀ i, i < j → badAt s (4 + r) i = false)
              (fun V => ∃ j : Nat, WnS s A (r : Int) g lb W.heap.size (4 + (r : Int)) (j : Int) w V ∧ DefOk w.heap.size W.heap.size ds V ∧ badIn s (4 + r) = some j)
              (fun j a' V => (∃ b7, V.heap[b7]? = some (.cells (objL (s.os.getD j default)).toArray 48 (0, 0)) ∧ a' = { tmps := #[v0, .pointer (some ⟨w.heap.size, 0, none⟩), .pointer (some ⟨w.heap.size + 1, 0, none⟩), .pointer (some ⟨w.heap.size + 1 + 1, 0, none⟩), .pointer (some ⟨W.heap.size, 0, none⟩), .pointer (some ⟨W.heap.size + 1, 0, none⟩), .int .i64 (j : Int), .pointer (some ⟨b7, 0, none⟩), v8, v9, v10, v11, v12, v13, v14, v15, v16, v17, v18, v19, v20, v21, v22, v23, v24, v25, v26, v27, v28, v29, .slice (some ⟨A + 1, 0, none⟩) 5 5, .int .i64 5, .int .i64 (r : Int), .bool true, .int .i64 (r : Int), .pointer (some ⟨A + 1, r, none⟩), .func (.func g) #[] lb, .agg (scL s).toArray, .func (.func 47) #[] #[.pointer (some ⟨W.heap.size + 1 + 1, 0, none⟩)], .int .i64 (j : Int), .agg (objL (s.os.getD j default)).toArray, v41, v42, v43, v44, v45, v46, v47, v48, v49, v50, v51], defers := [] }) ∧ WnS s A (r : Int) g lb W.heap.size 0 (-1) w V ∧ DefOk w.heap.size W.heap.size ds V ∧ ∀ i, i < j → badAt s (4 + r) i = false)
              ?i1 ?i2 ?i3 ?i4 ?i5 ⟨HN0.out, HD6.out, fun i hi => absurd hi (by omega)⟩ ?assign ?body ?done ?stop)
            case i1 => rintro j V X ⟨h1, h2, h3⟩ hk; exact ⟨h1.kept (by have := HS6.out; have := HWW.out; omega) hk, h2.kept (by have := HS6.out; omega) hk, h3⟩
            case i2 => rintro V X ⟨j, h1, h2, h3⟩ hk; exact ⟨j, h1.kept (by have := HS6.out; have := HWW.out; omega) hk, h2.kept (by have := HS6.out; omega) hk, h3⟩
            case i3 => rintro j a V X ⟨⟨b7, h0, ha⟩, h1, h2, h3⟩ hk; exact ⟨⟨b7, hk.cells h0, ha⟩, h1.kept (by have := HS6.out; have := HWW.out; omega) hk, h2.kept (by have := HS6.out; omega) hk, h3⟩
            case i4 => rintro j V ⟨h1, h2, h3⟩; exact ⟨h1.it, HO.out.below h1.wg.below⟩
            case i5 => rintro V ⟨j, h1, h2, h3⟩; exact ⟨h1.it, HO.out.below h1.wg.below⟩
            case assign =>
              intro l1 j V C hk hI hC
              have hx : s.os[j]? = some (s.os.getD j default) := by rw [List.getD_eq_getElem?_getD, List.getElem?_eq_getElem hk]; rfl
              obtain ⟨b, off, e, hat⟩ := HO.out j _ hx
              simp only [objElem]
              have HA : Hid (∀ (X : World) (b7 : Nat), X.heap[b7]? = some (.cells (objL (s.os.getD j default)).toArray 48 (0, 0)) → ∃ c7, X.heap[c7]? = some (.cells (objL (s.os.getD j default)).toArray 48 (0, 0)) ∧ ({ tmps := #[v0, .pointer (some ⟨w.heap.size, 0, none⟩), .pointer (some ⟨w.heap.size + 1, 0, none⟩), .pointer (some ⟨w.heap.size + 1 + 1, 0, none⟩), .pointer (some ⟨W.heap.size, 0, none⟩), .pointer (some ⟨W.heap.size + 1, 0, none⟩), .int .i64 (j : Int), .pointer (some ⟨b7, 0, none⟩), v8, v9, v10, v11, v12, v13, v14, v15, v16, v17, v18, v19, v20, v21, v22, v23, v24, v25, v26, v27, v28, v29, .slice (some ⟨A + 1, 0, none⟩) 5 5, .int .i64 5, .int .i64 (r : Int), .bool true, .int .i64 (r : Int), .pointer (some ⟨A + 1, r, none⟩), .func (.func g) #[] lb, .agg (scL s).toArray, .func (.func 47) #[] #[.pointer (some ⟨W.heap.size + 1 + 1, 0, none⟩)], .int .i64 (j : Int), .agg (objL (s.os.getD j default)).toArray, v41, v42, v43, v44, v45, v46, v47, v48, v49, v50, v51], defers := [] } : Act) = { tmps := #[v0, .pointer (some ⟨w.heap.size, 0, none⟩), .pointer (some ⟨w.heap.size + 1, 0, none⟩), .pointer (some ⟨w.heap.size + 1 + 1, 0, none⟩), .pointer (some ⟨W.heap.size, 0, none⟩), .pointer (some ⟨W.heap.size + 1, 0, none⟩), .int .i64 (j : Int), .pointer (some ⟨c7, 0, none⟩), v8, v9, v10, v11, v12, v13, v14, v15, v16, v17, v18, v19, v20, v21, v22, v23, v24, v25, v26, v27, v28, v29, .slice (some ⟨A + 1, 0, none⟩) 5 5, .int .i64 5, .int .i64 (r : Int), .bool true, .int .i64 (r : Int), .pointer (some ⟨A + 1, r, none⟩), .func (.func g) #[] lb, .agg (scL s).toArray, .func (.func 47) #[] #[.pointer (some ⟨W.heap.size + 1 + 1, 0, none⟩)], .int .i64 (j : Int), .agg (objL (s.os.getD j default)).toArray, v41, v42, v43, v44, v45, v46, v47, v48, v49, v50, v51], defers := [] }) := Lib.hid (fun X b7 h => ⟨b7, h, rfl⟩)
              obtain ⟨x, hxx⟩ : ∃ x, s.os.getD j default = x := ⟨_, rfl⟩
              rw [hxx] at hat hx HA ⊢
              have hinfA := Lib.hid (show (Try.prog.info? 48).map (·.size) = some (objL x).toArray.size by rw [List.size_toArray, objL_len hat.wf]; kernel_rfl)
              have HL := Lib.hid (show 19 = (objL x).toArray.size by rw [List.size_toArray, objL_len hat.wf])
              have HONE := Lib.hid (objL_one x)
              have HB : Hid (Below V.heap.size V (V.alloc (.cells (objL x).toArray 48))) := Lib.hid ((Below.refl _ V).alloc (Nat.le_refl _) _)
              have HRN := Lib.hid (heap_alloc_new V (.cells (objL x).toArray 48))
              have HXX := Lib.hid hxx
              clear hat hx hxx e eg
              gi_wp2_with (refine wpListIn_store_new (fun _ => trivial) rfl 48 (.tmp 7) (.tmp 40) rfl V.heap.size _ _ (objL x).toArray rfl rfl rfl hinfA.out HL.out HONE.out ?_)
              refine hC _ _ (below_keeps HB.out _) ⟨by rw [HXX.out]; exact HA.out _ _ HRN.out, hI.1.up HB.out, hI.2.1.keeps (below_keeps HB.out _), hI.2.2⟩
            case body =>
              rintro l1 j a' V hk ⟨⟨b7, h7, ha⟩, hn, hdd, hpre⟩
              subst ha
              have hx : s.os[j]? = some (s.os.getD j default) := by rw [List.getD_eq_getElem?_getD, List.getElem?_eq_getElem hk]; rfl
              obtain ⟨x, hxx⟩ : ∃ x, s.os.getD j default = x := ⟨_, rfl⟩
              rw [hxx] at h7 hx ⊢
              have hob := HO.out.below hn.wg.below
              have HOX := Lib.hid (hob.wf hx).1
              have HR : Hid (V.rangeAt b7 0 (objL x)) := Lib.hid (fun i v hi => by
                rw [cell_of_row _ _ _ _ _ _ h7, Nat.zero_add]
                simpa using hi)
              have hinf := Lib.hid (show (Try.prog.info? 48).map (·.size) = some (objL x).length by rw [objL_len HOX.out]; kernel_rfl)
              have HC := Lib.hid (HDU.out x j A V HS.out hn.wg.dsc hob hx)
              have HBD := Lib.hid (duty_bad hr5 HS.out HOX.out hx HOK.out HQ.out)
              obtain ⟨c4, c5⟩ := hn.facts
              have HNN := Lib.hid hn
              have HDD := Lib.hid hdd
              have HPRE := Lib.hid hpre
              have HK := Lib.hid hk
              rw [HLB.out] at HC
              obtain ⟨ok, hok⟩ : ∃ b, dutyZ s r x j = b := ⟨_, rfl⟩
              rw [hok] at HC HBD
              clear hok h7 hx hxx hpre hn hdd hk hob
              gi_wp2_with (refine wpListIn_load_mid (fun _ => trivial) rfl 48 (.tmp 7) rfl b7 0 rfl (objL x) _ HR.out Try.underlying48 rfl hinf.out ?_)
              refine ⟨trivial, CallsIn.mono (CallsIn.inRound l1 (callsIn_wide.2 HC.out)) ?_⟩
              rintro e V8 ⟨rfl, hb⟩
              have HN8 := Lib.hid (HNN.out.up hb)
              have HD8 := Lib.hid (HDD.out.keeps (below_keeps hb _))
              have HKF := Lib.hid (below_keeps hb W6.heap.size)
              obtain ⟨e4, e5⟩ := HN8.out.facts
              obtain ⟨e1, e2, f1, f2⟩ := HN8.out.wg.facts
              clear hb c4 c5 HC HR
              cases ok with
              | true =>
                gi_wp2
                refine ⟨HKF.out, HN8.out, HD8.out, fun i hi => ?_⟩
                by_cases hij : i < j
                · exact HPRE.out i hij
                · rw [show i = j by omega]
                  exact HBD.out
              | false =>
                have HP := Lib.hid (HN8.out.put (x2 := 4 + (r : Int)) (y2 := (j : Int)))
                have HKS : Hid (KeepsFrom 0 V8 ((V8.setCell ⟨w.heap.size + 1, 0, none⟩ (.int .i64 (4 + (r : Int)))).setCell ⟨w.heap.size + 1 + 1, 0, none⟩ (.int .i64 (j : Int)))) := Lib.hid (((KeepsOthers.setCell _ _ _).trans (KeepsOthers.setCell _ _ _)).from _)
                have HKS2 : Hid (KeepsFrom W6.heap.size V8 ((V8.setCell ⟨w.heap.size + 1, 0, none⟩ (.int .i64 (4 + (r : Int)))).setCell ⟨w.heap.size + 1 + 1, 0, none⟩ (.int .i64 (j : Int)))) := Lib.hid (((KeepsOthers.setCell _ _ _).trans (KeepsOthers.setCell _ _ _)).from _)
                have HKS3 : Hid (KeepsFrom w.heap.size V8 ((V8.setCell ⟨w.heap.size + 1, 0, none⟩ (.int .i64 (4 + (r : Int)))).setCell ⟨w.heap.size + 1 + 1, 0, none⟩ (.int .i64 (j : Int)))) := Lib.hid (((KeepsOthers.setCell _ _ _).trans (KeepsOthers.setCell _ _ _)).from _)
                gi_wp2
                exact ⟨rfl, HKF.out.trans HKS2.out, j, HP.out, HD8.out.keeps HKS3.out, badIn_some HK.out HPRE.out HBD.out⟩
            case done =>
              rintro D V hD ⟨hn, hdd, hpre⟩ hdef
              have HB0 : Hid (badIn s (4 + r) = none) := Lib.hid (badIn_none hpre)
              have HNN := Lib.hid hn
              have HDN : Hid (DefOk w.heap.size V.heap.size ({ target := .collected D, args := #[] } :: ds) V) := Lib.hid ((hdd.cons (by have := HS6.out; have := HWW.out; omega) (by have := HS6.out; omega) hdef).wide (Array.getElem?_eq_some_iff.1 hdef).1)
              clear hn hdd hpre hdef hD eg
              go_wp2_with fail
              refine Handed.intro (5 - (r + 1)) (by omega) (HJ.out _ _ _ ⟨r + 1, _, _, _, _, _, _, _, _, _, _, _, _, _, _, _, _, _, _, _, _, _, _, _, _, _, _, _, _, _, _, _, _, _, _, _, _, _, _, _, _, _, _, _, _, _, _, _, rfl, by omega, fun q h1 h2 => ?_, HNN.out.wg, HDN.out, by rw [Int.natCast_add]; rfl⟩)
              by_cases hqr : q < 4 + r
              · exact HQ.out q h1 hqr
              · rw [show q = 4 + r by omega]
                exact HB0.out
            case stop =>
              rintro D V hD ⟨j, hn, hdd, hbad⟩ hdef
              have HR : Hid (wrongZ s = (4 + (r : Int), (j : Int))) := Lib.hid (by
                rw [wrong_at HZ0.out HOK.out H16.out (by omega) (by omega) HQ.out hbad]
                simp)
              have HIW := Lib.hid hn.wg
              have HDN : Hid (DefOk w.heap.size V.heap.size ({ target := .collected D, args := #[] } :: ds) V) := Lib.hid ((hdd.cons (by have := HS6.out; have := HWW.out; omega) (by have := HS6.out; omega) hdef).wide (Array.getElem?_eq_some_iff.1 hdef).1)
              obtain ⟨e1, e2, f1, f2⟩ := hn.wg.facts
              clear hn hdd hbad hdef hD eg
              refine wpIn_wide.2 ?_
              go_wp2_with fail
              refine wp_region_noPanic ?_
              refine (wpIn_wide (n := 5)).1 ?_
              refine heldz_region (S := fun X => X.cell? ⟨w.heap.size + 1, 0, none⟩ = some (.int .i64 (4 + (r : Int))) ∧ X.cell? ⟨w.heap.size + 1 + 1, 0, none⟩ = some (.int .i64 (j : Int))) (Z := []) (by kernel_rfl) ?_
              refine heldz_take (fun _ => trivial) [] 0 (?_) (by kernel_rfl) rfl (by kernel_rfl) (fun _ _ _ h => h) ⟨e1, e2⟩ (by kernel_rfl) ?_ ?_
              rotate_left
              · intro wz hSw; obtain ⟨q1, q2⟩ := hSw; (first | (go_simp; done) | (go_simp; with_reducible rfl))
              (try simp only [Act.put, List.getElem_toArray, List.getElem_cons_zero, List.getElem_cons_succ, List.setIfInBounds_toArray, List.set_cons_zero, List.set_cons_succ])
              refine heldz_take (fun _ => trivial) [] 1 (?_) (by kernel_rfl) rfl (by kernel_rfl) (fun _ _ _ h => h) ⟨e1, e2⟩ (by kernel_rfl) ?_ ?_
              rotate_left
              · intro wz hSw; obtain ⟨q1, q2⟩ := hSw; (first | (go_simp; done) | (go_simp; with_reducible rfl))
              (try simp only [Act.put, List.getElem_toArray, List.getElem_cons_zero, List.getElem_cons_succ, List.setIfInBounds_toArray, List.set_cons_zero, List.set_cons_succ])
              refine heldz_step (fun _ => trivial) 2 (by kernel_rfl) rfl (fun K hK => ?_)
              go_simp
              refine hK.out _ _ (fun _ => by constructor <;> simp [go_sem, *]) ?_
              clear hK K
              (try simp only [Act.put, List.getElem_toArray, List.getElem_cons_zero, List.getElem_cons_succ, List.setIfInBounds_toArray, List.set_cons_zero, List.set_cons_succ])
              refine heldz_step (fun _ => trivial) 3 (by kernel_rfl) rfl (fun K hK => ?_)
              go_simp
              refine hK.out _ _ (fun _ => by constructor <;> simp [go_sem, *]) ?_
              clear hK K
              (try simp only [Act.put, List.getElem_toArray, List.getElem_cons_zero, List.getElem_cons_succ, List.setIfInBounds_toArray, List.set_cons_zero, List.set_cons_succ])
              refine heldz_done (by kernel_rfl) ?_ _
              refine NoPanic.normal ?_
              go_wp2_with fail
              have HP := Lib.hid ((HIW.out.put (x2 := (4 + (r : Int))) (y2 := (j : Int))).drew)
              refine end_ret (B := w.heap.size) (hi := V.heap.size) (HDN.out.keeps ((((KeepsOthers.setCell _ _ _).trans (KeepsOthers.setCell _ _ _)).from _).trans (keeps_drew _ _))) (fun X hk => ?_)
              have fs2 := HP.out.kept (Nat.le_refl _) hk
              obtain ⟨d1, d2, _, _⟩ := fs2.facts
              have HBL := Lib.hid fs2.below
              clear fs2 hk
              refine ⟨.tuple #[.int .i64 (4 + (r : Int)), .int .i64 (j : Int)], ?_, by rw [HR.out], HBL.out⟩
              simp [results, Try.results23, go_sem, *]
          · obtain rfl : r = 5 := by omega
            have t1 : ¬ ((5 : Nat) : Int) < 5 := by omega
            have HR : Hid (wrongZ s = (0, -1)) := Lib.hid (wrong_not HZ0.out HOK.out H16.out (fun q h1 h2 => HQ.out q h1 (by omega)))
            have HIW := Lib.hid HI.out
            have HDN := Lib.hid HD.out
            obtain ⟨e1, e2, f1, f2⟩ := HI.out.facts
            go_wp2_with fail
            refine wp_region_noPanic ?_
            refine (wpIn_wide (n := 5)).1 ?_
            refine heldz_region (S := fun X => X.cell? ⟨w.heap.size + 1, 0, none⟩ = some (.int .i64 0) ∧ X.cell? ⟨w.heap.size + 1 + 1, 0, none⟩ = some (.int .i64 (-1))) (Z := []) (by kernel_rfl) ?_
            refine heldz_take (fun _ => trivial) [] 0 (?_) (by kernel_rfl) rfl (by kernel_rfl) (fun _ _ _ h => h) ⟨e1, e2⟩ (by kernel_rfl) ?_ ?_
            rotate_left
            · intro wz hSw; obtain ⟨q1, q2⟩ := hSw; (first | (go_simp; done) | (go_simp; with_reducible rfl))
            (try simp only [Act.put, List.getElem_toArray, List.getElem_cons_zero, List.getElem_cons_succ, List.setIfInBounds_toArray, List.set_cons_zero, List.set_cons_succ])
            refine heldz_take (fun _ => trivial) [] 1 (?_) (by kernel_rfl) rfl (by kernel_rfl) (fun _ _ _ h => h) ⟨e1, e2⟩ (by kernel_rfl) ?_ ?_
            rotate_left
            · intro wz hSw; obtain ⟨q1, q2⟩ := hSw; (first | (go_simp; done) | (go_simp; with_reducible rfl))
            (try simp only [Act.put, List.getElem_toArray, List.getElem_cons_zero, List.getElem_cons_succ, List.setIfInBounds_toArray, List.set_cons_zero, List.set_cons_succ])
            refine heldz_step (fun _ => trivial) 2 (by kernel_rfl) rfl (fun K hK => ?_)
            go_simp
            refine hK.out _ _ (fun _ => by constructor <;> simp [go_sem, *]) ?_
            clear hK K
            (try simp only [Act.put, List.getElem_toArray, List.getElem_cons_zero, List.getElem_cons_succ, List.setIfInBounds_toArray, List.set_cons_zero, List.set_cons_succ])
            refine heldz_step (fun _ => trivial) 3 (by kernel_rfl) rfl (fun K hK => ?_)
            go_simp
            refine hK.out _ _ (fun _ => by constructor <;> simp [go_sem, *]) ?_
            clear hK K
            (try simp only [Act.put, List.getElem_toArray, List.getElem_cons_zero, List.getElem_cons_succ, List.setIfInBounds_toArray, List.set_cons_zero, List.set_cons_succ])
            refine heldz_done (by kernel_rfl) ?_ _
            refine NoPanic.normal ?_
            go_wp2_with fail
            have HP := Lib.hid ((HIW.out.put (x2 := 0) (y2 := (-1))).drew)
            refine end_ret (B := w.heap.size) (hi := W.heap.size) (HDN.out.keeps ((((KeepsOthers.setCell _ _ _).trans (KeepsOthers.setCell _ _ _)).from _).trans (keeps_drew _ _))) (fun X hk => ?_)
            have fs2 := HP.out.kept (Nat.le_refl _) hk
            obtain ⟨d1, d2, _, _⟩ := fs2.facts
            have HBL := Lib.hid fs2.below
            clear fs2 hk
            refine ⟨.tuple #[.int .i64 0, .int .i64 (-1)], ?_, by rw [HR.out], HBL.out⟩
            simp [results, Try.results23, go_sem, *]
end Go.Proofs.Ytildnadkfonlhaa.Fx
