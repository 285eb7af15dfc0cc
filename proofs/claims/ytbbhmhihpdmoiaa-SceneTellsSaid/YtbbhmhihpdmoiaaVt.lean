/- How many vertices and triangles there are: the program's Count, walked. -/
import Derived.Test.YtbbhmhihpdmoiaaProg
import Derived.Test.YtbbhmhihpdmoiaaVg
set_option linter.unusedVariables false
set_option linter.unusedSimpArgs false
namespace Go.Proofs.Ytbbhmhihpdmoiaa.Fx
open Go Go.RowKit Go.Shelf
attribute [local go_sem] Oper.semAt_some
def sumV (l : List ObjR) : Nat := (l.map fun x => x.vs.length).sum
def sumT (l : List ObjR) : Nat := (l.map fun x => x.ts.length).sum
theorem sumV_snoc {l : List ObjR} {k : Nat} {x : ObjR} (hx : l[k]? = some x) : sumV (l.take (k + 1)) = sumV (l.take k) + x.vs.length := by
  unfold sumV
  rw [List.take_add_one, hx, List.map_append, List.sum_append]
  simp
theorem sumT_snoc {l : List ObjR} {k : Nat} {x : ObjR} (hx : l[k]? = some x) : sumT (l.take (k + 1)) = sumT (l.take k) + x.ts.length := by
  unfold sumT
  rw [List.take_add_one, hx, List.map_append, List.sum_append]
  simp
/-- few objects, none of them great -/
structure Few (s : ScR) : Prop where
  many : s.os.length ≤ 20
  each : ∀ x ∈ s.os, x.vs.length ≤ 80 ∧ x.ts.length ≤ 80
theorem Few.sums {s : ScR} (h : Few s) : ∀ k, k ≤ s.os.length → sumV (s.os.take k) ≤ 80 * k ∧ sumT (s.os.take k) ≤ 80 * k := by
  intro k
  induction k with
  | zero => intro _; simp [sumV, sumT]
  | succ k ih =>
    intro hk
    obtain ⟨x, hx⟩ : ∃ x, s.os[k]? = some x := ⟨_, List.getElem?_eq_getElem (by omega)⟩
    have := ih (by omega)
    have := h.each x (List.mem_of_getElem? hx)
    rw [sumV_snoc hx, sumT_snoc hx]
    omega
structure CtS (s : ScR) (x y : Int) (w W : World) : Prop where
  wh : WhS s x y w W
  it : ScAt (w.heap.size + 1 + 1 + 1) s W
theorem CtS.kept {s : ScR} {x y : Int} {B : Nat} {w W X : World} (hB : w.heap.size ≤ B) (h : Kept B W X) (i : CtS s x y w W) : CtS s x y w X := ⟨i.wh.kept hB h, i.it.kept h⟩
theorem CtS.up {s : ScR} {x y : Int} {w W X : World} (h : Below W.heap.size W X) (i : CtS s x y w W) : CtS s x y w X := ⟨i.wh.up h, i.it.below h⟩
theorem CtS.put {s : ScR} {x y x2 y2 : Int} {w W : World} (i : CtS s x y w W) : CtS s x2 y2 w ((W.setCell ⟨w.heap.size + 1, 0, none⟩ (.int .i64 x2)).setCell ⟨w.heap.size + 1 + 1, 0, none⟩ (.int .i64 y2)) :=
  ⟨i.wh.put, by
    unfold ScAt
    rw [heap_setCell_other _ _ _ _ (by show _ ≠ w.heap.size + 1 + 1; omega), heap_setCell_other _ _ _ _ (by show _ ≠ w.heap.size + 1; omega)]
    exact i.it⟩
def CtI (s : ScR) (w : World) (k : Nat) (W : World) : Prop := CtS s (sumV (s.os.take k) : Nat) (sumT (s.os.take k) : Nat) w W
def CtA (s : ScR) (w : World) (k : Nat) (a : Act) (W : World) : Prop :=
  ∃ b5, W.heap[b5]? = some (.cells (objL (s.os.getD k default)).toArray 44 (0, 0)) ∧
  a = { tmps := #[.agg (scC s), .pointer (some ⟨w.heap.size, 0, none⟩), .pointer (some ⟨w.heap.size + 1, 0, none⟩), .pointer (some ⟨w.heap.size + 1 + 1, 0, none⟩), undef, .pointer (some ⟨b5, 0, none⟩), .agg (scC s), .func (.func 25) #[] #[.pointer (some ⟨w.heap.size + 1 + 1 + 1, 0, none⟩)], .int .i64 (k : Int), .agg (objL (s.os.getD k default)).toArray, undef, undef, undef, undef, undef, undef, undef, undef, undef, undef, undef, undef], defers := [] }
def RetCount (s : ScR) (w : World) (e : Ending) (w' : World) : Prop := e = .returned (.tuple #[.int .i64 (sumV s.os : Nat), .int .i64 (sumT s.os : Nat)]) ∧ Below w.heap.size w w'
set_option maxRecDepth 100000 in
set_option maxHeartbeats 4000000 in
theorem pcount_any (s : ScR) (w : World) (hs : ScWf s) (h : ObjsAt w s.oo s.os) (hf : Few s) :
    Calls Try.prog 10 #[.agg (scC s)] w (RetCount s w) := by
  obtain ⟨W1, hW1⟩ : ∃ W1, ((w.alloc (.cells (scC s) 28)).alloc (.cells #[.int .i64 0] 3)).alloc (.cells #[.int .i64 0] 3) = W1 := ⟨_, rfl⟩
  obtain ⟨W0, hW0⟩ : ∃ W0, W1.alloc (.cells (scC s) 28) = W0 := ⟨_, rfl⟩
  have hs1 : W1.heap.size = w.heap.size + 1 + 1 + 1 := by rw [← hW1]; simp
  have hn1 : WhS s 0 0 w W1 := by rw [← hW1]; exact WhS.new s w
  have h12 : Below W1.heap.size W1 W0 := by rw [← hW0]; exact (Below.refl _ W1).alloc (Nat.le_refl _) _
  have HF0 : Hid (CtI s w 0 W0) := Lib.hid ⟨hn1.up h12, by rw [← hW0, ← hs1]; exact ScAt.new W1 s⟩
  have HS0 : Hid (W0.heap.size = w.heap.size + 1 + 1 + 1 + 1) := Lib.hid (by rw [← hW0, World.size_alloc, hs1])
  have HS1 := Lib.hid hs1
  have HW1 := Lib.hid hW1
  have HW0 := Lib.hid hW0
  have HOB := Lib.hid h
  have HSW := Lib.hid hs
  have HFW := Lib.hid hf
  have HALL := Lib.hid hn1.box.all
  have hall := Lib.hid (sizeS hs)
  clear h12 hn1 hW1 hW0 hs1 h hs hf
  refine (callsIn_wide (n := 5)).1 ?_
  refine callsIn_of_wp_marks Try.func10 rfl trivial ?_ rfl
  simp only [Try.ntmps10, List.size_toArray, List.length_cons, List.length_nil, Nat.reduceAdd, Nat.reduceSub, Array.replicate_succ, Array.replicate_zero, List.push_toArray, List.append_toArray, List.nil_append, List.cons_append]
  refine wpIn_wide.2 ?_
  go_wp2_with (first | (rw [HW1.out]; refine wpList_load_mid rfl 28 (.tmp 1) rfl w.heap.size 0 rfl (scL s) _ HALL.out Try.underlying28 rfl hall.out ?_))
  refine (objects_w s _).mono ?_
  rintro e w' ⟨rfl, rfl⟩
  rw [HS1.out, HW0.out]
  go_wp2_with fail
  refine wpIn_wide.1 (wpIn_range_jump (F := Fence.wide) (n := 5) rfl (by omega) (gf := 25) (lb := #[.pointer (some ⟨w.heap.size + 1 + 1 + 1, 0, none⟩)]) rfl trivial (enters_of Try.func25 (by kernel_rfl) rfl)
    (obj_hands s (w.heap.size + 1 + 1 + 1) HSW.out) (fun _ => rfl) .ret (CtI s w) (fun _ => False) (fun j a' W => CtA s w j a' W ∧ CtI s w j W)
    ?i1 ?i2 ?i3 ?i4 ?i5 HF0.out ?assign ?body ?done ?stop)
  case i1 => rintro j W X h1 hk; exact CtS.kept (by have := HS0.out; omega) hk h1
  case i2 => rintro W X h; exact h.elim
  case i3 => rintro j a W X ⟨⟨b5, h0, ha⟩, h1⟩ hk; exact ⟨⟨b5, hk.cells h0, ha⟩, CtS.kept (by have := HS0.out; omega) hk h1⟩
  case i4 => rintro j W h1; exact ⟨CtS.it h1, HOB.out.below (CtS.wh h1).below⟩
  case i5 => rintro W h; exact h.elim
  case assign =>
    intro l1 j W C hk hI hC
    have hx : s.os[j]? = some (s.os.getD j default) := by rw [List.getD_eq_getElem?_getD, List.getElem?_eq_getElem hk]; rfl
    obtain ⟨b, off, e, hat⟩ := HOB.out j _ hx
    simp only [objElem]
    have HA : Hid (∀ (X : World) (b5 : Nat), X.heap[b5]? = some (.cells (objL (s.os.getD j default)).toArray 44 (0, 0)) → CtA s w j _ X) := Lib.hid (fun X b5 h => ⟨b5, h, rfl⟩)
    obtain ⟨x, hxx⟩ : ∃ x, s.os.getD j default = x := ⟨_, rfl⟩
    rw [hxx] at hat hx HA ⊢
    have hinfA := Lib.hid (show (Try.prog.info? 44).map (·.size) = some (objL x).toArray.size by rw [List.size_toArray, objL_len hat.wf]; kernel_rfl)
    have HL := Lib.hid (show 19 = (objL x).toArray.size by rw [List.size_toArray, objL_len hat.wf])
    have HONE := Lib.hid (objL_one x)
    have HB : Hid (Below W.heap.size W (W.alloc (.cells (objL x).toArray 44))) := Lib.hid ((Below.refl _ W).alloc (Nat.le_refl _) _)
    have HRN := Lib.hid (heap_alloc_new W (.cells (objL x).toArray 44))
    clear hat hx hxx e
    gi_wp2_with (refine wpListIn_store_new (fun _ => trivial) rfl 44 (.tmp 5) (.tmp 9) rfl W.heap.size _ _ (objL x).toArray rfl rfl rfl hinfA.out HL.out HONE.out ?_)
    exact hC _ _ (below_keeps HB.out _) ⟨HA.out _ _ HRN.out, CtS.up HB.out hI⟩
  case body =>
    rintro l1 j a' W hk ⟨⟨b5, h5, ha⟩, fs⟩
    subst ha
    have hx : s.os[j]? = some (s.os.getD j default) := by rw [List.getD_eq_getElem?_getD, List.getElem?_eq_getElem hk]; rfl
    obtain ⟨x, hxx⟩ : ∃ x, s.os.getD j default = x := ⟨_, rfl⟩
    rw [hxx] at h5 hx ⊢
    have hwf := (HOB.out.wf hx).1
    have ib : BoxO x b5 W := ⟨h5, hwf⟩
    have c17 := ib.c17
    have c18 := ib.c18
    have hsum := HFW.out.sums (j + 1) (by omega)
    have hm : s.os.length ≤ 20 := HFW.out.many
    have HE : Hid (∀ W2 : World, CtS s ((sumV (s.os.take j) : Nat) + (x.vs.length : Int)) ((sumT (s.os.take j) : Nat) + (x.ts.length : Int)) w W2 → CtI s w (j + 1) W2) := Lib.hid (fun W2 h => by
      unfold CtI
      rw [sumV_snoc hx, sumT_snoc hx, Int.natCast_add, Int.natCast_add]
      exact h)
    rw [sumV_snoc hx, sumT_snoc hx] at hsum
    unfold CtI at fs
    have HS := Lib.hid fs
    obtain ⟨c1, c2, f1, f2⟩ := fs.wh.facts
    generalize sumV (s.os.take j) = sv at *
    generalize sumT (s.os.take j) = st at *
    generalize x.vs.length = lv at *
    generalize x.ts.length = lt at *
    have HN := Lib.hid (HS.out.put (x2 := (sv : Int) + (lv : Int)) (y2 := (st : Int) + (lt : Int)))
    have w1 : IntKind.i64.wrap ((sv : Int) + (lv : Int)) = (sv : Int) + (lv : Int) := by rw [IntKind.wrap_i64]; omega
    have w2 : IntKind.i64.wrap ((st : Int) + (lt : Int)) = (st : Int) + (lt : Int) := by rw [IntKind.wrap_i64]; omega
    have HKF : Hid (∀ u v, KeepsFrom W0.heap.size W ((W.setCell ⟨w.heap.size + 1, 0, none⟩ u).setCell ⟨w.heap.size + 1 + 1, 0, none⟩ v)) := Lib.hid (fun u v => ((KeepsOthers.setCell _ _ _).trans (KeepsOthers.setCell _ _ _)).from _)
    have g17 : ∀ v, (W.setCell ⟨w.heap.size + 1, 0, none⟩ v).cell? ⟨b5, 18, none⟩ = some (.slice x.tq lt x.tc) := fun v => by
      have hr : (W.setCell ⟨w.heap.size + 1, 0, none⟩ v).heap[b5]? = some (.cells (objL x).toArray 44 (0, 0)) := by
        rw [heap_setCell_other _ _ _ _ (by
          intro e
          have h1 := HS.out.wh.r1
          subst e
          rw [h5] at h1
          injection h1 with h1
          injection h1 with h2 h3
          exact absurd h3 (by decide))]
        exact h5
      rw [cell_of_row _ _ _ _ _ _ hr]
      have := c18
      rw [cell_of_row _ _ _ _ _ _ h5] at this
      exact this
    have g2 : ∀ v, (W.setCell ⟨w.heap.size + 1, 0, none⟩ v).cell? ⟨w.heap.size + 1 + 1, 0, none⟩ = some (.int .i64 (st : Int)) := fun v => by
      have hr : (W.setCell ⟨w.heap.size + 1, 0, none⟩ v).heap[w.heap.size + 1 + 1]? = some (.cells #[.int .i64 (st : Int)] 3 (0, 0)) := by
        rw [heap_setCell_other _ _ _ _ (by show w.heap.size + 1 + 1 ≠ w.heap.size + 1; omega)]
        exact HS.out.wh.r2
      rw [cell_of_row _ _ _ _ _ _ hr]
      rfl
    have g3 : ∀ v, (W.setCell ⟨w.heap.size + 1, 0, none⟩ v).frozen? ⟨w.heap.size + 1 + 1, 0, none⟩ = false := fun v => by
      have hr : (W.setCell ⟨w.heap.size + 1, 0, none⟩ v).heap[w.heap.size + 1 + 1]? = some (.cells #[.int .i64 (st : Int)] 3 (0, 0)) := by
        rw [heap_setCell_other _ _ _ _ (by show w.heap.size + 1 + 1 ≠ w.heap.size + 1; omega)]
        exact HS.out.wh.r2
      exact frozen_row hr
    clear h5 hx hxx fs hk ib hwf HS
    gi_wp2
    exact ⟨HKF.out _ _, HE.out _ HN.out⟩
  case done =>
    rintro D W hD fs hdef
    unfold CtI at fs
    rw [List.take_length] at fs
    have HIW := Lib.hid fs.wh
    obtain ⟨e1, e2, f1, f2⟩ := fs.wh.facts
    have HDN : Hid (DefOk w.heap.size (D + 1) [{ target := .collected D, args := #[] }] W) := Lib.hid ((DefOk.nil w.heap.size D W).cons (by have := HS0.out; omega) (Nat.le_refl _) hdef)
    clear fs hD hdef
    go_wp2_with fail
    refine wp_region_noPanic ?_
    refine (wpIn_wide (n := 5)).1 ?_
    refine heldz_region (S := fun X => X.cell? ⟨w.heap.size + 1, 0, none⟩ = some (.int .i64 (sumV s.os : Nat)) ∧ X.cell? ⟨w.heap.size + 1 + 1, 0, none⟩ = some (.int .i64 (sumT s.os : Nat))) (Z := []) (by kernel_rfl) ?_
    refine heldz_take (fun _ => trivial) [] 0 (?_) (by kernel_rfl) rfl (by kernel_rfl) (fun _ _ _ h => h) ⟨e1, e2⟩ (by kernel_rfl) ?_ ?_
    rotate_left
    · intro wz hSw; obtain ⟨q1, q2⟩ := hSw; (first | (go_simp; done) | (go_simp; with_reducible rfl))
    (try simp only [Act.put, List.getElem_toArray, List.getElem_cons_zero, List.getElem_cons_succ, List.setIfInBounds_toArray, List.set_cons_zero, List.set_cons_succ])
    refine heldz_take (fun _ => trivial) [] 1 (?_) (by kernel_rfl) rfl (by kernel_rfl) (fun _ _ _ h => h) ⟨e1, e2⟩ (by kernel_rfl) ?_ ?_
    rotate_left
    · intro wz hSw; obtain ⟨q1, q2⟩ := hSw; (first | (go_simp; done) | (go_simp; with_reducible rfl))
    (try simp only [Act.put, List.getElem_toArray, List.getElem_cons_zero, List.getElem_cons_succ, List.setIfInBounds_toArray, List.set_cons_zero, List.set_cons_succ])
    refine heldz_step (fun _ => trivial) 2 (by kernel_rfl) rfl (fun K hK => ?_)
    go_simp
    refine hK.out _ _ (fun _ => by constructor <;> simp [go_sem, *]) ?_
    clear hK K
    (try simp only [Act.put, List.getElem_toArray, List.getElem_cons_zero, List.getElem_cons_succ, List.setIfInBounds_toArray, List.set_cons_zero, List.set_cons_succ])
    refine heldz_step (fun _ => trivial) 3 (by kernel_rfl) rfl (fun K hK => ?_)
    go_simp
    refine hK.out _ _ (fun _ => by constructor <;> simp [go_sem, *]) ?_
    clear hK K
    (try simp only [Act.put, List.getElem_toArray, List.getElem_cons_zero, List.getElem_cons_succ, List.setIfInBounds_toArray, List.set_cons_zero, List.set_cons_succ])
    refine heldz_done (by kernel_rfl) ?_ _
    refine NoPanic.normal ?_
    go_wp2_with fail
    have HP := Lib.hid ((HIW.out.put (x2 := (sumV s.os : Nat)) (y2 := (sumT s.os : Nat))).up (bdrew0 _ _ 1))
    refine leaves_all (B := w.heap.size) _ (D + 1) _ (HDN.out.keeps ((((KeepsOthers.setCell _ _ _).trans (KeepsOthers.setCell _ _ _)).from _).trans (keeps_drew _ _))) (fun X hk => ?_)
    have fs2 := HP.out.kept (Nat.le_refl _) hk
    obtain ⟨d1, d2, _, _⟩ := fs2.facts
    have HBL := Lib.hid fs2.below
    clear fs2 hk
    refine ⟨.tuple #[.int .i64 (sumV s.os : Nat), .int .i64 (sumT s.os : Nat)], ?_, rfl, HBL.out⟩
    simp [results, Try.results10, go_sem, *]
  case stop =>
    rintro D W hD h hdef
    exact h.elim
end Go.Proofs.Ytbbhmhihpdmoiaa.Fx
