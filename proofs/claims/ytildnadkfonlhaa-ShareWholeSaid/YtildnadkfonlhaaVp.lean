/- All IDs of a scene, sorted: the program's IDs, walked. -/
import Derived.Test.YtildnadkfonlhaaProg
import Derived.Test.YtildnadkfonlhaaVa
import Derived.Test.YtildnadkfonlhaaSg
import Derived.Test.YtildnadkfonlhaaSh
import Derived.Test.YtildnadkfonlhaaShelf
import Derived.Test.YtildnadkfonlhaaVm
import Derived.Sort.OwnSortedInts
import Derived.Shelf.SortM.SortNone
set_option linter.unusedVariables false
set_option linter.unusedSimpArgs false
namespace Go.Proofs.Ytildnadkfonlhaa.Fx
open Go Go.RowKit Go.Shelf Go.Sort
attribute [local go_sem] Oper.semAt_some
theorem appIn_num {F : Fence} {n : Nat} {ops : Array Oper} {rest : List Oper} {o : Oper} {a : Act} {Q : Exit → Act → World → Prop} {W : World} (hF : ∀ f, F.fn f) (hgd : o.guard = none) (sx x : Operand)
    (ho : o.op = .call { callee := .builtin .append, args := #[sx, x], argTypes := #[22, 22] })
    (B : Nat) (v : Value) (L : List Int) (z : Int) (hs : a.eval sx = v) (hB : B ≤ W.heap.size) (hown : OwnN W B v L) (hL : L.length ≤ 1000000) (c : Nat) (hx : a.eval x = .slice (some ⟨W.heap.size, 0, none⟩) 1 c)
    (h : ∀ v' X, OwnN X B v' (L ++ [z]) → (W.alloc (.cells #[.int .i64 z] 3)).grownBy X v.ownBlock → Hid (wpListIn F n Try.prog ops Q rest (a.put o.dst v') X)) :
    wpListIn F n Try.prog ops Q (o :: rest) a (W.alloc (.cells #[.int .i64 z] 3)) := by
  obtain ⟨i0, hi, hz0, hz1, hz2⟩ := info_parts infoN
  refine wpListIn_append_own _ hgd sx x 22 ho B 3 i0 (.int .i64 0) 1 8 Try.underlying22 hi hz0 hz1 hz2 rfl (by decide) v L.length (L.map encI) hs (hown.alloc _) ⟨W.heap.size, 0, none⟩ 1 c [.int .i64 z] hx rfl (cell_one_newN _ _ _) (by simp [Value.oneCell']) (by unfold maxLen; omega) (by omega) (by simp; omega) ?_
  intro v' w3 h1 h2 _
  exact (h v' w3 (by unfold OwnN; rw [List.length_append, List.map_append]; exact h1) h2).out
theorem OwnN.kept {B C : Nat} {v : Value} {l : List Int} {W X : World} (s : OwnN W C v l) (k : Kept B W X) : OwnN X C v l := by
  obtain ⟨h1, h2⟩ := s
  refine ⟨h1, ?_⟩
  rcases h2 with h2 | ⟨g, cap, cur, e, hb, hg, h3⟩
  · exact .inl h2
  · exact .inr ⟨g, cap, cur, e, hb, k.cells hg, h3⟩
theorem OwnN.cellset {B m j : Nat} {v u : Value} {l : List Int} {W : World} (s : OwnN W B v l) (hm : m < B) : OwnN (W.setCell ⟨m, j, none⟩ u) B v l := by
  obtain ⟨h1, h2⟩ := s
  refine ⟨h1, ?_⟩
  rcases h2 with h2 | ⟨g, cap, cur, e, hb, hg, h3⟩
  · exact .inl h2
  · exact .inr ⟨g, cap, cur, e, hb, by rw [heap_setCell_other _ _ _ _ (by show g ≠ m; omega)]; exact hg, h3⟩
/-- all IDs in their order of place -/
def rawIds (l : List ObjR) : List Int := l.map (·.id)
def sortedIds (l : List ObjR) : List Int := (rawIds l).mergeSort fun x y => decide (x ≤ y)
/-- the boxes of IDs: the scene, the list's cell, the iterator's scene -/
structure InS (s : ScR) (v : Value) (l : List Int) (w W : World) : Prop where
  box : ScAt w.heap.size s W
  cell : W.heap[w.heap.size + 1]? = some (.cells #[v] 22 (0, 0))
  it : ScAt (w.heap.size + 1 + 1) s W
  own : OwnN W (w.heap.size + 1 + 1 + 1) v l
  below : Below w.heap.size w W
theorem InS.kept {s : ScR} {v : Value} {l : List Int} {B : Nat} {w W X : World} (hB : w.heap.size ≤ B) (h : Kept B W X) (i : InS s v l w W) : InS s v l w X :=
  ⟨i.box.kept h, h.cells i.cell, i.it.kept h, i.own.kept h, h.below hB i.below⟩
theorem InS.up {s : ScR} {v : Value} {l : List Int} {w W X : World} (h : Below W.heap.size W X) (i : InS s v l w W) : InS s v l w X :=
  ⟨i.box.below h, keep_row h i.cell, i.it.below h, i.own.below h, bnext i.below h⟩
theorem InS.step {s : ScR} {v v' : Value} {l l' : List Int} {w W X : World} (i : InS s v l w W) (ho : OwnN X (w.heap.size + 1 + 1 + 1) v' l') (hg : W.grownBy X v.ownBlock) : InS s v' l' w (X.setCell ⟨w.heap.size + 1, 0, none⟩ v') := by
  have hb := i.own.blk
  have keep : ∀ {g : Nat} {o : Obj}, g < w.heap.size + 1 + 1 + 1 → W.heap[g]? = some o → X.heap[g]? = some o := fun hlt h => by
    rw [hg.block _ (Array.getElem?_eq_some_iff.1 h).1 (fun e => by have := hb _ e.symm; omega)]
    exact h
  have k2 : ∀ {g : Nat} {o : Obj}, g ≠ w.heap.size + 1 → g < w.heap.size + 1 + 1 + 1 → W.heap[g]? = some o → (X.setCell ⟨w.heap.size + 1, 0, none⟩ v').heap[g]? = some o := fun hne hlt h => by
    rw [heap_setCell_other _ _ _ _ hne]
    exact keep hlt h
  refine ⟨k2 (by omega) (by omega) i.box, heap_setCell_same _ _ 0 _ _ v' (keep (by omega) i.cell), k2 (by omega) (by omega) i.it, ho.cellset (by omega), ?_⟩
  exact (below_grown2 (Nat.le_refl _) i.below hg (fun k hk => by have := hb k hk; omega)).setCell (p := ⟨w.heap.size + 1, 0, none⟩) (by show _ ≤ w.heap.size + 1; omega) _
theorem InS.facts {s : ScR} {v : Value} {l : List Int} {w W : World} (i : InS s v l w W) : W.cell? ⟨w.heap.size + 1, 0, none⟩ = some v := by
  rw [cell_of_row _ _ _ _ _ _ i.cell]
  rfl
def InI (s : ScR) (w : World) (k : Nat) (W : World) : Prop := ∃ v, InS s v (rawIds (s.os.take k)) w W
def InA (s : ScR) (w : World) (k : Nat) (a : Act) (W : World) : Prop :=
  ∃ b5, W.heap[b5]? = some (.cells (objL (s.os.getD k default)).toArray 48 (0, 0)) ∧
  a = { tmps := #[.agg (scC s), .pointer (some ⟨w.heap.size, 0, none⟩), .slice none 0 0, .pointer (some ⟨w.heap.size + 1, 0, none⟩), undef, .pointer (some ⟨b5, 0, none⟩), .agg (scC s), .func (.func 47) #[] #[.pointer (some ⟨w.heap.size + 1 + 1, 0, none⟩)], .int .i64 (k : Int), .agg (objL (s.os.getD k default)).toArray, undef, undef, undef, undef, undef, undef, undef, undef], defers := [] }
def RetIDsP (l : List Int) (w : World) (e : Ending) (w' : World) : Prop := ∃ v, e = .returned v ∧ OwnN w' w.heap.size v l ∧ Below w.heap.size w w'
theorem psort_own (B : Nat) (v : Value) (l : List Int) (w : World) (h : OwnN w B v l) (hl : l.length ≤ 1000000) :
    Calls Try.prog 48 #[v] w fun e w' => e = .returned (.tuple #[]) ∧ OwnN w' B v (l.mergeSort fun x y => decide (x ≤ y)) ∧ w.grownBy w' v.ownBlock := by
  obtain ⟨h1, h2⟩ := h
  rcases h2 with ⟨rfl, h0⟩ | ⟨g, cap, cur, rfl, hb, hg, hle, hm, hsz, htk⟩
  · have hl0 : l = [] := List.length_eq_zero_iff.1 h0
    subst hl0
    refine (AnyM.slices_Sort_int_none Try.laysSlM5_f48 none 0 w).mono ?_
    rintro e w' ⟨rfl, rfl⟩
    exact ⟨rfl, ⟨by simp, .inl ⟨rfl, by simp⟩⟩, ⟨rfl, rfl, rfl, Nat.le_refl _, fun _ _ _ => rfl⟩⟩
  · have hlt : g < w.heap.size := (Array.getElem?_eq_some_iff.1 hg).1
    have hH : Holds (Value.int .i64) w g 0 l.toArray := holds_of_blockI hg (by rw [Nat.mul_one] at htk; exact htk)
    refine (Try.slices_Sort_int g 0 cap l w hH hlt (by omega)).mono ?_
    rintro e w' ⟨rfl, n, os, rfl⟩
    have hlen : (l.mergeSort fun x y => decide (x ≤ y)).length = l.length := by simp
    refine ⟨rfl, ?_, grownBy_sortedI _⟩
    unfold OwnN
    rw [hlen]
    exact ownsRow_sortedI hlen hb hg hle hm (by rw [hsz])
set_option maxRecDepth 100000 in
set_option maxHeartbeats 4000000 in
theorem pids_any (s : ScR) (w : World) (hs : ScWf s) (h : ObjsAt w s.oo s.os) (hl : s.os.length ≤ 1000) :
    Calls Try.prog 33 #[.agg (scC s)] w (RetIDsP (sortedIds s.os) w) := by
  obtain ⟨W1, hW1⟩ : ∃ W1, (w.alloc (.cells (scC s) 32)).alloc (.cells #[.slice none 0 0] 22) = W1 := ⟨_, rfl⟩
  obtain ⟨W0, hW0⟩ : ∃ W0, W1.alloc (.cells (scC s) 32) = W0 := ⟨_, rfl⟩
  have hs1 : W1.heap.size = w.heap.size + 1 + 1 := by rw [← hW1]; simp
  have b1 : Below w.heap.size w W1 := by rw [← hW1]; exact ((Below.refl _ w).alloc (Nat.le_refl _) _).alloc (by simp) _
  have h12 : Below W1.heap.size W1 W0 := by rw [← hW0]; exact (Below.refl _ W1).alloc (Nat.le_refl _) _
  have g0 : ScAt w.heap.size s W1 := by rw [← hW1]; exact step_row (ScAt.new w s)
  have F0 : InS s (.slice none 0 0) [] w W0 := by
    refine ⟨g0.below h12, keep_row h12 ?_, ?_, ⟨rfl, .inl ⟨rfl, rfl⟩⟩, bnext b1 h12⟩
    · rw [← hW1]
      have := heap_alloc_new (w.alloc (.cells (scC s) 32)) (.cells #[.slice none 0 0] 22)
      rw [World.size_alloc] at this
      exact this
    · rw [← hW0, ← hs1]
      exact ScAt.new W1 s
  have HF0 : Hid (InI s w 0 W0) := Lib.hid ⟨_, F0⟩
  have HS0 : Hid (W0.heap.size = w.heap.size + 1 + 1 + 1) := Lib.hid (by rw [← hW0, World.size_alloc, hs1])
  have HS1 := Lib.hid hs1
  have HW1 := Lib.hid hW1
  have HW0 := Lib.hid hW0
  have HOB := Lib.hid h
  have HSW := Lib.hid hs
  have HLN := Lib.hid hl
  have HALL := Lib.hid g0.all
  have hall := Lib.hid (sizeS hs)
  clear F0 h12 b1 g0 hW1 hW0 hs1 h hs hl
  refine (callsIn_wide (n := 5)).1 ?_
  refine callsIn_of_wp_marks Try.func33 rfl trivial ?_ rfl
  simp only [Try.ntmps33, List.size_toArray, List.length_cons, List.length_nil, Nat.reduceAdd, Nat.reduceSub, Array.replicate_succ, Array.replicate_zero, List.push_toArray, List.append_toArray, List.nil_append, List.cons_append]
  refine wpIn_wide.2 ?_
  go_wp2_with (first | (rw [HW1.out]; refine wpList_load_mid rfl 32 (.tmp 1) rfl w.heap.size 0 rfl (scL s) _ HALL.out Try.underlying32 rfl hall.out ?_))
  refine (objects_w s _).mono ?_
  rintro e w' ⟨rfl, rfl⟩
  rw [HS1.out, HW0.out]
  go_wp2_with fail
  refine wpIn_wide.1 (wpIn_range_jump (F := Fence.wide) (n := 5) rfl (by omega) (gf := 47) (lb := #[.pointer (some ⟨w.heap.size + 1 + 1, 0, none⟩)]) rfl trivial (enters_of Try.func47 (by kernel_rfl) rfl)
    (obj_hands s (w.heap.size + 1 + 1) HSW.out) (fun _ => rfl) .ret (InI s w) (fun _ => False) (fun j a' W => InA s w j a' W ∧ InI s w j W)
    ?i1 ?i2 ?i3 ?i4 ?i5 HF0.out ?assign ?body ?done ?stop)
  case i1 => rintro j W X ⟨v, h1⟩ hk; exact ⟨v, h1.kept (by have := HS0.out; omega) hk⟩
  case i2 => rintro W X h; exact h.elim
  case i3 => rintro j a W X ⟨⟨b5, h0, ha⟩, v, h1⟩ hk; exact ⟨⟨b5, hk.cells h0, ha⟩, v, h1.kept (by have := HS0.out; omega) hk⟩
  case i4 => rintro j W ⟨v, h1⟩; exact ⟨h1.it, HOB.out.below h1.below⟩
  case i5 => rintro W h; exact h.elim
  case assign =>
    intro l1 j W C hk hI hC
    have hx : s.os[j]? = some (s.os.getD j default) := by rw [List.getD_eq_getElem?_getD, List.getElem?_eq_getElem hk]; rfl
    obtain ⟨b, off, e, hat⟩ := HOB.out j _ hx
    simp only [objElem]
    have HA : Hid (∀ (X : World) (b5 : Nat), X.heap[b5]? = some (.cells (objL (s.os.getD j default)).toArray 48 (0, 0)) → InA s w j _ X) := Lib.hid (fun X b5 h => ⟨b5, h, rfl⟩)
    obtain ⟨x, hxx⟩ : ∃ x, s.os.getD j default = x := ⟨_, rfl⟩
    rw [hxx] at hat hx HA ⊢
    have hinfA := Lib.hid (show (Try.prog.info? 48).map (·.size) = some (objL x).toArray.size by rw [List.size_toArray, objL_len hat.wf]; kernel_rfl)
    have HL := Lib.hid (show 19 = (objL x).toArray.size by rw [List.size_toArray, objL_len hat.wf])
    have HONE := Lib.hid (objL_one x)
    have HB : Hid (Below W.heap.size W (W.alloc (.cells (objL x).toArray 48))) := Lib.hid ((Below.refl _ W).alloc (Nat.le_refl _) _)
    have HRN := Lib.hid (heap_alloc_new W (.cells (objL x).toArray 48))
    clear hat hx hxx e
    gi_wp2_with (refine wpListIn_store_new (fun _ => trivial) rfl 48 (.tmp 5) (.tmp 9) rfl W.heap.size _ _ (objL x).toArray rfl rfl rfl hinfA.out HL.out HONE.out ?_)
    exact hC _ _ (below_keeps HB.out _) ⟨HA.out _ _ HRN.out, hI.imp fun v h => h.up HB.out⟩
  case body =>
    rintro l1 j a' W hk ⟨⟨b5, h5, ha⟩, v, fs⟩
    subst ha
    have hx : s.os[j]? = some (s.os.getD j default) := by rw [List.getD_eq_getElem?_getD, List.getElem?_eq_getElem hk]; rfl
    have HTK : Hid (rawIds (s.os.take (j + 1)) = rawIds (s.os.take j) ++ [(s.os.getD j default).id]) := Lib.hid (by unfold rawIds; rw [List.take_add_one, hx, List.map_append]; rfl)
    obtain ⟨x, hxx⟩ : ∃ x, s.os.getD j default = x := ⟨_, rfl⟩
    rw [hxx] at h5 HTK ⊢
    have d0 : W.cell? ⟨b5, 0, none⟩ = some (.int .i64 x.id) := by rw [cell_of_row _ _ _ _ _ _ h5]; rfl
    have c1 := fs.facts
    have HS := Lib.hid fs
    have HLL : Hid ((rawIds (s.os.take j)).length ≤ 1000000) := Lib.hid (by unfold rawIds; have := HLN.out; simp; omega)
    have HBB : Hid (w.heap.size + 1 + 1 + 1 ≤ W.heap.size) := Lib.hid (by have := (Array.getElem?_eq_some_iff.1 fs.it).1; omega)
    generalize rawIds (s.os.take j) = l at HS HTK HLL
    generalize x.id = z at d0 HTK
    clear h5 hx hxx fs hk
    gi_wp2_with (refine appIn_num (fun _ => trivial) rfl (.tmp 10) (.tmp 13) rfl (w.heap.size + 1 + 1 + 1) v l z rfl HBB.out HS.out.own HLL.out 1 rfl ?_)
    intro v' X ho hg
    refine Lib.hid ?_
    have HA2 : Hid (Below W.heap.size W (W.alloc (.cells #[.int .i64 z] 3))) := Lib.hid ((Below.refl _ W).alloc (Nat.le_refl _) _)
    obtain ⟨o2, cap2, rfl, _, _⟩ := ho.form
    have HN := Lib.hid ((HS.out.up HA2.out).step ho hg)
    have f1 : X.frozen? ⟨w.heap.size + 1, 0, none⟩ = false ∧ X.cell? ⟨w.heap.size + 1, 0, none⟩ = some v := by
      have hr : X.heap[w.heap.size + 1]? = some (.cells #[v] 22 (0, 0)) := by
        rw [hg.block _ (Array.getElem?_eq_some_iff.1 (HS.out.up HA2.out).cell).1 (fun e => by have := HS.out.own.blk _ e.symm; omega)]
        exact (HS.out.up HA2.out).cell
      exact ⟨frozen_row hr, by rw [cell_of_row _ _ _ _ _ _ hr]; rfl⟩
    obtain ⟨f1, c2⟩ := f1
    have HKF : Hid (∀ u, KeepsFrom W0.heap.size W (X.setCell ⟨w.heap.size + 1, 0, none⟩ u)) := Lib.hid (fun u => ((below_keeps HA2.out _).trans (⟨hg.size, fun k o _ hk ho => by
      rw [hg.block k (Array.getElem?_eq_some_iff.1 hk).1 (fun e => by
        obtain ⟨_, h2⟩ := HS.out.own.below HA2.out
        rcases h2 with ⟨rfl, _⟩ | ⟨g, cap, cur, rfl, _, hgr, _⟩
        · cases e
        · cases e
          rw [hgr] at hk
          cases hk
          cases ho)]
      exact hk⟩ : KeepsFrom W0.heap.size _ X)).trans ((KeepsOthers.setCell _ _ _).from _))
    obtain ⟨ml, hml⟩ : ∃ ml, (l ++ [z]).length = ml := ⟨_, rfl⟩
    rw [hml] at HN ⊢
    clear ho hg c1 d0 HS hml
    gi_wp2
    exact ⟨HKF.out _, _, by rw [HTK.out]; exact HN.out⟩
  case done =>
    rintro D W hD ⟨v, fs⟩ hdef
    rw [List.take_length] at fs
    have c1 := fs.facts
    have HS := Lib.hid fs
    have HDD : Hid (w.heap.size + 1 + 1 + 1 ≤ D) := Lib.hid (by have := HS0.out; omega)
    have HSO := Lib.hid (psort_own _ v _ W fs.own (by unfold rawIds; have := HLN.out; simp; omega))
    have HDF := Lib.hid hdef
    clear fs hD hdef
    go_wp2_with fail
    refine HSO.out.mono ?_
    rintro e W2 ⟨rfl, ho, hg⟩
    have hr : W2.heap[w.heap.size + 1]? = some (.cells #[v] 22 (0, 0)) := by
      rw [hg.block _ (Array.getElem?_eq_some_iff.1 HS.out.cell).1 (fun e => by have := HS.out.own.blk _ e.symm; omega)]
      exact HS.out.cell
    have c2 : W2.cell? ⟨w.heap.size + 1, 0, none⟩ = some v := by rw [cell_of_row _ _ _ _ _ _ hr]; rfl
    have HO := Lib.hid ho
    have HB2 : Hid (Below w.heap.size w W2) := Lib.hid (below_grown2 (Nat.le_refl _) HS.out.below hg (fun k hk => by have := HS.out.own.blk k hk; omega))
    have HDF2 : Hid (W2.heap[D]? = some (.deferred (some []))) := Lib.hid (by
      rw [hg.block _ (Array.getElem?_eq_some_iff.1 HDF.out).1 (fun e => by
        obtain ⟨_, h2⟩ := HS.out.own
        rcases h2 with ⟨rfl, _⟩ | ⟨g, cap, cur, rfl, _, hgr, _⟩
        · cases e
        · cases e
          have := HDF.out
          rw [hgr] at this
          cases this)]
      exact HDF.out)
    clear ho hg hr c1 HSO
    go_wp2_with fail
    have hk : Kept w.heap.size W2 (W2.putObj D (.deferred none)) := Kept.putObj _ (by have := HDD.out; omega) HDF2.out rfl
    refine ⟨by simp, .inl ⟨_, _, rfl, run_takeDeferred HDF2.out, ?_⟩⟩
    have ho2 := (HO.out.kept hk).base (show w.heap.size ≤ w.heap.size + 1 + 1 + 1 by omega)
    have HBL := hk.below (Nat.le_refl _) HB2.out
    have HE : Hid (RetIDsP (sortedIds s.os) w (.returned v) (W2.putObj D (.deferred none))) := Lib.hid ⟨v, rfl, ho2, HBL⟩
    clear ho2 HBL hk c2
    exact ⟨v, by simp [results, Try.results33, go_sem, *], HE.out⟩
  case stop =>
    rintro D W hD h hdef
    exact h.elim
end Go.Proofs.Ytildnadkfonlhaa.Fx
