/- SceneOrder, walked. -/
import Derived.Test.YtbkahmnchpbhfaaProg
import Derived.Test.YtbkahmnchpbhfaaVq
import Derived.Test.YtbkahmnchpbhfaaVj
import Derived.Great.BuildSlice
set_option linter.unusedVariables false
set_option linter.unusedSimpArgs false
namespace Go.Proofs.Ytbkahmnchpbhfaa.Fx
open Go Go.RowKit Go.Shelf
attribute [local go_sem] Oper.semAt_some
/-- a scene's cells with whatever slice of objects -/
def scV (s : ScR) (v : Value) : Array Value := (Value.int .i64 s.w :: .int .i64 s.h :: (s.cam.map encI ++ [v])).toArray
theorem scV_is (s : ScR) : scC s = scV s (.slice s.oo s.os.length s.oc) := rfl
theorem set_last {p : List Value} (v u : Value) {n : Nat} (hp : p.length = n) : (p ++ [v]).set n u = p ++ [u] := by
  subst hp
  induction p with
  | nil => rfl
  | cons a t ih => simp [ih]
theorem scV_set {s : ScR} (hs : s.cam.length = 16) (v u : Value) : (scV s v).setIfInBounds 18 u = scV s u := by
  unfold scV
  rw [List.setIfInBounds_toArray]
  exact congrArg List.toArray (set_last (p := Value.int .i64 s.w :: .int .i64 s.h :: s.cam.map encI) v u (by simp [hs]))
theorem scV_at {s : ScR} (hs : s.cam.length = 16) (v : Value) : (scV s v)[18]? = some v := by
  unfold scV
  rw [List.getElem?_toArray, show Value.int .i64 s.w :: .int .i64 s.h :: (s.cam.map encI ++ [v]) = (Value.int .i64 s.w :: .int .i64 s.h :: s.cam.map encI) ++ [v] from rfl, List.getElem?_append_right (by simp [hs])]
  simp [hs]
theorem scV_one (s : ScR) (o : Option Addr) (n c : Nat) : (scV s (.slice o n c)).all (·.oneCell') = true := by
  unfold scV
  rw [List.all_toArray, List.all_eq_true]
  intro v hv
  rcases List.mem_cons.1 hv with rfl | hv
  · rfl
  rcases List.mem_cons.1 hv with rfl | hv
  · rfl
  rcases List.mem_append.1 hv with hv | hv
  · obtain ⟨z, _, rfl⟩ := List.mem_map.1 hv
    rfl
  · obtain rfl := List.mem_singleton.1 hv
    rfl
theorem wpIn_slice_one {F : Fence} {n : Nat} {P : Program} {o : Oper} {a : Act} {w : World} {K : Act → World → Prop} {Q : Exit → Act → World → Prop} (hF : ∀ f, F.fn f) (t e : TypeId) (x : Operand) (ho : o.op = .buildSlice t 1 #[(0, x)])
    (cs : Array Value) (hx : a.eval x = .agg cs) {ie : TypeInfo} {z : Value} {m : Nat} (hu : P.underlying t = some (.slice e)) (hie : P.info? e = some ie) (hz : ie.zero = some z) (hs : ie.size = m) (hzm : z.cells.size = m) (hcs : cs.size = m) (hm : 0 < m ∧ m < 1000)
    (h : K (a.put o.dst (.slice (some ⟨w.heap.size, 0, none⟩) 1 1)) (w.alloc (.cells cs e))) : Oper.wpIn F n P o a w K Q := by
  have hf : Instr.fill (fun i => some (i * ie.size, ie.size)) ((Array.range (1 * ie.size)).map (z.cells[· % z.cells.size]!)) (#[(0, x)].map fun (p : Nat × Operand) => (p.1, a.eval p.2)).toList = some cs := by
    have := Great.fill_whole (s := ie.size) (by omega) [Value.agg cs] ((Array.range (1 * ie.size)).map (z.cells[· % z.cells.size]!)) (fun v hv => by obtain rfl := List.mem_singleton.1 hv; rw [hs]; exact hcs) (by simp)
    simp [hx, List.zipIdx] at this ⊢
    exact this
  unfold Oper.wpIn
  refine ⟨fun f _ => hF f, ?_⟩
  rw [Oper.semAt_plain F _ _ (by rw [ho]; intro c hc'; cases hc')]
  unfold execOp
  simp only [ho, Sem.run_bind, run_buildSlice w t e 1 _ cs ie z hu hie hz (by omega) (by omega) hf, Result.andThen_ok]
  exact h
/-- the scene, and another with a list of one's own that grows -/
structure OrS (s : ScR) (b : Nat) (v : Value) (l : List ObjR) (w W : World) : Prop where
  box : ScAt w.heap.size s W
  lt : w.heap.size < b
  row : RowAt 28 b (scV s v) W
  own : OwnOb W (b + 1) v l
  sub : ∀ x ∈ l, x ∈ s.os
  below : Below w.heap.size w W
theorem OrS.up {s : ScR} {b : Nat} {v : Value} {l : List ObjR} {w W X : World} (h : Below W.heap.size W X) (i : OrS s b v l w W) : OrS s b v l w X :=
  ⟨i.box.below h, i.lt, i.row.below h, i.own.below h, i.sub, bnext i.below h⟩
theorem OrS.cells {s : ScR} {b : Nat} {v : Value} {l : List ObjR} {w W : World} (hs : ScWf s) (i : OrS s b v l w W) : W.cell? ⟨b, 18, none⟩ = some v ∧ W.cell? ⟨w.heap.size, 18, none⟩ = some (.slice s.oo s.os.length s.oc) := by
  refine ⟨?_, i.box.c18 hs⟩
  rw [cell_of_row _ _ _ _ _ _ i.row]
  exact scV_at hs.len v
theorem OrS.blkS {s : ScR} {b : Nat} {v : Value} {l : List ObjR} {w W X : World} (i : OrS s b v l w W) (hg : W.grownBy X v.ownBlock) : (∀ {g : Nat} {o : Obj}, g < b + 1 → W.heap[g]? = some o → X.heap[g]? = some o) := fun hlt h => by
  rw [hg.block _ (Array.getElem?_eq_some_iff.1 h).1 (fun e => by have := i.own.blk _ e.symm; omega)]
  exact h
theorem OrS.step {s : ScR} {b : Nat} {v v' : Value} {l : List ObjR} {x : ObjR} {w W X : World} (hs : ScWf s) (i : OrS s b v l w W) (ho : OwnOb X (b + 1) v' (l ++ [x])) (hx : x ∈ s.os) (hg : W.grownBy X v.ownBlock) : OrS s b v' (l ++ [x]) w (X.setCell ⟨b, 18, none⟩ v') := by
  have keep : ∀ {g : Nat} {o : Obj}, g < b + 1 → W.heap[g]? = some o → X.heap[g]? = some o := fun h1 h2 => i.blkS hg h1 h2
  have hlt := i.lt
  refine ⟨?_, i.lt, ?_, ho.cellset (d := scV s v) (keep (by omega) i.row), fun y hy => ?_, ?_⟩
  · unfold ScAt
    rw [heap_setCell_other _ _ _ _ (by show w.heap.size ≠ b; omega)]
    exact keep (by omega) i.box
  · unfold RowAt
    rw [heap_setCell_same _ _ 18 _ _ v' (keep (by omega) i.row), scV_set hs.len]
  · rcases List.mem_append.1 hy with hy | hy
    · exact i.sub y hy
    · obtain rfl := List.mem_singleton.1 hy
      exact hx
  · exact (below_grown2 (Nat.le_refl _) i.below hg (fun k hk => by have := i.own.blk k hk; omega)).setCell (p := ⟨b, 18, none⟩) (by show _ ≤ b; omega) _
theorem rev_next {l : List ObjR} {j : Nat} {x : ObjR} (hj : j < l.length) (hx : l[l.length - 1 - j]? = some x) : (l.drop (l.length - (j + 1))).reverse = (l.drop (l.length - j)).reverse ++ [x] := by
  have hlt : l.length - (j + 1) < l.length := by omega
  rw [List.drop_eq_getElem_cons hlt, List.reverse_cons]
  have e : l.length - (j + 1) + 1 = l.length - j := by omega
  rw [e]
  have : l[l.length - (j + 1)] = x := by
    rw [show l.length - 1 - j = l.length - (j + 1) by omega, List.getElem?_eq_getElem hlt] at hx
    exact Option.some.inj hx
  rw [this]
def OrRel (s : ScR) (b : Nat) (w : World) (n g : Nat) (u : Value) (W : World) : Prop := ∃ (j : Nat) (v : Value), g = n - j ∧ u = .int .i64 ((n : Int) - 1 - (j : Int)) ∧ j ≤ n ∧ OrS s b v ((s.os.drop (n - j)).reverse) w W
def OsRel (s : ScR) (b : Nat) (vt : Value) (oa ob : Option Addr) (ids : List Int) (w : World) (n g : Nat) (s8 u : Value) (W : World) : Prop := ∃ k : Nat, g = n - k ∧ u = .int .i64 (k : Int) ∧ k ≤ n ∧ OrS s b vt s.os.reverse w W ∧ IntsAt W oa ids ∧ IntsAt W ob ids
set_option maxRecDepth 100000 in
set_option maxHeartbeats 4000000 in
theorem law_sceneOrder (s : ScR) (hs : ScWf s) (w : World) (h : ObjsAt w s.oo s.os) :
    Calls Try.prog 5 #[.agg (scC s)] w fun e w' => e = .returned (.bool true) ∧ Below w.heap.size w w' := by
  have HI := Lib.hid (WrI.new h)
  have HS := Lib.hid hs
  have HO := Lib.hid h
  have hall := Lib.hid (sizeS hs)
  clear h hs
  go_enter Try.func5, Try.ntmps5
  go_wp2_with fail
  refine (alive_any _).mono ?_
  rintro e w1 ⟨rfl, hb⟩
  have HI1 := Lib.hid (HI.out.up hb)
  clear hb HI
  have c18 := HI1.out.sc.c18 HS.out
  have hcap := HS.out.cap.1
  obtain ⟨n, hn⟩ : ∃ n, s.os.length = n := ⟨_, rfl⟩
  have HN := Lib.hid hn
  rw [hn] at c18 hcap
  have n0 : (0 : Int) ≤ (n : Int) := by omega
  have n1 : (n : Int) ≤ 9223372036854775807 := by omega
  clear hn hcap
  by_cases h20 : 20 < n
  · have t1 : (20 : Int) < (n : Int) := by omega
    go_wp2_with fail
    go_ret
    exact ⟨rfl, HI1.out.bel⟩
  have t1 : ¬ (20 : Int) < (n : Int) := by omega
  have hSA := Lib.hid (show (Try.prog.info? 28).map (·.size) = some (scC s).size by rw [scC, List.size_toArray]; exact hall.out)
  have hSS := Lib.hid (show 19 = (scC s).size by rw [scC, List.size_toArray, scL_len HS.out])
  have hSO := Lib.hid (show (scC s).all (·.oneCell') = true by rw [scV_is]; exact scV_one _ _ _ _)
  obtain ⟨V1, hV1⟩ : ∃ V, w1.alloc (.cells ((scC s).setIfInBounds 18 (.slice none 0 0)) 28) = V := ⟨_, rfl⟩
  have HR1 : Hid (OrS s w1.heap.size (.slice none 0 0) [] w V1) := Lib.hid (by
    have hlt : w.heap.size < w1.heap.size := (Array.getElem?_eq_some_iff.1 HI1.out.sc).1
    have hb : Below w1.heap.size w1 V1 := by rw [← hV1]; exact (Below.refl _ w1).alloc (Nat.le_refl _) _
    refine ⟨HI1.out.sc.below hb, hlt, ?_, ⟨rfl, .inl ⟨rfl, rfl⟩⟩, fun x hx => by simp at hx, bnext HI1.out.bel hb⟩
    rw [← hV1, scV_is, scV_set HS.out.len]
    exact RowAt.new _ _ _)
  have k18 : (w1.alloc (.cells (scC s) 28)).cell? ⟨w1.heap.size, 18, none⟩ = some (.slice s.oo n s.oc) := by
    rw [cell_of_row _ _ _ _ _ _ (RowAt.new w1 28 (scC s)), scV_is, scV_at HS.out.len, HN.out]
  have g18 : (w1.alloc (.cells (scC s) 28)).frozen? ⟨w1.heap.size, 18, none⟩ = false := frozen_row (RowAt.new w1 28 (scC s))
  have HV1 := Lib.hid hV1
  have c19 : V1.cell? ⟨w.heap.size, 18, none⟩ = some (.slice s.oo n s.oc) := by have := (HR1.out.cells HS.out).2; rw [HN.out] at this; exact this
  clear hV1 h20
  go_wp2_with (first | (rw [HV1.out]) | (refine wpList_load_mid rfl 28 (.tmp 1) rfl w.heap.size 0 rfl (scL s) _ HI1.out.sc.all Try.underlying28 rfl hall.out ?_) | (refine wpList_store_new rfl 28 (.tmp 4) (.tmp 19) rfl w1.heap.size _ _ (scC s) rfl rfl rfl hSA.out hSS.out hSO.out ?_))
  clear c18 k18 g18 c19 t1 hSA hSS hSO
  generalize w1.heap.size = b4 at HR1 ⊢
  clear HI1 HV1
  go_loopg [5] n (OrRel s b4 w n)
  case atStart =>
    exact ⟨0, _, rfl, by congr 1; omega, by omega, by rw [Nat.sub_zero, ← HN.out, List.drop_length]; exact HR1.out⟩
  case round =>
    obtain ⟨j, v, hg, rfl, hj, hR⟩ := hrel
    subst hg
    have HR := Lib.hid hR
    obtain ⟨c1, c2⟩ := hR.cells HS.out
    rw [HN.out] at c2
    clear hR HR1
    have j0 : (0 : Int) ≤ (j : Int) := by omega
    by_cases hjn : j < n
    · have t2 : (0 : Int) ≤ (n : Int) - 1 - (j : Int) := by omega
      obtain ⟨m, hm⟩ : ∃ m : Nat, n - 1 - j = m := ⟨_, rfl⟩
      have em : (n : Int) - 1 - (j : Int) = (m : Int) := by omega
      have hmn : m < n := by omega
      obtain ⟨x, hx⟩ : ∃ x, s.os[m]? = some x := ⟨_, List.getElem?_eq_getElem (by rw [HN.out]; exact hmn)⟩
      have HNX : Hid ((s.os.drop (n - (j + 1))).reverse = (s.os.drop (n - j)).reverse ++ [x]) := Lib.hid (by
        have := rev_next (l := s.os) (j := j) (x := x) (by rw [HN.out]; exact hjn) (by rw [HN.out, hm]; exact hx)
        rw [HN.out] at this
        exact this)
      have HXM : Hid (x ∈ s.os) := Lib.hid (List.mem_of_getElem? hx)
      have hob := HO.out.below HR.out.below
      obtain ⟨b, off, e, hat⟩ := hob m x hx
      have HRX := Lib.hid hat.cells
      have HXW := Lib.hid hat.wf
      have hinf := Lib.hid (show (Try.prog.info? 44).map (·.size) = some (objL x).length by rw [objL_len hat.wf]; kernel_rfl)
      have HLL : Hid (((s.os.drop (n - j)).reverse).length ≤ 20) := Lib.hid (by rw [List.length_reverse, List.length_drop, HN.out]; omega)
      have HFL : Hid (((s.os.drop (n - j)).reverse.flatMap objL).length = ((s.os.drop (n - j)).reverse).length * 19) := Lib.hid (flat_len (fun y hy => by
        obtain ⟨k, hk⟩ := List.mem_iff_getElem?.1 (HR.out.sub y hy)
        exact (hob.wf hk).1))
      rw [em] at t2 ⊢
      rw [e] at c2
      generalize (s.os.drop (n - j)).reverse = l at HR HNX HLL HFL
      have m0 : (0 : Int) ≤ (m : Int) := by omega
      have m1 : (m : Int) < (n : Int) := by omega
      have HM := Lib.hid em
      have EO := Lib.hid e
      clear hx hat hob e em hm hmn
      go_wp2_with fail
      rename_i K5 hK5
      generalize wr = V at HR HRX c1 c2 ⊢
      obtain ⟨io, zo, hio, hzo, hso, hbo, hzs⟩ := infoOb
      have HIO := Lib.hid (And.intro hio (And.intro hzo (And.intro hso (And.intro hbo hzs))))
      clear hio hzo hso hbo hzs
      refine (wpIn_wide (n := 5)).1 ?_
      refine heldz_region (S := fun X => X.cell? ⟨b4, 18, none⟩ = some v ∧ X.cell? ⟨w.heap.size, 18, none⟩ = some (.slice (some ⟨b, off, none⟩) n s.oc)) (Z := [10]) (by kernel_rfl) ?_
      refine heldz_take (fun _ => trivial) [10] 0 (?_) (by kernel_rfl) rfl (by kernel_rfl) (fun _ _ _ h => h) ⟨c1, c2⟩ (by kernel_rfl) ?_ ?_
      rotate_left
      · intro wz hSw; (first | (go_simp; done) | (go_simp; with_reducible rfl))
      (try simp only [Act.put, List.getElem_toArray, List.getElem_cons_zero, List.getElem_cons_succ, List.setIfInBounds_toArray, List.set_cons_zero, List.set_cons_succ])
      refine heldz_take (fun _ => trivial) [10] 1 (v) (by kernel_rfl) rfl (by kernel_rfl) (fun _ _ _ h => h) ⟨c1, c2⟩ (by kernel_rfl) ?_ ?_
      · intro wz hSw; obtain ⟨q1, q2⟩ := hSw; (first | (go_simp; done) | (go_simp; with_reducible rfl))
      (try simp only [Act.put, List.getElem_toArray, List.getElem_cons_zero, List.getElem_cons_succ, List.setIfInBounds_toArray, List.set_cons_zero, List.set_cons_succ])
      refine heldz_take (fun _ => trivial) [10] 2 (?_) (by kernel_rfl) rfl (by kernel_rfl) (fun _ _ _ h => h) ⟨c1, c2⟩ (by kernel_rfl) ?_ ?_
      rotate_left
      · intro wz hSw; (first | (go_simp; done) | (go_simp; with_reducible rfl))
      (try simp only [Act.put, List.getElem_toArray, List.getElem_cons_zero, List.getElem_cons_succ, List.setIfInBounds_toArray, List.set_cons_zero, List.set_cons_succ])
      refine heldz_take (fun _ => trivial) [10] 3 (.slice (some ⟨b, off, none⟩) n s.oc) (by kernel_rfl) rfl (by kernel_rfl) (fun _ _ _ h => h) ⟨c1, c2⟩ (by kernel_rfl) ?_ ?_
      · intro wz hSw; obtain ⟨q1, q2⟩ := hSw; (first | (go_simp; done) | (go_simp; with_reducible rfl))
      (try simp only [Act.put, List.getElem_toArray, List.getElem_cons_zero, List.getElem_cons_succ, List.setIfInBounds_toArray, List.set_cons_zero, List.set_cons_succ])
      refine heldz_take (fun _ => trivial) [10] 4 (?_) (by kernel_rfl) rfl (by kernel_rfl) (fun _ _ _ h => h) ⟨c1, c2⟩ (by kernel_rfl) ?_ ?_
      rotate_left
      · intro wz hSw; (first | (go_simp; done) | (go_simp; with_reducible rfl))
      (try simp only [Act.put, List.getElem_toArray, List.getElem_cons_zero, List.getElem_cons_succ, List.setIfInBounds_toArray, List.set_cons_zero, List.set_cons_succ])
      refine heldz_take (fun _ => trivial) [10] 5 (.pointer (some ⟨b, off + m * 19, none⟩)) (by kernel_rfl) rfl (by kernel_rfl) (fun _ _ _ h => h) ⟨c1, c2⟩ (by kernel_rfl) ?_ ?_
      · intro wz hSw; (first | (go_simp; done) | (go_simp; with_reducible rfl))
      (try simp only [Act.put, List.getElem_toArray, List.getElem_cons_zero, List.getElem_cons_succ, List.setIfInBounds_toArray, List.set_cons_zero, List.set_cons_succ])
      refine heldz_step (fun _ => trivial) 6 (by kernel_rfl) rfl (fun K hK => ?_)
      rw [if_pos (by kernel_rfl)]
      refine wpIn_load_mid (fun _ => trivial) 44 (.tmp 34) rfl b (off + m * 19) rfl (objL x) _ (range_below (bdrew0 _ V 1) HRX.out) Try.underlying44 (by rfl) hinf.out ?_
      refine hK.out _ _ (fun _ => ⟨c1, c2⟩) ?_
      clear hK K
      (try simp only [Act.put, List.getElem_toArray, List.getElem_cons_zero, List.getElem_cons_succ, List.setIfInBounds_toArray, List.set_cons_zero, List.set_cons_succ])
      refine heldz_step (fun _ => trivial) 7 (by kernel_rfl) rfl (fun K hK => ?_)
      rw [if_pos (by kernel_rfl)]
      refine wpIn_slice_one (fun _ => trivial) 26 44 (.tmp 35) (by rfl) (objL x).toArray (by rfl) Try.underlying26 HIO.out.1 HIO.out.2.1 HIO.out.2.2.1 HIO.out.2.2.2.2 (by rw [List.size_toArray, objL_len HXW.out]) ⟨by omega, by omega⟩ ?_
      obtain ⟨X6, hX6⟩ : ∃ X, V.drew.alloc (.cells (objL x).toArray 44) = X := ⟨_, rfl⟩
      have hb6 : Below V.heap.size V X6 := by rw [← hX6]; exact (bdrew0 _ V 1).alloc (by simp) _
      have HN6 : Hid (RowAt 44 V.heap.size (objL x).toArray X6) := Lib.hid (by rw [← hX6]; exact RowAt.new V.drew 44 _)
      have HR6 := Lib.hid (HR.out.up hb6)
      have k1 := keep_cell hb6 c1
      have k2 := keep_cell hb6 c2
      rw [show V.drew.heap.size = V.heap.size from rfl, hX6]
      clear hX6 hb6
      refine hK.out _ _ (fun _ => ⟨k1, k2⟩) ?_
      clear hK K
      (try simp only [Act.put, List.getElem_toArray, List.getElem_cons_zero, List.getElem_cons_succ, List.setIfInBounds_toArray, List.set_cons_zero, List.set_cons_succ])
      refine heldz_step (fun _ => trivial) 8 (by kernel_rfl) rfl (fun K hK => ?_)
      rw [if_pos (by kernel_rfl)]
      refine wpIn_app_own (fun _ => trivial) (.tmp 30) (.tmp 36) 26 rfl (b4 + 1) 44 io zo 19 184 Try.underlying26 HIO.out.1 HIO.out.2.1 HIO.out.2.2.1 HIO.out.2.2.2.1 HIO.out.2.2.2.2 (by omega) v l.length (l.flatMap objL) rfl HR6.out.own ⟨V.heap.size, 0, none⟩ 1 1 (objL x) rfl (objL_len HXW.out) (fun j u hj => by rw [Addr.add_lit, cell_of_row _ _ _ _ _ _ HN6.out, Nat.zero_add]; simpa using hj) (fun u hu => by have := objL_one x; rw [List.all_toArray, List.all_eq_true] at this; exact this u hu) (by have := HLL.out; unfold maxLen; omega) (by have := HLL.out; omega) (by have := HR6.out.row.lt; omega) ?_
      intro v7 X7 ho7 hg7
      have hO7 : OwnOb X7 (b4 + 1) v7 (l ++ [x]) := by unfold OwnOb; rw [List.length_append, List.flatMap_append]; simpa using ho7
      have HO7 := Lib.hid hO7
      have HG7 := Lib.hid hg7
      have r7 := HR6.out.blkS hg7 (by omega) HR6.out.row
      have s7 := HR6.out.blkS hg7 (by have := HR6.out.lt; omega) HR6.out.box
      have e1 : X7.cell? ⟨b4, 18, none⟩ = some v := by rw [cell_of_row _ _ _ _ _ _ r7]; exact scV_at HS.out.len v
      have e2 : X7.cell? ⟨w.heap.size, 18, none⟩ = some (.slice (some ⟨b, off, none⟩) n s.oc) := by have := ScAt.c18 (W := X7) s7 HS.out; rw [HN.out, EO.out] at this; exact this
      have f7 : X7.frozen? ⟨b4, 18, none⟩ = false := frozen_row r7
      have HW7 : Hid (∀ y ∈ l ++ [x], ObjWf y ∧ VertsAt X7 y.vo y.vs ∧ TrisAt X7 y.tq y.ts) := Lib.hid (fun y hy => by
        have hy2 : y ∈ s.os := by
          rcases List.mem_append.1 hy with hy | hy
          · exact HR6.out.sub y hy
          · obtain rfl := List.mem_singleton.1 hy
            exact HXM.out
        obtain ⟨k, hk⟩ := List.mem_iff_getElem?.1 hy2
        exact (HO.out.below (below_grown2 (Nat.le_refl _) HR6.out.below hg7 (fun k hk => by have := HR6.out.own.blk k hk; have := HR6.out.lt; omega))).wf hk)
      obtain ⟨o7, cap7, rfl, _, _, _⟩ := hO7.form HW7.out
      obtain ⟨ml, hml⟩ : ∃ ml, (l ++ [x]).length = ml := ⟨_, rfl⟩
      rw [hml] at HO7 ⊢
      clear ho7 hg7 r7 s7 hO7 k1 k2 hml
      refine hK.out _ _ (fun _ => ⟨e1, e2⟩) ?_
      clear hK K
      (try simp only [Act.put, List.getElem_toArray, List.getElem_cons_zero, List.getElem_cons_succ, List.setIfInBounds_toArray, List.set_cons_zero, List.set_cons_succ])
      refine heldz_take (fun _ => trivial) [10] 9 (?_) (by kernel_rfl) rfl (by kernel_rfl) (fun _ _ _ h => h) ⟨e1, e2⟩ (by kernel_rfl) ?_ ?_
      rotate_left
      · intro wz hSw; (first | (go_simp; done) | (go_simp; with_reducible rfl))
      (try simp only [Act.put, List.getElem_toArray, List.getElem_cons_zero, List.getElem_cons_succ, List.setIfInBounds_toArray, List.set_cons_zero, List.set_cons_succ])
      refine heldz_step (fun _ => trivial) 10 (by kernel_rfl) rfl (fun K hK => ?_)
      go_simp
      refine hK.out _ _ (fun h => by cases h) ?_
      clear hK K
      refine heldz_done (by kernel_rfl) ?_ _
      refine hK5 _ _ ?_
      have HE := Lib.hid (HR6.out.step HS.out HO7.out HXM.out HG7.out)
      clear e1 e2 f7 HO7 HG7 HR6 HN6 HIO HRX hK5 HW7 c1 c2 HR
      go_wp2_with fail
      go_roundg (n - (j + 1))
      case measure => omega
      case rel => exact ⟨j + 1, _, rfl, by have := HM.out; congr 1; omega, by omega, by rw [HNX.out]; exact HE.out⟩
    · obtain rfl : j = n := by omega
      have t2 : ¬ (0 : Int) ≤ (j : Int) - 1 - (j : Int) := by omega
      rw [Nat.sub_self, List.drop_zero] at HR
      have HWS : Hid (∀ W, OrS s b4 v s.os.reverse w W → ∀ y ∈ s.os.reverse, ObjWf y ∧ VertsAt W y.vo y.vs ∧ TrisAt W y.tq y.ts) := Lib.hid (fun W i y hy => by
        obtain ⟨k, hk⟩ := List.mem_iff_getElem?.1 (i.sub y hy)
        exact (HO.out.below i.below).wf hk)
      obtain ⟨o7, cap7, hv7, _, hcap7, _⟩ := HR.out.own.form (HWS.out _ HR.out)
      have HOT : Hid (∀ W, OrS s b4 v s.os.reverse w W → ObjsAt W (turned s o7 cap7).oo (turned s o7 cap7).os) := Lib.hid (fun W i => by
        obtain ⟨o8, cap8, hv8, hob8, _, _⟩ := i.own.form (HWS.out _ i)
        rw [hv7] at hv8
        injection hv8 with e1 _ _
        subst e1
        exact hob8)
      have HWT : Hid (ScWf (turned s o7 cap7)) := Lib.hid ⟨HS.out.w, HS.out.h, HS.out.len, HS.out.num, hcap7⟩
      have hct : scV s v = scC (turned s o7 cap7) := by rw [hv7]; rfl
      have HCT := Lib.hid hct
      have HCS : Hid (∀ W, OrS s b4 v s.os.reverse w W → Calls Try.prog 19 #[.agg (scC s)] W fun e w' => e = .returned (.int .i64 (if okZ s = true then 0 else 60)) ∧ Below W.heap.size W w') := Lib.hid (fun W i => pcheck_any s W HS.out (HO.out.below i.below))
      have HCU : Hid (∀ W, OrS s b4 v s.os.reverse w W → Calls Try.prog 19 #[.agg (scV s v)] W fun e w' => e = .returned (.int .i64 (if okZ s = true then 0 else 60)) ∧ Below W.heap.size W w') := Lib.hid (fun W i => by
        rw [hct]
        have := pcheck_any (turned s o7 cap7) W HWT.out (HOT.out W i)
        rw [ok_turned] at this
        exact this)
      have HIS : Hid (∀ W, OrS s b4 v s.os.reverse w W → Calls Try.prog 11 #[.agg (scC s)] W (RetIDsP (sortedIds s.os) W)) := Lib.hid (fun W i => pids_any s W HS.out (HO.out.below i.below) (by rw [HN.out]; omega))
      have HIT : Hid (∀ W, OrS s b4 v s.os.reverse w W → Calls Try.prog 11 #[.agg (scV s v)] W (RetIDsP (sortedIds s.os) W)) := Lib.hid (fun W i => by
        rw [hct]
        have := pids_any (turned s o7 cap7) W HWT.out (HOT.out W i) (by show s.os.reverse.length ≤ 1000; rw [List.length_reverse, HN.out]; omega)
        rw [show (turned s o7 cap7).os = s.os.reverse from rfl, sorted_rev] at this
        exact this)
      have hSV := Lib.hid (show (Try.prog.info? 28).map (·.size) = some (scV s v).size by rw [hct, scC, List.size_toArray, scL_len HWT.out]; kernel_rfl)
      generalize (if okZ s = true then (0 : Int) else 60) = z at HCS HCU
      clear hv7 hcap7 hct
      go_wp2_with fail
      rename_i K5 hK5
      generalize wr = V at HR c1 c2 ⊢
      refine (wpIn_wide (n := 5)).1 ?_
      refine heldz_region (S := fun X => OrS s b4 v s.os.reverse w X) (Z := []) (by kernel_rfl) ?_
      refine heldz_take (fun _ => trivial) [] 0 (.agg (scC s)) (by kernel_rfl) rfl (by kernel_rfl) (fun _ _ _ h => h) (HR.out.up (bdrew0 _ V 1)) (by kernel_rfl) ?_ ?_
      · intro wz hSw; exact exec_load_mid 28 (.tmp 1) (by kernel_rfl) w.heap.size 0 (by kernel_rfl) (scL s) _ hSw.box.all Try.underlying28 (by kernel_rfl) hall.out
      (try simp only [Act.put, List.getElem_toArray, List.getElem_cons_zero, List.getElem_cons_succ, List.setIfInBounds_toArray, List.set_cons_zero, List.set_cons_succ])
      refine heldz_take (fun _ => trivial) [] 2 (.agg (scV s v)) (by kernel_rfl) rfl (by kernel_rfl) (fun _ _ _ h => h) (HR.out.up (bdrew0 _ V 1)) (by kernel_rfl) ?_ ?_
      · intro wz hSw; exact exec_load_row 28 (.tmp 4) (by kernel_rfl) b4 (by kernel_rfl) _ (scV s v) _ _ hSw.row Try.underlying28 (by kernel_rfl) hSV.out
      (try simp only [Act.put, List.getElem_toArray, List.getElem_cons_zero, List.getElem_cons_succ, List.setIfInBounds_toArray, List.set_cons_zero, List.set_cons_succ])
      refine heldz_step (fun _ => trivial) 1 (by kernel_rfl) rfl (fun K hK => ?_)
      go_simp
      refine ⟨trivial, CallsIn.mono (callsIn_wide.2 (HIS.out V.drew (HR.out.up (bdrew0 _ V 1)))) ?_⟩
      rintro e w5 ⟨va, rfl, oa, hb⟩
      have HR5 := Lib.hid ((HR.out.up (bdrew0 _ V 1)).up hb)
      have HOA := Lib.hid (oa.base HR.out.below.size)
      clear oa hb
      refine hK.out _ _ (fun _ => HR5.out) ?_
      clear hK K
      (try simp only [Act.put, List.getElem_toArray, List.getElem_cons_zero, List.getElem_cons_succ, List.setIfInBounds_toArray, List.set_cons_zero, List.set_cons_succ])
      refine heldz_step (fun _ => trivial) 3 (by kernel_rfl) rfl (fun K hK => ?_)
      go_simp
      refine ⟨trivial, CallsIn.mono (callsIn_wide.2 (HIT.out _ HR5.out)) ?_⟩
      rintro e w6 ⟨vb, rfl, ob, hb⟩
      have HR6 := Lib.hid (HR5.out.up hb)
      have HOA6 := Lib.hid (HOA.out.below hb)
      have HOB6 := Lib.hid (ob.base HR5.out.below.size)
      clear ob hb
      refine hK.out _ _ (fun _ => HR6.out) ?_
      clear hK K
      (try simp only [Act.put, List.getElem_toArray, List.getElem_cons_zero, List.getElem_cons_succ, List.setIfInBounds_toArray, List.set_cons_zero, List.set_cons_succ])
      refine heldz_take (fun _ => trivial) [] 4 (?_) (by kernel_rfl) rfl (by kernel_rfl) (fun _ _ _ h => h) HR6.out (by kernel_rfl) ?_ ?_
      rotate_left
      · intro wz hSw; (first | (go_simp; done) | (go_simp; with_reducible rfl))
      (try simp only [Act.put, List.getElem_toArray, List.getElem_cons_zero, List.getElem_cons_succ, List.setIfInBounds_toArray, List.set_cons_zero, List.set_cons_succ])
      refine heldz_take (fun _ => trivial) [] 5 (?_) (by kernel_rfl) rfl (by kernel_rfl) (fun _ _ _ h => h) HR6.out (by kernel_rfl) ?_ ?_
      rotate_left
      · intro wz hSw; (first | (go_simp; done) | (go_simp; with_reducible rfl))
      (try simp only [Act.put, List.getElem_toArray, List.getElem_cons_zero, List.getElem_cons_succ, List.setIfInBounds_toArray, List.set_cons_zero, List.set_cons_succ])
      refine heldz_done (by kernel_rfl) ?_ _
      refine hK5 _ _ ?_
      obtain ⟨oa, ca, rfl, hia, _⟩ := HOA6.out.form
      obtain ⟨ob, cb, rfl, hib, _⟩ := HOB6.out.form
      have HIA := Lib.hid hia
      have HIB := Lib.hid hib
      have HSL : Hid ((sortedIds s.os).length = j) := Lib.hid (by rw [sorted_len, HN.out])
      have HST : Hid (∀ k, k + 1 < j → (sortedIds s.os).getD k 0 ≤ (sortedIds s.os).getD (k + 1) 0) := Lib.hid (fun k hk => sorted_step (by rw [HSL.out]; exact hk))
      have d2 := (HR6.out.cells HS.out).2
      rw [HN.out] at d2
      rw [HSL.out]
      generalize sortedIds s.os = ids at *
      clear hia hib HOA6 HOB6 HOA HR HR5 HIS HIT hK5 c1 c2 t2
      go_wp2_with fail
      clear d2
      go_loopg [8, 58] j (OsRel s b4 v oa ob ids w j)
      case atStart => exact ⟨0, rfl, rfl, by omega, HR6.out, HIA.out, HIB.out⟩
      case round =>
        obtain ⟨k, hg, rfl, hk, hr, hia, hib⟩ := hrel
        subst hg
        have HR7 := Lib.hid hr
        have HIA7 := Lib.hid hia
        have HIB7 := Lib.hid hib
        clear hr hia hib HR6 HIA HIB
        have k0 : (0 : Int) ≤ (k : Int) := by omega
        by_cases hkj : k < j
        · have t3 : (k : Int) < (j : Int) := by omega
          obtain ⟨ba, fa, ea, da⟩ := HIA7.out k (by rw [HSL.out]; exact hkj)
          obtain ⟨bb, fb, eb, db⟩ := HIB7.out k (by rw [HSL.out]; exact hkj)
          subst ea eb
          by_cases hk1 : k = 0
          · have t4 : ¬ (0 : Int) < (k : Int) := by omega
            have HK1 := Lib.hid hk1
            generalize ids.getD k 0 = x at da db
            clear hk1
            go_wp2_with fail
            rename_i K6 hK6
            refine (wpIn_wide (n := 5)).1 ?_
            refine heldz_region (S := fun X => X.cell? ⟨ba, fa + k, none⟩ = some (.int .i64 x) ∧ X.cell? ⟨bb, fb + k, none⟩ = some (.int .i64 x)) (Z := []) (by kernel_rfl) ?_
            refine heldz_take (fun _ => trivial) [] 0 (?_) (by kernel_rfl) rfl (by kernel_rfl) (fun _ _ _ h => h) ⟨da, db⟩ (by kernel_rfl) ?_ ?_
            rotate_left
            · intro wz hSw; (first | (go_simp; done) | (go_simp; with_reducible rfl))
            (try simp only [Act.put, List.getElem_toArray, List.getElem_cons_zero, List.getElem_cons_succ, List.setIfInBounds_toArray, List.set_cons_zero, List.set_cons_succ])
            refine heldz_take (fun _ => trivial) [] 1 (?_) (by kernel_rfl) rfl (by kernel_rfl) (fun _ _ _ h => h) ⟨da, db⟩ (by kernel_rfl) ?_ ?_
            rotate_left
            · intro wz hSw; (first | (go_simp; done) | (go_simp; with_reducible rfl))
            (try simp only [Act.put, List.getElem_toArray, List.getElem_cons_zero, List.getElem_cons_succ, List.setIfInBounds_toArray, List.set_cons_zero, List.set_cons_succ])
            refine heldz_take (fun _ => trivial) [] 2 (.pointer (some ⟨ba, fa + k, none⟩)) (by kernel_rfl) rfl (by kernel_rfl) (fun _ _ _ h => h) ⟨da, db⟩ (by kernel_rfl) ?_ ?_
            · intro wz hSw; (first | (go_simp; done) | (go_simp; with_reducible rfl))
            (try simp only [Act.put, List.getElem_toArray, List.getElem_cons_zero, List.getElem_cons_succ, List.setIfInBounds_toArray, List.set_cons_zero, List.set_cons_succ])
            refine heldz_take (fun _ => trivial) [] 3 (.int .i64 x) (by kernel_rfl) rfl (by kernel_rfl) (fun _ _ _ h => h) ⟨da, db⟩ (by kernel_rfl) ?_ ?_
            · intro wz hSw; obtain ⟨q1, q2⟩ := hSw; (first | (go_simp; done) | (go_simp; with_reducible rfl))
            (try simp only [Act.put, List.getElem_toArray, List.getElem_cons_zero, List.getElem_cons_succ, List.setIfInBounds_toArray, List.set_cons_zero, List.set_cons_succ])
            refine heldz_take (fun _ => trivial) [] 4 (?_) (by kernel_rfl) rfl (by kernel_rfl) (fun _ _ _ h => h) ⟨da, db⟩ (by kernel_rfl) ?_ ?_
            rotate_left
            · intro wz hSw; (first | (go_simp; done) | (go_simp; with_reducible rfl))
            (try simp only [Act.put, List.getElem_toArray, List.getElem_cons_zero, List.getElem_cons_succ, List.setIfInBounds_toArray, List.set_cons_zero, List.set_cons_succ])
            refine heldz_take (fun _ => trivial) [] 5 (?_) (by kernel_rfl) rfl (by kernel_rfl) (fun _ _ _ h => h) ⟨da, db⟩ (by kernel_rfl) ?_ ?_
            rotate_left
            · intro wz hSw; (first | (go_simp; done) | (go_simp; with_reducible rfl))
            (try simp only [Act.put, List.getElem_toArray, List.getElem_cons_zero, List.getElem_cons_succ, List.setIfInBounds_toArray, List.set_cons_zero, List.set_cons_succ])
            refine heldz_take (fun _ => trivial) [] 6 (.pointer (some ⟨bb, fb + k, none⟩)) (by kernel_rfl) rfl (by kernel_rfl) (fun _ _ _ h => h) ⟨da, db⟩ (by kernel_rfl) ?_ ?_
            · intro wz hSw; (first | (go_simp; done) | (go_simp; with_reducible rfl))
            (try simp only [Act.put, List.getElem_toArray, List.getElem_cons_zero, List.getElem_cons_succ, List.setIfInBounds_toArray, List.set_cons_zero, List.set_cons_succ])
            refine heldz_take (fun _ => trivial) [] 7 (.int .i64 x) (by kernel_rfl) rfl (by kernel_rfl) (fun _ _ _ h => h) ⟨da, db⟩ (by kernel_rfl) ?_ ?_
            · intro wz hSw; obtain ⟨q1, q2⟩ := hSw; (first | (go_simp; done) | (go_simp; with_reducible rfl))
            (try simp only [Act.put, List.getElem_toArray, List.getElem_cons_zero, List.getElem_cons_succ, List.setIfInBounds_toArray, List.set_cons_zero, List.set_cons_succ])
            refine heldz_take (fun _ => trivial) [] 8 (.bool false) (by kernel_rfl) rfl (by kernel_rfl) (fun _ _ _ h => h) ⟨da, db⟩ (by kernel_rfl) ?_ ?_
            · intro wz hSw; (first | (go_simp; done) | (go_simp; with_reducible rfl))
            (try simp only [Act.put, List.getElem_toArray, List.getElem_cons_zero, List.getElem_cons_succ, List.setIfInBounds_toArray, List.set_cons_zero, List.set_cons_succ])
            refine heldz_take (fun _ => trivial) [] 9 (?_) (by kernel_rfl) rfl (by kernel_rfl) (fun _ _ _ h => h) ⟨da, db⟩ (by kernel_rfl) ?_ ?_
            rotate_left
            · intro wz hSw; (first | (go_simp; done) | (go_simp; with_reducible rfl))
            (try simp only [Act.put, List.getElem_toArray, List.getElem_cons_zero, List.getElem_cons_succ, List.setIfInBounds_toArray, List.set_cons_zero, List.set_cons_succ])
            refine heldz_take (fun _ => trivial) [] 10 (?_) (by kernel_rfl) rfl (by kernel_rfl) (fun _ _ _ h => h) ⟨da, db⟩ (by kernel_rfl) ?_ ?_
            rotate_left
            · intro wz hSw; (first | (go_simp; done) | (go_simp; with_reducible rfl))
            (try simp only [Act.put, List.getElem_toArray, List.getElem_cons_zero, List.getElem_cons_succ, List.setIfInBounds_toArray, List.set_cons_zero, List.set_cons_succ])
            refine heldz_take (fun _ => trivial) [] 11 (.bool false) (by kernel_rfl) rfl (by kernel_rfl) (fun _ _ _ h => h) ⟨da, db⟩ (by kernel_rfl) ?_ ?_
            · intro wz hSw; (first | (go_simp; done) | (go_simp; omega))
            (try simp only [Act.put, List.getElem_toArray, List.getElem_cons_zero, List.getElem_cons_succ, List.setIfInBounds_toArray, List.set_cons_zero, List.set_cons_succ])
            refine heldz_take (fun _ => trivial) [] 12 (?_) (by kernel_rfl) rfl (by kernel_rfl) (fun _ _ _ h => h) ⟨da, db⟩ (by kernel_rfl) ?_ ?_
            rotate_left
            · intro wz hSw; (first | (go_simp; done) | (go_simp; with_reducible rfl))
            (try simp only [Act.put, List.getElem_toArray, List.getElem_cons_zero, List.getElem_cons_succ, List.setIfInBounds_toArray, List.set_cons_zero, List.set_cons_succ])
            refine heldz_no (fun _ => trivial) [] 13 (by kernel_rfl) rfl (by kernel_rfl) (fun _ _ _ h => h) ⟨da, db⟩ (by kernel_rfl) ?_
            (try simp only [Act.put, List.getElem_toArray, List.getElem_cons_zero, List.getElem_cons_succ, List.setIfInBounds_toArray, List.set_cons_zero, List.set_cons_succ])
            refine heldz_no (fun _ => trivial) [] 14 (by kernel_rfl) rfl (by kernel_rfl) (fun _ _ _ h => h) ⟨da, db⟩ (by kernel_rfl) ?_
            (try simp only [Act.put, List.getElem_toArray, List.getElem_cons_zero, List.getElem_cons_succ, List.setIfInBounds_toArray, List.set_cons_zero, List.set_cons_succ])
            refine heldz_no (fun _ => trivial) [] 15 (by kernel_rfl) rfl (by kernel_rfl) (fun _ _ _ h => h) ⟨da, db⟩ (by kernel_rfl) ?_
            (try simp only [Act.put, List.getElem_toArray, List.getElem_cons_zero, List.getElem_cons_succ, List.setIfInBounds_toArray, List.set_cons_zero, List.set_cons_succ])
            refine heldz_no (fun _ => trivial) [] 16 (by kernel_rfl) rfl (by kernel_rfl) (fun _ _ _ h => h) ⟨da, db⟩ (by kernel_rfl) ?_
            (try simp only [Act.put, List.getElem_toArray, List.getElem_cons_zero, List.getElem_cons_succ, List.setIfInBounds_toArray, List.set_cons_zero, List.set_cons_succ])
            refine heldz_no (fun _ => trivial) [] 17 (by kernel_rfl) rfl (by kernel_rfl) (fun _ _ _ h => h) ⟨da, db⟩ (by kernel_rfl) ?_
            (try simp only [Act.put, List.getElem_toArray, List.getElem_cons_zero, List.getElem_cons_succ, List.setIfInBounds_toArray, List.set_cons_zero, List.set_cons_succ])
            refine heldz_no (fun _ => trivial) [] 18 (by kernel_rfl) rfl (by kernel_rfl) (fun _ _ _ h => h) ⟨da, db⟩ (by kernel_rfl) ?_
            (try simp only [Act.put, List.getElem_toArray, List.getElem_cons_zero, List.getElem_cons_succ, List.setIfInBounds_toArray, List.set_cons_zero, List.set_cons_succ])
            refine heldz_no (fun _ => trivial) [] 19 (by kernel_rfl) rfl (by kernel_rfl) (fun _ _ _ h => h) ⟨da, db⟩ (by kernel_rfl) ?_
            (try simp only [Act.put, List.getElem_toArray, List.getElem_cons_zero, List.getElem_cons_succ, List.setIfInBounds_toArray, List.set_cons_zero, List.set_cons_succ])
            refine heldz_no (fun _ => trivial) [] 20 (by kernel_rfl) rfl (by kernel_rfl) (fun _ _ _ h => h) ⟨da, db⟩ (by kernel_rfl) ?_
            (try simp only [Act.put, List.getElem_toArray, List.getElem_cons_zero, List.getElem_cons_succ, List.setIfInBounds_toArray, List.set_cons_zero, List.set_cons_succ])
            refine heldz_no (fun _ => trivial) [] 21 (by kernel_rfl) rfl (by kernel_rfl) (fun _ _ _ h => h) ⟨da, db⟩ (by kernel_rfl) ?_
            (try simp only [Act.put, List.getElem_toArray, List.getElem_cons_zero, List.getElem_cons_succ, List.setIfInBounds_toArray, List.set_cons_zero, List.set_cons_succ])
            refine heldz_no (fun _ => trivial) [] 22 (by kernel_rfl) rfl (by kernel_rfl) (fun _ _ _ h => h) ⟨da, db⟩ (by kernel_rfl) ?_
            (try simp only [Act.put, List.getElem_toArray, List.getElem_cons_zero, List.getElem_cons_succ, List.setIfInBounds_toArray, List.set_cons_zero, List.set_cons_succ])
            refine heldz_take (fun _ => trivial) [] 23 (.bool false) (by kernel_rfl) rfl (by kernel_rfl) (fun _ _ _ h => h) ⟨da, db⟩ (by kernel_rfl) ?_ ?_
            · intro wz hSw; (first | (go_simp; done) | (go_simp; with_reducible rfl))
            (try simp only [Act.put, List.getElem_toArray, List.getElem_cons_zero, List.getElem_cons_succ, List.setIfInBounds_toArray, List.set_cons_zero, List.set_cons_succ])
            refine heldz_take (fun _ => trivial) [] 24 (.bool false) (by kernel_rfl) rfl (by kernel_rfl) (fun _ _ _ h => h) ⟨da, db⟩ (by kernel_rfl) ?_ ?_
            · intro wz hSw; (first | (go_simp; done) | (go_simp; with_reducible rfl))
            (try simp only [Act.put, List.getElem_toArray, List.getElem_cons_zero, List.getElem_cons_succ, List.setIfInBounds_toArray, List.set_cons_zero, List.set_cons_succ])
            refine heldz_done (by kernel_rfl) ?_ _
            refine hK6 _ _ ?_
            clear hK6
            go_wp2_with fail
            go_roundg (j - (k + 1))
            case measure => omega
            case rel => exact ⟨k + 1, rfl, by go_num, by omega, HR7.out.up (bdrew0 _ _ 1), HIA7.out.below (bdrew0 _ _ 1), HIB7.out.below (bdrew0 _ _ 1)⟩
          · have t4 : (0 : Int) < (k : Int) := by omega
            obtain ⟨ba', fa', ea', dy⟩ := HIA7.out (k - 1) (by rw [HSL.out]; omega)
            obtain ⟨rfl, rfl⟩ : ba = ba' ∧ fa = fa' := by
              injection ea' with e
              injection e with e1 e2
              exact ⟨e1, e2⟩
            clear ea'
            have hle := HST.out (k - 1) (by omega)
            rw [show k - 1 + 1 = k by omega] at hle
            generalize ids.getD k 0 = x at da db hle
            generalize ids.getD (k - 1) 0 = y at dy hle
            have t5 : ¬ x < y := by omega
            have t6 : (k : Int) - 1 = ((k - 1 : Nat) : Int) := by omega
            have t7 : ((k - 1 : Nat) : Int) < (j : Int) := by omega
            have t8 : (0 : Int) ≤ ((k - 1 : Nat) : Int) := by omega
            have t9 : IntKind.i64.wrap ((k - 1 : Nat) : Int) = ((k - 1 : Nat) : Int) := by rw [IntKind.wrap_i64]; omega
            clear hle
            go_wp2_with fail
            rename_i K6 hK6
            refine (wpIn_wide (n := 5)).1 ?_
            refine heldz_region (S := fun X => X.cell? ⟨ba, fa + k, none⟩ = some (.int .i64 x) ∧ X.cell? ⟨bb, fb + k, none⟩ = some (.int .i64 x) ∧ X.cell? ⟨ba, fa + (k - 1), none⟩ = some (.int .i64 y)) (Z := []) (by kernel_rfl) ?_
            refine heldz_take (fun _ => trivial) [] 0 (?_) (by kernel_rfl) rfl (by kernel_rfl) (fun _ _ _ h => h) ⟨da, db, dy⟩ (by kernel_rfl) ?_ ?_
            rotate_left
            · intro wz hSw; (first | (go_simp; done) | (go_simp; with_reducible rfl))
            (try simp only [Act.put, List.getElem_toArray, List.getElem_cons_zero, List.getElem_cons_succ, List.setIfInBounds_toArray, List.set_cons_zero, List.set_cons_succ])
            refine heldz_take (fun _ => trivial) [] 1 (?_) (by kernel_rfl) rfl (by kernel_rfl) (fun _ _ _ h => h) ⟨da, db, dy⟩ (by kernel_rfl) ?_ ?_
            rotate_left
            · intro wz hSw; (first | (go_simp; done) | (go_simp; with_reducible rfl))
            (try simp only [Act.put, List.getElem_toArray, List.getElem_cons_zero, List.getElem_cons_succ, List.setIfInBounds_toArray, List.set_cons_zero, List.set_cons_succ])
            refine heldz_take (fun _ => trivial) [] 2 (.pointer (some ⟨ba, fa + k, none⟩)) (by kernel_rfl) rfl (by kernel_rfl) (fun _ _ _ h => h) ⟨da, db, dy⟩ (by kernel_rfl) ?_ ?_
            · intro wz hSw; (first | (go_simp; done) | (go_simp; with_reducible rfl))
            (try simp only [Act.put, List.getElem_toArray, List.getElem_cons_zero, List.getElem_cons_succ, List.setIfInBounds_toArray, List.set_cons_zero, List.set_cons_succ])
            refine heldz_take (fun _ => trivial) [] 3 (.int .i64 x) (by kernel_rfl) rfl (by kernel_rfl) (fun _ _ _ h => h) ⟨da, db, dy⟩ (by kernel_rfl) ?_ ?_
            · intro wz hSw; obtain ⟨q1, q2, q3⟩ := hSw; (first | (go_simp; done) | (go_simp; with_reducible rfl))
            (try simp only [Act.put, List.getElem_toArray, List.getElem_cons_zero, List.getElem_cons_succ, List.setIfInBounds_toArray, List.set_cons_zero, List.set_cons_succ])
            refine heldz_take (fun _ => trivial) [] 4 (?_) (by kernel_rfl) rfl (by kernel_rfl) (fun _ _ _ h => h) ⟨da, db, dy⟩ (by kernel_rfl) ?_ ?_
            rotate_left
            · intro wz hSw; (first | (go_simp; done) | (go_simp; with_reducible rfl))
            (try simp only [Act.put, List.getElem_toArray, List.getElem_cons_zero, List.getElem_cons_succ, List.setIfInBounds_toArray, List.set_cons_zero, List.set_cons_succ])
            refine heldz_take (fun _ => trivial) [] 5 (?_) (by kernel_rfl) rfl (by kernel_rfl) (fun _ _ _ h => h) ⟨da, db, dy⟩ (by kernel_rfl) ?_ ?_
            rotate_left
            · intro wz hSw; (first | (go_simp; done) | (go_simp; with_reducible rfl))
            (try simp only [Act.put, List.getElem_toArray, List.getElem_cons_zero, List.getElem_cons_succ, List.setIfInBounds_toArray, List.set_cons_zero, List.set_cons_succ])
            refine heldz_take (fun _ => trivial) [] 6 (.pointer (some ⟨bb, fb + k, none⟩)) (by kernel_rfl) rfl (by kernel_rfl) (fun _ _ _ h => h) ⟨da, db, dy⟩ (by kernel_rfl) ?_ ?_
            · intro wz hSw; (first | (go_simp; done) | (go_simp; with_reducible rfl))
            (try simp only [Act.put, List.getElem_toArray, List.getElem_cons_zero, List.getElem_cons_succ, List.setIfInBounds_toArray, List.set_cons_zero, List.set_cons_succ])
            refine heldz_take (fun _ => trivial) [] 7 (.int .i64 x) (by kernel_rfl) rfl (by kernel_rfl) (fun _ _ _ h => h) ⟨da, db, dy⟩ (by kernel_rfl) ?_ ?_
            · intro wz hSw; obtain ⟨q1, q2, q3⟩ := hSw; (first | (go_simp; done) | (go_simp; with_reducible rfl))
            (try simp only [Act.put, List.getElem_toArray, List.getElem_cons_zero, List.getElem_cons_succ, List.setIfInBounds_toArray, List.set_cons_zero, List.set_cons_succ])
            refine heldz_take (fun _ => trivial) [] 8 (.bool false) (by kernel_rfl) rfl (by kernel_rfl) (fun _ _ _ h => h) ⟨da, db, dy⟩ (by kernel_rfl) ?_ ?_
            · intro wz hSw; (first | (go_simp; done) | (go_simp; with_reducible rfl))
            (try simp only [Act.put, List.getElem_toArray, List.getElem_cons_zero, List.getElem_cons_succ, List.setIfInBounds_toArray, List.set_cons_zero, List.set_cons_succ])
            refine heldz_take (fun _ => trivial) [] 9 (?_) (by kernel_rfl) rfl (by kernel_rfl) (fun _ _ _ h => h) ⟨da, db, dy⟩ (by kernel_rfl) ?_ ?_
            rotate_left
            · intro wz hSw; (first | (go_simp; done) | (go_simp; with_reducible rfl))
            (try simp only [Act.put, List.getElem_toArray, List.getElem_cons_zero, List.getElem_cons_succ, List.setIfInBounds_toArray, List.set_cons_zero, List.set_cons_succ])
            refine heldz_take (fun _ => trivial) [] 10 (?_) (by kernel_rfl) rfl (by kernel_rfl) (fun _ _ _ h => h) ⟨da, db, dy⟩ (by kernel_rfl) ?_ ?_
            rotate_left
            · intro wz hSw; (first | (go_simp; done) | (go_simp; with_reducible rfl))
            (try simp only [Act.put, List.getElem_toArray, List.getElem_cons_zero, List.getElem_cons_succ, List.setIfInBounds_toArray, List.set_cons_zero, List.set_cons_succ])
            refine heldz_take (fun _ => trivial) [] 11 (.bool true) (by kernel_rfl) rfl (by kernel_rfl) (fun _ _ _ h => h) ⟨da, db, dy⟩ (by kernel_rfl) ?_ ?_
            · intro wz hSw; (first | (go_simp; done) | (go_simp; omega))
            (try simp only [Act.put, List.getElem_toArray, List.getElem_cons_zero, List.getElem_cons_succ, List.setIfInBounds_toArray, List.set_cons_zero, List.set_cons_succ])
            refine heldz_take (fun _ => trivial) [] 12 (?_) (by kernel_rfl) rfl (by kernel_rfl) (fun _ _ _ h => h) ⟨da, db, dy⟩ (by kernel_rfl) ?_ ?_
            rotate_left
            · intro wz hSw; (first | (go_simp; done) | (go_simp; with_reducible rfl))
            (try simp only [Act.put, List.getElem_toArray, List.getElem_cons_zero, List.getElem_cons_succ, List.setIfInBounds_toArray, List.set_cons_zero, List.set_cons_succ])
            refine heldz_take (fun _ => trivial) [] 13 (?_) (by kernel_rfl) rfl (by kernel_rfl) (fun _ _ _ h => h) ⟨da, db, dy⟩ (by kernel_rfl) ?_ ?_
            rotate_left
            · intro wz hSw; (first | (go_simp; done) | (go_simp; with_reducible rfl))
            (try simp only [Act.put, List.getElem_toArray, List.getElem_cons_zero, List.getElem_cons_succ, List.setIfInBounds_toArray, List.set_cons_zero, List.set_cons_succ])
            refine heldz_take (fun _ => trivial) [] 14 (?_) (by kernel_rfl) rfl (by kernel_rfl) (fun _ _ _ h => h) ⟨da, db, dy⟩ (by kernel_rfl) ?_ ?_
            rotate_left
            · intro wz hSw; (first | (go_simp; done) | (go_simp; with_reducible rfl))
            (try simp only [Act.put, List.getElem_toArray, List.getElem_cons_zero, List.getElem_cons_succ, List.setIfInBounds_toArray, List.set_cons_zero, List.set_cons_succ])
            refine heldz_take (fun _ => trivial) [] 15 (.pointer (some ⟨ba, fa + k, none⟩)) (by kernel_rfl) rfl (by kernel_rfl) (fun _ _ _ h => h) ⟨da, db, dy⟩ (by kernel_rfl) ?_ ?_
            · intro wz hSw; (first | (go_simp; done) | (go_simp; with_reducible rfl))
            (try simp only [Act.put, List.getElem_toArray, List.getElem_cons_zero, List.getElem_cons_succ, List.setIfInBounds_toArray, List.set_cons_zero, List.set_cons_succ])
            refine heldz_take (fun _ => trivial) [] 16 (.int .i64 x) (by kernel_rfl) rfl (by kernel_rfl) (fun _ _ _ h => h) ⟨da, db, dy⟩ (by kernel_rfl) ?_ ?_
            · intro wz hSw; obtain ⟨q1, q2, q3⟩ := hSw; (first | (go_simp; done) | (go_simp; with_reducible rfl))
            (try simp only [Act.put, List.getElem_toArray, List.getElem_cons_zero, List.getElem_cons_succ, List.setIfInBounds_toArray, List.set_cons_zero, List.set_cons_succ])
            refine heldz_take (fun _ => trivial) [] 17 (?_) (by kernel_rfl) rfl (by kernel_rfl) (fun _ _ _ h => h) ⟨da, db, dy⟩ (by kernel_rfl) ?_ ?_
            rotate_left
            · intro wz hSw; (first | (go_simp; done) | (go_simp; with_reducible rfl))
            (try simp only [Act.put, List.getElem_toArray, List.getElem_cons_zero, List.getElem_cons_succ, List.setIfInBounds_toArray, List.set_cons_zero, List.set_cons_succ])
            refine heldz_take (fun _ => trivial) [] 18 (?_) (by kernel_rfl) rfl (by kernel_rfl) (fun _ _ _ h => h) ⟨da, db, dy⟩ (by kernel_rfl) ?_ ?_
            rotate_left
            · intro wz hSw; (first | (go_simp; done) | (go_simp; with_reducible rfl))
            (try simp only [Act.put, List.getElem_toArray, List.getElem_cons_zero, List.getElem_cons_succ, List.setIfInBounds_toArray, List.set_cons_zero, List.set_cons_succ])
            refine heldz_take (fun _ => trivial) [] 19 (.int .i64 ((k - 1 : Nat) : Int)) (by kernel_rfl) rfl (by kernel_rfl) (fun _ _ _ h => h) ⟨da, db, dy⟩ (by kernel_rfl) ?_ ?_
            · intro wz hSw; (first | (go_simp; done) | (go_simp; with_reducible rfl))
            (try simp only [Act.put, List.getElem_toArray, List.getElem_cons_zero, List.getElem_cons_succ, List.setIfInBounds_toArray, List.set_cons_zero, List.set_cons_succ])
            refine heldz_take (fun _ => trivial) [] 20 (.pointer (some ⟨ba, fa + (k - 1), none⟩)) (by kernel_rfl) rfl (by kernel_rfl) (fun _ _ _ h => h) ⟨da, db, dy⟩ (by kernel_rfl) ?_ ?_
            · intro wz hSw; (first | (go_simp; done) | (go_simp; with_reducible rfl))
            (try simp only [Act.put, List.getElem_toArray, List.getElem_cons_zero, List.getElem_cons_succ, List.setIfInBounds_toArray, List.set_cons_zero, List.set_cons_succ])
            refine heldz_take (fun _ => trivial) [] 21 (.int .i64 y) (by kernel_rfl) rfl (by kernel_rfl) (fun _ _ _ h => h) ⟨da, db, dy⟩ (by kernel_rfl) ?_ ?_
            · intro wz hSw; obtain ⟨q1, q2, q3⟩ := hSw; (first | (go_simp; done) | (go_simp; with_reducible rfl))
            (try simp only [Act.put, List.getElem_toArray, List.getElem_cons_zero, List.getElem_cons_succ, List.setIfInBounds_toArray, List.set_cons_zero, List.set_cons_succ])
            refine heldz_take (fun _ => trivial) [] 22 (.bool false) (by kernel_rfl) rfl (by kernel_rfl) (fun _ _ _ h => h) ⟨da, db, dy⟩ (by kernel_rfl) ?_ ?_
            · intro wz hSw; (first | (go_simp; done) | (go_simp; omega))
            (try simp only [Act.put, List.getElem_toArray, List.getElem_cons_zero, List.getElem_cons_succ, List.setIfInBounds_toArray, List.set_cons_zero, List.set_cons_succ])
            refine heldz_take (fun _ => trivial) [] 23 (.bool false) (by kernel_rfl) rfl (by kernel_rfl) (fun _ _ _ h => h) ⟨da, db, dy⟩ (by kernel_rfl) ?_ ?_
            · intro wz hSw; (first | (go_simp; done) | (go_simp; with_reducible rfl))
            (try simp only [Act.put, List.getElem_toArray, List.getElem_cons_zero, List.getElem_cons_succ, List.setIfInBounds_toArray, List.set_cons_zero, List.set_cons_succ])
            refine heldz_take (fun _ => trivial) [] 24 (.bool false) (by kernel_rfl) rfl (by kernel_rfl) (fun _ _ _ h => h) ⟨da, db, dy⟩ (by kernel_rfl) ?_ ?_
            · intro wz hSw; (first | (go_simp; done) | (go_simp; with_reducible rfl))
            (try simp only [Act.put, List.getElem_toArray, List.getElem_cons_zero, List.getElem_cons_succ, List.setIfInBounds_toArray, List.set_cons_zero, List.set_cons_succ])
            refine heldz_done (by kernel_rfl) ?_ _
            refine hK6 _ _ ?_
            clear hK6
            go_wp2_with fail
            go_roundg (j - (k + 1))
            case measure => omega
            case rel => exact ⟨k + 1, rfl, by go_num, by omega, HR7.out.up (bdrew0 _ _ 1), HIA7.out.below (bdrew0 _ _ 1), HIB7.out.below (bdrew0 _ _ 1)⟩
        · obtain rfl : k = j := by omega
          have t3 : ¬ (k : Int) < (k : Int) := by omega
          go_wp2_with fail
          rename_i K6 hK6
          generalize wr = V9 at HR7 ⊢
          refine (wpIn_wide (n := 5)).1 (give_region (S := fun X => OrS s b4 v s.os.reverse w X) (Z := []) (by kernel_rfl) (by kernel_rfl) (fun _ _ h hb => OrS.up hb h) (fun d _ _ _ _ h => by cases d <;> exact h) (HR7.out.up (bdrew0 _ _ 1)) (fun hG vw0 hw0 => ?_))
          refine give_pure [] 0 (?_) hG rfl (by kernel_rfl) hw0 (by kernel_rfl) ?_ ?_
          rotate_left
          · intro wz hSw; (first | (go_simp; done) | (go_simp; with_reducible rfl))
          intro vw1 hw1
          clear hw0 vw0
          (try simp only [Act.put, List.getElem_toArray, List.getElem_cons_zero, List.getElem_cons_succ, List.setIfInBounds_toArray, List.set_cons_zero, List.set_cons_succ])
          refine give_pure [] 1 (?_) hG rfl (by kernel_rfl) hw1 (by kernel_rfl) ?_ ?_
          rotate_left
          · intro wz hSw; (first | (go_simp; done) | (go_simp; with_reducible rfl))
          intro vw2 hw2
          clear hw1 vw1
          (try simp only [Act.put, List.getElem_toArray, List.getElem_cons_zero, List.getElem_cons_succ, List.setIfInBounds_toArray, List.set_cons_zero, List.set_cons_succ])
          refine give_pure [] 2 (.agg (scC s)) hG rfl (by kernel_rfl) hw2 (by kernel_rfl) ?_ ?_
          · intro wz hSw; exact exec_load_mid 28 (.tmp 1) (by kernel_rfl) w.heap.size 0 (by kernel_rfl) (scL s) _ hSw.box.all Try.underlying28 (by kernel_rfl) hall.out
          intro vw3 hw3
          clear hw2 vw2
          (try simp only [Act.put, List.getElem_toArray, List.getElem_cons_zero, List.getElem_cons_succ, List.setIfInBounds_toArray, List.set_cons_zero, List.set_cons_succ])
          refine give_callS [] 3 19 #[.agg (scC s)] (.int .i64 z) hG rfl (by kernel_rfl) hw3 (by kernel_rfl) ?_ (fun W hSw => HCS.out W hSw) ?_
          · intro wz; (first | (go_simp; done) | (go_simp; with_reducible rfl))
          intro vw4 hw4
          clear hw3 vw3
          (try simp only [Act.put, List.getElem_toArray, List.getElem_cons_zero, List.getElem_cons_succ, List.setIfInBounds_toArray, List.set_cons_zero, List.set_cons_succ])
          refine give_pure [] 4 (.agg (scV s v)) hG rfl (by kernel_rfl) hw4 (by kernel_rfl) ?_ ?_
          · intro wz hSw; exact exec_load_row 28 (.tmp 4) (by kernel_rfl) b4 (by kernel_rfl) _ (scV s v) _ _ hSw.row Try.underlying28 (by kernel_rfl) hSV.out
          intro vw5 hw5
          clear hw4 vw4
          (try simp only [Act.put, List.getElem_toArray, List.getElem_cons_zero, List.getElem_cons_succ, List.setIfInBounds_toArray, List.set_cons_zero, List.set_cons_succ])
          refine give_callS [] 5 19 #[.agg (scV s v)] (.int .i64 z) hG rfl (by kernel_rfl) hw5 (by kernel_rfl) ?_ (fun W hSw => HCU.out W hSw) ?_
          · intro wz; (first | (go_simp; done) | (go_simp; with_reducible rfl))
          intro vw6 hw6
          clear hw5 vw5
          (try simp only [Act.put, List.getElem_toArray, List.getElem_cons_zero, List.getElem_cons_succ, List.setIfInBounds_toArray, List.set_cons_zero, List.set_cons_succ])
          refine give_pure [] 6 (.bool true) hG rfl (by kernel_rfl) hw6 (by kernel_rfl) ?_ ?_
          · intro wz hSw; (first | (go_simp; done) | (go_simp; with_reducible rfl))
          intro vw7 hw7
          clear hw6 vw6
          (try simp only [Act.put, List.getElem_toArray, List.getElem_cons_zero, List.getElem_cons_succ, List.setIfInBounds_toArray, List.set_cons_zero, List.set_cons_succ])
          refine give_pure [] 7 (.bool true) hG rfl (by kernel_rfl) hw7 (by kernel_rfl) ?_ ?_
          · intro wz hSw; (first | (go_simp; done) | (go_simp; with_reducible rfl))
          intro vw8 hw8
          clear hw7 vw7
          (try simp only [Act.put, List.getElem_toArray, List.getElem_cons_zero, List.getElem_cons_succ, List.setIfInBounds_toArray, List.set_cons_zero, List.set_cons_succ])
          refine give_pure [] 8 (?_) hG rfl (by kernel_rfl) hw8 (by kernel_rfl) ?_ ?_
          rotate_left
          · intro wz hSw; (first | (go_simp; done) | (go_simp; with_reducible rfl))
          intro vw9 hw9
          clear hw8 vw8
          (try simp only [Act.put, List.getElem_toArray, List.getElem_cons_zero, List.getElem_cons_succ, List.setIfInBounds_toArray, List.set_cons_zero, List.set_cons_succ])
          refine give_done (by kernel_rfl) (?_) _
          refine hK6 _ _ ?_
          have HB := Lib.hid hw9.below
          clear hw9 hG hK6
          go_wp2_with fail
          go_ret
          exact ⟨rfl, HB.out⟩
end Go.Proofs.Ytbkahmnchpbhfaa.Fx
