/- The chapter's first examples: the statements' alive, walked. 
  The chapter's first examples: the statements' alive, walked. -/
import Derived.Test.YtbkahmnchpbhfaaDoorProg
import Derived.Test.YtbkahmnchpbhfaaDoorVi
import Derived.Test.YtbkahmnchpbhfaaDoorHg
import Derived.Laws.AppendOwn
import Derived.Test.YtbkahmnchpbhfaaDoorVh
set_option linter.unusedVariables false
set_option linter.unusedSimpArgs false
namespace Go.Proofs.YtbkahmnchpbhfaaDoor.Fx
open Go Go.RowKit Go.Shelf
attribute [local go_sem] Oper.semAt_some
theorem wpIn_app_own {F : Fence} {n : Nat} {P : Program} {o : Oper} {a : Act} {w : World} {K : Act → World → Prop} {Q : Exit → Act → World → Prop} (hF : ∀ f, F.fn f)
    (s x : Operand) (t : TypeId) (hop : o.op = Op.call { callee := Callee.builtin Builtin.append, args := #[s, x], argTypes := #[t, t] })
    (base : Nat) (e : TypeId) (i : TypeInfo) (z : Value) (size bytes : Nat) (h1 : P.underlying t = some (.slice e)) (h2 : P.info? e = some i) (h3 : i.zero = some z) (h4 : i.size = size) (h5 : i.bytes = bytes) (h6 : z.cells.size = size) (h7 : 0 < size)
    (v : Value) (k : Nat) (xs : List Value) (hs : a.eval s = v) (hown : w.ownsRow base e size v k xs) (ad : Addr) (m c : Nat) (news : List Value) (hx : a.eval x = .slice (some ad) m c) (hn : news.length = m * size)
    (hc : ∀ j u, news[j]? = some u → w.cell? (ad.add j) = some u) (h1c : ∀ u ∈ news, u.oneCell' = true) (b1 : k + m ≤ maxLen) (b2 : (k + m) * bytes ≤ 140737488355328) (b3 : base ≤ w.heap.size)
    (hK : ∀ v' w', w'.ownsRow base e size v' (k + m) (xs ++ news) → w.grownBy w' v.ownBlock → K (a.put o.dst v') w') : Oper.wpIn F n P o a w K Q := by
  obtain ⟨v', w', hrun, r1, r2, r3⟩ := run_append_own (P := P) w base t o.type e i z size bytes h1 h2 h3 h4 h5 h6 h7 v k xs hown ad m c news hn hc h1c b1 b2 b3
  unfold Oper.wpIn
  refine ⟨fun f _ => hF f, ?_⟩
  rw [Oper.semAt_plain F _ _ (by rw [hop]; intro c hc'; cases hc')]
  simp [execOp, hop, resolve, invoke, builtin, hs, hx, hrun, Result.andThen]
  exact hK _ _ r1 r2
theorem infoO : (Tryd.prog.info? 43).map (fun i => (i.size, i.bytes)) = some (19, 184) := by kernel_rfl
/-- objects of one's own, one behind another -/
def OwnOb (W : World) (B : Nat) (v : Value) (l : List ObjR) : Prop := W.ownsRow B 43 19 v l.length (l.flatMap objL)
theorem OwnOb.below {w W : World} {B : Nat} {v : Value} {l : List ObjR} (h : Below w.heap.size w W) (s : OwnOb w B v l) : OwnOb W B v l := by
  obtain ⟨h1, h2⟩ := s
  refine ⟨h1, ?_⟩
  rcases h2 with h2 | ⟨g, cap, cur, e, hb, hg, h3⟩
  · exact Or.inl h2
  · exact Or.inr ⟨g, cap, cur, e, hb, keep_row h hg, h3⟩
theorem OwnOb.kept {B C : Nat} {v : Value} {l : List ObjR} {W X : World} (s : OwnOb W C v l) (k : Kept B W X) : OwnOb X C v l := by
  obtain ⟨h1, h2⟩ := s
  refine ⟨h1, ?_⟩
  rcases h2 with h2 | ⟨g, cap, cur, e, hb, hg, h3⟩
  · exact .inl h2
  · exact .inr ⟨g, cap, cur, e, hb, k.cells hg, h3⟩
theorem OwnOb.blk {w : World} {B : Nat} {v : Value} {l : List ObjR} (s : OwnOb w B v l) : ∀ k, v.ownBlock = some k → B ≤ k := by
  intro k hk
  obtain ⟨h1, h2⟩ := s
  rcases h2 with ⟨rfl, _⟩ | ⟨g, cap, cur, rfl, hb, _⟩
  · cases hk
  · cases hk
    exact hb
theorem OwnOb.base {w : World} {B C : Nat} {v : Value} {l : List ObjR} (hc : C ≤ B) (s : OwnOb w B v l) : OwnOb w C v l := by
  obtain ⟨h1, h2⟩ := s
  refine ⟨h1, ?_⟩
  rcases h2 with h2 | ⟨g, cap, cur, e, hb, hg, h3⟩
  · exact Or.inl h2
  · exact Or.inr ⟨g, cap, cur, e, Nat.le_trans hc hb, hg, h3⟩
theorem flat_at {l : List ObjR} (hl : ∀ x ∈ l, ObjWf x) : ∀ {k : Nat} {x : ObjR}, l[k]? = some x → ∀ j v, (objL x)[j]? = some v → (l.flatMap objL)[k * 19 + j]? = some v := by
  induction l with
  | nil => intro k x h; simp at h
  | cons y t ih =>
    intro k x h j v hv
    have hy := objL_len (hl y (by simp))
    rw [List.flatMap_cons]
    cases k with
    | zero =>
      simp at h
      subst h
      rw [Nat.zero_mul, Nat.zero_add, List.getElem?_append_left (List.getElem?_eq_some_iff.1 hv).1]
      exact hv
    | succ k =>
      rw [List.getElem?_append_right (by omega), hy, show (k + 1) * 19 + j - 19 = k * 19 + j by omega]
      exact ih (fun z hz => hl z (by simp [hz])) (by simpa using h) j v hv
theorem flat_len {l : List ObjR} (hl : ∀ x ∈ l, ObjWf x) : (l.flatMap objL).length = l.length * 19 := by
  induction l with
  | nil => rfl
  | cons y t ih =>
    rw [List.flatMap_cons, List.length_append, objL_len (hl y (by simp)), ih (fun z hz => hl z (by simp [hz])), List.length_cons]
    omega
/-- what a list of one's own is as a slice -/
theorem OwnOb.form {W : World} {B : Nat} {v : Value} {l : List ObjR} (s : OwnOb W B v l) (hw : ∀ x ∈ l, ObjWf x ∧ VertsAt W x.vo x.vs ∧ TrisAt W x.tq x.ts) : ∃ o cap, v = .slice o l.length cap ∧ ObjsAt W o l ∧ CapOk o l.length cap ∧ (∀ g off sp, o = some ⟨g, off, sp⟩ → B ≤ g ∧ off = 0 ∧ sp = none ∧ ∃ cur, W.heap[g]? = some (.cells cur 43 (0, 0)) ∧ l.length * 19 ≤ cur.size) := by
  obtain ⟨h1, h2⟩ := s
  rcases h2 with ⟨rfl, h0⟩ | ⟨g, cap, cur, rfl, hb, hg, hle, hm, hsz, htk⟩
  · refine ⟨none, 0, by rw [h0], fun k z hk => ?_, ⟨⟨by omega, by omega⟩, fun _ => rfl⟩, fun g off sp h => by cases h⟩
    have := (List.getElem?_eq_some_iff.1 hk).1
    omega
  · unfold maxLen at hm
    refine ⟨some ⟨g, 0, none⟩, cap, rfl, fun k z hk => ⟨g, 0, rfl, ?_⟩, ⟨⟨hle, by omega⟩, fun h => by cases h⟩, fun g' off sp h => by cases h; exact ⟨hb, rfl, rfl, cur, hg, by rw [hsz]; exact Nat.mul_le_mul_right 19 hle⟩⟩
    obtain ⟨hwf, hv, ht⟩ := hw z (List.mem_of_getElem? hk)
    refine ⟨fun j u hj => ?_, hv, ht, hwf⟩
    have hf := flat_at (fun x hx => (hw x hx).1) hk j u hj
    have hlt := (List.getElem?_eq_some_iff.1 hf).1
    rw [cell_of_row _ _ _ _ _ _ hg, Nat.zero_add]
    rw [← htk, List.getElem?_take] at hf
    split at hf
    · simpa using hf
    · cases hf
theorem below_grown3 {B : Nat} {W X Y : World} {row : Option Nat} (hB : B ≤ W.heap.size) (hb : Below B W X) (hg : X.grownBy Y row) (hr : ∀ k, row = some k → B ≤ k) : Below B W Y := below_grown2 hB hb hg hr
/-- the chapter's scenes -/
def someA (bV bT bO : Nat) : ScR := ⟨65, 3, idl, some ⟨bO, 0, none⟩, [obj0 bV bT], 1⟩
def objB (bV bT : Nat) : ObjR := ⟨0, idl, some ⟨bV, 0, none⟩, [[0, 0, 0], [0, 0, 0], [0, 0, 0]], 3, some ⟨bT, 0, none⟩, [⟨0, 1, 2, 0⟩], 1⟩
def someB (bV bT bO : Nat) : ScR := ⟨4, 3, idl, some ⟨bO, 0, none⟩, [objB bV bT], 1⟩
def someC (bV bT : Nat) (o : Option Addr) (c : Nat) : ScR := ⟨4, 3, idl, o, [obj0 bV bT, obj0 bV bT], c⟩
theorem wrong_some (bV bT bO : Nat) : isZ (some0 bV bT bO) 0 (-1) = true := by kernel_rfl
theorem wrong_someA (bV bT bO : Nat) : isZ (someA bV bT bO) 1 (-1) = true := by kernel_rfl
theorem wrong_someB (bV bT bO : Nat) : isZ (someB bV bT bO) 4 0 = true := by kernel_rfl
theorem wrong_someC (bV bT : Nat) (o : Option Addr) (c : Nat) : isZ (someC bV bT o c) 4 1 = true := by kernel_rfl
theorem idl_num : ∀ j, Num (idl.getD j 0) := fun j => by
  by_cases h : j < 16
  · have : ∀ k : Fin 16, -9223372036854775808 ≤ idl.getD k.val 0 ∧ idl.getD k.val 0 ≤ 9223372036854775807 := by decide
    exact this ⟨j, h⟩
  · rw [List.getD_eq_getElem?_getD, List.getElem?_eq_none (by show 16 ≤ j; omega)]
    exact ⟨by decide, by decide⟩
theorem obj_wf (id : Int) (h : Num id) (bV bT : Nat) : ObjWf ⟨id, idl, some ⟨bV, 0, none⟩, [[0, 0, 0], [0, 0, 0], [0, 0, 0]], 3, some ⟨bT, 0, none⟩, [⟨0, 1, 2, 0⟩], 1⟩ :=
  ⟨h, rfl, idl_num, ⟨⟨by simp, by simp⟩, fun h => by cases h⟩, ⟨⟨by simp, by simp⟩, fun h => by cases h⟩⟩
theorem zero3_wf : VertWf [0, 0, 0] := ⟨rfl, fun j => by
  match j with
  | 0 => exact ⟨by decide, by decide⟩
  | 1 => exact ⟨by decide, by decide⟩
  | 2 => exact ⟨by decide, by decide⟩
  | j + 3 => exact ⟨by simp, by simp⟩⟩
theorem verts_of {bV : Nat} {W : World} (h : RowAt 45 bV #[.int .i64 0, .int .i64 0, .int .i64 0, .int .i64 0, .int .i64 0, .int .i64 0, .int .i64 0, .int .i64 0, .int .i64 0] W) : VertsAt W (some ⟨bV, 0, none⟩) [[0, 0, 0], [0, 0, 0], [0, 0, 0]] := fun k z hk => by
  have hk3 : k < 3 := by have := (List.getElem?_eq_some_iff.1 hk).1; simpa using this
  have hz : z = [0, 0, 0] := by
    obtain rfl | rfl | rfl : k = 0 ∨ k = 1 ∨ k = 2 := by omega
    all_goals (simp at hk; exact hk.symm)
  subst hz
  refine ⟨bV, 0, rfl, fun j v hj => ?_, zero3_wf⟩
  have hj3 : j < 3 := by have := (List.getElem?_eq_some_iff.1 hj).1; simpa using this
  rw [cell_of_row _ _ _ _ _ _ h]
  obtain rfl | rfl | rfl : k = 0 ∨ k = 1 ∨ k = 2 := by omega
  all_goals (obtain rfl | rfl | rfl : j = 0 ∨ j = 1 ∨ j = 2 := by omega)
  all_goals (simp [encI] at hj; subst hj; rfl)
theorem tris_of {bT : Nat} {W : World} (h : RowAt 39 bT #[.int .i64 0, .int .i64 1, .int .i64 2, .int .u32 0] W) : TrisAt W (some ⟨bT, 0, none⟩) [⟨0, 1, 2, 0⟩] := fun k z hk => by
  have hk3 : k = 0 := by have := (List.getElem?_eq_some_iff.1 hk).1; simp at this; omega
  subst hk3
  simp at hk
  subst hk
  refine ⟨bT, 0, rfl, fun j v hj => ?_, ⟨⟨by decide, by decide⟩, ⟨by decide, by decide⟩, ⟨by decide, by decide⟩, ⟨by decide, by decide⟩⟩⟩
  rw [cell_of_row _ _ _ _ _ _ h]
  simpa [triL] using hj
theorem objs_one {x : ObjR} {bO : Nat} {W : World} (h : RowAt 43 bO (objL x).toArray W) (hw : ObjWf x) (hv : VertsAt W x.vo x.vs) (ht : TrisAt W x.tq x.ts) : ObjsAt W (some ⟨bO, 0, none⟩) [x] := fun k z hk => by
  have hk3 : k = 0 := by have := (List.getElem?_eq_some_iff.1 hk).1; simp at this; omega
  subst hk3
  simp at hk
  subst hk
  refine ⟨bO, 0, rfl, fun j v hj => ?_, hv, ht, hw⟩
  rw [cell_of_row _ _ _ _ _ _ h]
  simpa using hj
theorem sc_wf (W H : Int) (hW : Num W) (hH : Num H) (bO : Nat) (x : ObjR) : ScWf ⟨W, H, idl, some ⟨bO, 0, none⟩, [x], 1⟩ := ⟨hW, hH, rfl, idl_num, ⟨⟨by simp, by simp⟩, fun h => by cases h⟩⟩
theorem SomeAt.below {bV bT bO : Nat} {W X : World} (hb : Below W.heap.size W X) (s : SomeAt bV bT bO W) : SomeAt bV bT bO X := ⟨s.vs.below hb, s.ts.below hb, s.os.below hb⟩
theorem SomeAt.objs {bV bT bO : Nat} {W : World} (s : SomeAt bV bT bO W) : ObjsAt W (some ⟨bO, 0, none⟩) [obj0 bV bT] := objs_one s.os (obj_wf 7 ⟨by decide, by decide⟩ _ _) (verts_of s.vs) (tris_of s.ts)
end Go.Proofs.YtbkahmnchpbhfaaDoor.Fx
set_option linter.unusedVariables false
set_option linter.unusedSimpArgs false
namespace Go.Proofs.YtbkahmnchpbhfaaDoor.Fx
open Go Go.RowKit Go.Shelf
attribute [local go_sem] Oper.semAt_some
theorem infoOb : ∃ i z, Tryd.prog.info? 43 = some i ∧ i.zero = some z ∧ i.size = 19 ∧ i.bytes = 184 ∧ z.cells.size = 19 := by
  have hm : (Tryd.prog.info? 43).map (fun i => (i.zero.map (fun z => z.cells.size), i.size, i.bytes)) = some (some 19, 19, 184) := by kernel_rfl
  cases hi : Tryd.prog.info? 43 with
  | none => rw [hi] at hm; cases hm
  | some i =>
    rw [hi] at hm
    simp only [Option.map_some, Option.some.injEq, Prod.mk.injEq] at hm
    obtain ⟨hz, hs, hb⟩ := hm
    cases hzz : i.zero with
    | none => rw [hzz] at hz; cases hz
    | some z =>
      rw [hzz] at hz
      exact ⟨i, z, rfl, hzz, hs, hb, by simpa using hz⟩
theorem row_ne {t u : TypeId} {g m : Nat} {c d : Array Value} {W : World} (h : RowAt t g c W) (k : RowAt u m d W) (e : t ≠ u) : g ≠ m := fun hh => by
  subst hh
  unfold RowAt at h k
  rw [h] at k
  cases k
  exact e rfl
theorem RowAt.cellset {t : TypeId} {g m j : Nat} {c : Array Value} {W : World} {u : Value} (h : RowAt t g c W) (e : g ≠ m) : RowAt t g c (W.setCell ⟨m, j, none⟩ u) := by
  unfold RowAt
  rw [heap_setCell_other _ _ _ _ e]
  exact h
theorem OwnOb.cellset {B m j : Nat} {v u : Value} {l : List ObjR} {W : World} {d : Array Value} (s : OwnOb W B v l) (k : RowAt 28 m d W) : OwnOb (W.setCell ⟨m, j, none⟩ u) B v l := by
  obtain ⟨h1, h2⟩ := s
  refine ⟨h1, ?_⟩
  rcases h2 with h2 | ⟨g, cap, cur, e, hb, hg, h3⟩
  · exact .inl h2
  · exact .inr ⟨g, cap, cur, e, hb, by rw [heap_setCell_other _ _ _ _ (row_ne (t := 43) hg k (by decide))]; exact hg, h3⟩
theorem RowAt.grown {t : TypeId} {g m : Nat} {c : Array Value} {W X : World} (h : RowAt t g c W) (hg : W.grownBy X (some m)) (e : g ≠ m) : RowAt t g c X := by
  unfold RowAt
  rw [hg.block g h.lt (fun hh => e (by cases hh; rfl))]
  exact h
/-- the three scenes, altered -/
structure AlF (n bV1 bT1 bO1 bV2 bT2 bO2 bV3 bT3 : Nat) (o : Option Addr) (c : Nat) (w W : World) : Prop where
  fa : ScAt n (someA bV1 bT1 bO1) W
  fb : ScAt (n + 1) (someB bV2 bT2 bO2) W
  fc : ScAt (n + 1 + 1) (someC bV3 bT3 o c) W
  oa : ObjsAt W (some ⟨bO1, 0, none⟩) [obj0 bV1 bT1]
  ob : ObjsAt W (some ⟨bO2, 0, none⟩) [objB bV2 bT2]
  oc : ObjsAt W o [obj0 bV3 bT3, obj0 bV3 bT3]
  cap : CapOk o 2 c
  below : Below w.heap.size w W
theorem AlF.up {n bV1 bT1 bO1 bV2 bT2 bO2 bV3 bT3 : Nat} {o : Option Addr} {c : Nat} {w W X : World} (h : Below W.heap.size W X) (i : AlF n bV1 bT1 bO1 bV2 bT2 bO2 bV3 bT3 o c w W) : AlF n bV1 bT1 bO1 bV2 bT2 bO2 bV3 bT3 o c w X :=
  ⟨i.fa.below h, i.fb.below h, i.fc.below h, i.oa.below h, i.ob.below h, i.oc.below h, i.cap, bnext i.below h⟩
theorem some_wf (bV bT bO : Nat) : ScWf (some0 bV bT bO) := sc_wf 4 3 ⟨by decide, by decide⟩ ⟨by decide, by decide⟩ _ _
theorem someA_wf (bV bT bO : Nat) : ScWf (someA bV bT bO) := sc_wf 65 3 ⟨by decide, by decide⟩ ⟨by decide, by decide⟩ _ _
theorem someB_wf (bV bT bO : Nat) : ScWf (someB bV bT bO) := sc_wf 4 3 ⟨by decide, by decide⟩ ⟨by decide, by decide⟩ _ _
theorem someC_wf (bV bT : Nat) {o : Option Addr} {c : Nat} (h : CapOk o 2 c) : ScWf (someC bV bT o c) := ⟨(show Num 4 from ⟨by decide, by decide⟩), (show Num 3 from ⟨by decide, by decide⟩), rfl, idl_num, h⟩
set_option maxRecDepth 100000 in
set_option maxHeartbeats 4000000 in
theorem alive_any (w : World) : Calls Tryd.prog 18 #[] w (RetBool true w) := by
  go_enter Tryd.func18, Tryd.ntmps18
  go_wp2_with fail
  refine (some_any _).mono ?_
  rintro e w1 ⟨bV1, bT1, bO1, rfl, s1, gV1, gT1, gO1, hb1⟩
  have S1 := Lib.hid s1
  have L1 : Hid (bO1 < w1.heap.size) := Lib.hid s1.os.lt
  have B1 := Lib.hid hb1
  have LW : Hid (w.heap.size ≤ w1.heap.size) := Lib.hid hb1.size
  clear s1 hb1 gV1 gT1 gO1
  go_wp2_with fail
  refine (some_any _).mono ?_
  rintro e w2 ⟨bV2, bT2, bO2, rfl, s2, gV2, gT2, gO2, hb2⟩
  have S2 := Lib.hid s2
  have L2 : Hid (bO2 < w2.heap.size) := Lib.hid s2.os.lt
  have G2 := Lib.hid gO2
  have S1b := Lib.hid (S1.out.below hb2)
  have B2 := Lib.hid (bnext B1.out hb2)
  clear s2 hb2 gV2 gT2 gO2 S1 B1
  go_wp2_with fail
  refine (some_any _).mono ?_
  rintro e w3 ⟨bV3, bT3, bO3, rfl, s3, gV3, gT3, gO3, hb3⟩
  have G3 := Lib.hid gO3
  have S1c := Lib.hid (S1b.out.below hb3)
  have S2c := Lib.hid (S2.out.below hb3)
  have S3c := Lib.hid s3
  have B3 := Lib.hid (bnext B2.out hb3)
  clear s3 hb3 gV3 gT3 gO3 S1b S2 B2
  obtain ⟨V0, hV0⟩ : ∃ V, ((w3.alloc (.cells #[.int .i64 0, .int .i64 0, .int .i64 0, .int .i64 0, .int .i64 0, .int .i64 0, .int .i64 0, .int .i64 0, .int .i64 0, .int .i64 0, .int .i64 0, .int .i64 0, .int .i64 0, .int .i64 0, .int .i64 0, .int .i64 0, .int .i64 0, .int .i64 0, .slice none 0 0] 28)).alloc (.cells #[.int .i64 0, .int .i64 0, .int .i64 0, .int .i64 0, .int .i64 0, .int .i64 0, .int .i64 0, .int .i64 0, .int .i64 0, .int .i64 0, .int .i64 0, .int .i64 0, .int .i64 0, .int .i64 0, .int .i64 0, .int .i64 0, .int .i64 0, .int .i64 0, .slice none 0 0] 28)).alloc (.cells #[.int .i64 0, .int .i64 0, .int .i64 0, .int .i64 0, .int .i64 0, .int .i64 0, .int .i64 0, .int .i64 0, .int .i64 0, .int .i64 0, .int .i64 0, .int .i64 0, .int .i64 0, .int .i64 0, .int .i64 0, .int .i64 0, .int .i64 0, .int .i64 0, .slice none 0 0] 28) = V := ⟨_, rfl⟩
  have r0 : RowAt 28 w3.heap.size #[.int .i64 0, .int .i64 0, .int .i64 0, .int .i64 0, .int .i64 0, .int .i64 0, .int .i64 0, .int .i64 0, .int .i64 0, .int .i64 0, .int .i64 0, .int .i64 0, .int .i64 0, .int .i64 0, .int .i64 0, .int .i64 0, .int .i64 0, .int .i64 0, .slice none 0 0] V0 := by rw [← hV0]; exact ((RowAt.new w3 28 #[.int .i64 0, .int .i64 0, .int .i64 0, .int .i64 0, .int .i64 0, .int .i64 0, .int .i64 0, .int .i64 0, .int .i64 0, .int .i64 0, .int .i64 0, .int .i64 0, .int .i64 0, .int .i64 0, .int .i64 0, .int .i64 0, .int .i64 0, .int .i64 0, .slice none 0 0]).alloc _).alloc _
  have r1 : RowAt 28 (w3.heap.size + 1) #[.int .i64 0, .int .i64 0, .int .i64 0, .int .i64 0, .int .i64 0, .int .i64 0, .int .i64 0, .int .i64 0, .int .i64 0, .int .i64 0, .int .i64 0, .int .i64 0, .int .i64 0, .int .i64 0, .int .i64 0, .int .i64 0, .int .i64 0, .int .i64 0, .slice none 0 0] V0 := by
    rw [← hV0]
    have := (RowAt.new (w3.alloc (.cells #[.int .i64 0, .int .i64 0, .int .i64 0, .int .i64 0, .int .i64 0, .int .i64 0, .int .i64 0, .int .i64 0, .int .i64 0, .int .i64 0, .int .i64 0, .int .i64 0, .int .i64 0, .int .i64 0, .int .i64 0, .int .i64 0, .int .i64 0, .int .i64 0, .slice none 0 0] 28)) 28 #[.int .i64 0, .int .i64 0, .int .i64 0, .int .i64 0, .int .i64 0, .int .i64 0, .int .i64 0, .int .i64 0, .int .i64 0, .int .i64 0, .int .i64 0, .int .i64 0, .int .i64 0, .int .i64 0, .int .i64 0, .int .i64 0, .int .i64 0, .int .i64 0, .slice none 0 0]).alloc (.cells #[.int .i64 0, .int .i64 0, .int .i64 0, .int .i64 0, .int .i64 0, .int .i64 0, .int .i64 0, .int .i64 0, .int .i64 0, .int .i64 0, .int .i64 0, .int .i64 0, .int .i64 0, .int .i64 0, .int .i64 0, .int .i64 0, .int .i64 0, .int .i64 0, .slice none 0 0] 28)
    rw [World.size_alloc] at this
    exact this
  have r2 : RowAt 28 (w3.heap.size + 1 + 1) #[.int .i64 0, .int .i64 0, .int .i64 0, .int .i64 0, .int .i64 0, .int .i64 0, .int .i64 0, .int .i64 0, .int .i64 0, .int .i64 0, .int .i64 0, .int .i64 0, .int .i64 0, .int .i64 0, .int .i64 0, .int .i64 0, .int .i64 0, .int .i64 0, .slice none 0 0] V0 := by
    rw [← hV0]
    have := RowAt.new ((w3.alloc (.cells #[.int .i64 0, .int .i64 0, .int .i64 0, .int .i64 0, .int .i64 0, .int .i64 0, .int .i64 0, .int .i64 0, .int .i64 0, .int .i64 0, .int .i64 0, .int .i64 0, .int .i64 0, .int .i64 0, .int .i64 0, .int .i64 0, .int .i64 0, .int .i64 0, .slice none 0 0] 28)).alloc (.cells #[.int .i64 0, .int .i64 0, .int .i64 0, .int .i64 0, .int .i64 0, .int .i64 0, .int .i64 0, .int .i64 0, .int .i64 0, .int .i64 0, .int .i64 0, .int .i64 0, .int .i64 0, .int .i64 0, .int .i64 0, .int .i64 0, .int .i64 0, .int .i64 0, .slice none 0 0] 28)) 28 #[.int .i64 0, .int .i64 0, .int .i64 0, .int .i64 0, .int .i64 0, .int .i64 0, .int .i64 0, .int .i64 0, .int .i64 0, .int .i64 0, .int .i64 0, .int .i64 0, .int .i64 0, .int .i64 0, .int .i64 0, .int .i64 0, .int .i64 0, .int .i64 0, .slice none 0 0]
    rw [World.size_alloc, World.size_alloc] at this
    exact this
  have h03 : Below w3.heap.size w3 V0 := by rw [← hV0]; exact (((Below.refl _ w3).alloc (Nat.le_refl _) _).alloc (by simp) _).alloc (by simp; omega) _
  obtain ⟨Va, hVa⟩ : ∃ V, V0.setRow w3.heap.size (scC (some0 bV1 bT1 bO1)) = V := ⟨_, rfl⟩
  obtain ⟨Vb, hVb⟩ : ∃ V, Va.setRow (w3.heap.size + 1) (scC (some0 bV2 bT2 bO2)) = V := ⟨_, rfl⟩
  obtain ⟨Vc, hVc⟩ : ∃ V, Vb.setRow (w3.heap.size + 1 + 1) (scC (some0 bV3 bT3 bO3)) = V := ⟨_, rfl⟩
  have hc3 : Below w3.heap.size w3 Vc := by rw [← hVc, ← hVb, ← hVa]; exact Below.row (Below.row (Below.row h03 (Nat.le_refl _) _) (by omega) _) (by omega) _
  have ra1 : RowAt 28 (w3.heap.size + 1) #[.int .i64 0, .int .i64 0, .int .i64 0, .int .i64 0, .int .i64 0, .int .i64 0, .int .i64 0, .int .i64 0, .int .i64 0, .int .i64 0, .int .i64 0, .int .i64 0, .int .i64 0, .int .i64 0, .int .i64 0, .int .i64 0, .int .i64 0, .int .i64 0, .slice none 0 0] Va := by rw [← hVa]; exact r1.other (by omega) _
  have rb2 : RowAt 28 (w3.heap.size + 1 + 1) #[.int .i64 0, .int .i64 0, .int .i64 0, .int .i64 0, .int .i64 0, .int .i64 0, .int .i64 0, .int .i64 0, .int .i64 0, .int .i64 0, .int .i64 0, .int .i64 0, .int .i64 0, .int .i64 0, .int .i64 0, .int .i64 0, .int .i64 0, .int .i64 0, .slice none 0 0] Vb := by rw [← hVb, ← hVa]; exact (r2.other (by omega) _).other (by omega) _
  have fa : RowAt 28 w3.heap.size (scC (some0 bV1 bT1 bO1)) Vc := by rw [← hVc, ← hVb, ← hVa]; exact ((r0.row _).other (by omega) _).other (by omega) _
  have fb : RowAt 28 (w3.heap.size + 1) (scC (some0 bV2 bT2 bO2)) Vc := by rw [← hVc, ← hVb]; exact (ra1.row _).other (by omega) _
  have fc : RowAt 28 (w3.heap.size + 1 + 1) (scC (some0 bV3 bT3 bO3)) Vc := by rw [← hVc]; exact rb2.row _
  have s1 := S1c.out.below hc3
  have s2 := S2c.out.below hc3
  have s3 := S3c.out.below hc3
  obtain ⟨Vd, hVd⟩ : ∃ V, Vc.setCell ⟨w3.heap.size, 0, none⟩ (.int .i64 65) = V := ⟨_, rfl⟩
  obtain ⟨Ve, hVe⟩ : ∃ V, Vd.setCell ⟨bO2, 0, none⟩ (.int .i64 0) = V := ⟨_, rfl⟩
  have L12 : Hid (w1.heap.size ≤ bO2 ∧ bO2 < bO3) := Lib.hid (by have := L2.out; have := G2.out; have := G3.out; exact ⟨by omega, by omega⟩)
  have lO1 := L1.out
  have lO2 := L2.out
  have g2 := G2.out
  have g3 := G3.out
  have l3 := S3c.out.os.lt
  have nd : ∀ {t : TypeId} {g : Nat} {c : Array Value}, t ≠ 28 → RowAt t g c Vc → RowAt t g c Vd := fun ht h => by rw [← hVd]; exact h.cellset (row_ne h fa ht)
  have fad : RowAt 28 w3.heap.size (scC (someA bV1 bT1 bO1)) Vd := by rw [← hVd]; exact heap_setCell_same _ _ 0 _ _ (.int .i64 65) fa
  have fbd : RowAt 28 (w3.heap.size + 1) (scC (some0 bV2 bT2 bO2)) Vd := by rw [← hVd]; exact fb.cellset (by omega)
  have fcd : RowAt 28 (w3.heap.size + 1 + 1) (scC (some0 bV3 bT3 bO3)) Vd := by rw [← hVd]; exact fc.cellset (by omega)
  have o2d := nd (by decide) s2.os
  have ne : ∀ {t : TypeId} {g : Nat} {c : Array Value}, t ≠ 43 → RowAt t g c Vd → RowAt t g c Ve := fun ht h => by rw [← hVe]; exact h.cellset (row_ne h o2d ht)
  have fae := ne (by decide) fad
  have fbe := ne (by decide) fbd
  have fce := ne (by decide) fcd
  have o2e : RowAt 43 bO2 (objL (objB bV2 bT2)).toArray Ve := by rw [← hVe]; exact heap_setCell_same _ _ 0 _ _ (.int .i64 0) o2d
  have o1e : RowAt 43 bO1 (objL (obj0 bV1 bT1)).toArray Ve := by rw [← hVe]; exact (nd (by decide) s1.os).cellset (by omega)
  have o3e : RowAt 43 bO3 (objL (obj0 bV3 bT3)).toArray Ve := by rw [← hVe]; exact (nd (by decide) s3.os).cellset (by omega)
  have v1e := ne (by decide) (nd (by decide) s1.vs)
  have v2e := ne (by decide) (nd (by decide) s2.vs)
  have v3e := ne (by decide) (nd (by decide) s3.vs)
  have t1e := ne (by decide) (nd (by decide) s1.ts)
  have t2e := ne (by decide) (nd (by decide) s2.ts)
  have t3e := ne (by decide) (nd (by decide) s3.ts)
  have BE : Hid (Below w.heap.size w Ve) := Lib.hid (by
    rw [← hVe, ← hVd]
    exact ((bnext B3.out hc3).setCell (p := ⟨w3.heap.size, 0, none⟩) B3.out.size _).setCell (p := ⟨bO2, 0, none⟩) (by show _ ≤ bO2; have := LW.out; omega) _)
  have ROWS := Lib.hid (And.intro fae (And.intro fbe (And.intro o1e (And.intro o2e (And.intro v1e (And.intro v2e (And.intro v3e (And.intro t1e (And.intro t2e t3e)))))))))
  have c1 : Vc.cell? ⟨w3.heap.size, 0, none⟩ = some (.int .i64 4) := by rw [cell_of_row _ _ _ _ _ _ fa]; rfl
  have f1 : Vc.frozen? ⟨w3.heap.size, 0, none⟩ = false := frozen_row fa
  have c2 : Vd.cell? ⟨(w3.heap.size + 1), 18, none⟩ = some (.slice (some ⟨bO2, 0, none⟩) 1 1) := by rw [cell_of_row _ _ _ _ _ _ fbd]; rfl
  have c3 : Vd.cell? ⟨bO2, 0, none⟩ = some (.int .i64 7) := by rw [cell_of_row _ _ _ _ _ _ o2d]; rfl
  have f3 : Vd.frozen? ⟨bO2, 0, none⟩ = false := frozen_row o2d
  have c4 : Ve.cell? ⟨(w3.heap.size + 1 + 1), 18, none⟩ = some (.slice (some ⟨bO3, 0, none⟩) 1 1) := by rw [cell_of_row _ _ _ _ _ _ fce]; rfl
  have HR3 : Hid (Ve.rangeAt bO3 0 (objL (obj0 bV3 bT3))) := Lib.hid (fun j v hj => by rw [cell_of_row _ _ _ _ _ _ o3e, Nat.zero_add]; simpa using hj)
  have F4 : Hid (RowAt 28 (w3.heap.size + 1 + 1) (scC (some0 bV3 bT3 bO3)) Ve) := Lib.hid fce
  have O3 := Lib.hid o3e
  have R0 := Lib.hid r0
  have R1 := Lib.hid ra1
  have R2 := Lib.hid rb2
  have HV0 := Lib.hid hV0
  have HVa := Lib.hid hVa
  have HVb := Lib.hid hVb
  have HVc := Lib.hid hVc
  have HVd := Lib.hid hVd
  have HVe := Lib.hid hVe
  have LT : Hid (bO1 < bO2 ∧ bO2 < bO3 ∧ bO3 < w3.heap.size) := Lib.hid ⟨by omega, by omega, by omega⟩
  have HSZ : Hid ((Tryd.prog.info? 28).map (·.size) = some 19) := Lib.hid (by kernel_rfl)
  clear r0 r1 r2 ra1 rb2 h03 hc3 fa fb fc s1 s2 s3 hV0 hVa hVb hVc hVd hVe lO1 lO2 g2 g3 l3 nd fad fbd fcd o2d ne fae fbe fce o2e o1e o3e v1e v2e v3e t1e t2e t3e L1 L2 G2 G3 S1c S2c S3c
  have ONE : ∀ a b c : Nat, (scC (some0 a b c)).all (·.oneCell') = true := fun a b c => by simp [scC, scL, some0, idl, scl, encI, Value.oneCell']
  have HONE := Lib.hid ONE
  clear ONE
  go_wp2_with (first | (rw [HV0.out]) | (rw [HVa.out]) | (rw [HVb.out]) | (rw [HVc.out]) | (rw [HVd.out]) | (rw [HVe.out]) |
    (refine wpList_store_big rfl 28 (.tmp 1) (.tmp 4) rfl w3.heap.size _ _ (scC (some0 bV1 bT1 bO1)) rfl rfl R0.out HSZ.out rfl (HONE.out _ _ _) ?_) |
    (refine wpList_store_big rfl 28 (.tmp 2) (.tmp 5) rfl (w3.heap.size + 1) _ _ (scC (some0 bV2 bT2 bO2)) rfl rfl R1.out HSZ.out rfl (HONE.out _ _ _) ?_) |
    (refine wpList_store_big rfl 28 (.tmp 3) (.tmp 6) rfl (w3.heap.size + 1 + 1) _ _ (scC (some0 bV3 bT3 bO3)) rfl rfl R2.out HSZ.out rfl (HONE.out _ _ _) ?_))
  clear c1 f1 c2 c3 f3 HV0 HVa HVb HVc HVd HVe R0 R1 R2 HONE HSZ
  rename_i K5 hK5
  obtain ⟨io, zo, hio, hzo, hso, hbo, hzs⟩ := infoOb
  have HIO := Lib.hid (And.intro hio (And.intro hzo (And.intro hso (And.intro hbo hzs))))
  clear hio hzo hso hbo hzs
  have hOb : OwnOb Ve bO3 (.slice (some ⟨bO3, 0, none⟩) 1 1) [obj0 bV3 bT3] := ⟨rfl, .inr ⟨bO3, 1, _, rfl, Nat.le_refl _, O3.out, Nat.le_refl _, by unfold maxLen; omega, rfl, rfl⟩⟩
  have HOb := Lib.hid hOb
  have hinf := Lib.hid (show (Tryd.prog.info? 43).map (·.size) = some (objL (obj0 bV3 bT3)).length by kernel_rfl)
  clear hOb
  refine (wpIn_wide (n := 5)).1 ?_
  refine heldz_region (S := fun X => X.cell? ⟨(w3.heap.size + 1 + 1), 18, none⟩ = some (.slice (some ⟨bO3, 0, none⟩) 1 1)) (Z := [9]) (by kernel_rfl) ?_
  refine heldz_take (fun _ => trivial) [9] 0 (?_) (by kernel_rfl) rfl (by kernel_rfl) (fun _ _ _ h => h) c4 (by kernel_rfl) ?_ ?_
  rotate_left
  · intro wz hSw; (first | (go_simp; done) | (go_simp; with_reducible rfl))
  (try simp only [Act.put, List.getElem_toArray, List.getElem_cons_zero, List.getElem_cons_succ, List.setIfInBounds_toArray, List.set_cons_zero, List.set_cons_succ])
  refine heldz_take (fun _ => trivial) [9] 1 (.slice (some ⟨bO3, 0, none⟩) 1 1) (by kernel_rfl) rfl (by kernel_rfl) (fun _ _ _ h => h) c4 (by kernel_rfl) ?_ ?_
  · intro wz hSw; (first | (go_simp; done) | (go_simp; with_reducible rfl))
  (try simp only [Act.put, List.getElem_toArray, List.getElem_cons_zero, List.getElem_cons_succ, List.setIfInBounds_toArray, List.set_cons_zero, List.set_cons_succ])
  refine heldz_take (fun _ => trivial) [9] 2 (?_) (by kernel_rfl) rfl (by kernel_rfl) (fun _ _ _ h => h) c4 (by kernel_rfl) ?_ ?_
  rotate_left
  · intro wz hSw; (first | (go_simp; done) | (go_simp; with_reducible rfl))
  (try simp only [Act.put, List.getElem_toArray, List.getElem_cons_zero, List.getElem_cons_succ, List.setIfInBounds_toArray, List.set_cons_zero, List.set_cons_succ])
  refine heldz_take (fun _ => trivial) [9] 3 (.slice (some ⟨bO3, 0, none⟩) 1 1) (by kernel_rfl) rfl (by kernel_rfl) (fun _ _ _ h => h) c4 (by kernel_rfl) ?_ ?_
  · intro wz hSw; (first | (go_simp; done) | (go_simp; with_reducible rfl))
  (try simp only [Act.put, List.getElem_toArray, List.getElem_cons_zero, List.getElem_cons_succ, List.setIfInBounds_toArray, List.set_cons_zero, List.set_cons_succ])
  refine heldz_take (fun _ => trivial) [9] 4 (.pointer (some ⟨bO3, 0, none⟩)) (by kernel_rfl) rfl (by kernel_rfl) (fun _ _ _ h => h) c4 (by kernel_rfl) ?_ ?_
  · intro wz hSw; (first | (go_simp; done) | (go_simp; with_reducible rfl))
  (try simp only [Act.put, List.getElem_toArray, List.getElem_cons_zero, List.getElem_cons_succ, List.setIfInBounds_toArray, List.set_cons_zero, List.set_cons_succ])
  refine heldz_step (fun _ => trivial) 5 (by kernel_rfl) rfl (fun K hK => ?_)
  rw [if_pos (by kernel_rfl)]
  refine wpIn_load_mid (fun _ => trivial) 43 (.tmp 16) rfl bO3 0 rfl (objL (obj0 bV3 bT3)) _ (range_below (bdrew0 _ Ve 1) HR3.out) Tryd.underlying43 rfl hinf.out ?_
  rw [show (objL (obj0 bV3 bT3)).toArray = #[.int .i64 7, .int .i64 65536, .int .i64 0, .int .i64 0, .int .i64 0, .int .i64 0, .int .i64 65536, .int .i64 0, .int .i64 0, .int .i64 0, .int .i64 0, .int .i64 65536, .int .i64 0, .int .i64 0, .int .i64 0, .int .i64 0, .int .i64 65536, .slice (some ⟨bV3, 0, none⟩) 3 3, .slice (some ⟨bT3, 0, none⟩) 1 1] from rfl]
  refine hK.out _ _ (fun _ => c4) ?_
  clear hK K
  (try simp only [Act.put, List.getElem_toArray, List.getElem_cons_zero, List.getElem_cons_succ, List.setIfInBounds_toArray, List.set_cons_zero, List.set_cons_succ])
  refine heldz_step (fun _ => trivial) 6 (by kernel_rfl) rfl (fun K hK => ?_)
  go_simp
  obtain ⟨X6, hX6⟩ : ∃ X, (Ve.alloc (.cells #[.int .i64 7, .int .i64 65536, .int .i64 0, .int .i64 0, .int .i64 0, .int .i64 0, .int .i64 65536, .int .i64 0, .int .i64 0, .int .i64 0, .int .i64 0, .int .i64 65536, .int .i64 0, .int .i64 0, .int .i64 0, .int .i64 0, .int .i64 65536, .slice (some ⟨bV3, 0, none⟩) 3 3, .slice (some ⟨bT3, 0, none⟩) 1 1] 43)).drew = X := ⟨_, rfl⟩
  have hb6 : Below Ve.heap.size Ve X6 := by rw [← hX6]; exact ((Below.refl _ Ve).alloc (Nat.le_refl _) _).trans (bdrew0 _ _ 1)
  have HN6 : Hid (RowAt 43 Ve.heap.size #[.int .i64 7, .int .i64 65536, .int .i64 0, .int .i64 0, .int .i64 0, .int .i64 0, .int .i64 65536, .int .i64 0, .int .i64 0, .int .i64 0, .int .i64 0, .int .i64 65536, .int .i64 0, .int .i64 0, .int .i64 0, .int .i64 0, .int .i64 65536, .slice (some ⟨bV3, 0, none⟩) 3 3, .slice (some ⟨bT3, 0, none⟩) 1 1] X6) := Lib.hid (by rw [← hX6]; exact RowAt.new Ve 43 _)
  have c6 : X6.cell? ⟨(w3.heap.size + 1 + 1), 18, none⟩ = some (.slice (some ⟨bO3, 0, none⟩) 1 1) := keep_cell hb6 c4
  have HR6 := Lib.hid (range_below hb6 HR3.out)
  have HOb6 := Lib.hid (HOb.out.below hb6)
  have HB6 := Lib.hid hb6
  rw [hX6]
  clear hX6 hb6
  refine hK.out _ _ (fun _ => c6) ?_
  clear hK K
  (try simp only [Act.put, List.getElem_toArray, List.getElem_cons_zero, List.getElem_cons_succ, List.setIfInBounds_toArray, List.set_cons_zero, List.set_cons_succ])
  refine heldz_step (fun _ => trivial) 7 (by kernel_rfl) rfl (fun K hK => ?_)
  rw [if_pos (by kernel_rfl)]
  refine wpIn_app_own (fun _ => trivial) (.tmp 13) (.tmp 18) 26 rfl bO3 43 io zo 19 184 Tryd.underlying26 HIO.out.1 HIO.out.2.1 HIO.out.2.2.1 HIO.out.2.2.2.1 HIO.out.2.2.2.2 (by omega) (.slice (some ⟨bO3, 0, none⟩) 1 1) 1 ([obj0 bV3 bT3].flatMap objL) rfl HOb6.out ⟨Ve.heap.size, 0, none⟩ 1 1 (objL (obj0 bV3 bT3)) rfl rfl (fun j u hj => by rw [Addr.add_lit, cell_of_row _ _ _ _ _ _ HN6.out, Nat.zero_add]; exact (by simpa using hj : (objL (obj0 bV3 bT3)).toArray[j]? = some u)) (fun u hu => by have := objL_one (obj0 bV3 bT3); rw [List.all_toArray, List.all_eq_true] at this; exact this u hu) (by unfold maxLen; omega) (by omega) (by have := F4.out.lt; have := LT.out; have := HB6.out.size; omega) ?_
  intro v7 X7 ho7 hg7
  have HO7 : Hid (OwnOb X7 bO3 v7 [obj0 bV3 bT3, obj0 bV3 bT3]) := Lib.hid ho7
  have HG7 := Lib.hid hg7
  have hd7 := (F4.out.below HB6.out).grown hg7 (show (w3.heap.size + 1 + 1) ≠ bO3 by have := LT.out; omega)
  have c7 : X7.cell? ⟨(w3.heap.size + 1 + 1), 18, none⟩ = some (.slice (some ⟨bO3, 0, none⟩) 1 1) := by rw [cell_of_row _ _ _ _ _ _ hd7]; rfl
  have f7 : X7.frozen? ⟨(w3.heap.size + 1 + 1), 18, none⟩ = false := frozen_row hd7
  have HD7 := Lib.hid hd7
  clear ho7 hg7 hd7
  refine hK.out _ _ (fun _ => c7) ?_
  clear hK K
  (try simp only [Act.put, List.getElem_toArray, List.getElem_cons_zero, List.getElem_cons_succ, List.setIfInBounds_toArray, List.set_cons_zero, List.set_cons_succ])
  have hform := HO7.out.form (fun x hx => by
      obtain rfl : x = obj0 bV3 bT3 := by simpa using hx
      have hne : ∀ {t : TypeId} {g : Nat} {c : Array Value}, t ≠ 43 → RowAt t g c Ve → RowAt t g c X7 := fun ht h => (h.below HB6.out).grown HG7.out (row_ne (h.below HB6.out) (O3.out.below HB6.out) ht)
      obtain ⟨_, _, _, _, _, _, v3, _, _, t3⟩ := ROWS.out
      exact ⟨obj_wf 7 ⟨by decide, by decide⟩ _ _, verts_of (hne (by decide) v3), tris_of (hne (by decide) t3)⟩)
  obtain ⟨o7, cap7, rfl, hob7, hcap7, _⟩ := hform
  have HCAP := Lib.hid hcap7
  clear hob7 hcap7
  refine heldz_take (fun _ => trivial) [9] 8 (?_) (by kernel_rfl) rfl (by kernel_rfl) (fun _ _ _ h => h) c7 (by kernel_rfl) ?_ ?_
  rotate_left
  · intro wz hSw; (first | (go_simp; done) | (go_simp; with_reducible rfl))
  (try simp only [Act.put, List.getElem_toArray, List.getElem_cons_zero, List.getElem_cons_succ, List.setIfInBounds_toArray, List.set_cons_zero, List.set_cons_succ])
  refine heldz_step (fun _ => trivial) 9 (by kernel_rfl) rfl (fun K hK => ?_)
  go_simp
  refine hK.out _ _ (fun h => by cases h) ?_
  clear hK K
  refine heldz_done (by kernel_rfl) ?_ _
  refine hK5 _ _ ?_
  obtain ⟨Vf, hVf⟩ : ∃ V, X7.setCell ⟨(w3.heap.size + 1 + 1), 18, none⟩ (.slice o7 2 cap7) = V := ⟨_, rfl⟩
  have HF : Hid (AlF w3.heap.size bV1 bT1 bO1 bV2 bT2 bO2 bV3 bT3 o7 cap7 w Vf) := Lib.hid (by
    obtain ⟨fae, fbe, o1e, o2e, v1e, v2e, v3e, t1e, t2e, t3e⟩ := ROWS.out
    have lt := LT.out
    have k7 : ∀ {t : TypeId} {g : Nat} {c : Array Value}, g ≠ bO3 → g ≠ (w3.heap.size + 1 + 1) → RowAt t g c Ve → RowAt t g c Vf := fun h1 h2 h => by rw [← hVf]; exact ((h.below HB6.out).grown HG7.out h1).cellset h2
    have n2 : ∀ {t : TypeId} {g : Nat} {c : Array Value}, t ≠ 43 → t ≠ 28 → RowAt t g c Ve → RowAt t g c Vf := fun h1 h2 h => k7 (row_ne h O3.out h1) (row_ne h F4.out h2) h
    have hv3 := verts_of (n2 (by decide) (by decide) v3e)
    have ht3 := tris_of (n2 (by decide) (by decide) t3e)
    have oF : OwnOb Vf bO3 (.slice o7 2 cap7) [obj0 bV3 bT3, obj0 bV3 bT3] := by rw [← hVf]; exact HO7.out.cellset HD7.out
    obtain ⟨o8, c8, e8, hob8, _, _⟩ := oF.form (fun x hx => by
      obtain rfl : x = obj0 bV3 bT3 := by simpa using hx
      exact ⟨obj_wf 7 ⟨by decide, by decide⟩ _ _, hv3, ht3⟩)
    cases e8
    refine ⟨k7 (by omega) (by omega) fae, k7 (by omega) (by omega) fbe, ?_, objs_one (k7 (by omega) (by omega) o1e) (obj_wf 7 ⟨by decide, by decide⟩ _ _) (verts_of (n2 (by decide) (by decide) v1e)) (tris_of (n2 (by decide) (by decide) t1e)), objs_one (k7 (by omega) (by omega) o2e) (obj_wf 0 ⟨by decide, by decide⟩ _ _) (verts_of (n2 (by decide) (by decide) v2e)) (tris_of (n2 (by decide) (by decide) t2e)), hob8, HCAP.out, ?_⟩
    · rw [← hVf]
      exact heap_setCell_same _ _ 18 _ _ (.slice o7 2 cap7) HD7.out
    · rw [← hVf]
      have hbx : Below w.heap.size w X7 := below_grown2 (Nat.le_refl _) (BE.out.trans (HB6.out.mono BE.out.size)) HG7.out (fun k hk => by cases hk; show _ ≤ bO3; have := B3.out.size; have := LW.out; have := L12.out; omega)
      exact hbx.setCell (p := ⟨(w3.heap.size + 1 + 1), 18, none⟩) (by show _ ≤ w3.heap.size + 1 + 1; have := B3.out.size; omega) _)
  rw [hVf]
  clear hVf c7 f7 HD7 HG7 HO7 HOb6 HR6 HN6 HB6 HOb HR3 F4 O3 ROWS BE hK5 HIO hinf LT B3 LW HCAP
  have WC := Lib.hid (someC_wf bV3 bT3 (show CapOk o7 2 cap7 from HF.out.cap))
  have hSA := Lib.hid (sizeS (someA_wf bV1 bT1 bO1))
  have hSB := Lib.hid (sizeS (someB_wf bV2 bT2 bO2))
  have hSC := Lib.hid (sizeS WC.out)
  go_wp2_with fail
  refine (some_any _).mono ?_
  rintro e w5 ⟨bV4, bT4, bO4, rfl, s4, _, _, _, hb5⟩
  have H5 := Lib.hid (HF.out.up hb5)
  have I4 := Lib.hid (is_any (some0 bV4 bT4 bO4) 0 (-1) w5 (some_wf _ _ _) s4.objs)
  rw [wrong_some] at I4
  clear hb5 s4 HF
  go_wp2_with fail
  refine I4.out.mono ?_
  rintro e w6 ⟨rfl, hb6⟩
  have H6 := Lib.hid (H5.out.up hb6)
  have I5 := Lib.hid (is_any (someA bV1 bT1 bO1) 1 (-1) w6 (someA_wf _ _ _) H6.out.oa)
  rw [wrong_someA] at I5
  clear hb6 H5 I4
  go_wp2_with (refine wpList_load_mid_g rfl 28 (.tmp 1) rfl w3.heap.size 0 rfl (scL (someA bV1 bT1 bO1)) _ H6.out.fa.all Tryd.underlying28 rfl hSA.out ?_)
  refine I5.out.mono ?_
  rintro e w7 ⟨rfl, hb7⟩
  have H7 := Lib.hid (H6.out.up hb7)
  have I6 := Lib.hid (is_any (someB bV2 bT2 bO2) 4 0 w7 (someB_wf _ _ _) H7.out.ob)
  rw [wrong_someB] at I6
  clear hb7 H6 I5
  go_wp2_with (refine wpList_load_mid_g rfl 28 (.tmp 2) rfl (w3.heap.size + 1) 0 rfl (scL (someB bV2 bT2 bO2)) _ H7.out.fb.all Tryd.underlying28 rfl hSB.out ?_)
  refine I6.out.mono ?_
  rintro e w8 ⟨rfl, hb8⟩
  have H8 := Lib.hid (H7.out.up hb8)
  have I7 := Lib.hid (is_any (someC bV3 bT3 o7 cap7) 4 1 w8 WC.out H8.out.oc)
  rw [wrong_someC] at I7
  clear hb8 H7 I6
  go_wp2_with (refine wpList_load_mid_g rfl 28 (.tmp 3) rfl (w3.heap.size + 1 + 1) 0 rfl (scL (someC bV3 bT3 o7 cap7)) _ H8.out.fc.all Tryd.underlying28 rfl hSC.out ?_)
  refine I7.out.mono ?_
  rintro e w9 ⟨rfl, hb9⟩
  have H9 := Lib.hid (bnext H8.out.below hb9)
  clear hb9 H8 I7
  go_wp2_with fail
  go_ret
  exact ⟨rfl, H9.out⟩
end Go.Proofs.YtbkahmnchpbhfaaDoor.Fx
