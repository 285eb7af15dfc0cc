/- The chapter's scene, as the statements make it: walked. The chapter's first examples: the statements' alive, walked. 
  The chapter's first examples: the statements' alive, walked. SceneOrder, walked. A map of IDs that were met, each once: what it tells, and how it grows. IDs of a scene that may be: they rise, and are numbers; what stands where in a list. What ShareWhole rests on: all members' objects, each once; lists of lists that stay. ShareWhole, behind the scene turned about: walked. ShareWhole, behind all members: walked. -/
import Derived.Test.YtildnadkfonlhaaProg
import Derived.Test.YtildnadkfonlhaaVh
import Derived.Test.YtildnadkfonlhaaHg
import Derived.Laws.MakeOwn
import Derived.Laws.AppendOwn
import Derived.Test.YtildnadkfonlhaaVq
import Derived.Great.BuildSlice
import Derived.Test.YtildnadkfonlhaaFz
import Derived.Maps.OwnSet
import Derived.Maps.OwnOps
set_option linter.unusedVariables false
set_option linter.unusedSimpArgs false
namespace Go.Proofs.Ytildnadkfonlhaa.Fx
open Go Go.RowKit Go.Shelf
def obj0 (bV bT : Nat) : ObjR := ⟨7, idl, some ⟨bV, 0, none⟩, [[0, 0, 0], [0, 0, 0], [0, 0, 0]], 3, some ⟨bT, 0, none⟩, [⟨0, 1, 2, 0⟩], 1⟩
def some0 (bV bT bO : Nat) : ScR := ⟨4, 3, idl, some ⟨bO, 0, none⟩, [obj0 bV bT], 1⟩
structure SomeAt (bV bT bO : Nat) (W : World) : Prop where
  vs : RowAt 82 bV #[.int .i64 0, .int .i64 0, .int .i64 0, .int .i64 0, .int .i64 0, .int .i64 0, .int .i64 0, .int .i64 0, .int .i64 0] W
  ts : RowAt 86 bT #[.int .i64 0, .int .i64 1, .int .i64 2, .int .u32 0] W
  os : RowAt 48 bO (objL (obj0 bV bT)).toArray W
def RetSome (w : World) (e : Ending) (w' : World) : Prop := ∃ bV bT bO, e = .returned (.agg (scC (some0 bV bT bO))) ∧ SomeAt bV bT bO w' ∧ w.heap.size ≤ bV ∧ w.heap.size ≤ bT ∧ w.heap.size ≤ bO ∧ Below w.heap.size w w'
theorem make9 (w : World) : (Instr.makeSlice 45 (.int .i64 3) (.int .i64 3)).run Try.prog w = .ok (.slice (some ⟨w.heap.size, 0, none⟩) 3 3) (w.alloc (.cells #[.int .i64 0, .int .i64 0, .int .i64 0, .int .i64 0, .int .i64 0, .int .i64 0, .int .i64 0, .int .i64 0, .int .i64 0] 82)) := by
  have hm : (Try.prog.info? 82).map (fun i => (i.zero, i.size, i.bytes)) = some (some (.agg #[.int .i64 0, .int .i64 0, .int .i64 0]), 3, 24) := by kernel_rfl
  cases hi : Try.prog.info? 82 with
  | none => rw [hi] at hm; cases hm
  | some i =>
    rw [hi] at hm
    simp only [Option.map_some, Option.some.injEq, Prod.mk.injEq] at hm
    obtain ⟨hz, hs, hb⟩ := hm
    have := run_make w 45 82 i _ Try.underlying45 hi hz .i64 .i64 3 3 (by omega) (by omega) (by rw [hb]; omega) (by omega)
    rw [hs] at this
    exact this.trans (by kernel_rfl)
end Go.Proofs.Ytildnadkfonlhaa.Fx
namespace Go.Proofs.Ytildnadkfonlhaa.Fx
open Go Go.RowKit Go.Shelf
attribute [local go_sem] Oper.semAt_some
theorem wpIn_app_own {F : Fence} {n : Nat} {P : Program} {o : Oper} {a : Act} {w : World} {K : Act → World → Prop} {Q : Exit → Act → World → Prop} (hF : ∀ f, F.fn f)
    (s x : Operand) (t : TypeId) (hop : o.op = Op.call { callee := Callee.builtin Builtin.append, args := #[s, x], argTypes := #[t, t] })
    (base : Nat) (e : TypeId) (i : TypeInfo) (z : Value) (size bytes : Nat) (h1 : P.underlying t = some (.slice e)) (h2 : P.info? e = some i) (h3 : i.zero = some z) (h4 : i.size = size) (h5 : i.bytes = bytes) (h6 : z.cells.size = size) (h7 : 0 < size)
    (v : Value) (k : Nat) (xs : List Value) (hs : a.eval s = v) (hown : w.ownsRow base e size v k xs) (ad : Addr) (m c : Nat) (news : List Value) (hx : a.eval x = .slice (some ad) m c) (hn : news.length = m * size)
    (hc : ∀ j u, news[j]? = some u → w.cell? (ad.add j) = some u) (h1c : ∀ u ∈ news, u.oneCell' = true) (b1 : k + m ≤ maxLen) (b2 : (k + m) * bytes ≤ 140737488355328) (b3 : base ≤ w.heap.size)
    (hK : ∀ v' w', w'.ownsRow base e size v' (k + m) (xs ++ news) → w.grownBy w' v.ownBlock → K (a.put o.dst v') w') : Oper.wpIn F n P o a w K Q := by
  obtain ⟨v', w', hrun, r1, r2, r3⟩ := run_append_own (P := P) w base t o.type e i z size bytes h1 h2 h3 h4 h5 h6 h7 v k xs hown ad m c news hn hc h1c b1 b2 b3
  unfold Oper.wpIn
  refine ⟨fun f _ => hF f, ?_⟩
  rw [Oper.semAt_plain F _ _ (by rw [hop]; intro c hc'; cases hc')]
  simp [execOp, hop, resolve, invoke, builtin, hs, hx, hrun, Result.andThen]
  exact hK _ _ r1 r2
theorem infoO : (Try.prog.info? 48).map (fun i => (i.size, i.bytes)) = some (19, 184) := by kernel_rfl
/-- objects of one's own, one behind another -/
def OwnOb (W : World) (B : Nat) (v : Value) (l : List ObjR) : Prop := W.ownsRow B 48 19 v l.length (l.flatMap objL)
theorem OwnOb.below {w W : World} {B : Nat} {v : Value} {l : List ObjR} (h : Below w.heap.size w W) (s : OwnOb w B v l) : OwnOb W B v l := by
  obtain ⟨h1, h2⟩ := s
  refine ⟨h1, ?_⟩
  rcases h2 with h2 | ⟨g, cap, cur, e, hb, hg, h3⟩
  · exact Or.inl h2
  · exact Or.inr ⟨g, cap, cur, e, hb, keep_row h hg, h3⟩
theorem OwnOb.kept {B C : Nat} {v : Value} {l : List ObjR} {W X : World} (s : OwnOb W C v l) (k : Kept B W X) : OwnOb X C v l := by
  obtain ⟨h1, h2⟩ := s
  refine ⟨h1, ?_⟩
  rcases h2 with h2 | ⟨g, cap, cur, e, hb, hg, h3⟩
  · exact .inl h2
  · exact .inr ⟨g, cap, cur, e, hb, k.cells hg, h3⟩
theorem OwnOb.blk {w : World} {B : Nat} {v : Value} {l : List ObjR} (s : OwnOb w B v l) : ∀ k, v.ownBlock = some k → B ≤ k := by
  intro k hk
  obtain ⟨h1, h2⟩ := s
  rcases h2 with ⟨rfl, _⟩ | ⟨g, cap, cur, rfl, hb, _⟩
  · cases hk
  · cases hk
    exact hb
theorem OwnOb.base {w : World} {B C : Nat} {v : Value} {l : List ObjR} (hc : C ≤ B) (s : OwnOb w B v l) : OwnOb w C v l := by
  obtain ⟨h1, h2⟩ := s
  refine ⟨h1, ?_⟩
  rcases h2 with h2 | ⟨g, cap, cur, e, hb, hg, h3⟩
  · exact Or.inl h2
  · exact Or.inr ⟨g, cap, cur, e, Nat.le_trans hc hb, hg, h3⟩
theorem flat_at {l : List ObjR} (hl : ∀ x ∈ l, ObjWf x) : ∀ {k : Nat} {x : ObjR}, l[k]? = some x → ∀ j v, (objL x)[j]? = some v → (l.flatMap objL)[k * 19 + j]? = some v := by
  induction l with
  | nil => intro k x h; simp at h
  | cons y t ih =>
    intro k x h j v hv
    have hy := objL_len (hl y (by simp))
    rw [List.flatMap_cons]
    cases k with
    | zero =>
      simp at h
      subst h
      rw [Nat.zero_mul, Nat.zero_add, List.getElem?_append_left (List.getElem?_eq_some_iff.1 hv).1]
      exact hv
    | succ k =>
      rw [List.getElem?_append_right (by omega), hy, show (k + 1) * 19 + j - 19 = k * 19 + j by omega]
      exact ih (fun z hz => hl z (by simp [hz])) (by simpa using h) j v hv
theorem flat_len {l : List ObjR} (hl : ∀ x ∈ l, ObjWf x) : (l.flatMap objL).length = l.length * 19 := by
  induction l with
  | nil => rfl
  | cons y t ih =>
    rw [List.flatMap_cons, List.length_append, objL_len (hl y (by simp)), ih (fun z hz => hl z (by simp [hz])), List.length_cons]
    omega
/-- what a list of one's own is as a slice -/
theorem OwnOb.form {W : World} {B : Nat} {v : Value} {l : List ObjR} (s : OwnOb W B v l) (hw : ∀ x ∈ l, ObjWf x ∧ VertsAt W x.vo x.vs ∧ TrisAt W x.tq x.ts) : ∃ o cap, v = .slice o l.length cap ∧ ObjsAt W o l ∧ CapOk o l.length cap ∧ (∀ g off sp, o = some ⟨g, off, sp⟩ → B ≤ g ∧ off = 0 ∧ sp = none ∧ ∃ cur, W.heap[g]? = some (.cells cur 48 (0, 0)) ∧ l.length * 19 ≤ cur.size) := by
  obtain ⟨h1, h2⟩ := s
  rcases h2 with ⟨rfl, h0⟩ | ⟨g, cap, cur, rfl, hb, hg, hle, hm, hsz, htk⟩
  · refine ⟨none, 0, by rw [h0], fun k z hk => ?_, ⟨⟨by omega, by omega⟩, fun _ => rfl⟩, fun g off sp h => by cases h⟩
    have := (List.getElem?_eq_some_iff.1 hk).1
    omega
  · unfold maxLen at hm
    refine ⟨some ⟨g, 0, none⟩, cap, rfl, fun k z hk => ⟨g, 0, rfl, ?_⟩, ⟨⟨hle, by omega⟩, fun h => by cases h⟩, fun g' off sp h => by cases h; exact ⟨hb, rfl, rfl, cur, hg, by rw [hsz]; exact Nat.mul_le_mul_right 19 hle⟩⟩
    obtain ⟨hwf, hv, ht⟩ := hw z (List.mem_of_getElem? hk)
    refine ⟨fun j u hj => ?_, hv, ht, hwf⟩
    have hf := flat_at (fun x hx => (hw x hx).1) hk j u hj
    have hlt := (List.getElem?_eq_some_iff.1 hf).1
    rw [cell_of_row _ _ _ _ _ _ hg, Nat.zero_add]
    rw [← htk, List.getElem?_take] at hf
    split at hf
    · simpa using hf
    · cases hf
theorem below_grown3 {B : Nat} {W X Y : World} {row : Option Nat} (hB : B ≤ W.heap.size) (hb : Below B W X) (hg : X.grownBy Y row) (hr : ∀ k, row = some k → B ≤ k) : Below B W Y := below_grown2 hB hb hg hr
/-- the chapter's scenes -/
def someA (bV bT bO : Nat) : ScR := ⟨65, 3, idl, some ⟨bO, 0, none⟩, [obj0 bV bT], 1⟩
def objB (bV bT : Nat) : ObjR := ⟨0, idl, some ⟨bV, 0, none⟩, [[0, 0, 0], [0, 0, 0], [0, 0, 0]], 3, some ⟨bT, 0, none⟩, [⟨0, 1, 2, 0⟩], 1⟩
def someB (bV bT bO : Nat) : ScR := ⟨4, 3, idl, some ⟨bO, 0, none⟩, [objB bV bT], 1⟩
def someC (bV bT : Nat) (o : Option Addr) (c : Nat) : ScR := ⟨4, 3, idl, o, [obj0 bV bT, obj0 bV bT], c⟩
theorem wrong_some (bV bT bO : Nat) : isZ (some0 bV bT bO) 0 (-1) = true := by kernel_rfl
theorem wrong_someA (bV bT bO : Nat) : isZ (someA bV bT bO) 1 (-1) = true := by kernel_rfl
theorem wrong_someB (bV bT bO : Nat) : isZ (someB bV bT bO) 4 0 = true := by kernel_rfl
theorem wrong_someC (bV bT : Nat) (o : Option Addr) (c : Nat) : isZ (someC bV bT o c) 4 1 = true := by kernel_rfl
theorem idl_num : ∀ j, Num (idl.getD j 0) := fun j => by
  by_cases h : j < 16
  · have : ∀ k : Fin 16, -9223372036854775808 ≤ idl.getD k.val 0 ∧ idl.getD k.val 0 ≤ 9223372036854775807 := by decide
    exact this ⟨j, h⟩
  · rw [List.getD_eq_getElem?_getD, List.getElem?_eq_none (by show 16 ≤ j; omega)]
    exact ⟨by decide, by decide⟩
theorem obj_wf (id : Int) (h : Num id) (bV bT : Nat) : ObjWf ⟨id, idl, some ⟨bV, 0, none⟩, [[0, 0, 0], [0, 0, 0], [0, 0, 0]], 3, some ⟨bT, 0, none⟩, [⟨0, 1, 2, 0⟩], 1⟩ :=
  ⟨h, rfl, idl_num, ⟨⟨by simp, by simp⟩, fun h => by cases h⟩, ⟨⟨by simp, by simp⟩, fun h => by cases h⟩⟩
theorem zero3_wf : VertWf [0, 0, 0] := ⟨rfl, fun j => by
  match j with
  | 0 => exact ⟨by decide, by decide⟩
  | 1 => exact ⟨by decide, by decide⟩
  | 2 => exact ⟨by decide, by decide⟩
  | j + 3 => exact ⟨by simp, by simp⟩⟩
theorem verts_of {bV : Nat} {W : World} (h : RowAt 82 bV #[.int .i64 0, .int .i64 0, .int .i64 0, .int .i64 0, .int .i64 0, .int .i64 0, .int .i64 0, .int .i64 0, .int .i64 0] W) : VertsAt W (some ⟨bV, 0, none⟩) [[0, 0, 0], [0, 0, 0], [0, 0, 0]] := fun k z hk => by
  have hk3 : k < 3 := by have := (List.getElem?_eq_some_iff.1 hk).1; simpa using this
  have hz : z = [0, 0, 0] := by
    obtain rfl | rfl | rfl : k = 0 ∨ k = 1 ∨ k = 2 := by omega
    all_goals (simp at hk; exact hk.symm)
  subst hz
  refine ⟨bV, 0, rfl, fun j v hj => ?_, zero3_wf⟩
  have hj3 : j < 3 := by have := (List.getElem?_eq_some_iff.1 hj).1; simpa using this
  rw [cell_of_row _ _ _ _ _ _ h]
  obtain rfl | rfl | rfl : k = 0 ∨ k = 1 ∨ k = 2 := by omega
  all_goals (obtain rfl | rfl | rfl : j = 0 ∨ j = 1 ∨ j = 2 := by omega)
  all_goals (simp [encI] at hj; subst hj; rfl)
theorem tris_of {bT : Nat} {W : World} (h : RowAt 86 bT #[.int .i64 0, .int .i64 1, .int .i64 2, .int .u32 0] W) : TrisAt W (some ⟨bT, 0, none⟩) [⟨0, 1, 2, 0⟩] := fun k z hk => by
  have hk3 : k = 0 := by have := (List.getElem?_eq_some_iff.1 hk).1; simp at this; omega
  subst hk3
  simp at hk
  subst hk
  refine ⟨bT, 0, rfl, fun j v hj => ?_, ⟨⟨by decide, by decide⟩, ⟨by decide, by decide⟩, ⟨by decide, by decide⟩, ⟨by decide, by decide⟩⟩⟩
  rw [cell_of_row _ _ _ _ _ _ h]
  simpa [triL] using hj
theorem objs_one {x : ObjR} {bO : Nat} {W : World} (h : RowAt 48 bO (objL x).toArray W) (hw : ObjWf x) (hv : VertsAt W x.vo x.vs) (ht : TrisAt W x.tq x.ts) : ObjsAt W (some ⟨bO, 0, none⟩) [x] := fun k z hk => by
  have hk3 : k = 0 := by have := (List.getElem?_eq_some_iff.1 hk).1; simp at this; omega
  subst hk3
  simp at hk
  subst hk
  refine ⟨bO, 0, rfl, fun j v hj => ?_, hv, ht, hw⟩
  rw [cell_of_row _ _ _ _ _ _ h]
  simpa using hj
theorem sc_wf (W H : Int) (hW : Num W) (hH : Num H) (bO : Nat) (x : ObjR) : ScWf ⟨W, H, idl, some ⟨bO, 0, none⟩, [x], 1⟩ := ⟨hW, hH, rfl, idl_num, ⟨⟨by simp, by simp⟩, fun h => by cases h⟩⟩
theorem SomeAt.below {bV bT bO : Nat} {W X : World} (hb : Below W.heap.size W X) (s : SomeAt bV bT bO W) : SomeAt bV bT bO X := ⟨s.vs.below hb, s.ts.below hb, s.os.below hb⟩
theorem SomeAt.objs {bV bT bO : Nat} {W : World} (s : SomeAt bV bT bO W) : ObjsAt W (some ⟨bO, 0, none⟩) [obj0 bV bT] := objs_one s.os (obj_wf 7 ⟨by decide, by decide⟩ _ _) (verts_of s.vs) (tris_of s.ts)
end Go.Proofs.Ytildnadkfonlhaa.Fx
namespace Go.Proofs.Ytildnadkfonlhaa.Fx
open Go Go.RowKit Go.Shelf
attribute [local go_sem] Oper.semAt_some
theorem infoOb : ∃ i z, Try.prog.info? 48 = some i ∧ i.zero = some z ∧ i.size = 19 ∧ i.bytes = 184 ∧ z.cells.size = 19 := by
  have hm : (Try.prog.info? 48).map (fun i => (i.zero.map (fun z => z.cells.size), i.size, i.bytes)) = some (some 19, 19, 184) := by kernel_rfl
  cases hi : Try.prog.info? 48 with
  | none => rw [hi] at hm; cases hm
  | some i =>
    rw [hi] at hm
    simp only [Option.map_some, Option.some.injEq, Prod.mk.injEq] at hm
    obtain ⟨hz, hs, hb⟩ := hm
    cases hzz : i.zero with
    | none => rw [hzz] at hz; cases hz
    | some z =>
      rw [hzz] at hz
      exact ⟨i, z, rfl, hzz, hs, hb, by simpa using hz⟩
theorem row_ne {t u : TypeId} {g m : Nat} {c d : Array Value} {W : World} (h : RowAt t g c W) (k : RowAt u m d W) (e : t ≠ u) : g ≠ m := fun hh => by
  subst hh
  unfold RowAt at h k
  rw [h] at k
  cases k
  exact e rfl
theorem RowAt.cellset {t : TypeId} {g m j : Nat} {c : Array Value} {W : World} {u : Value} (h : RowAt t g c W) (e : g ≠ m) : RowAt t g c (W.setCell ⟨m, j, none⟩ u) := by
  unfold RowAt
  rw [heap_setCell_other _ _ _ _ e]
  exact h
theorem OwnOb.cellset {B m j : Nat} {v u : Value} {l : List ObjR} {W : World} {d : Array Value} (s : OwnOb W B v l) (k : RowAt 32 m d W) : OwnOb (W.setCell ⟨m, j, none⟩ u) B v l := by
  obtain ⟨h1, h2⟩ := s
  refine ⟨h1, ?_⟩
  rcases h2 with h2 | ⟨g, cap, cur, e, hb, hg, h3⟩
  · exact .inl h2
  · exact .inr ⟨g, cap, cur, e, hb, by rw [heap_setCell_other _ _ _ _ (row_ne (t := 48) hg k (by decide))]; exact hg, h3⟩
theorem RowAt.grown {t : TypeId} {g m : Nat} {c : Array Value} {W X : World} (h : RowAt t g c W) (hg : W.grownBy X (some m)) (e : g ≠ m) : RowAt t g c X := by
  unfold RowAt
  rw [hg.block g h.lt (fun hh => e (by cases hh; rfl))]
  exact h
/-- the three scenes, altered -/
structure AlF (n bV1 bT1 bO1 bV2 bT2 bO2 bV3 bT3 : Nat) (o : Option Addr) (c : Nat) (w W : World) : Prop where
  fa : ScAt n (someA bV1 bT1 bO1) W
  fb : ScAt (n + 1) (someB bV2 bT2 bO2) W
  fc : ScAt (n + 1 + 1) (someC bV3 bT3 o c) W
  oa : ObjsAt W (some ⟨bO1, 0, none⟩) [obj0 bV1 bT1]
  ob : ObjsAt W (some ⟨bO2, 0, none⟩) [objB bV2 bT2]
  oc : ObjsAt W o [obj0 bV3 bT3, obj0 bV3 bT3]
  cap : CapOk o 2 c
  below : Below w.heap.size w W
theorem AlF.up {n bV1 bT1 bO1 bV2 bT2 bO2 bV3 bT3 : Nat} {o : Option Addr} {c : Nat} {w W X : World} (h : Below W.heap.size W X) (i : AlF n bV1 bT1 bO1 bV2 bT2 bO2 bV3 bT3 o c w W) : AlF n bV1 bT1 bO1 bV2 bT2 bO2 bV3 bT3 o c w X :=
  ⟨i.fa.below h, i.fb.below h, i.fc.below h, i.oa.below h, i.ob.below h, i.oc.below h, i.cap, bnext i.below h⟩
theorem some_wf (bV bT bO : Nat) : ScWf (some0 bV bT bO) := sc_wf 4 3 ⟨by decide, by decide⟩ ⟨by decide, by decide⟩ _ _
theorem someA_wf (bV bT bO : Nat) : ScWf (someA bV bT bO) := sc_wf 65 3 ⟨by decide, by decide⟩ ⟨by decide, by decide⟩ _ _
theorem someB_wf (bV bT bO : Nat) : ScWf (someB bV bT bO) := sc_wf 4 3 ⟨by decide, by decide⟩ ⟨by decide, by decide⟩ _ _
theorem someC_wf (bV bT : Nat) {o : Option Addr} {c : Nat} (h : CapOk o 2 c) : ScWf (someC bV bT o c) := ⟨(show Num 4 from ⟨by decide, by decide⟩), (show Num 3 from ⟨by decide, by decide⟩), rfl, idl_num, h⟩
end Go.Proofs.Ytildnadkfonlhaa.Fx
namespace Go.Proofs.Ytildnadkfonlhaa.Fx
open Go Go.RowKit Go.Shelf
attribute [local go_sem] Oper.semAt_some
/-- a scene's cells with whatever slice of objects -/
def scV (s : ScR) (v : Value) : Array Value := (Value.int .i64 s.w :: .int .i64 s.h :: (s.cam.map encI ++ [v])).toArray
theorem scV_is (s : ScR) : scC s = scV s (.slice s.oo s.os.length s.oc) := rfl
theorem set_last {p : List Value} (v u : Value) {n : Nat} (hp : p.length = n) : (p ++ [v]).set n u = p ++ [u] := by
  subst hp
  induction p with
  | nil => rfl
  | cons a t ih => simp [ih]
theorem scV_set {s : ScR} (hs : s.cam.length = 16) (v u : Value) : (scV s v).setIfInBounds 18 u = scV s u := by
  unfold scV
  rw [List.setIfInBounds_toArray]
  exact congrArg List.toArray (set_last (p := Value.int .i64 s.w :: .int .i64 s.h :: s.cam.map encI) v u (by simp [hs]))
theorem scV_at {s : ScR} (hs : s.cam.length = 16) (v : Value) : (scV s v)[18]? = some v := by
  unfold scV
  rw [List.getElem?_toArray, show Value.int .i64 s.w :: .int .i64 s.h :: (s.cam.map encI ++ [v]) = (Value.int .i64 s.w :: .int .i64 s.h :: s.cam.map encI) ++ [v] from rfl, List.getElem?_append_right (by simp [hs])]
  simp [hs]
theorem scV_one (s : ScR) (o : Option Addr) (n c : Nat) : (scV s (.slice o n c)).all (·.oneCell') = true := by
  unfold scV
  rw [List.all_toArray, List.all_eq_true]
  intro v hv
  rcases List.mem_cons.1 hv with rfl | hv
  · rfl
  rcases List.mem_cons.1 hv with rfl | hv
  · rfl
  rcases List.mem_append.1 hv with hv | hv
  · obtain ⟨z, _, rfl⟩ := List.mem_map.1 hv
    rfl
  · obtain rfl := List.mem_singleton.1 hv
    rfl
theorem wpIn_slice_one {F : Fence} {n : Nat} {P : Program} {o : Oper} {a : Act} {w : World} {K : Act → World → Prop} {Q : Exit → Act → World → Prop} (hF : ∀ f, F.fn f) (t e : TypeId) (x : Operand) (ho : o.op = .buildSlice t 1 #[(0, x)])
    (cs : Array Value) (hx : a.eval x = .agg cs) {ie : TypeInfo} {z : Value} {m : Nat} (hu : P.underlying t = some (.slice e)) (hie : P.info? e = some ie) (hz : ie.zero = some z) (hs : ie.size = m) (hzm : z.cells.size = m) (hcs : cs.size = m) (hm : 0 < m ∧ m < 1000)
    (h : K (a.put o.dst (.slice (some ⟨w.heap.size, 0, none⟩) 1 1)) (w.alloc (.cells cs e))) : Oper.wpIn F n P o a w K Q := by
  have hf : Instr.fill (fun i => some (i * ie.size, ie.size)) ((Array.range (1 * ie.size)).map (z.cells[· % z.cells.size]!)) (#[(0, x)].map fun (p : Nat × Operand) => (p.1, a.eval p.2)).toList = some cs := by
    have := Great.fill_whole (s := ie.size) (by omega) [Value.agg cs] ((Array.range (1 * ie.size)).map (z.cells[· % z.cells.size]!)) (fun v hv => by obtain rfl := List.mem_singleton.1 hv; rw [hs]; exact hcs) (by simp)
    simp [hx, List.zipIdx] at this ⊢
    exact this
  unfold Oper.wpIn
  refine ⟨fun f _ => hF f, ?_⟩
  rw [Oper.semAt_plain F _ _ (by rw [ho]; intro c hc'; cases hc')]
  unfold execOp
  simp only [ho, Sem.run_bind, run_buildSlice w t e 1 _ cs ie z hu hie hz (by omega) (by omega) hf, Result.andThen_ok]
  exact h
/-- the scene, and another with a list of one's own that grows -/
structure OrS (s : ScR) (b : Nat) (v : Value) (l : List ObjR) (w W : World) : Prop where
  box : ScAt w.heap.size s W
  lt : w.heap.size < b
  row : RowAt 32 b (scV s v) W
  own : OwnOb W (b + 1) v l
  sub : ∀ x ∈ l, x ∈ s.os
  below : Below w.heap.size w W
theorem OrS.up {s : ScR} {b : Nat} {v : Value} {l : List ObjR} {w W X : World} (h : Below W.heap.size W X) (i : OrS s b v l w W) : OrS s b v l w X :=
  ⟨i.box.below h, i.lt, i.row.below h, i.own.below h, i.sub, bnext i.below h⟩
theorem OrS.cells {s : ScR} {b : Nat} {v : Value} {l : List ObjR} {w W : World} (hs : ScWf s) (i : OrS s b v l w W) : W.cell? ⟨b, 18, none⟩ = some v ∧ W.cell? ⟨w.heap.size, 18, none⟩ = some (.slice s.oo s.os.length s.oc) := by
  refine ⟨?_, i.box.c18 hs⟩
  rw [cell_of_row _ _ _ _ _ _ i.row]
  exact scV_at hs.len v
theorem OrS.blkS {s : ScR} {b : Nat} {v : Value} {l : List ObjR} {w W X : World} (i : OrS s b v l w W) (hg : W.grownBy X v.ownBlock) : (∀ {g : Nat} {o : Obj}, g < b + 1 → W.heap[g]? = some o → X.heap[g]? = some o) := fun hlt h => by
  rw [hg.block _ (Array.getElem?_eq_some_iff.1 h).1 (fun e => by have := i.own.blk _ e.symm; omega)]
  exact h
theorem OrS.step {s : ScR} {b : Nat} {v v' : Value} {l : List ObjR} {x : ObjR} {w W X : World} (hs : ScWf s) (i : OrS s b v l w W) (ho : OwnOb X (b + 1) v' (l ++ [x])) (hx : x ∈ s.os) (hg : W.grownBy X v.ownBlock) : OrS s b v' (l ++ [x]) w (X.setCell ⟨b, 18, none⟩ v') := by
  have keep : ∀ {g : Nat} {o : Obj}, g < b + 1 → W.heap[g]? = some o → X.heap[g]? = some o := fun h1 h2 => i.blkS hg h1 h2
  have hlt := i.lt
  refine ⟨?_, i.lt, ?_, ho.cellset (d := scV s v) (keep (by omega) i.row), fun y hy => ?_, ?_⟩
  · unfold ScAt
    rw [heap_setCell_other _ _ _ _ (by show w.heap.size ≠ b; omega)]
    exact keep (by omega) i.box
  · unfold RowAt
    rw [heap_setCell_same _ _ 18 _ _ v' (keep (by omega) i.row), scV_set hs.len]
  · rcases List.mem_append.1 hy with hy | hy
    · exact i.sub y hy
    · obtain rfl := List.mem_singleton.1 hy
      exact hx
  · exact (below_grown2 (Nat.le_refl _) i.below hg (fun k hk => by have := i.own.blk k hk; omega)).setCell (p := ⟨b, 18, none⟩) (by show _ ≤ b; omega) _
theorem rev_next {l : List ObjR} {j : Nat} {x : ObjR} (hj : j < l.length) (hx : l[l.length - 1 - j]? = some x) : (l.drop (l.length - (j + 1))).reverse = (l.drop (l.length - j)).reverse ++ [x] := by
  have hlt : l.length - (j + 1) < l.length := by omega
  rw [List.drop_eq_getElem_cons hlt, List.reverse_cons]
  have e : l.length - (j + 1) + 1 = l.length - j := by omega
  rw [e]
  have : l[l.length - (j + 1)] = x := by
    rw [show l.length - 1 - j = l.length - (j + 1) by omega, List.getElem?_eq_getElem hlt] at hx
    exact Option.some.inj hx
  rw [this]
def OrRel (s : ScR) (b : Nat) (w : World) (n g : Nat) (u : Value) (W : World) : Prop := ∃ (j : Nat) (v : Value), g = n - j ∧ u = .int .i64 ((n : Int) - 1 - (j : Int)) ∧ j ≤ n ∧ OrS s b v ((s.os.drop (n - j)).reverse) w W
def OsRel (s : ScR) (b : Nat) (vt : Value) (oa ob : Option Addr) (ids : List Int) (w : World) (n g : Nat) (s8 u : Value) (W : World) : Prop := ∃ k : Nat, g = n - k ∧ u = .int .i64 (k : Int) ∧ k ≤ n ∧ OrS s b vt s.os.reverse w W ∧ IntsAt W oa ids ∧ IntsAt W ob ids
end Go.Proofs.Ytildnadkfonlhaa.Fx
namespace Go.Proofs.Ytildnadkfonlhaa.Fx
open Go Go.RowKit Go.Maps
def one1 : DataW Unit := .lit (.int .i64 1)
def litI (l : List Int) : List Lit := l.map (Lit.int .i64)
def mapD (l : List Int) : DataW Unit := setOf one1 (litI l)
theorem litI_key (l : List Int) : ∀ x ∈ litI l, WideAt.IsKeyLit x := fun x hx => by
  obtain ⟨z, _, rfl⟩ := List.mem_map.1 hx
  exact trivial
theorem mapD_snoc (l : List Int) (x : Int) : mapD (l ++ [x]) = (mapD l).put (.int .i64 x) one1 := by
  unfold mapD litI
  rw [List.map_append, List.map_cons, List.map_nil, setOf_snoc]
theorem litI_ne {x y : Int} (h : x ≠ y) : Lit.int .i64 x ≠ Lit.int .i64 y := fun e => by cases e; exact h rfl
theorem mapD_tidy (l : List Int) : Tidy (mapD l) := tidy_setOf _ _ (litI_key l)
theorem mapD_out : ∀ (n : Nat) (l : List Int), l.length = n → ∀ (x : Int), x ∉ l → ∀ z, (mapD l).atKey (.int .i64 x) z = z
  | 0, l, hn, x, h, z => by
    obtain rfl := List.length_eq_zero_iff.1 hn
    rfl
  | n + 1, l, hn, x, h, z => by
    obtain ⟨m, y, rfl⟩ : ∃ m y, l = m ++ [y] := ⟨l.dropLast, l.getLast (by intro e; rw [e] at hn; simp at hn), (List.dropLast_concat_getLast _).symm⟩
    rw [List.length_append, List.length_singleton] at hn
    rw [List.mem_append, List.mem_singleton] at h
    rw [mapD_snoc, atKey_put_other (litI_ne (fun e => h (.inr e)))]
    exact mapD_out n m (by omega) x (fun e => h (.inl e)) z
theorem mapD_in : ∀ (n : Nat) (l : List Int), l.length = n → ∀ (x : Int), x ∈ l → ∀ z, (mapD l).atKey (.int .i64 x) z = one1
  | 0, l, hn, x, h, z => by
    obtain rfl := List.length_eq_zero_iff.1 hn
    simp at h
  | n + 1, l, hn, x, h, z => by
    obtain ⟨m, y, rfl⟩ : ∃ m y, l = m ++ [y] := ⟨l.dropLast, l.getLast (by intro e; rw [e] at hn; simp at hn), (List.dropLast_concat_getLast _).symm⟩
    rw [List.length_append, List.length_singleton] at hn
    rw [mapD_snoc]
    by_cases e : x = y
    · subst e
      exact atKey_put_same (mapD_tidy m).isMap (show WideAt.IsKeyLit (Lit.int .i64 x) from trivial) _ _
    · rw [atKey_put_other (litI_ne e)]
      rw [List.mem_append, List.mem_singleton] at h
      exact mapD_in n m (by omega) x (h.resolve_right e) z
theorem mapD_size : ∀ (n : Nat) (l : List Int), l.length = n → l.Nodup → Maps.size (mapD l) = l.length
  | 0, l, hn, _ => by
    obtain rfl := List.length_eq_zero_iff.1 hn
    rfl
  | n + 1, l, hn, hd => by
    obtain ⟨m, y, rfl⟩ : ∃ m y, l = m ++ [y] := ⟨l.dropLast, l.getLast (by intro e; rw [e] at hn; simp at hn), (List.dropLast_concat_getLast _).symm⟩
    rw [List.length_append, List.length_singleton] at hn ⊢
    rw [List.nodup_append] at hd
    have hy : y ∉ m := fun h => hd.2.2 y h y (by simp) rfl
    rw [mapD_snoc, size_put (mapD_tidy m), if_neg, mapD_size n m (by omega) hd.1]
    rw [Bool.not_eq_true]
    exact has_false_of_atKey (mapD_out m.length m rfl y hy)
theorem keyedI : Keyed Try.prog 3 := int_keyed Try.underlying3
theorem zeroI (w : World) : (zeroValue 3).run Try.prog w = .ok (.int .i64 0) w := by kernel_rfl
/-- block B is a map that tells 1 of just the IDs of l -/
def MapS (W : World) (B : Nat) (l : List Int) : Prop := W.ownsMap Try.prog 3 (plainElem (H := Unit) Try.prog 3) B l.length (mapD l)
theorem MapS.new (w : World) : MapS (w.alloc (.map #[] 0)) w.heap.size [] := World.ownsMap_made _ _ _ _
theorem MapS.below {W X : World} {B : Nat} {l : List Int} (h : Below W.heap.size W X) (s : MapS W B l) : MapS X B l := by
  have hlt := s.lt
  obtain ⟨es, clock, hb, F, hs, hD⟩ := s
  exact ⟨es, clock, (h.block B hlt).trans hb, F, hs, hD⟩
theorem idKey {x : Int} (h : Num x) : keyOf Try.prog 3 (.int .i64 x) = some (.int .i64 x) := keyOf_int_mk Try.underlying3 (WalkArith.wf_i64 (by obtain ⟨a, b⟩ := h; omega))
theorem MapS.look {W : World} {B : Nat} {l : List Int} {x : Int} (s : MapS W B l) (h : Num x) : (Instr.lookup 44 (.map (some B)) (.int .i64 x) false).run Try.prog W = .ok (.int .i64 (if x ∈ l then 1 else 0)) W := by
  obtain ⟨c, hrun, hat, _⟩ := World.ownsMap.lookup_int s keyedI Try.underlying44 Try.underlying3 (zeroI W) (idKey h)
  rw [hrun]
  by_cases e : x ∈ l
  · rw [mapD_in _ l rfl x e] at hat
    unfold one1 at hat
    cases hat
    rw [if_pos e]
  · rw [mapD_out _ l rfl x e] at hat
    cases hat
    rw [if_neg e]
theorem MapS.put {W : World} {B : Nat} {l : List Int} {x : Int} (s : MapS W B l) (h : Num x) (hl : l.length ≤ 100000) : ∃ W', (Instr.mapUpdate 44 (.map (some B)) (.int .i64 x) (.int .i64 1)).run Try.prog W = .ok () W' ∧ MapS W' B (l ++ [x]) ∧ W.grownBy W' (some B) := by
  obtain ⟨W', hrun, h1, h2⟩ := World.ownsMap.update s keyedI Try.underlying44 (by unfold maxLen; omega) (idKey h) (plainElem_int (a := 1) Try.underlying3 (by decide))
  refine ⟨W', hrun, ?_, h2⟩
  unfold MapS
  rw [mapD_snoc, List.length_append]
  exact h1
theorem MapS.len {W : World} {B : Nat} {l : List Int} (s : MapS W B l) (hd : l.Nodup) (ty : TypeId) : (Builtin.len_ #[44] ty #[.map (some B)]).run Try.prog W = .ok (.int .i64 (l.length : Int)) W := by
  have := World.ownsMap.len s Try.underlying44 ty
  rw [mapD_size _ l rfl hd] at this
  exact this
theorem MapS.grown {V W X : World} {B : Nat} {l : List Int} (hB : V.heap.size ≤ B) (hb : Below V.heap.size V W) (hg : W.grownBy X (some B)) : Below V.heap.size V X := below_grown2 (Nat.le_refl _) hb hg (fun k hk => by cases hk; exact hB)
end Go.Proofs.Ytildnadkfonlhaa.Fx
namespace Go.Proofs.Ytildnadkfonlhaa.Fx
open Go Go.RowKit
theorem sort_rise {l : List ObjR} (h : (rawIds l).Nodup) : Rise (sortedIds l) := by
  have h1 := sort_rises (rawIds l)
  have h2 : (sortedIds l).Nodup := (List.mergeSort_perm (rawIds l) _).nodup_iff.2 h
  unfold Rise
  unfold sortedIds at h2 ⊢
  exact (List.pairwise_iff_getElem.2 fun i j hi hj hij => by
    have a := of_decide_eq_true (List.pairwise_iff_getElem.1 h1 i j hi hj hij)
    have b := List.pairwise_iff_getElem.1 h2 i j hi hj hij
    omega)
theorem ids_rise {s : ScR} (h : okZ s = true) : Rise (sortedIds s.os) := sort_rise (ok_iff.1 h).apart
theorem sort_mem {l : List ObjR} {x : Int} : x ∈ sortedIds l ↔ x ∈ rawIds l := (List.mergeSort_perm (rawIds l) _).mem_iff
theorem id_num {s : ScR} (h : okZ s = true) {x : Int} (hx : x ∈ sortedIds s.os) : Num x := by
  rw [sort_mem] at hx
  unfold rawIds at hx
  obtain ⟨y, hy, rfl⟩ := List.mem_map.1 hx
  obtain ⟨⟨h1, h2⟩, _⟩ := (ok_iff.1 h).each y hy
  exact ⟨by omega, by omega⟩
theorem getD_mem {l : List Int} {k : Nat} (h : k < l.length) : l.getD k 0 ∈ l := List.mem_of_getElem? (ints_get h)
theorem chosen_sub {p : Int → Int → Bool} {ids l : List Int} {n : Nat} (hn : n ≤ ids.length) {x : Int} (h : x ∈ chosenK p ids l n) : x ∈ ids := by
  obtain ⟨i, h1, _, rfl⟩ := mem_chosen.1 h
  exact getD_mem (by omega)
theorem held_sub {ids l : List Int} {m x : Int} (h : x ∈ heldZ ids l m) : x ∈ ids := by
  unfold heldZ chosenZ at h
  exact chosen_sub (Nat.le_refl _) h
theorem moved_sub {ids a b : List Int} {x : Int} (h : x ∈ movedZ ids a b) : x ∈ ids := by
  unfold movedZ chosenZ at h
  exact chosen_sub (Nat.le_refl _) h
/-- in a list without repeats, one is not among those ahead of it -/
theorem not_ahead {l : List Int} (h : l.Nodup) {k : Nat} (hk : k < l.length) : l.getD k 0 ∉ l.take k := fun hm => by
  obtain ⟨i, hi, e⟩ := List.mem_iff_getElem.1 hm
  rw [List.length_take] at hi
  rw [List.getElem_take] at e
  have := List.pairwise_iff_getElem.1 h i k (by omega) hk (by omega)
  rw [List.getD_eq_getElem?_getD, List.getElem?_eq_getElem hk] at e
  exact this e
theorem any_at {x : Int} {l : List Int} {k : Nat} (hk : k < l.length) : (l.take (k + 1)).any (eqP x) = ((l.take k).any (eqP x) || decide (x = l.getD k 0)) := by
  rw [take_snoc hk, List.any_append]
  simp [eqP]
theorem any_mem {x : Int} {l : List Int} : l.any (eqP x) = true ↔ x ∈ l := by
  rw [List.any_eq_true]
  constructor
  · rintro ⟨y, hy, e⟩
    rw [of_decide_eq_true e]
    exact hy
  · intro h
    exact ⟨x, h, decide_eq_true rfl⟩
theorem of_all {s : ScR} {a : List Int} {p : Nat} (hd : dealB s a = true) (hp : p < a.length) : ofZ s a (a.getD p 0) = heldZ (sortedIds s.os) a (a.getD p 0) := by
  unfold ofZ ofB
  rw [hd, Bool.true_and, if_pos (any_mem.2 (getD_mem hp))]
theorem eqI_same (l : List Int) : eqI l l = true := decide_eq_true rfl
end Go.Proofs.Ytildnadkfonlhaa.Fx
namespace Go.Proofs.Ytildnadkfonlhaa.Fx
open Go Go.RowKit Go.Shelf
theorem IntsAt.grownMap2 {W X : World} {B : Nat} {o : Option Addr} {l S : List Int} (h : IntsAt W o l) (hm : MapS W B S) (hg : W.grownBy X (some B)) : IntsAt X o l := fun i hi => by
  obtain ⟨b, off, e, hc⟩ := h i hi
  refine ⟨b, off, e, ?_⟩
  obtain ⟨es, clock, hb, _⟩ := hm
  have hbW : ∃ ob, W.heap[b]? = some ob := by
    cases hx : W.heap[b]? with
    | none => unfold World.cell? at hc; simp [hx] at hc
    | some ob => exact ⟨ob, rfl⟩
  obtain ⟨ob, hob⟩ := hbW
  have hne : b ≠ B := fun e => by
    subst e
    unfold World.cell? at hc
    rw [hb] at hc
    simp at hc
  rw [World.cell?_of_block (w := W) (hg.block b (Array.getElem?_eq_some_iff.1 hob).1 (fun e => hne (by cases e; rfl)))]
  exact hc
theorem cell_grownMap {W X : World} {B b j : Nat} {v : Value} {S : List Int} (hc : W.cell? ⟨b, j, none⟩ = some v) (hm : MapS W B S) (hg : W.grownBy X (some B)) : X.cell? ⟨b, j, none⟩ = some v := by
  obtain ⟨es, clock, hb, _⟩ := hm
  have hbW : ∃ ob, W.heap[b]? = some ob := by
    cases hx : W.heap[b]? with
    | none => unfold World.cell? at hc; simp [hx] at hc
    | some ob => exact ⟨ob, rfl⟩
  obtain ⟨ob, hob⟩ := hbW
  have hne : b ≠ B := fun e => by
    subst e
    unfold World.cell? at hc
    rw [hb] at hc
    simp at hc
  rw [World.cell?_of_block (w := W) (hg.block b (Array.getElem?_eq_some_iff.1 hob).1 (fun e => hne (by cases e; rfl)))]
  exact hc
/-- a list of lists behind a slice of slices -/
def LLAt (W : World) (b : Nat) (Ls : List (List Int)) : Prop := ∀ i, i < Ls.length → ∃ o c, W.cell? ⟨b, i, none⟩ = some (.slice o (Ls.getD i []).length c) ∧ IntsAt W o (Ls.getD i [])
theorem LLAt.below {W X : World} {b : Nat} {Ls : List (List Int)} (h : Below W.heap.size W X) (s : LLAt W b Ls) : LLAt X b Ls := fun i hi => by
  obtain ⟨o, c, h1, h2⟩ := s i hi
  exact ⟨o, c, keep_cell h h1, h2.below h⟩
theorem LLAt.grownMap {W X : World} {b B : Nat} {Ls : List (List Int)} {S : List Int} (s : LLAt W b Ls) (hm : MapS W B S) (hg : W.grownBy X (some B)) : LLAt X b Ls := fun i hi => by
  obtain ⟨o, c, h1, h2⟩ := s i hi
  exact ⟨o, c, cell_grownMap h1 hm hg, h2.grownMap2 hm hg⟩
theorem ll_of {W : World} {B : Nat} {v : Value} {vs : List Value} {Ls : List (List Int)} (h : OwnV W B v vs) (hl : Lists W B vs Ls) (h0 : 0 < Ls.length) : ∃ b c, v = .slice (some ⟨b, 0, none⟩) Ls.length c ∧ LLAt W b Ls := by
  obtain ⟨o, c, hv, hat, _⟩ := h.form
  obtain ⟨b, e, _⟩ := hat 0 (by rw [hl.1]; exact h0)
  subst e
  rw [hl.1] at hv
  refine ⟨b, c, hv, fun i hi => ?_⟩
  obtain ⟨b2, e2, hc⟩ := hat i (by rw [hl.1]; exact hi)
  cases e2
  obtain ⟨o3, c3, e3, ha, _⟩ := (hl.2 i hi).form
  rw [e3] at hc
  exact ⟨o3, c3, hc, ha⟩
theorem take_flat (Ls : List (List Int)) {k : Nat} (hk : k < Ls.length) : (Ls.take (k + 1)).flatten = (Ls.take k).flatten ++ Ls.getD k [] := by
  rw [List.take_add_one, List.getElem?_eq_getElem hk, List.flatten_append, List.getD_eq_getElem?_getD, List.getElem?_eq_getElem hk]
  simp
theorem not_ahead2 {A L : List Int} (h : (A ++ L).Nodup) {i : Nat} (hi : i < L.length) : L.getD i 0 ∉ A ++ L.take i := by
  have h1 := not_ahead h (k := A.length + i) (by rw [List.length_append]; omega)
  have e1 : (A ++ L).getD (A.length + i) 0 = L.getD i 0 := by
    rw [List.getD_eq_getElem?_getD, List.getD_eq_getElem?_getD, List.getElem?_append_right (by omega), Nat.add_sub_cancel_left]
  have e2 : (A ++ L).take (A.length + i) = A ++ L.take i := by
    rw [List.take_append, List.take_of_length_le (by omega), Nat.add_sub_cancel_left]
  rw [e1, e2] at h1
  exact h1
theorem flat_pre {Ls : List (List Int)} (h : Ls.flatten.Nodup) {k : Nat} (hk : k < Ls.length) : ((Ls.take k).flatten ++ Ls.getD k []).Nodup := by
  rw [← take_flat Ls hk]
  have : Ls.flatten = (Ls.take (k + 1)).flatten ++ (Ls.drop (k + 1)).flatten := by rw [← List.flatten_append, List.take_append_drop]
  rw [this, List.nodup_append] at h
  exact h.1
theorem flat_le (Ls : List (List Int)) {k : Nat} (hk : k < Ls.length) : (Ls.take k).flatten.length + (Ls.getD k []).length ≤ Ls.flatten.length := by
  have h1 := congrArg List.length (take_flat Ls hk)
  rw [List.length_append] at h1
  have h2 : Ls.flatten = (Ls.take (k + 1)).flatten ++ (Ls.drop (k + 1)).flatten := by rw [← List.flatten_append, List.take_append_drop]
  have h3 := congrArg List.length h2
  rw [List.length_append] at h3
  omega
/-- all that ShareWhole asks -/
structure Whole (s : ScR) (l : List Int) (Ls : List (List Int)) (q : Nat) : Prop where
  len : Ls.length = l.length
  pos : 0 < l.length
  few : l.length ≤ 64
  nodup : Ls.flatten.Nodup
  many : Ls.flatten.length = s.os.length
  less : s.os.length ≤ 16
  all : ∀ (k : Nat) (x : ObjR), s.os[k]? = some x → x.id ∈ Ls.flatten
  own : ∀ p : Nat, p < l.length → ∀ id ∈ Ls.getD p [], Num id ∧ ownZ s l id = some (l.getD p 0)
  lo : ∀ p : Nat, p < l.length → q ≤ (Ls.getD p []).length ∧ (Ls.getD p []).length ≤ q + 1
  low : q ≤ s.os.length
  num : ∀ x ∈ s.os, Num x.id
theorem map_get {f : Int → List Int} {a : List Int} {p : Nat} (hp : p < a.length) : (a.map f).getD p [] = f (a.getD p 0) := by
  rw [show (a.map f).getD p [] = ((a.map f)[p]?).getD [] from List.getD_eq_getElem?_getD, List.getElem?_map, ints_get hp]
  rfl
theorem whole_of {s : ScR} {l : List Int} (h : dealB s l = true) : Whole s l (allZ s l) (s.os.length / l.length) := by
  have hm := deal_mem h
  have hok : okZ s = true := by
    unfold dealB at h
    rw [Bool.and_eq_true] at h
    exact h.2
  have hr := ids_rise hok
  have e : allZ s l = l.map (heldZ (sortedIds s.os) l) := by unfold allZ; rw [if_pos h]
  have hp : ((allZ s l).flatten).Perm (sortedIds s.os) := by
    rw [e, ← List.flatMap_def]
    exact deal_all hm
  have hnear : ∀ p, p < l.length → s.os.length / l.length ≤ ((allZ s l).getD p []).length ∧ ((allZ s l).getD p []).length ≤ s.os.length / l.length + 1 := fun p hp => by
    rw [e, map_get hp]
    have := held_near (ids := sortedIds s.os) hm hp
    rw [sorted_len] at this
    exact this
  refine ⟨by rw [e, List.length_map], mem_pos hm, mem_many hm, hp.nodup_iff.2 (rise_nodup hr), by rw [hp.length_eq, sorted_len], deal_many h, fun k x hx => ?_, fun p hpl id hid => ?_, hnear, Nat.div_le_self _ _, fun x hx => ?_⟩
  · rw [hp.mem_iff, sort_mem]
    unfold rawIds
    exact List.mem_map.2 ⟨x, List.mem_of_getElem? hx, rfl⟩
  · rw [e, map_get hpl] at hid
    refine ⟨id_num hok (held_sub hid), ?_⟩
    unfold ownZ
    rw [if_pos h]
    exact held_whose hr hid
  · obtain ⟨⟨h1, h2⟩, _⟩ := (ok_iff.1 hok).each x hx
    exact ⟨by omega, by omega⟩
/-- the scene whose objects stand the other way about is dealt alike -/
theorem all_turned (s : ScR) (o : Option Addr) (c : Nat) (l : List Int) : allZ (turned s o c) l = allZ s l ∧ dealB (turned s o c) l = dealB s l := by
  have e1 : dealB (turned s o c) l = dealB s l := by
    unfold dealB
    rw [ok_turned]
  refine ⟨?_, e1⟩
  unfold allZ
  rw [e1, show (turned s o c).os = s.os.reverse from rfl, sorted_rev]
end Go.Proofs.Ytildnadkfonlhaa.Fx
namespace Go.Proofs.Ytildnadkfonlhaa.Fx
open Go Go.RowKit Go.Shelf
attribute [local go_sem] Oper.semAt_some
theorem wpIn_call_one8 {n : Nat} {P : Program} {o : Oper} {a : Act} {w : World} {K : Act → World → Prop} {Q : Exit → Act → World → Prop} (f : FuncId) (args : Array Value) (hrun : (execOp a.eval o).run P w = .ok (.enter f args) w) (c : Callee) (ps : Array Operand) (ts : Array TypeId) (ho : o.op = .call { callee := c, args := ps, argTypes := ts })
    {post : Ending → World → Prop} (hc : Calls P f args w post) (h : ∀ e w', post e w' → ∃ v, e = .returned v ∧ K (a.put o.dst v) w') : Oper.wpIn Fence.wide n P o a w K Q := by
  unfold Oper.wpIn
  refine ⟨fun f _ => trivial, ?_⟩
  rw [Oper.semAt_plain _ _ _ (by rw [ho]; intro c hc'; cases hc'), hrun]
  refine ⟨fun h => (by cases h), callsIn_wide.2 (hc.mono ?_)⟩
  intro e w' hp
  obtain ⟨v, rfl, hk⟩ := h e w' hp
  exact hk
def Wh1 (Ls : List (List Int)) (q b6 B : Nat) (V : World) (n : Nat) (g : Nat) (s9 s10 s42 : Value) (W : World) : Prop :=
  ∃ k lo hi : Nat, g = n - k ∧ s42 = .int .i64 (k : Int) ∧ k ≤ n ∧ s9 = .int .i64 (lo : Int) ∧ s10 = .int .i64 (hi : Int) ∧ q ≤ lo ∧ lo ≤ 1000 ∧ hi ≤ q + 1 ∧ Below V.heap.size V W ∧ MapS W B (Ls.take k).flatten ∧ LLAt W b6 Ls
def Wh2 (A L : List Int) (o : Option Addr) (Ls : List (List Int)) (b6 B : Nat) (V : World) (n : Nat) (g : Nat) (s64 : Value) (W : World) : Prop :=
  ∃ i : Nat, g = n - i ∧ s64 = .int .i64 (i : Int) ∧ i ≤ n ∧ Below V.heap.size V W ∧ MapS W B (A ++ L.take i) ∧ LLAt W b6 Ls ∧ IntsAt W o L
def Wh3 (V : World) (n : Nat) (g : Nat) (s94 : Value) (W : World) : Prop := ∃ k : Nat, g = n - k ∧ s94 = .int .i64 (k : Int) ∧ k ≤ n ∧ W = V
def Wh4 (s : ScR) (b : Nat) (w D : World) (n g : Nat) (u : Value) (W : World) : Prop := ∃ (j : Nat) (v : Value), g = n - j ∧ u = .int .i64 ((n : Int) - 1 - (j : Int)) ∧ j ≤ n ∧ OrS s b v ((s.os.drop (n - j)).reverse) w W ∧ Below D.heap.size D W
def Wh5 (V : World) (n : Nat) (g : Nat) (s135 : Value) (W : World) : Prop := ∃ k : Nat, g = n - k ∧ s135 = .int .i64 (k : Int) ∧ k ≤ n ∧ Below V.heap.size V W
def sq : Nat → Code → Code
  | 0, c => c
  | k + 1, .seq _ b => sq k b
  | _ + 1, c => c
noncomputable def whole2 : Code := sq 11 (Try.f4.body.getD .skip)
noncomputable def whole1 : Code := sq 7 (Try.f4.body.getD .skip)
set_option maxRecDepth 100000 in
set_option maxHeartbeats 1000000 in
theorem tail2 (s : ScR) (l : List Int) (o : Option Addr) (c nm n q b6 c6 Bm lo hi : Nat) (Ls : List (List Int)) (w W : World) (hs : ScWf s) (h : ObjsAt w s.oo s.os) (hme : IntsAt w o l) (la : l.length ≤ 9223372036854775807) (hnm : l.length = nm) (hn : s.os.length = n) (hw : Whole s l Ls q) (hls : allZ s l = Ls) (hd : dealB s l = true) (hok : okZ s = true)
    (hq : q ≤ lo ∧ lo ≤ 1000 ∧ hi ≤ q + 1) (hms : MapS W Bm Ls.flatten) (hlk : LLAt W b6 Ls) (b4 : Nat) (v : Value) (hr : OrS s b4 v s.os.reverse w W) (d0 d3 d4 d7 d11 d12 d13 d14 d15 d16 d18 d19 d20 d21 d22 d23 d24 d25 d26 d27 d28 d29 d30 d31 d32 d33 d34 d35 d36 d37 d38 d39 d40 d41 d42 d43 d44 d45 d46 d47 d48 d49 d50 d51 d52 d53 d54 d55 d56 d57 d58 d59 d60 d61 d62 d63 d64 d65 d66 d67 d68 d69 d70 d71 d72 d73 d74 d75 d76 d77 d78 d79 d80 d81 d82 d83 d84 d85 d86 d87 d88 d89 d90 d91 d92 d93 d94 d95 d96 d97 d98 d99 d100 d101 d102 d103 d104 d105 d106 d107 d108 d109 d110 d111 d112 d113 d114 d115 d116 d117 d118 d119 d120 d121 d122 d123 d124 d125 d126 d127 d128 d129 d130 d131 d132 d133 d134 d135 d136 d137 d138 d139 d140 d141 d142 d143 d144 d145 d146 d147 d148 d149 d150 d151 d152 d153 d154 d155 d156 d157 d158 d159 d160 d161 d162 d163 d164 d165 d166 d167 d168 d169 d170 d171 d172 d173 d174 d175 d176 d177 d178 : Value) :
    Code.wp Try.prog whole2 (bodyPost Try.prog Try.f4 (RetBool true w)) { tmps := #[d0, .slice o nm c, .pointer (some ⟨w.heap.size, 0, none⟩), d3, d4, .bool true, .slice (some ⟨b6, 0, none⟩) nm c6, d7, .map (some Bm), .int .i64 (lo : Int), .int .i64 (hi : Int), d11, d12, d13, d14, d15, d16, .pointer (some ⟨b4, 0, none⟩), d18, d19, d20, d21, d22, d23, d24, d25, d26, d27, d28, d29, d30, d31, d32, d33, d34, d35, d36, d37, d38, d39, d40, d41, d42, d43, d44, d45, d46, d47, d48, d49, d50, d51, d52, d53, d54, d55, d56, d57, d58, d59, d60, d61, d62, d63, d64, d65, d66, d67, d68, d69, d70, d71, d72, d73, d74, d75, d76, d77, d78, d79, d80, d81, d82, d83, d84, d85, d86, d87, d88, d89, d90, d91, d92, d93, d94, d95, d96, d97, d98, d99, d100, d101, d102, d103, d104, d105, d106, d107, d108, d109, d110, d111, d112, d113, d114, d115, d116, d117, d118, d119, d120, d121, d122, d123, d124, d125, d126, d127, d128, d129, d130, d131, d132, d133, d134, d135, d136, d137, d138, d139, d140, d141, d142, d143, d144, d145, d146, d147, d148, d149, d150, d151, d152, d153, d154, d155, d156, d157, d158, d159, d160, d161, d162, d163, d164, d165, d166, d167, d168, d169, d170, d171, d172, d173, d174, d175, d176, d177, d178], defers := [] } W := by
  have HS := Lib.hid hs
  have HO := Lib.hid h
  have HME0 := Lib.hid hme
  have HNM := Lib.hid hnm
  have HN := Lib.hid hn
  have HW := Lib.hid hw
  have HLS := Lib.hid hls
  have HDE := Lib.hid hd
  have HOK := Lib.hid hok
  have HQ := Lib.hid hq
  have HMF := Lib.hid hms
  have HLK := Lib.hid hlk
  have HLL : Hid (Ls.length = nm) := Lib.hid (by rw [hw.len]; exact hnm)
  have HQ1 : Hid (q ≤ n) := Lib.hid (by have := hw.low; omega)
  have nm0 : (0 : Int) ≤ (nm : Int) := by omega
  have nm1 : (nm : Int) ≤ 64 := by have := hw.few; rw [hnm] at this; omega
  have n0 : (0 : Int) ≤ (n : Int) := by omega
  have n1 : (n : Int) ≤ 16 := by have := hw.less; omega
  have lo0 : (0 : Int) ≤ (lo : Int) := by omega
  have hi0 : (0 : Int) ≤ (hi : Int) := by omega
  have P3 := Lib.hid (fun (T : ScR) X (hT : ScWf T) (hO : ObjsAt X T.oo T.os) (hm : IntsAt X o l) => pall_any T l o c X hT hO hm la)
  rw [hnm] at P3 la
  have hall := Lib.hid (sizeS hs)
  clear hs h hme hnm hn hw hls hd hok hq hms hlk
  have HR := Lib.hid hr
  obtain ⟨c1, c2⟩ := hr.cells HS.out
  rw [HN.out] at c2
  clear hr
  generalize W = wr at HR HMF HLK c1 c2 ⊢
  obtain ⟨C, hC⟩ : ∃ C, whole2 = C := ⟨_, rfl⟩
  rw [hC]
  unfold whole2 at hC
  simp only [Try.f4, Option.getD_some, sq] at hC
  subst hC
  have HWS : Hid (∀ W, OrS s b4 v s.os.reverse w W → ∀ y ∈ s.os.reverse, ObjWf y ∧ VertsAt W y.vo y.vs ∧ TrisAt W y.tq y.ts) := Lib.hid (fun W i y hy => by
    obtain ⟨k, hk⟩ := List.mem_iff_getElem?.1 (i.sub y hy)
    exact (HO.out.below i.below).wf hk)
  obtain ⟨o7, cap7, hv7, -, hcap7, -⟩ := HR.out.own.form (HWS.out _ HR.out)
  have HOT : Hid (∀ W, OrS s b4 v s.os.reverse w W → ObjsAt W (turned s o7 cap7).oo (turned s o7 cap7).os) := Lib.hid (fun W i => by
    obtain ⟨o8, cap8, hv8, hob8, _, _⟩ := i.own.form (HWS.out _ i)
    rw [hv7] at hv8
    injection hv8 with e1 _ _
    subst e1
    exact hob8)
  have HWT : Hid (ScWf (turned s o7 cap7)) := Lib.hid ⟨HS.out.w, HS.out.h, HS.out.len, HS.out.num, hcap7⟩
  have hct : scV s v = scC (turned s o7 cap7) := by rw [hv7]; rfl
  have hat := all_turned s o7 cap7 l
  rw [HLS.out, HDE.out] at hat
  have hot : okZ (turned s o7 cap7) = true := by rw [ok_turned]; exact HOK.out
  obtain ⟨T, hT⟩ : ∃ T, turned s o7 cap7 = T := ⟨_, rfl⟩
  rw [hT] at HOT HWT hct hat hot
  have HST : Hid (∀ W, OrS s b4 v s.os.reverse w W → ScAt b4 T W) := Lib.hid (fun W i => by
    have := i.row
    rw [hct] at this
    exact this)
  have HCT : Hid (∀ W, OrS s b4 v s.os.reverse w W → Calls Try.prog 15 #[.agg (scC T)] W fun e w' => e = .returned (.int .i64 0) ∧ Below W.heap.size W w') := Lib.hid (fun W i => by
    have := pcheck_any T W HWT.out (HOT.out W i)
    rw [hot] at this
    exact this)
  have C9 := Lib.hid (P3.out T wr HWT.out (HOT.out _ HR.out) (HME0.out.below HR.out.below))
  rw [hat.1, hat.2] at C9
  have C92 : Hid (Calls Try.prog 10 #[.agg (scC T), .slice o nm c] wr (RetLL Ls 0 wr)) := Lib.hid C9.out
  have A9 := Lib.hid (HST.out _ HR.out).all
  have hallT := Lib.hid (sizeS HWT.out)
  have HRR := Lib.hid HR.out
  clear hv7 hcap7 hct hat hot hT C9 HWS P3
  go_wp2_with (refine wpList_load_mid rfl 32 (.tmp 17) rfl b4 0 rfl (scL T) _ A9.out Try.underlying32 rfl hallT.out ?_)
  refine C92.out.mono ?_
  rintro e w19 ⟨v19, vs19, rfl, hov, hls, hb⟩
  obtain ⟨b19, c19, rfl, hll⟩ := ll_of hov hls (by rw [HW.out.len]; exact HW.out.pos)
  have HLL19 := Lib.hid hll
  have HL6 := Lib.hid (HLK.out.below hb)
  have HMZ := Lib.hid (HMF.out.below hb)
  have HRZ := Lib.hid (HRR.out.up hb)
  clear hov hls hll hb C92 A9 HR HRR c1 c2
  rw [HLL.out]
  go_wp2_with fail
  generalize w19 = w5 at HLL19 HL6 HMZ HRZ ⊢
  go_loopg [135] nm (Wh5 w5 nm)
  case atStart => exact ⟨0, rfl, rfl, by omega, Below.refl _ _⟩
  case round =>
    obtain ⟨p, hg, rfl, hp, hbl⟩ := hrel
    subst hg
    have HBP := Lib.hid hbl
    have p0 : (0 : Int) ≤ (p : Int) := by omega
    by_cases hpn : p < nm
    · have t3 : (p : Int) < (nm : Int) := by omega
      have t4 : ¬ (nm : Int) ≤ (p : Int) := by omega
      have hpL : p < Ls.length := by rw [HLL.out]; exact hpn
      have hbd : Below w5.heap.size w5 wr.drew := bnext hbl (bdrew0 _ wr 1)
      obtain ⟨oa, ca, d1, ia⟩ := (HL6.out.below hbd) p hpL
      obtain ⟨ob, cb, d2, ib⟩ := (HLL19.out.below hbd) p hpL
      have hxl : (Ls.getD p []).length ≤ 100 := by have := HW.out.lo p (by rw [HNM.out]; exact hpn); have := HQ1.out; omega
      have CI := Lib.hid (zints_any (Ls.getD p []) (Ls.getD p []) oa ob ca cb wr.drew ia ib (by unfold maxLen; omega) (by unfold maxLen; omega))
      rw [eqI_same] at CI
      generalize (Ls.getD p []).length = x at d1 d2 CI
      have HBD := Lib.hid hbd
      clear hbl ia ib hbd hxl hpL
      go_wp2_with fail
      refine (wpIn_wide (n := 5)).1 ?_
      refine heldz_region (S := fun X => X.cell? ⟨b6, p, none⟩ = some (.slice oa x ca) ∧ X.cell? ⟨b19, p, none⟩ = some (.slice ob x cb)) (Z := []) (by kernel_rfl) ?_
      refine heldz_take (fun _ => trivial) [] 0 (?_) (by kernel_rfl) rfl (by kernel_rfl) (fun _ _ _ h => h) ⟨d1, d2⟩ (by kernel_rfl) ?_ ?_
      rotate_left
      · intro wz hSw; obtain ⟨q1, q2⟩ := hSw; (first | (go_simp; done) | (go_simp; with_reducible rfl))
      (try simp only [Act.put, List.getElem_toArray, List.getElem_cons_zero, List.getElem_cons_succ, List.setIfInBounds_toArray, List.set_cons_zero, List.set_cons_succ])
      refine heldz_take (fun _ => trivial) [] 1 (?_) (by kernel_rfl) rfl (by kernel_rfl) (fun _ _ _ h => h) ⟨d1, d2⟩ (by kernel_rfl) ?_ ?_
      rotate_left
      · intro wz hSw; obtain ⟨q1, q2⟩ := hSw; (first | (go_simp; done) | (go_simp; with_reducible rfl))
      (try simp only [Act.put, List.getElem_toArray, List.getElem_cons_zero, List.getElem_cons_succ, List.setIfInBounds_toArray, List.set_cons_zero, List.set_cons_succ])
      refine heldz_take (fun _ => trivial) [] 2 (?_) (by kernel_rfl) rfl (by kernel_rfl) (fun _ _ _ h => h) ⟨d1, d2⟩ (by kernel_rfl) ?_ ?_
      rotate_left
      · intro wz hSw; obtain ⟨q1, q2⟩ := hSw; (first | (go_simp; done) | (go_simp; with_reducible rfl))
      (try simp only [Act.put, List.getElem_toArray, List.getElem_cons_zero, List.getElem_cons_succ, List.setIfInBounds_toArray, List.set_cons_zero, List.set_cons_succ])
      refine heldz_take (fun _ => trivial) [] 3 (.bool false) (by kernel_rfl) rfl (by kernel_rfl) (fun _ _ _ h => h) ⟨d1, d2⟩ (by kernel_rfl) ?_ ?_
      · intro wz hSw; obtain ⟨q1, q2⟩ := hSw; (first | (go_simp; done) | (go_simp; simp; omega) | (go_simp; with_reducible rfl))
      (try simp only [Act.put, List.getElem_toArray, List.getElem_cons_zero, List.getElem_cons_succ, List.setIfInBounds_toArray, List.set_cons_zero, List.set_cons_succ])
      refine heldz_take (fun _ => trivial) [] 4 (?_) (by kernel_rfl) rfl (by kernel_rfl) (fun _ _ _ h => h) ⟨d1, d2⟩ (by kernel_rfl) ?_ ?_
      rotate_left
      · intro wz hSw; obtain ⟨q1, q2⟩ := hSw; (first | (go_simp; done) | (go_simp; with_reducible rfl))
      (try simp only [Act.put, List.getElem_toArray, List.getElem_cons_zero, List.getElem_cons_succ, List.setIfInBounds_toArray, List.set_cons_zero, List.set_cons_succ])
      refine heldz_take (fun _ => trivial) [] 5 (?_) (by kernel_rfl) rfl (by kernel_rfl) (fun _ _ _ h => h) ⟨d1, d2⟩ (by kernel_rfl) ?_ ?_
      rotate_left
      · intro wz hSw; obtain ⟨q1, q2⟩ := hSw; (first | (go_simp; done) | (go_simp; with_reducible rfl))
      (try simp only [Act.put, List.getElem_toArray, List.getElem_cons_zero, List.getElem_cons_succ, List.setIfInBounds_toArray, List.set_cons_zero, List.set_cons_succ])
      refine heldz_take (fun _ => trivial) [] 6 (?_) (by kernel_rfl) rfl (by kernel_rfl) (fun _ _ _ h => h) ⟨d1, d2⟩ (by kernel_rfl) ?_ ?_
      rotate_left
      · intro wz hSw; obtain ⟨q1, q2⟩ := hSw; (first | (go_simp; done) | (go_simp; with_reducible rfl))
      (try simp only [Act.put, List.getElem_toArray, List.getElem_cons_zero, List.getElem_cons_succ, List.setIfInBounds_toArray, List.set_cons_zero, List.set_cons_succ])
      refine heldz_take (fun _ => trivial) [] 7 (.pointer (some ⟨b6, p, none⟩)) (by kernel_rfl) rfl (by kernel_rfl) (fun _ _ _ h => h) ⟨d1, d2⟩ (by kernel_rfl) ?_ ?_
      · intro wz hSw; obtain ⟨q1, q2⟩ := hSw; (go_simp; (try first | rfl | simp))
      (try simp only [Act.put, List.getElem_toArray, List.getElem_cons_zero, List.getElem_cons_succ, List.setIfInBounds_toArray, List.set_cons_zero, List.set_cons_succ])
      refine heldz_take (fun _ => trivial) [] 8 (?_) (by kernel_rfl) rfl (by kernel_rfl) (fun _ _ _ h => h) ⟨d1, d2⟩ (by kernel_rfl) ?_ ?_
      rotate_left
      · intro wz hSw; obtain ⟨q1, q2⟩ := hSw; (first | (go_simp; done) | (go_simp; with_reducible rfl))
      (try simp only [Act.put, List.getElem_toArray, List.getElem_cons_zero, List.getElem_cons_succ, List.setIfInBounds_toArray, List.set_cons_zero, List.set_cons_succ])
      refine heldz_take (fun _ => trivial) [] 9 (?_) (by kernel_rfl) rfl (by kernel_rfl) (fun _ _ _ h => h) ⟨d1, d2⟩ (by kernel_rfl) ?_ ?_
      rotate_left
      · intro wz hSw; obtain ⟨q1, q2⟩ := hSw; (first | (go_simp; done) | (go_simp; with_reducible rfl))
      (try simp only [Act.put, List.getElem_toArray, List.getElem_cons_zero, List.getElem_cons_succ, List.setIfInBounds_toArray, List.set_cons_zero, List.set_cons_succ])
      refine heldz_take (fun _ => trivial) [] 10 (?_) (by kernel_rfl) rfl (by kernel_rfl) (fun _ _ _ h => h) ⟨d1, d2⟩ (by kernel_rfl) ?_ ?_
      rotate_left
      · intro wz hSw; obtain ⟨q1, q2⟩ := hSw; (first | (go_simp; done) | (go_simp; with_reducible rfl))
      (try simp only [Act.put, List.getElem_toArray, List.getElem_cons_zero, List.getElem_cons_succ, List.setIfInBounds_toArray, List.set_cons_zero, List.set_cons_succ])
      refine heldz_take (fun _ => trivial) [] 11 (.pointer (some ⟨b19, p, none⟩)) (by kernel_rfl) rfl (by kernel_rfl) (fun _ _ _ h => h) ⟨d1, d2⟩ (by kernel_rfl) ?_ ?_
      · intro wz hSw; obtain ⟨q1, q2⟩ := hSw; (go_simp; (try first | rfl | simp))
      (try simp only [Act.put, List.getElem_toArray, List.getElem_cons_zero, List.getElem_cons_succ, List.setIfInBounds_toArray, List.set_cons_zero, List.set_cons_succ])
      refine heldz_take (fun _ => trivial) [] 12 (?_) (by kernel_rfl) rfl (by kernel_rfl) (fun _ _ _ h => h) ⟨d1, d2⟩ (by kernel_rfl) ?_ ?_
      rotate_left
      · intro wz hSw; obtain ⟨q1, q2⟩ := hSw; (first | (go_simp; done) | (go_simp; with_reducible rfl))
      (try simp only [Act.put, List.getElem_toArray, List.getElem_cons_zero, List.getElem_cons_succ, List.setIfInBounds_toArray, List.set_cons_zero, List.set_cons_succ])
      refine heldz_step (fun _ => trivial) 13 (by kernel_rfl) rfl (fun K hK => ?_)
      rw [if_pos (by kernel_rfl)]
      refine wpIn_call_one8 12 #[.slice oa x ca, .slice ob x cb] (by first | (go_simp; done) | (go_simp; with_reducible rfl)) _ _ _ rfl CI.out (fun e w9 hp => ?_)
      obtain ⟨rfl, hb9⟩ := hp
      replace d1 := keep_cell hb9 d1
      replace d2 := keep_cell hb9 d2
      refine ⟨_, rfl, hK.out _ _ (fun _ => ⟨d1, d2⟩) ?_⟩
      clear hK K
      (try simp only [Act.put, List.getElem_toArray, List.getElem_cons_zero, List.getElem_cons_succ, List.setIfInBounds_toArray, List.set_cons_zero, List.set_cons_succ])
      refine heldz_take (fun _ => trivial) [] 14 (?_) (by kernel_rfl) rfl (by kernel_rfl) (fun _ _ _ h => h) ⟨d1, d2⟩ (by kernel_rfl) ?_ ?_
      rotate_left
      · intro wz hSw; obtain ⟨q1, q2⟩ := hSw; (first | (go_simp; done) | (go_simp; with_reducible rfl))
      (try simp only [Act.put, List.getElem_toArray, List.getElem_cons_zero, List.getElem_cons_succ, List.setIfInBounds_toArray, List.set_cons_zero, List.set_cons_succ])
      refine heldz_take (fun _ => trivial) [] 15 (?_) (by kernel_rfl) rfl (by kernel_rfl) (fun _ _ _ h => h) ⟨d1, d2⟩ (by kernel_rfl) ?_ ?_
      rotate_left
      · intro wz hSw; obtain ⟨q1, q2⟩ := hSw; (first | (go_simp; done) | (go_simp; with_reducible rfl))
      (try simp only [Act.put, List.getElem_toArray, List.getElem_cons_zero, List.getElem_cons_succ, List.setIfInBounds_toArray, List.set_cons_zero, List.set_cons_succ])
      refine heldz_done (by kernel_rfl) ?_ _
      have HBQ := Lib.hid (bnext HBD.out hb9)
      clear hb9 d1 d2 CI
      go_wp2_with fail
      go_roundg (nm - (p + 1))
      case measure => omega
      case rel => exact ⟨p + 1, rfl, by go_num, by omega, HBQ.out⟩
    · obtain rfl : p = nm := by omega
      have t3 : ¬ (p : Int) < (p : Int) := by omega
      have t5 : (hi : Int) - (lo : Int) ≤ 1 := by have := HQ.out; omega
      have t6 : -9223372036854775808 ≤ (hi : Int) - (lo : Int) := by have := HQ.out; omega
      have t7 : (hi : Int) - (lo : Int) ≤ 9223372036854775807 := by omega
      have HRY := Lib.hid (HRZ.out.up hbl)
      have AY := Lib.hid (HST.out _ HRY.out).all
      have CY := Lib.hid (HCT.out _ HRY.out)
      have hlen9 := (HMZ.out.below hbl).len HW.out.nodup 3
      rw [HW.out.many, HN.out] at hlen9
      have cy := (HRY.out.cells HS.out).2
      rw [HN.out] at cy
      have BY := Lib.hid HRY.out.below
      clear hbl
      go_wp2_with (refine wpList_load_mid_g (by rfl) 32 (.tmp 17) rfl b4 0 rfl (scL T) _ AY.out Try.underlying32 rfl hallT.out ?_)
      refine CY.out.mono ?_
      rintro e w21 ⟨rfl, hb⟩
      have BZ := Lib.hid (bnext BY.out hb)
      clear hb CY AY cy hlen9
      go_wp2_with fail
      go_ret
      exact ⟨rfl, BZ.out⟩
end Go.Proofs.Ytildnadkfonlhaa.Fx
namespace Go.Proofs.Ytildnadkfonlhaa.Fx
open Go Go.RowKit Go.Shelf
attribute [local go_sem] Oper.semAt_some
set_option maxRecDepth 100000 in
set_option maxHeartbeats 1000000 in
theorem tail1 (s : ScR) (l : List Int) (o : Option Addr) (c nm n q b6 c6 Bm lo hi : Nat) (Ls : List (List Int)) (w W : World) (hs : ScWf s) (h : ObjsAt w s.oo s.os) (hme : IntsAt w o l) (la : l.length ≤ 9223372036854775807) (hnm : l.length = nm) (hn : s.os.length = n) (hw : Whole s l Ls q) (hls : allZ s l = Ls) (hd : dealB s l = true) (hok : okZ s = true)
    (hq : q ≤ lo ∧ lo ≤ 1000 ∧ hi ≤ q + 1) (hms : MapS W Bm Ls.flatten) (hlk : LLAt W b6 Ls) (hb : Below w.heap.size w W) (hsc : ScAt w.heap.size s W) (d0 d3 d4 d7 d11 d12 d13 d14 d15 d16 d17 d18 d19 d20 d21 d22 d23 d24 d25 d26 d27 d28 d29 d30 d31 d32 d33 d34 d35 d36 d37 d38 d39 d40 d41 d42 d43 d44 d45 d46 d47 d48 d49 d50 d51 d52 d53 d54 d55 d56 d57 d58 d59 d60 d61 d62 d63 d64 d65 d66 d67 d68 d69 d70 d71 d72 d73 d74 d75 d76 d77 d78 d79 d80 d81 d82 d83 d84 d85 d86 d87 d88 d89 d90 d91 d92 d93 d94 d95 d96 d97 d98 d99 d100 d101 d102 d103 d104 d105 d106 d107 d108 d109 d110 d111 d112 d113 d114 d115 d116 d117 d118 d119 d120 d121 d122 d123 d124 d125 d126 d127 d128 d129 d130 d131 d132 d133 d134 d135 d136 d137 d138 d139 d140 d141 d142 d143 d144 d145 d146 d147 d148 d149 d150 d151 d152 d153 d154 d155 d156 d157 d158 d159 d160 d161 d162 d163 d164 d165 d166 d167 d168 d169 d170 d171 d172 d173 d174 d175 d176 d177 d178 : Value) :
    Code.wp Try.prog whole1 (bodyPost Try.prog Try.f4 (RetBool true w)) { tmps := #[d0, .slice o nm c, .pointer (some ⟨w.heap.size, 0, none⟩), d3, d4, .bool true, .slice (some ⟨b6, 0, none⟩) nm c6, d7, .map (some Bm), .int .i64 (lo : Int), .int .i64 (hi : Int), d11, d12, d13, d14, d15, d16, d17, d18, d19, d20, d21, d22, d23, d24, d25, d26, d27, d28, d29, d30, d31, d32, d33, d34, d35, d36, d37, d38, d39, d40, d41, d42, d43, d44, d45, d46, d47, d48, d49, d50, d51, d52, d53, d54, d55, d56, d57, d58, d59, d60, d61, d62, d63, d64, d65, d66, d67, d68, d69, d70, d71, d72, d73, d74, d75, d76, d77, d78, d79, d80, d81, d82, d83, d84, d85, d86, d87, d88, d89, d90, d91, d92, d93, d94, d95, d96, d97, d98, d99, d100, d101, d102, d103, d104, d105, d106, d107, d108, d109, d110, d111, d112, d113, d114, d115, d116, d117, d118, d119, d120, d121, d122, d123, d124, d125, d126, d127, d128, d129, d130, d131, d132, d133, d134, d135, d136, d137, d138, d139, d140, d141, d142, d143, d144, d145, d146, d147, d148, d149, d150, d151, d152, d153, d154, d155, d156, d157, d158, d159, d160, d161, d162, d163, d164, d165, d166, d167, d168, d169, d170, d171, d172, d173, d174, d175, d176, d177, d178], defers := [] } W := by
  have HTL := Lib.hid (fun b4 v W2 (hm : MapS W2 Bm Ls.flatten) (hk : LLAt W2 b6 Ls) hr => tail2 s l o c nm n q b6 c6 Bm lo hi Ls w W2 hs h hme la hnm hn hw hls hd hok hq hm hk b4 v hr)
  have HS := Lib.hid hs
  have HO := Lib.hid h
  have HME0 := Lib.hid hme
  have HNM := Lib.hid hnm
  have HN := Lib.hid hn
  have HW := Lib.hid hw
  have HLS := Lib.hid hls
  have HDE := Lib.hid hd
  have HOK := Lib.hid hok
  have HQ := Lib.hid hq
  have HMF := Lib.hid hms
  have HLK := Lib.hid hlk
  have HLL : Hid (Ls.length = nm) := Lib.hid (by rw [hw.len]; exact hnm)
  have HQ1 : Hid (q ≤ n) := Lib.hid (by have := hw.low; omega)
  have nm0 : (0 : Int) ≤ (nm : Int) := by omega
  have nm1 : (nm : Int) ≤ 64 := by have := hw.few; rw [hnm] at this; omega
  have n0 : (0 : Int) ≤ (n : Int) := by omega
  have n1 : (n : Int) ≤ 16 := by have := hw.less; omega
  have lo0 : (0 : Int) ≤ (lo : Int) := by omega
  have hi0 : (0 : Int) ≤ (hi : Int) := by omega
  have P3 := Lib.hid (fun (T : ScR) X (hT : ScWf T) (hO : ObjsAt X T.oo T.os) (hm : IntsAt X o l) => pall_any T l o c X hT hO hm la)
  rw [hnm] at P3 la
  have hall := Lib.hid (sizeS hs)
  clear hs h hme hnm hn hw hls hd hok hq hms hlk
  have HB := Lib.hid hb
  have HSC := Lib.hid hsc
  have c18 := hsc.c18 HS.out
  rw [HN.out] at c18
  clear hb hsc
  generalize W = wd at HB HMF HLK HSC c18 ⊢
  obtain ⟨C, hC⟩ : ∃ C, whole1 = C := ⟨_, rfl⟩
  rw [hC]
  unfold whole1 at hC
  simp only [Try.f4, Option.getD_some, sq] at hC
  subst hC
  go_wp2_with fail
  go_loopg [94] n (Wh3 wd n)
  case atStart => exact ⟨0, rfl, rfl, by omega, rfl⟩
  case round =>
    obtain ⟨j, hg, rfl, hj, hwr⟩ := hrel
    subst hg
    subst hwr
    have j0 : (0 : Int) ≤ (j : Int) := by omega
    by_cases hjn : j < n
    · have t2 : (j : Int) < (n : Int) := by omega
      obtain ⟨x, hx⟩ : ∃ x, s.os[j]? = some x := ⟨_, List.getElem?_eq_getElem (by rw [HN.out]; exact hjn)⟩
      obtain ⟨b, off, e, hob⟩ := (HO.out.below HB.out) j x hx
      have d0 := hob.c0
      rw [e] at c18
      have hlkp := HMF.out.look (HW.out.num x (List.mem_of_getElem? hx))
      rw [if_pos (HW.out.all j x hx)] at hlkp
      generalize x.id = z at d0 hlkp
      clear hx hob e
      go_wp2_with fail
      go_roundg (n - (j + 1))
      case measure => omega
      case rel => exact ⟨j + 1, rfl, by go_num, by omega, rfl⟩
    · obtain rfl : n = j := by omega
      have t2 : ¬ (n : Int) < (n : Int) := by omega
      have hSA := Lib.hid (show (Try.prog.info? 32).map (·.size) = some (scC s).size by rw [scC, List.size_toArray]; exact hall.out)
      have hSS := Lib.hid (show 19 = (scC s).size by rw [scC, List.size_toArray, scL_len HS.out])
      have hSO := Lib.hid (show (scC s).all (·.oneCell') = true by rw [scV_is]; exact scV_one _ _ _ _)
      have AD := Lib.hid (HSC.out).all
      obtain ⟨V1, hV1⟩ : ∃ V, wr.alloc (.cells ((scC s).setIfInBounds 18 (.slice none 0 0)) 32) = V := ⟨_, rfl⟩
      have hb1 : Below wr.heap.size wr V1 := by rw [← hV1]; exact (Below.refl _ wr).alloc (Nat.le_refl _) _
      have HD1 := Lib.hid hb1
      have HR1 : Hid (OrS s wr.heap.size (.slice none 0 0) [] w V1) := Lib.hid (by
        have hlt : w.heap.size < wr.heap.size := (Array.getElem?_eq_some_iff.1 (HSC.out)).1
        refine ⟨HSC.out.below hb1, hlt, ?_, ⟨rfl, .inl ⟨rfl, rfl⟩⟩, fun x hx => by simp at hx, bnext HB.out hb1⟩
        rw [← hV1, scV_is, scV_set HS.out.len]
        exact RowAt.new _ _ _)
      have k18 : (wr.alloc (.cells (scC s) 32)).cell? ⟨wr.heap.size, 18, none⟩ = some (.slice s.oo n s.oc) := by
        rw [cell_of_row _ _ _ _ _ _ (RowAt.new wr 32 (scC s)), scV_is, scV_at HS.out.len, HN.out]
      have g18 : (wr.alloc (.cells (scC s) 32)).frozen? ⟨wr.heap.size, 18, none⟩ = false := frozen_row (RowAt.new wr 32 (scC s))
      have HV1 := Lib.hid hV1
      have c19 : V1.cell? ⟨w.heap.size, 18, none⟩ = some (.slice s.oo n s.oc) := by have := (HR1.out.cells HS.out).2; rw [HN.out] at this; exact this
      clear hV1 hb1
      go_wp2_with (first | (rw [HV1.out]) | (refine wpList_load_mid rfl 32 (.tmp 2) rfl w.heap.size 0 rfl (scL s) _ AD.out Try.underlying32 rfl hall.out ?_) | (refine wpList_store_new rfl 32 (.tmp 17) (.tmp 107) rfl wr.heap.size _ _ (scC s) rfl rfl rfl hSA.out hSS.out hSO.out ?_))
      clear c18 k18 g18 c19 t2 hSA hSS hSO
      obtain ⟨b4, hb4⟩ : ∃ b, wr.heap.size = b := ⟨_, rfl⟩
      have HB4 := Lib.hid hb4
      rw [hb4] at HR1 ⊢
      generalize wr = D at HB HMF HLK HSC HD1 HB4
      clear HV1 hb4
      rename_i K2 hK2
      have HK2 := Lib.hid hK2
      clear hK2
      go_loopg [18] n (Wh4 s b4 w D n)
      case atStart =>
        exact ⟨0, _, rfl, by congr 1; omega, by omega, by rw [Nat.sub_zero, ← HN.out, List.drop_length]; exact HR1.out, HD1.out⟩
      case round =>
        obtain ⟨jj, v, hg, rfl, hj, hR, hRD⟩ := hrel
        have HRD := Lib.hid hRD
        subst hg
        have HR := Lib.hid hR
        obtain ⟨c1, c2⟩ := hR.cells HS.out
        rw [HN.out] at c2
        clear hR HR1 hRD HD1
        have j0 : (0 : Int) ≤ (jj : Int) := by omega
        by_cases hjn : jj < n
        · have t2 : (0 : Int) ≤ (n : Int) - 1 - (jj : Int) := by omega
          obtain ⟨m, hm⟩ : ∃ m : Nat, n - 1 - jj = m := ⟨_, rfl⟩
          have em : (n : Int) - 1 - (jj : Int) = (m : Int) := by omega
          have hmn : m < n := by omega
          obtain ⟨x, hx⟩ : ∃ x, s.os[m]? = some x := ⟨_, List.getElem?_eq_getElem (by rw [HN.out]; exact hmn)⟩
          have HNX : Hid ((s.os.drop (n - (jj + 1))).reverse = (s.os.drop (n - jj)).reverse ++ [x]) := Lib.hid (by
            have := rev_next (l := s.os) (j := jj) (x := x) (by rw [HN.out]; exact hjn) (by rw [HN.out, hm]; exact hx)
            rw [HN.out] at this
            exact this)
          have HXM : Hid (x ∈ s.os) := Lib.hid (List.mem_of_getElem? hx)
          have hob := HO.out.below HR.out.below
          obtain ⟨b, off, e, hat⟩ := hob m x hx
          have HRX := Lib.hid hat.cells
          have HXW := Lib.hid hat.wf
          have hinf := Lib.hid (show (Try.prog.info? 48).map (·.size) = some (objL x).length by rw [objL_len hat.wf]; kernel_rfl)
          have HLL : Hid (((s.os.drop (n - jj)).reverse).length ≤ 20) := Lib.hid (by rw [List.length_reverse, List.length_drop, HN.out]; omega)
          have HFL : Hid (((s.os.drop (n - jj)).reverse.flatMap objL).length = ((s.os.drop (n - jj)).reverse).length * 19) := Lib.hid (flat_len (fun y hy => by
            obtain ⟨k, hk⟩ := List.mem_iff_getElem?.1 (HR.out.sub y hy)
            exact (hob.wf hk).1))
          rw [em] at t2 ⊢
          rw [e] at c2
          generalize (s.os.drop (n - jj)).reverse = l at HR HNX HLL HFL
          have m0 : (0 : Int) ≤ (m : Int) := by omega
          have m1 : (m : Int) < (n : Int) := by omega
          have HM := Lib.hid em
          have EO := Lib.hid e
          clear hx hat hob e em hm hmn
          go_wp2_with fail
          rename_i K5 hK5
          generalize wr = V at HR HRX HRD c1 c2 ⊢
          obtain ⟨io, zo, hio, hzo, hso, hbo, hzs⟩ := infoOb
          have HIO := Lib.hid (And.intro hio (And.intro hzo (And.intro hso (And.intro hbo hzs))))
          clear hio hzo hso hbo hzs
          refine (wpIn_wide (n := 5)).1 ?_
          refine heldz_region (S := fun X => X.cell? ⟨b4, 18, none⟩ = some v ∧ X.cell? ⟨w.heap.size, 18, none⟩ = some (.slice (some ⟨b, off, none⟩) n s.oc)) (Z := [10]) (by kernel_rfl) ?_
          refine heldz_take (fun _ => trivial) [10] 0 (?_) (by kernel_rfl) rfl (by kernel_rfl) (fun _ _ _ h => h) ⟨c1, c2⟩ (by kernel_rfl) ?_ ?_
          rotate_left
          · intro wz hSw; (first | (go_simp; done) | (go_simp; with_reducible rfl))
          (try simp only [Act.put, List.getElem_toArray, List.getElem_cons_zero, List.getElem_cons_succ, List.setIfInBounds_toArray, List.set_cons_zero, List.set_cons_succ])
          refine heldz_take (fun _ => trivial) [10] 1 (v) (by kernel_rfl) rfl (by kernel_rfl) (fun _ _ _ h => h) ⟨c1, c2⟩ (by kernel_rfl) ?_ ?_
          · intro wz hSw; obtain ⟨q1, q2⟩ := hSw; (first | (go_simp; done) | (go_simp; with_reducible rfl))
          (try simp only [Act.put, List.getElem_toArray, List.getElem_cons_zero, List.getElem_cons_succ, List.setIfInBounds_toArray, List.set_cons_zero, List.set_cons_succ])
          refine heldz_take (fun _ => trivial) [10] 2 (?_) (by kernel_rfl) rfl (by kernel_rfl) (fun _ _ _ h => h) ⟨c1, c2⟩ (by kernel_rfl) ?_ ?_
          rotate_left
          · intro wz hSw; (first | (go_simp; done) | (go_simp; with_reducible rfl))
          (try simp only [Act.put, List.getElem_toArray, List.getElem_cons_zero, List.getElem_cons_succ, List.setIfInBounds_toArray, List.set_cons_zero, List.set_cons_succ])
          refine heldz_take (fun _ => trivial) [10] 3 (.slice (some ⟨b, off, none⟩) n s.oc) (by kernel_rfl) rfl (by kernel_rfl) (fun _ _ _ h => h) ⟨c1, c2⟩ (by kernel_rfl) ?_ ?_
          · intro wz hSw; obtain ⟨q1, q2⟩ := hSw; (first | (go_simp; done) | (go_simp; with_reducible rfl))
          (try simp only [Act.put, List.getElem_toArray, List.getElem_cons_zero, List.getElem_cons_succ, List.setIfInBounds_toArray, List.set_cons_zero, List.set_cons_succ])
          refine heldz_take (fun _ => trivial) [10] 4 (?_) (by kernel_rfl) rfl (by kernel_rfl) (fun _ _ _ h => h) ⟨c1, c2⟩ (by kernel_rfl) ?_ ?_
          rotate_left
          · intro wz hSw; (first | (go_simp; done) | (go_simp; with_reducible rfl))
          (try simp only [Act.put, List.getElem_toArray, List.getElem_cons_zero, List.getElem_cons_succ, List.setIfInBounds_toArray, List.set_cons_zero, List.set_cons_succ])
          refine heldz_take (fun _ => trivial) [10] 5 (.pointer (some ⟨b, off + m * 19, none⟩)) (by kernel_rfl) rfl (by kernel_rfl) (fun _ _ _ h => h) ⟨c1, c2⟩ (by kernel_rfl) ?_ ?_
          · intro wz hSw; (first | (go_simp; done) | (go_simp; with_reducible rfl))
          (try simp only [Act.put, List.getElem_toArray, List.getElem_cons_zero, List.getElem_cons_succ, List.setIfInBounds_toArray, List.set_cons_zero, List.set_cons_succ])
          refine heldz_step (fun _ => trivial) 6 (by kernel_rfl) rfl (fun K hK => ?_)
          rw [if_pos (by kernel_rfl)]
          refine wpIn_load_mid (fun _ => trivial) 48 (.tmp 122) rfl b (off + m * 19) rfl (objL x) _ (range_below (bdrew0 _ V 1) HRX.out) Try.underlying48 (by rfl) hinf.out ?_
          refine hK.out _ _ (fun _ => ⟨c1, c2⟩) ?_
          clear hK K
          (try simp only [Act.put, List.getElem_toArray, List.getElem_cons_zero, List.getElem_cons_succ, List.setIfInBounds_toArray, List.set_cons_zero, List.set_cons_succ])
          refine heldz_step (fun _ => trivial) 7 (by kernel_rfl) rfl (fun K hK => ?_)
          rw [if_pos (by kernel_rfl)]
          refine wpIn_slice_one (fun _ => trivial) 30 48 (.tmp 123) (by rfl) (objL x).toArray (by rfl) Try.underlying30 HIO.out.1 HIO.out.2.1 HIO.out.2.2.1 HIO.out.2.2.2.2 (by rw [List.size_toArray, objL_len HXW.out]) ⟨by omega, by omega⟩ ?_
          obtain ⟨X6, hX6⟩ : ∃ X, V.drew.alloc (.cells (objL x).toArray 48) = X := ⟨_, rfl⟩
          have hb6 : Below V.heap.size V X6 := by rw [← hX6]; exact (bdrew0 _ V 1).alloc (by simp) _
          have HN6 : Hid (RowAt 48 V.heap.size (objL x).toArray X6) := Lib.hid (by rw [← hX6]; exact RowAt.new V.drew 48 _)
          have HR6 := Lib.hid (HR.out.up hb6)
          have HH6 := Lib.hid hb6
          have k1 := keep_cell hb6 c1
          have k2 := keep_cell hb6 c2
          rw [show V.drew.heap.size = V.heap.size from rfl, hX6]
          clear hX6 hb6
          refine hK.out _ _ (fun _ => ⟨k1, k2⟩) ?_
          clear hK K
          (try simp only [Act.put, List.getElem_toArray, List.getElem_cons_zero, List.getElem_cons_succ, List.setIfInBounds_toArray, List.set_cons_zero, List.set_cons_succ])
          refine heldz_step (fun _ => trivial) 8 (by kernel_rfl) rfl (fun K hK => ?_)
          rw [if_pos (by kernel_rfl)]
          refine wpIn_app_own (fun _ => trivial) (.tmp 118) (.tmp 124) 30 rfl (b4 + 1) 48 io zo 19 184 Try.underlying30 HIO.out.1 HIO.out.2.1 HIO.out.2.2.1 HIO.out.2.2.2.1 HIO.out.2.2.2.2 (by omega) v l.length (l.flatMap objL) rfl HR6.out.own ⟨V.heap.size, 0, none⟩ 1 1 (objL x) rfl (objL_len HXW.out) (fun jj u hj => by rw [Addr.add_lit, cell_of_row _ _ _ _ _ _ HN6.out, Nat.zero_add]; simpa using hj) (fun u hu => by have := objL_one x; rw [List.all_toArray, List.all_eq_true] at this; exact this u hu) (by have := HLL.out; unfold maxLen; omega) (by have := HLL.out; omega) (by have := HR6.out.row.lt; omega) ?_
          intro v7 X7 ho7 hg7
          have hO7 : OwnOb X7 (b4 + 1) v7 (l ++ [x]) := by unfold OwnOb; rw [List.length_append, List.flatMap_append]; simpa using ho7
          have HO7 := Lib.hid hO7
          have HG7 := Lib.hid hg7
          have r7 := HR6.out.blkS hg7 (by omega) HR6.out.row
          have s7 := HR6.out.blkS hg7 (by have := HR6.out.lt; omega) HR6.out.box
          have e1 : X7.cell? ⟨b4, 18, none⟩ = some v := by rw [cell_of_row _ _ _ _ _ _ r7]; exact scV_at HS.out.len v
          have e2 : X7.cell? ⟨w.heap.size, 18, none⟩ = some (.slice (some ⟨b, off, none⟩) n s.oc) := by have := ScAt.c18 (W := X7) s7 HS.out; rw [HN.out, EO.out] at this; exact this
          have f7 : X7.frozen? ⟨b4, 18, none⟩ = false := frozen_row r7
          have HW7 : Hid (∀ y ∈ l ++ [x], ObjWf y ∧ VertsAt X7 y.vo y.vs ∧ TrisAt X7 y.tq y.ts) := Lib.hid (fun y hy => by
            have hy2 : y ∈ s.os := by
              rcases List.mem_append.1 hy with hy | hy
              · exact HR6.out.sub y hy
              · obtain rfl := List.mem_singleton.1 hy
                exact HXM.out
            obtain ⟨k, hk⟩ := List.mem_iff_getElem?.1 hy2
            exact (HO.out.below (below_grown2 (Nat.le_refl _) HR6.out.below hg7 (fun k hk => by have := HR6.out.own.blk k hk; have := HR6.out.lt; omega))).wf hk)
          obtain ⟨o7, cap7, rfl, _, _, _⟩ := hO7.form HW7.out
          obtain ⟨ml, hml⟩ : ∃ ml, (l ++ [x]).length = ml := ⟨_, rfl⟩
          rw [hml] at HO7 ⊢
          clear ho7 hg7 r7 s7 hO7 k1 k2 hml
          refine hK.out _ _ (fun _ => ⟨e1, e2⟩) ?_
          clear hK K
          (try simp only [Act.put, List.getElem_toArray, List.getElem_cons_zero, List.getElem_cons_succ, List.setIfInBounds_toArray, List.set_cons_zero, List.set_cons_succ])
          refine heldz_take (fun _ => trivial) [10] 9 (?_) (by kernel_rfl) rfl (by kernel_rfl) (fun _ _ _ h => h) ⟨e1, e2⟩ (by kernel_rfl) ?_ ?_
          rotate_left
          · intro wz hSw; (first | (go_simp; done) | (go_simp; with_reducible rfl))
          (try simp only [Act.put, List.getElem_toArray, List.getElem_cons_zero, List.getElem_cons_succ, List.setIfInBounds_toArray, List.set_cons_zero, List.set_cons_succ])
          refine heldz_step (fun _ => trivial) 10 (by kernel_rfl) rfl (fun K hK => ?_)
          go_simp
          refine hK.out _ _ (fun h => by cases h) ?_
          clear hK K
          refine heldz_done (by kernel_rfl) ?_ _
          refine hK5 _ _ ?_
          have HE := Lib.hid (HR6.out.step HS.out HO7.out HXM.out HG7.out)
          have HDE9 : Hid (∀ u, Below D.heap.size D (X7.setCell ⟨b4, 18, none⟩ u)) := Lib.hid (fun u => (below_grown2 (Nat.le_refl _) (bnext HRD.out HH6.out) HG7.out (fun k hk => by have := HR6.out.own.blk k hk; have := HB4.out; omega)).setCell (p := ⟨b4, 18, none⟩) (by show _ ≤ b4; have := HB4.out; omega) _)
          clear e1 e2 f7 HO7 HG7 HR6 HN6 HIO HRX hK5 HW7 c1 c2 HR
          go_wp2_with fail
          go_roundg (n - (jj + 1))
          case measure => omega
          case rel => exact ⟨jj + 1, _, rfl, by have := HM.out; congr 1; omega, by omega, by rw [HNX.out]; exact HE.out, HDE9.out _⟩
        · obtain rfl : n = jj := by omega
          have t2 : ¬ (0 : Int) ≤ (n : Int) - 1 - (n : Int) := by omega
          rw [Nat.sub_self, List.drop_zero] at HR
          have HMX := Lib.hid (HMF.out.below HRD.out)
          have HLX := Lib.hid (HLK.out.below HRD.out)
          clear c1 c2 HRD
          go_wp2_with fail
          refine HK2.out _ _ ?_
          exact HTL.out b4 v wr HMX.out HLX.out HR.out _ _ _ _ _ _ _ _ _ _ _ _ _ _ _ _ _ _ _ _ _ _ _ _ _ _ _ _ _ _ _ _ _ _ _ _ _ _ _ _ _ _ _ _ _ _ _ _ _ _ _ _ _ _ _ _ _ _ _ _ _ _ _ _ _ _ _ _ _ _ _ _ _ _ _ _ _ _ _ _ _ _ _ _ _ _ _ _ _ _ _ _ _ _ _ _ _ _ _ _ _ _ _ _ _ _ _ _ _ _ _ _ _ _ _ _ _ _ _ _ _ _ _ _ _ _ _ _ _ _ _ _ _ _ _ _ _ _ _ _ _ _ _ _ _ _ _ _ _ _ _ _ _ _ _ _ _ _ _ _ _ _ _ _ _ _ _ _ _ _ _
end Go.Proofs.Ytildnadkfonlhaa.Fx
