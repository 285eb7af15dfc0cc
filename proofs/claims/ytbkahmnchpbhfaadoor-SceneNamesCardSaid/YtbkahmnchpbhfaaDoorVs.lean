/- SceneNames, walked. 
  SceneNames: plain facts of its seven scenes. 
  SceneNames, walked. -/
import Derived.Test.YtbkahmnchpbhfaaDoorProg
import Derived.Test.YtbkahmnchpbhfaaDoorVo
import Derived.Test.YtbkahmnchpbhfaaDoorVj
import Derived.Test.YtbkahmnchpbhfaaDoorVt
set_option linter.unusedVariables false
set_option linter.unusedSimpArgs false
namespace Go.Proofs.YtbkahmnchpbhfaaDoor.Fx
open Go Go.RowKit Go.Shelf
attribute [local go_sem] Oper.semAt_some
/-- cells laid from a place on -/
def putAll (cs : Array Value) (o : Nat) : List Value → Array Value
  | [] => cs
  | v :: vs => putAll (cs.setIfInBounds o v) (o + 1) vs
theorem row_setCells {t : TypeId} {b : Nat} : ∀ (vs : List Value) (o : Nat) (cs : Array Value) (W : World), RowAt t b cs W → RowAt t b (putAll cs o vs) (W.setCells b o vs)
  | [], _, _, _, h => h
  | v :: vs, o, cs, W, h => row_setCells vs (o + 1) _ _ (heap_setCell_same W _ o _ _ v h)
theorem other_setCells {t : TypeId} {g b : Nat} (hg : g ≠ b) : ∀ (vs : List Value) (o : Nat) (cs : Array Value) (W : World), RowAt t g cs W → RowAt t g cs (W.setCells b o vs)
  | [], _, _, _, h => h
  | v :: vs, o, cs, W, h => other_setCells hg vs (o + 1) _ _ (RowAt.cellset h hg)
theorem below_setCells {B b : Nat} {w : World} (hb : B ≤ b) : ∀ (vs : List Value) (o : Nat) (W : World), Below B w W → Below B w (W.setCells b o vs)
  | [], _, _, h => h
  | v :: vs, o, W, h => below_setCells hb vs (o + 1) _ (h.setCell (p := ⟨b, o, none⟩) hb v)
theorem there_row {t : TypeId} {b : Nat} {cs : Array Value} {W : World} (h : RowAt t b cs W) {o n : Nat} (hn : o + n ≤ cs.size) : W.there b o n := fun j hj => by
  refine ⟨?_, frozen_row h⟩
  rw [cell_of_row _ _ _ _ _ _ h, Array.getElem?_eq_getElem (by omega)]
  rfl
/-- a scene of one object, laid in four rows -/
structure ScO (n bV bT bO : Nat) (s : ScR) (x : ObjR) (vc tc : Array Value) (W : World) : Prop where
  sc : RowAt 28 n (scC s) W
  ob : RowAt 43 bO (objL x).toArray W
  vs : RowAt 45 bV vc W
  ts : RowAt 39 bT tc W
section
variable {n bV bT bO : Nat} {s : ScR} {x : ObjR} {vc tc : Array Value} {W X : World}
theorem ScO.below (hb : Below W.heap.size W X) (i : ScO n bV bT bO s x vc tc W) : ScO n bV bT bO s x vc tc X := ⟨i.sc.below hb, i.ob.below hb, i.vs.below hb, i.ts.below hb⟩
theorem ScO.set {m j : Nat} (i : ScO n bV bT bO s x vc tc W) (u : Value) (h1 : n ≠ m) (h2 : bO ≠ m) (h3 : bV ≠ m) (h4 : bT ≠ m) : ScO n bV bT bO s x vc tc (W.setCell ⟨m, j, none⟩ u) :=
  ⟨i.sc.cellset h1, i.ob.cellset h2, i.vs.cellset h3, i.ts.cellset h4⟩
theorem ScO.sets {m j : Nat} (i : ScO n bV bT bO s x vc tc W) (us : List Value) (h1 : n ≠ m) (h2 : bO ≠ m) (h3 : bV ≠ m) (h4 : bT ≠ m) : ScO n bV bT bO s x vc tc (W.setCells m j us) :=
  ⟨other_setCells h1 us j _ _ i.sc, other_setCells h2 us j _ _ i.ob, other_setCells h3 us j _ _ i.vs, other_setCells h4 us j _ _ i.ts⟩
theorem ScO.setT {j : Nat} (i : ScO n bV bT bO s x vc tc W) (u : Value) : ScO n bV bT bO s x vc (tc.setIfInBounds j u) (W.setCell ⟨bT, j, none⟩ u) :=
  ⟨i.sc.cellset (row_ne i.sc i.ts (by decide)), i.ob.cellset (row_ne i.ob i.ts (by decide)), i.vs.cellset (row_ne i.vs i.ts (by decide)), heap_setCell_same _ _ j _ _ u i.ts⟩
theorem ScO.setV {j : Nat} (i : ScO n bV bT bO s x vc tc W) (u : Value) : ScO n bV bT bO s x (vc.setIfInBounds j u) tc (W.setCell ⟨bV, j, none⟩ u) :=
  ⟨i.sc.cellset (row_ne i.sc i.vs (by decide)), i.ob.cellset (row_ne i.ob i.vs (by decide)), heap_setCell_same _ _ j _ _ u i.vs, i.ts.cellset (row_ne i.ts i.vs (by decide))⟩
theorem ScO.setO {j : Nat} (i : ScO n bV bT bO s x vc tc W) (u : Value) (x' : ObjR) (h : (objL x).toArray.setIfInBounds j u = (objL x').toArray) : ScO n bV bT bO s x' vc tc (W.setCell ⟨bO, j, none⟩ u) :=
  ⟨i.sc.cellset (row_ne i.sc i.ob (by decide)), by rw [← h]; exact heap_setCell_same _ _ j _ _ u i.ob, i.vs.cellset (row_ne i.vs i.ob (by decide)), i.ts.cellset (row_ne i.ts i.ob (by decide))⟩
theorem ScO.setS {j : Nat} (i : ScO n bV bT bO s x vc tc W) (u : Value) (s' : ScR) (h : (scC s).setIfInBounds j u = scC s') : ScO n bV bT bO s' x vc tc (W.setCell ⟨n, j, none⟩ u) :=
  ⟨by rw [← h]; exact heap_setCell_same _ _ j _ _ u i.sc, i.ob.cellset (row_ne i.ob i.sc (by decide)), i.vs.cellset (row_ne i.vs i.sc (by decide)), i.ts.cellset (row_ne i.ts i.sc (by decide))⟩
theorem ScO.setSs {j : Nat} (i : ScO n bV bT bO s x vc tc W) (us : List Value) (s' : ScR) (h : putAll (scC s) j us = scC s') : ScO n bV bT bO s' x vc tc (W.setCells n j us) :=
  ⟨by rw [← h]; exact row_setCells us j _ _ i.sc, other_setCells (row_ne i.ob i.sc (by decide)) us j _ _ i.ob, other_setCells (row_ne i.vs i.sc (by decide)) us j _ _ i.vs, other_setCells (row_ne i.ts i.sc (by decide)) us j _ _ i.ts⟩
theorem ScO.setOs {j : Nat} (i : ScO n bV bT bO s x vc tc W) (us : List Value) (x' : ObjR) (h : putAll (objL x).toArray j us = (objL x').toArray) : ScO n bV bT bO s x' vc tc (W.setCells bO j us) :=
  ⟨other_setCells (row_ne i.sc i.ob (by decide)) us j _ _ i.sc, by rw [← h]; exact row_setCells us j _ _ i.ob, other_setCells (row_ne i.vs i.ob (by decide)) us j _ _ i.vs, other_setCells (row_ne i.ts i.ob (by decide)) us j _ _ i.ts⟩
end
/-- where a scene's blocks lie -/
structure Rng (a b bV bT bO : Nat) : Prop where
  v0 : a ≤ bV
  v1 : bV < b
  t0 : a ≤ bT
  t1 : bT < b
  o0 : a ≤ bO
  o1 : bO < b
theorem sm_rng {w w1 : World} {bV bT bO : Nat} (s : SomeAt bV bT bO w1) (h1 : w.heap.size ≤ bV) (h2 : w.heap.size ≤ bT) (h3 : w.heap.size ≤ bO) : Rng w.heap.size w1.heap.size bV bT bO := ⟨h1, s.vs.lt, h2, s.ts.lt, h3, s.os.lt⟩
def grt : List Int := scl 16777216 16777216 16777216
/-- the seven scenes -/
def nA (bV bT bO : Nat) : ScR := ⟨4, 3, idl, some ⟨bO, 0, none⟩, [⟨7, idl, some ⟨bV, 0, none⟩, [[0, 0, 0], [0, 0, 0], [0, 0, 0]], 3, some ⟨bT, 0, none⟩, [⟨0, 1, 3, 0⟩], 1⟩], 1⟩
def oB (bV bT : Nat) : ObjR := ⟨7, grt, some ⟨bV, 0, none⟩, [[0, 0, 0], [0, 0, 0], [0, 0, 0]], 3, some ⟨bT, 0, none⟩, [⟨0, 1, 2, 0⟩], 1⟩
def nB (bV bT bO : Nat) : ScR := ⟨4, 3, grt, some ⟨bO, 0, none⟩, [oB bV bT], 1⟩
def nB0 (bV bT bO : Nat) : ScR := ⟨4, 3, grt, some ⟨bO, 0, none⟩, [obj0 bV bT], 1⟩
def idc : List Int := [65536, 0, 0, 0, 0, 65536, 16777217, 0, 0, 0, 65536, 0, 0, 0, 0, 65536]
def nC (bV bT bO : Nat) : ScR := ⟨4, 3, idc, some ⟨bO, 0, none⟩, [obj0 bV bT], 1⟩
def o00 : ObjR := ⟨0, zero16, none, [], 0, none, [], 0⟩
def nD (b : Nat) : ScR := ⟨4, 3, idl, some ⟨b, 0, none⟩, List.replicate 17 o00, 17⟩
def ide : List Int := [65536, 0, 0, 0, 0, 65536, 0, 0, 0, 0, 65536, 0, 0, 0, 0, -16777217]
def oE (bV bT : Nat) : ObjR := ⟨7, ide, some ⟨bV, 0, none⟩, [[0, 0, 0], [0, 0, 0], [0, 0, 0]], 3, some ⟨bT, 0, none⟩, [⟨0, 1, 2, 0⟩], 1⟩
def nE (bV bT bO : Nat) : ScR := ⟨4, 3, idl, some ⟨bO, 0, none⟩, [oE bV bT], 1⟩
def nF (bV bT bO : Nat) : ScR := ⟨4, 3, idl, some ⟨bO, 0, none⟩, [⟨7, idl, some ⟨bV, 0, none⟩, [[0, 0, 0], [0, 0, 0], [0, 1073741825, 0]], 3, some ⟨bT, 0, none⟩, [⟨0, 1, 2, 0⟩], 1⟩], 1⟩
def oG (bE bT : Nat) : ObjR := ⟨7, idl, some ⟨bE, 0, none⟩, List.replicate 65 [0, 0, 0], 65, some ⟨bT, 0, none⟩, [⟨0, 1, 2, 0⟩], 1⟩
def nG (bE bT bO : Nat) : ScR := ⟨4, 3, idl, some ⟨bO, 0, none⟩, [oG bE bT], 1⟩
theorem zA (bV bT bO : Nat) : isZ (nA bV bT bO) 8 0 = true := by kernel_rfl
theorem zB (bV bT bO : Nat) : isZ (nB bV bT bO) 6 0 = true := by kernel_rfl
theorem zC (bV bT bO : Nat) : isZ (nC bV bT bO) 2 (-1) = true := by kernel_rfl
theorem zD (b : Nat) : isZ (nD b) 3 (-1) = true := by kernel_rfl
theorem zE (bV bT bO : Nat) : isZ (nE bV bT bO) 5 0 = true := by kernel_rfl
theorem zF (bV bT bO : Nat) : isZ (nF bV bT bO) 7 0 = true := by kernel_rfl
theorem zG (bE bT bO : Nat) : isZ (nG bE bT bO) 7 0 = true := by kernel_rfl
theorem num_all {m : List Int} (h : (m.all fun z => decide (-9223372036854775808 ≤ z) && decide (z ≤ 9223372036854775807)) = true) : ∀ j, Num (m.getD j 0) := fun j => by
  by_cases hj : j < m.length
  · rw [List.getD_eq_getElem?_getD, List.getElem?_eq_getElem hj]
    have := List.all_eq_true.1 h m[j] (List.getElem_mem hj)
    simp only [Bool.and_eq_true, decide_eq_true_eq] at this
    exact this
  · rw [List.getD_eq_getElem?_getD, List.getElem?_eq_none (by omega)]
    exact ⟨by decide, by decide⟩
theorem cap3 (b n : Nat) (h : n ≤ 1000) : CapOk (some ⟨b, 0, none⟩) n n := ⟨⟨Nat.le_refl _, by omega⟩, fun h => by cases h⟩
theorem objs_row {b : Nat} {l : List ObjR} {W : World} (h : RowAt 43 b (l.flatMap objL).toArray W) (hw : ∀ x ∈ l, ObjWf x ∧ VertsAt W x.vo x.vs ∧ TrisAt W x.tq x.ts) : ObjsAt W (some ⟨b, 0, none⟩) l := fun k z hk => by
  obtain ⟨h1, h2, h3⟩ := hw z (List.mem_of_getElem? hk)
  refine ⟨b, 0, rfl, fun j v hj => ?_, h2, h3, h1⟩
  have := flat_at (fun x hx => (hw x hx).1) hk j v hj
  rw [cell_of_row _ _ _ _ _ _ h, Nat.zero_add]
  simpa using this
theorem verts_row {b : Nat} {l : List (List Int)} {W : World} (h : RowAt 45 b (l.flatMap fun v => v.map encI).toArray W) (hw : ∀ v ∈ l, VertWf v) : VertsAt W (some ⟨b, 0, none⟩) l := fun k z hk => by
  refine ⟨b, 0, rfl, fun j v hj => ?_, hw z (List.mem_of_getElem? hk)⟩
  rw [cell_of_row _ _ _ _ _ _ h, Nat.zero_add]
  have key : ∀ (l : List (List Int)) (k : Nat), (∀ v ∈ l, VertWf v) → l[k]? = some z → (l.flatMap fun v => v.map encI)[k * 3 + j]? = some v := by
    intro l
    induction l with
    | nil => intro k _ h; simp at h
    | cons y t ih =>
      intro k hw h
      have hy : (y.map encI).length = 3 := by rw [List.length_map]; exact (hw y (by simp)).len
      rw [List.flatMap_cons]
      cases k with
      | zero =>
        simp at h
        subst h
        rw [Nat.zero_mul, Nat.zero_add, List.getElem?_append_left (List.getElem?_eq_some_iff.1 hj).1]
        exact hj
      | succ k =>
        rw [List.getElem?_append_right (by omega), hy, show (k + 1) * 3 + j - 3 = k * 3 + j by omega]
        exact ih k (fun u hu => hw u (by simp [hu])) (by simpa using h)
  have := key l k hw hk
  simpa using this
theorem tris_one {b : Nat} {t : TriR} {W : World} (h : RowAt 39 b (triL t).toArray W) (ht : TriWf t) : TrisAt W (some ⟨b, 0, none⟩) [t] := fun k z hk => by
  have hk3 : k = 0 := by have := (List.getElem?_eq_some_iff.1 hk).1; simp at this; omega
  subst hk3
  simp at hk
  subst hk
  refine ⟨b, 0, rfl, fun j v hj => ?_, ht⟩
  rw [cell_of_row _ _ _ _ _ _ h]
  simpa using hj
theorem make17 (w : World) : (Instr.makeSlice 26 (.int .i64 17) (.int .i64 17)).run Tryd.prog w = .ok (.slice (some ⟨w.heap.size, 0, none⟩) 17 17) (w.alloc (.cells ((List.replicate 17 o00).flatMap objL).toArray 43)) := by
  have hm : (Tryd.prog.info? 43).map (fun i => (i.zero, i.size, i.bytes)) = some (some (.agg (objL o00).toArray), 19, 184) := by kernel_rfl
  cases hi : Tryd.prog.info? 43 with
  | none => rw [hi] at hm; cases hm
  | some i =>
    rw [hi] at hm
    simp only [Option.map_some, Option.some.injEq, Prod.mk.injEq] at hm
    obtain ⟨hz, hs, hb⟩ := hm
    have := run_make w 26 43 i _ Tryd.underlying26 hi hz .i64 .i64 17 17 (by omega) (by omega) (by rw [hb]; omega) (by omega)
    rw [hs] at this
    exact this.trans (by kernel_rfl)
theorem make65 (w : World) : (Instr.makeSlice 40 (.int .i64 65) (.int .i64 65)).run Tryd.prog w = .ok (.slice (some ⟨w.heap.size, 0, none⟩) 65 65) (w.alloc (.cells ((List.replicate 65 [0, 0, 0]).flatMap fun v => v.map encI).toArray 45)) := by
  have hm : (Tryd.prog.info? 45).map (fun i => (i.zero, i.size, i.bytes)) = some (some (.agg #[.int .i64 0, .int .i64 0, .int .i64 0]), 3, 24) := by kernel_rfl
  cases hi : Tryd.prog.info? 45 with
  | none => rw [hi] at hm; cases hm
  | some i =>
    rw [hi] at hm
    simp only [Option.map_some, Option.some.injEq, Prod.mk.injEq] at hm
    obtain ⟨hz, hs, hb⟩ := hm
    have := run_make w 40 45 i _ Tryd.underlying40 hi hz .i64 .i64 65 65 (by omega) (by omega) (by rw [hb]; omega) (by omega)
    rw [hs] at this
    exact this.trans (by kernel_rfl)
end Go.Proofs.YtbkahmnchpbhfaaDoor.Fx
set_option linter.unusedVariables false
set_option linter.unusedSimpArgs false
namespace Go.Proofs.YtbkahmnchpbhfaaDoor.Fx
open Go Go.RowKit Go.Shelf
attribute [local go_sem] Oper.semAt_some
theorem seven (w : World) (c : Array Value) (t : TypeId) {V : World} (h : (((((((w.alloc (.cells c t)).alloc (.cells c t)).alloc (.cells c t)).alloc (.cells c t)).alloc (.cells c t)).alloc (.cells c t)).alloc (.cells c t)) = V) : (RowAt t w.heap.size c V ∧ RowAt t (w.heap.size + 1) c V ∧ RowAt t (w.heap.size + 1 + 1) c V ∧ RowAt t (w.heap.size + 1 + 1 + 1) c V ∧ RowAt t (w.heap.size + 1 + 1 + 1 + 1) c V ∧ RowAt t (w.heap.size + 1 + 1 + 1 + 1 + 1) c V ∧ RowAt t (w.heap.size + 1 + 1 + 1 + 1 + 1 + 1) c V) ∧ Below w.heap.size w V := by
  subst h
  have h1 : RowAt t w.heap.size c (w.alloc (.cells c t)) := by
    have := RowAt.new w t c
    simpa only [World.size_alloc] using this
  have h2 : RowAt t (w.heap.size + 1) c ((w.alloc (.cells c t)).alloc (.cells c t)) := by
    have := RowAt.new (w.alloc (.cells c t)) t c
    simpa only [World.size_alloc] using this
  have h3 : RowAt t (w.heap.size + 1 + 1) c (((w.alloc (.cells c t)).alloc (.cells c t)).alloc (.cells c t)) := by
    have := RowAt.new ((w.alloc (.cells c t)).alloc (.cells c t)) t c
    simpa only [World.size_alloc] using this
  have h4 : RowAt t (w.heap.size + 1 + 1 + 1) c ((((w.alloc (.cells c t)).alloc (.cells c t)).alloc (.cells c t)).alloc (.cells c t)) := by
    have := RowAt.new (((w.alloc (.cells c t)).alloc (.cells c t)).alloc (.cells c t)) t c
    simpa only [World.size_alloc] using this
  have h5 : RowAt t (w.heap.size + 1 + 1 + 1 + 1) c (((((w.alloc (.cells c t)).alloc (.cells c t)).alloc (.cells c t)).alloc (.cells c t)).alloc (.cells c t)) := by
    have := RowAt.new ((((w.alloc (.cells c t)).alloc (.cells c t)).alloc (.cells c t)).alloc (.cells c t)) t c
    simpa only [World.size_alloc] using this
  have h6 : RowAt t (w.heap.size + 1 + 1 + 1 + 1 + 1) c ((((((w.alloc (.cells c t)).alloc (.cells c t)).alloc (.cells c t)).alloc (.cells c t)).alloc (.cells c t)).alloc (.cells c t)) := by
    have := RowAt.new (((((w.alloc (.cells c t)).alloc (.cells c t)).alloc (.cells c t)).alloc (.cells c t)).alloc (.cells c t)) t c
    simpa only [World.size_alloc] using this
  have h7 : RowAt t (w.heap.size + 1 + 1 + 1 + 1 + 1 + 1) c (((((((w.alloc (.cells c t)).alloc (.cells c t)).alloc (.cells c t)).alloc (.cells c t)).alloc (.cells c t)).alloc (.cells c t)).alloc (.cells c t)) := by
    have := RowAt.new ((((((w.alloc (.cells c t)).alloc (.cells c t)).alloc (.cells c t)).alloc (.cells c t)).alloc (.cells c t)).alloc (.cells c t)) t c
    simpa only [World.size_alloc] using this
  refine ⟨⟨((((((h1.alloc _).alloc _).alloc _).alloc _).alloc _).alloc _), (((((h2.alloc _).alloc _).alloc _).alloc _).alloc _), ((((h3.alloc _).alloc _).alloc _).alloc _), (((h4.alloc _).alloc _).alloc _), ((h5.alloc _).alloc _), (h6.alloc _), h7⟩, ?_⟩
  exact (((((((Below.refl _ w).alloc (Nat.le_refl _) _).alloc (by simp <;> omega) _).alloc (by simp <;> omega) _).alloc (by simp <;> omega) _).alloc (by simp <;> omega) _).alloc (by simp <;> omega) _).alloc (by simp <;> omega) _
def v65 : Array Value := ((List.replicate 65 [0, 0, 0]).flatMap fun v => v.map encI).toArray
theorem make65b (w : World) : (Instr.makeSlice 40 (.int .i64 65) (.int .i64 65)).run Tryd.prog w = .ok (.slice (some ⟨w.heap.size, 0, none⟩) 65 65) (w.alloc (.cells v65 45)) := make65 w
theorem wfA (bV bT bO : Nat) : ScWf (nA bV bT bO) := ⟨(show Num 4 from ⟨by decide, by decide⟩), (show Num 3 from ⟨by decide, by decide⟩), rfl, idl_num, cap3 bO 1 (by omega)⟩
theorem wfB (bV bT bO : Nat) : ScWf (nB bV bT bO) := ⟨(show Num 4 from ⟨by decide, by decide⟩), (show Num 3 from ⟨by decide, by decide⟩), rfl, num_all (by kernel_rfl), cap3 bO 1 (by omega)⟩
theorem wfC (bV bT bO : Nat) : ScWf (nC bV bT bO) := ⟨(show Num 4 from ⟨by decide, by decide⟩), (show Num 3 from ⟨by decide, by decide⟩), rfl, num_all (by kernel_rfl), cap3 bO 1 (by omega)⟩
theorem wfD (b : Nat) : ScWf (nD b) := ⟨(show Num 4 from ⟨by decide, by decide⟩), (show Num 3 from ⟨by decide, by decide⟩), rfl, idl_num, cap3 b 17 (by omega)⟩
theorem wfE (bV bT bO : Nat) : ScWf (nE bV bT bO) := ⟨(show Num 4 from ⟨by decide, by decide⟩), (show Num 3 from ⟨by decide, by decide⟩), rfl, idl_num, cap3 bO 1 (by omega)⟩
theorem wfF (bV bT bO : Nat) : ScWf (nF bV bT bO) := ⟨(show Num 4 from ⟨by decide, by decide⟩), (show Num 3 from ⟨by decide, by decide⟩), rfl, idl_num, cap3 bO 1 (by omega)⟩
theorem wfG (bE bT bO : Nat) : ScWf (nG bE bT bO) := ⟨(show Num 4 from ⟨by decide, by decide⟩), (show Num 3 from ⟨by decide, by decide⟩), rfl, idl_num, cap3 bO 1 (by omega)⟩
theorem obA {n bV bT bO : Nat} {s : ScR} {W : World} (a : ScO n bV bT bO s (obj0 bV bT) #[.int .i64 0, .int .i64 0, .int .i64 0, .int .i64 0, .int .i64 0, .int .i64 0, .int .i64 0, .int .i64 0, .int .i64 0] #[.int .i64 0, .int .i64 1, .int .i64 3, .int .u32 0] W) : ObjsAt W (nA bV bT bO).oo (nA bV bT bO).os :=
  objs_one (x := ⟨7, idl, some ⟨bV, 0, none⟩, [[0, 0, 0], [0, 0, 0], [0, 0, 0]], 3, some ⟨bT, 0, none⟩, [⟨0, 1, 3, 0⟩], 1⟩) a.ob ⟨(show Num 7 from ⟨by decide, by decide⟩), rfl, idl_num, cap3 bV 3 (by omega), cap3 bT 1 (by omega)⟩ (verts_of a.vs) (tris_one (t := ⟨0, 1, 3, 0⟩) a.ts ⟨⟨by decide, by decide⟩, ⟨by decide, by decide⟩, ⟨by decide, by decide⟩, ⟨by decide, by decide⟩⟩)
theorem obB {n bV bT bO : Nat} {s : ScR} {W : World} (a : ScO n bV bT bO s (oB bV bT) #[.int .i64 0, .int .i64 0, .int .i64 0, .int .i64 0, .int .i64 0, .int .i64 0, .int .i64 0, .int .i64 0, .int .i64 0] #[.int .i64 0, .int .i64 1, .int .i64 2, .int .u32 0] W) : ObjsAt W (nB bV bT bO).oo (nB bV bT bO).os :=
  objs_one a.ob ⟨(show Num 7 from ⟨by decide, by decide⟩), rfl, num_all (by kernel_rfl), cap3 bV 3 (by omega), cap3 bT 1 (by omega)⟩ (verts_of a.vs) (tris_of a.ts)
theorem obC {n bV bT bO : Nat} {s : ScR} {W : World} (a : ScO n bV bT bO s (obj0 bV bT) #[.int .i64 0, .int .i64 0, .int .i64 0, .int .i64 0, .int .i64 0, .int .i64 0, .int .i64 0, .int .i64 0, .int .i64 0] #[.int .i64 0, .int .i64 1, .int .i64 2, .int .u32 0] W) : ObjsAt W (nC bV bT bO).oo (nC bV bT bO).os :=
  objs_one a.ob (obj_wf 7 ⟨by decide, by decide⟩ _ _) (verts_of a.vs) (tris_of a.ts)
theorem obE {n bV bT bO : Nat} {s : ScR} {W : World} (a : ScO n bV bT bO s (oE bV bT) #[.int .i64 0, .int .i64 0, .int .i64 0, .int .i64 0, .int .i64 0, .int .i64 0, .int .i64 0, .int .i64 0, .int .i64 0] #[.int .i64 0, .int .i64 1, .int .i64 2, .int .u32 0] W) : ObjsAt W (nE bV bT bO).oo (nE bV bT bO).os :=
  objs_one a.ob ⟨(show Num 7 from ⟨by decide, by decide⟩), rfl, num_all (by kernel_rfl), cap3 bV 3 (by omega), cap3 bT 1 (by omega)⟩ (verts_of a.vs) (tris_of a.ts)
theorem vert1_wf : VertWf [0, 1073741825, 0] := ⟨rfl, fun j => by
  match j with
  | 0 => exact ⟨by decide, by decide⟩
  | 1 => exact ⟨by decide, by decide⟩
  | 2 => exact ⟨by decide, by decide⟩
  | j + 3 => exact ⟨by simp, by simp⟩⟩
theorem obF {n bV bT bO : Nat} {s : ScR} {W : World} (a : ScO n bV bT bO s (obj0 bV bT) #[.int .i64 0, .int .i64 0, .int .i64 0, .int .i64 0, .int .i64 0, .int .i64 0, .int .i64 0, .int .i64 1073741825, .int .i64 0] #[.int .i64 0, .int .i64 1, .int .i64 2, .int .u32 0] W) : ObjsAt W (nF bV bT bO).oo (nF bV bT bO).os :=
  objs_one (x := ⟨7, idl, some ⟨bV, 0, none⟩, [[0, 0, 0], [0, 0, 0], [0, 1073741825, 0]], 3, some ⟨bT, 0, none⟩, [⟨0, 1, 2, 0⟩], 1⟩) a.ob ⟨(show Num 7 from ⟨by decide, by decide⟩), rfl, idl_num, cap3 bV 3 (by omega), cap3 bT 1 (by omega)⟩
    (verts_row (l := [[0, 0, 0], [0, 0, 0], [0, 1073741825, 0]]) a.vs (fun v hv => by
      simp only [List.mem_cons, List.not_mem_nil, or_false] at hv
      rcases hv with rfl | rfl | rfl
      · exact zero3_wf
      · exact zero3_wf
      · exact vert1_wf)) (tris_of a.ts)
theorem obG {bE bT bO : Nat} {W : World} (ho : RowAt 43 bO (objL (oG bE bT)).toArray W) (hv : RowAt 45 bE v65 W) (ht : RowAt 39 bT #[.int .i64 0, .int .i64 1, .int .i64 2, .int .u32 0] W) : ObjsAt W (nG bE bT bO).oo (nG bE bT bO).os :=
  objs_one ho ⟨(show Num 7 from ⟨by decide, by decide⟩), rfl, idl_num, cap3 bE 65 (by omega), cap3 bT 1 (by omega)⟩ (verts_row (l := List.replicate 65 [0, 0, 0]) hv (fun v hv => by obtain rfl := List.eq_of_mem_replicate hv; exact zero3_wf)) (tris_of ht)
theorem obD {b : Nat} {W : World} (ho : RowAt 43 b ((List.replicate 17 o00).flatMap objL).toArray W) : ObjsAt W (nD b).oo (nD b).os :=
  objs_row ho (fun x hx => by
    obtain rfl := List.eq_of_mem_replicate hx
    exact ⟨⟨⟨by decide, by decide⟩, rfl, num_all (by kernel_rfl), ⟨⟨Nat.le_refl _, by decide⟩, fun _ => rfl⟩, ⟨⟨Nat.le_refl _, by decide⟩, fun _ => rfl⟩⟩, fun k z hk => by simp [o00] at hk, fun k z hk => by simp [o00] at hk⟩)
theorem few0 (bV bT bO : Nat) : Few (some0 bV bT bO) := ⟨by show 1 ≤ 20; omega, fun x hx => by
  obtain rfl : x = obj0 bV bT := by simpa [some0] using hx
  exact ⟨by show 3 ≤ 80; omega, by show 1 ≤ 80; omega⟩⟩
theorem put1 (bV bT bO : Nat) : putAll (scC (some0 bV bT bO)) 2 (mC grt).toList = scC (nB0 bV bT bO) := by kernel_rfl
theorem put2 (bV bT : Nat) : putAll (objL (obj0 bV bT)).toArray 1 (mC grt).toList = (objL (oB bV bT)).toArray := by kernel_rfl
theorem put3 (bV bT bO : Nat) : (scC (some0 bV bT bO)).setIfInBounds 8 (.int .i64 16777217) = scC (nC bV bT bO) := by kernel_rfl
theorem put4 (bV bT : Nat) : (objL (obj0 bV bT)).toArray.setIfInBounds 16 (.int .i64 (-16777217)) = (objL (oE bV bT)).toArray := by kernel_rfl
theorem put5 (bV bT bE : Nat) : (objL (obj0 bV bT)).toArray.setIfInBounds 17 (.slice (some ⟨bE, 0, none⟩) 65 65) = (objL (oG bE bT)).toArray := by kernel_rfl
theorem put6 (bV bT bO b : Nat) : (scC (some0 bV bT bO)).setIfInBounds 18 (.slice (some ⟨b, 0, none⟩) 17 17) = scC (nD b) := by kernel_rfl
theorem cA (bV bT bO : Nat) : scC (some0 bV bT bO) = scC (nA bV bT bO) := by kernel_rfl
theorem cB (bV bT bO : Nat) : scC (nB0 bV bT bO) = scC (nB bV bT bO) := by kernel_rfl
theorem cE (bV bT bO : Nat) : scC (some0 bV bT bO) = scC (nE bV bT bO) := by kernel_rfl
theorem cF (bV bT bO : Nat) : scC (some0 bV bT bO) = scC (nF bV bT bO) := by kernel_rfl
theorem cG (bV bT bO : Nat) {bE : Nat} : scC (some0 bV bT bO) = scC (nG bE bT bO) := by kernel_rfl
theorem find7 (bV bT bO : Nat) : findZ (some0 bV bT bO).os 7 = some 0 := by kernel_rfl
theorem find8 (bV bT bO : Nat) : findZ (some0 bV bT bO).os 8 = none := by kernel_rfl
theorem both1 (bV bT bO : Nat) : bothO (some0 bV bT bO) 1 = none := by kernel_rfl
theorem sumv (bV bT bO : Nat) : sumV (some0 bV bT bO).os = 3 := by kernel_rfl
theorem sumt (bV bT bO : Nat) : sumT (some0 bV bT bO).os = 1 := by kernel_rfl
end Go.Proofs.YtbkahmnchpbhfaaDoor.Fx
set_option linter.unusedVariables false
set_option linter.unusedSimpArgs false
namespace Go.Proofs.YtbkahmnchpbhfaaDoor.Fx
open Go Go.RowKit Go.Shelf
attribute [local go_sem] Oper.semAt_some
set_option maxRecDepth 100000 in
set_option maxHeartbeats 2000000 in
theorem law_sceneNames (w : World) (hN : NamesAt w) : Calls Tryd.prog 4 #[] w (RetBool true w) := by
  have HNM := Lib.hid hN
  clear hN
  go_enter Tryd.func4, Tryd.ntmps4
  go_wp2_with fail
  refine (some_any _).mono ?_
  rintro e w1 ⟨bV1, bT1, bO1, rfl, s0, gV, gT, gO, hb⟩
  have R1 := Lib.hid (sm_rng s0 gV gT gO)
  have S1 := Lib.hid s0
  have BB1 := Lib.hid (hb)
  clear s0 gV gT gO hb
  go_wp2_with fail
  refine (some_any _).mono ?_
  rintro e w2 ⟨bV2, bT2, bO2, rfl, s0, gV, gT, gO, hb⟩
  have R2 := Lib.hid (sm_rng s0 gV gT gO)
  replace S1 := Lib.hid (S1.out.below hb)
  have S2 := Lib.hid s0
  have BB2 := Lib.hid (bnext BB1.out hb)
  clear s0 gV gT gO hb BB1
  go_wp2_with fail
  refine (some_any _).mono ?_
  rintro e w3 ⟨bV3, bT3, bO3, rfl, s0, gV, gT, gO, hb⟩
  have R3 := Lib.hid (sm_rng s0 gV gT gO)
  replace S1 := Lib.hid (S1.out.below hb)
  replace S2 := Lib.hid (S2.out.below hb)
  have S3 := Lib.hid s0
  have BB3 := Lib.hid (bnext BB2.out hb)
  clear s0 gV gT gO hb BB2
  go_wp2_with fail
  refine (some_any _).mono ?_
  rintro e w4 ⟨bV4, bT4, bO4, rfl, s0, gV, gT, gO, hb⟩
  have R4 := Lib.hid (sm_rng s0 gV gT gO)
  replace S1 := Lib.hid (S1.out.below hb)
  replace S2 := Lib.hid (S2.out.below hb)
  replace S3 := Lib.hid (S3.out.below hb)
  have S4 := Lib.hid s0
  have BB4 := Lib.hid (bnext BB3.out hb)
  clear s0 gV gT gO hb BB3
  go_wp2_with fail
  refine (some_any _).mono ?_
  rintro e w5 ⟨bV5, bT5, bO5, rfl, s0, gV, gT, gO, hb⟩
  have R5 := Lib.hid (sm_rng s0 gV gT gO)
  replace S1 := Lib.hid (S1.out.below hb)
  replace S2 := Lib.hid (S2.out.below hb)
  replace S3 := Lib.hid (S3.out.below hb)
  replace S4 := Lib.hid (S4.out.below hb)
  have S5 := Lib.hid s0
  have BB5 := Lib.hid (bnext BB4.out hb)
  clear s0 gV gT gO hb BB4
  go_wp2_with fail
  refine (some_any _).mono ?_
  rintro e w6 ⟨bV6, bT6, bO6, rfl, s0, gV, gT, gO, hb⟩
  have R6 := Lib.hid (sm_rng s0 gV gT gO)
  replace S1 := Lib.hid (S1.out.below hb)
  replace S2 := Lib.hid (S2.out.below hb)
  replace S3 := Lib.hid (S3.out.below hb)
  replace S4 := Lib.hid (S4.out.below hb)
  replace S5 := Lib.hid (S5.out.below hb)
  have S6 := Lib.hid s0
  have BB6 := Lib.hid (bnext BB5.out hb)
  clear s0 gV gT gO hb BB5
  go_wp2_with fail
  refine (some_any _).mono ?_
  rintro e w7 ⟨bV7, bT7, bO7, rfl, s0, gV, gT, gO, hb⟩
  have R7 := Lib.hid (sm_rng s0 gV gT gO)
  replace S1 := Lib.hid (S1.out.below hb)
  replace S2 := Lib.hid (S2.out.below hb)
  replace S3 := Lib.hid (S3.out.below hb)
  replace S4 := Lib.hid (S4.out.below hb)
  replace S5 := Lib.hid (S5.out.below hb)
  replace S6 := Lib.hid (S6.out.below hb)
  have S7 := Lib.hid s0
  have BB7 := Lib.hid (bnext BB6.out hb)
  clear s0 gV gT gO hb BB6
  have LT : Hid (w.heap.size ≤ bV1 ∧ bV1 < w1.heap.size ∧ w.heap.size ≤ bT1 ∧ bT1 < w1.heap.size ∧ w.heap.size ≤ bO1 ∧ bO1 < w1.heap.size ∧ w1.heap.size ≤ bV2 ∧ bV2 < w2.heap.size ∧ w1.heap.size ≤ bT2 ∧ bT2 < w2.heap.size ∧ w1.heap.size ≤ bO2 ∧ bO2 < w2.heap.size ∧ w2.heap.size ≤ bV3 ∧ bV3 < w3.heap.size ∧ w2.heap.size ≤ bT3 ∧ bT3 < w3.heap.size ∧ w2.heap.size ≤ bO3 ∧ bO3 < w3.heap.size ∧ w3.heap.size ≤ bV4 ∧ bV4 < w4.heap.size ∧ w3.heap.size ≤ bT4 ∧ bT4 < w4.heap.size ∧ w3.heap.size ≤ bO4 ∧ bO4 < w4.heap.size ∧ w4.heap.size ≤ bV5 ∧ bV5 < w5.heap.size ∧ w4.heap.size ≤ bT5 ∧ bT5 < w5.heap.size ∧ w4.heap.size ≤ bO5 ∧ bO5 < w5.heap.size ∧ w5.heap.size ≤ bV6 ∧ bV6 < w6.heap.size ∧ w5.heap.size ≤ bT6 ∧ bT6 < w6.heap.size ∧ w5.heap.size ≤ bO6 ∧ bO6 < w6.heap.size ∧ w6.heap.size ≤ bV7 ∧ bV7 < w7.heap.size ∧ w6.heap.size ≤ bT7 ∧ bT7 < w7.heap.size ∧ w6.heap.size ≤ bO7 ∧ bO7 < w7.heap.size) := Lib.hid ⟨R1.out.v0, R1.out.v1, R1.out.t0, R1.out.t1, R1.out.o0, R1.out.o1, R2.out.v0, R2.out.v1, R2.out.t0, R2.out.t1, R2.out.o0, R2.out.o1, R3.out.v0, R3.out.v1, R3.out.t0, R3.out.t1, R3.out.o0, R3.out.o1, R4.out.v0, R4.out.v1, R4.out.t0, R4.out.t1, R4.out.o0, R4.out.o1, R5.out.v0, R5.out.v1, R5.out.t0, R5.out.t1, R5.out.o0, R5.out.o1, R6.out.v0, R6.out.v1, R6.out.t0, R6.out.t1, R6.out.o0, R6.out.o1, R7.out.v0, R7.out.v1, R7.out.t0, R7.out.t1, R7.out.o0, R7.out.o1⟩
  obtain ⟨V0, hV0⟩ : ∃ V, (((((((w7.alloc (.cells #[.int .i64 0, .int .i64 0, .int .i64 0, .int .i64 0, .int .i64 0, .int .i64 0, .int .i64 0, .int .i64 0, .int .i64 0, .int .i64 0, .int .i64 0, .int .i64 0, .int .i64 0, .int .i64 0, .int .i64 0, .int .i64 0, .int .i64 0, .int .i64 0, .slice none 0 0] 28)).alloc (.cells #[.int .i64 0, .int .i64 0, .int .i64 0, .int .i64 0, .int .i64 0, .int .i64 0, .int .i64 0, .int .i64 0, .int .i64 0, .int .i64 0, .int .i64 0, .int .i64 0, .int .i64 0, .int .i64 0, .int .i64 0, .int .i64 0, .int .i64 0, .int .i64 0, .slice none 0 0] 28)).alloc (.cells #[.int .i64 0, .int .i64 0, .int .i64 0, .int .i64 0, .int .i64 0, .int .i64 0, .int .i64 0, .int .i64 0, .int .i64 0, .int .i64 0, .int .i64 0, .int .i64 0, .int .i64 0, .int .i64 0, .int .i64 0, .int .i64 0, .int .i64 0, .int .i64 0, .slice none 0 0] 28)).alloc (.cells #[.int .i64 0, .int .i64 0, .int .i64 0, .int .i64 0, .int .i64 0, .int .i64 0, .int .i64 0, .int .i64 0, .int .i64 0, .int .i64 0, .int .i64 0, .int .i64 0, .int .i64 0, .int .i64 0, .int .i64 0, .int .i64 0, .int .i64 0, .int .i64 0, .slice none 0 0] 28)).alloc (.cells #[.int .i64 0, .int .i64 0, .int .i64 0, .int .i64 0, .int .i64 0, .int .i64 0, .int .i64 0, .int .i64 0, .int .i64 0, .int .i64 0, .int .i64 0, .int .i64 0, .int .i64 0, .int .i64 0, .int .i64 0, .int .i64 0, .int .i64 0, .int .i64 0, .slice none 0 0] 28)).alloc (.cells #[.int .i64 0, .int .i64 0, .int .i64 0, .int .i64 0, .int .i64 0, .int .i64 0, .int .i64 0, .int .i64 0, .int .i64 0, .int .i64 0, .int .i64 0, .int .i64 0, .int .i64 0, .int .i64 0, .int .i64 0, .int .i64 0, .int .i64 0, .int .i64 0, .slice none 0 0] 28)).alloc (.cells #[.int .i64 0, .int .i64 0, .int .i64 0, .int .i64 0, .int .i64 0, .int .i64 0, .int .i64 0, .int .i64 0, .int .i64 0, .int .i64 0, .int .i64 0, .int .i64 0, .int .i64 0, .int .i64 0, .int .i64 0, .int .i64 0, .int .i64 0, .int .i64 0, .slice none 0 0] 28)) = V := ⟨_, rfl⟩
  obtain ⟨⟨r1, r2, r3, r4, r5, r6, r7⟩, h07⟩ := seven w7 _ _ hV0
  obtain ⟨V1, hV1⟩ : ∃ V, V0.setRow w7.heap.size (scC (some0 bV1 bT1 bO1)) = V := ⟨_, rfl⟩
  obtain ⟨V2, hV2⟩ : ∃ V, V1.setRow (w7.heap.size + 1) (scC (some0 bV2 bT2 bO2)) = V := ⟨_, rfl⟩
  obtain ⟨V3, hV3⟩ : ∃ V, V2.setRow (w7.heap.size + 1 + 1) (scC (some0 bV3 bT3 bO3)) = V := ⟨_, rfl⟩
  obtain ⟨V4, hV4⟩ : ∃ V, V3.setRow (w7.heap.size + 1 + 1 + 1) (scC (some0 bV4 bT4 bO4)) = V := ⟨_, rfl⟩
  obtain ⟨V5, hV5⟩ : ∃ V, V4.setRow (w7.heap.size + 1 + 1 + 1 + 1) (scC (some0 bV5 bT5 bO5)) = V := ⟨_, rfl⟩
  obtain ⟨V6, hV6⟩ : ∃ V, V5.setRow (w7.heap.size + 1 + 1 + 1 + 1 + 1) (scC (some0 bV6 bT6 bO6)) = V := ⟨_, rfl⟩
  obtain ⟨V7, hV7⟩ : ∃ V, V6.setRow (w7.heap.size + 1 + 1 + 1 + 1 + 1 + 1) (scC (some0 bV7 bT7 bO7)) = V := ⟨_, rfl⟩
  have q1 : RowAt 28 w7.heap.size #[.int .i64 0, .int .i64 0, .int .i64 0, .int .i64 0, .int .i64 0, .int .i64 0, .int .i64 0, .int .i64 0, .int .i64 0, .int .i64 0, .int .i64 0, .int .i64 0, .int .i64 0, .int .i64 0, .int .i64 0, .int .i64 0, .int .i64 0, .int .i64 0, .slice none 0 0] V0 := by exact r1
  have q2 : RowAt 28 (w7.heap.size + 1) #[.int .i64 0, .int .i64 0, .int .i64 0, .int .i64 0, .int .i64 0, .int .i64 0, .int .i64 0, .int .i64 0, .int .i64 0, .int .i64 0, .int .i64 0, .int .i64 0, .int .i64 0, .int .i64 0, .int .i64 0, .int .i64 0, .int .i64 0, .int .i64 0, .slice none 0 0] V1 := by rw [← hV1]; exact (r2.other (by omega) _)
  have q3 : RowAt 28 (w7.heap.size + 1 + 1) #[.int .i64 0, .int .i64 0, .int .i64 0, .int .i64 0, .int .i64 0, .int .i64 0, .int .i64 0, .int .i64 0, .int .i64 0, .int .i64 0, .int .i64 0, .int .i64 0, .int .i64 0, .int .i64 0, .int .i64 0, .int .i64 0, .int .i64 0, .int .i64 0, .slice none 0 0] V2 := by rw [← hV2, ← hV1]; exact ((r3.other (by omega) _).other (by omega) _)
  have q4 : RowAt 28 (w7.heap.size + 1 + 1 + 1) #[.int .i64 0, .int .i64 0, .int .i64 0, .int .i64 0, .int .i64 0, .int .i64 0, .int .i64 0, .int .i64 0, .int .i64 0, .int .i64 0, .int .i64 0, .int .i64 0, .int .i64 0, .int .i64 0, .int .i64 0, .int .i64 0, .int .i64 0, .int .i64 0, .slice none 0 0] V3 := by rw [← hV3, ← hV2, ← hV1]; exact (((r4.other (by omega) _).other (by omega) _).other (by omega) _)
  have q5 : RowAt 28 (w7.heap.size + 1 + 1 + 1 + 1) #[.int .i64 0, .int .i64 0, .int .i64 0, .int .i64 0, .int .i64 0, .int .i64 0, .int .i64 0, .int .i64 0, .int .i64 0, .int .i64 0, .int .i64 0, .int .i64 0, .int .i64 0, .int .i64 0, .int .i64 0, .int .i64 0, .int .i64 0, .int .i64 0, .slice none 0 0] V4 := by rw [← hV4, ← hV3, ← hV2, ← hV1]; exact ((((r5.other (by omega) _).other (by omega) _).other (by omega) _).other (by omega) _)
  have q6 : RowAt 28 (w7.heap.size + 1 + 1 + 1 + 1 + 1) #[.int .i64 0, .int .i64 0, .int .i64 0, .int .i64 0, .int .i64 0, .int .i64 0, .int .i64 0, .int .i64 0, .int .i64 0, .int .i64 0, .int .i64 0, .int .i64 0, .int .i64 0, .int .i64 0, .int .i64 0, .int .i64 0, .int .i64 0, .int .i64 0, .slice none 0 0] V5 := by rw [← hV5, ← hV4, ← hV3, ← hV2, ← hV1]; exact (((((r6.other (by omega) _).other (by omega) _).other (by omega) _).other (by omega) _).other (by omega) _)
  have q7 : RowAt 28 (w7.heap.size + 1 + 1 + 1 + 1 + 1 + 1) #[.int .i64 0, .int .i64 0, .int .i64 0, .int .i64 0, .int .i64 0, .int .i64 0, .int .i64 0, .int .i64 0, .int .i64 0, .int .i64 0, .int .i64 0, .int .i64 0, .int .i64 0, .int .i64 0, .int .i64 0, .int .i64 0, .int .i64 0, .int .i64 0, .slice none 0 0] V6 := by rw [← hV6, ← hV5, ← hV4, ← hV3, ← hV2, ← hV1]; exact ((((((r7.other (by omega) _).other (by omega) _).other (by omega) _).other (by omega) _).other (by omega) _).other (by omega) _)
  have f1 : RowAt 28 w7.heap.size (scC (some0 bV1 bT1 bO1)) V7 := by rw [← hV7, ← hV6, ← hV5, ← hV4, ← hV3, ← hV2, ← hV1]; exact (((((((q1.row _).other (by omega) _).other (by omega) _).other (by omega) _).other (by omega) _).other (by omega) _).other (by omega) _)
  have f2 : RowAt 28 (w7.heap.size + 1) (scC (some0 bV2 bT2 bO2)) V7 := by rw [← hV7, ← hV6, ← hV5, ← hV4, ← hV3, ← hV2]; exact ((((((q2.row _).other (by omega) _).other (by omega) _).other (by omega) _).other (by omega) _).other (by omega) _)
  have f3 : RowAt 28 (w7.heap.size + 1 + 1) (scC (some0 bV3 bT3 bO3)) V7 := by rw [← hV7, ← hV6, ← hV5, ← hV4, ← hV3]; exact (((((q3.row _).other (by omega) _).other (by omega) _).other (by omega) _).other (by omega) _)
  have f4 : RowAt 28 (w7.heap.size + 1 + 1 + 1) (scC (some0 bV4 bT4 bO4)) V7 := by rw [← hV7, ← hV6, ← hV5, ← hV4]; exact ((((q4.row _).other (by omega) _).other (by omega) _).other (by omega) _)
  have f5 : RowAt 28 (w7.heap.size + 1 + 1 + 1 + 1) (scC (some0 bV5 bT5 bO5)) V7 := by rw [← hV7, ← hV6, ← hV5]; exact (((q5.row _).other (by omega) _).other (by omega) _)
  have f6 : RowAt 28 (w7.heap.size + 1 + 1 + 1 + 1 + 1) (scC (some0 bV6 bT6 bO6)) V7 := by rw [← hV7, ← hV6]; exact ((q6.row _).other (by omega) _)
  have f7 : RowAt 28 (w7.heap.size + 1 + 1 + 1 + 1 + 1 + 1) (scC (some0 bV7 bT7 bO7)) V7 := by rw [← hV7]; exact (q7.row _)
  have hb7 : Below w7.heap.size w7 V7 := by rw [← hV7, ← hV6, ← hV5, ← hV4, ← hV3, ← hV2, ← hV1]; exact (Below.row (Below.row (Below.row (Below.row (Below.row (Below.row (Below.row h07 (by omega) _) (by omega) _) (by omega) _) (by omega) _) (by omega) _) (by omega) _) (by omega) _)
  have A1 : Hid (ScO w7.heap.size bV1 bT1 bO1 (some0 bV1 bT1 bO1) (obj0 bV1 bT1) #[.int .i64 0, .int .i64 0, .int .i64 0, .int .i64 0, .int .i64 0, .int .i64 0, .int .i64 0, .int .i64 0, .int .i64 0] #[.int .i64 0, .int .i64 1, .int .i64 2, .int .u32 0] V7) := Lib.hid ⟨f1, (S1.out.below hb7).os, (S1.out.below hb7).vs, (S1.out.below hb7).ts⟩
  have A2 : Hid (ScO (w7.heap.size + 1) bV2 bT2 bO2 (some0 bV2 bT2 bO2) (obj0 bV2 bT2) #[.int .i64 0, .int .i64 0, .int .i64 0, .int .i64 0, .int .i64 0, .int .i64 0, .int .i64 0, .int .i64 0, .int .i64 0] #[.int .i64 0, .int .i64 1, .int .i64 2, .int .u32 0] V7) := Lib.hid ⟨f2, (S2.out.below hb7).os, (S2.out.below hb7).vs, (S2.out.below hb7).ts⟩
  have A3 : Hid (ScO (w7.heap.size + 1 + 1) bV3 bT3 bO3 (some0 bV3 bT3 bO3) (obj0 bV3 bT3) #[.int .i64 0, .int .i64 0, .int .i64 0, .int .i64 0, .int .i64 0, .int .i64 0, .int .i64 0, .int .i64 0, .int .i64 0] #[.int .i64 0, .int .i64 1, .int .i64 2, .int .u32 0] V7) := Lib.hid ⟨f3, (S3.out.below hb7).os, (S3.out.below hb7).vs, (S3.out.below hb7).ts⟩
  have A4 : Hid (ScO (w7.heap.size + 1 + 1 + 1) bV4 bT4 bO4 (some0 bV4 bT4 bO4) (obj0 bV4 bT4) #[.int .i64 0, .int .i64 0, .int .i64 0, .int .i64 0, .int .i64 0, .int .i64 0, .int .i64 0, .int .i64 0, .int .i64 0] #[.int .i64 0, .int .i64 1, .int .i64 2, .int .u32 0] V7) := Lib.hid ⟨f4, (S4.out.below hb7).os, (S4.out.below hb7).vs, (S4.out.below hb7).ts⟩
  have A5 : Hid (ScO (w7.heap.size + 1 + 1 + 1 + 1) bV5 bT5 bO5 (some0 bV5 bT5 bO5) (obj0 bV5 bT5) #[.int .i64 0, .int .i64 0, .int .i64 0, .int .i64 0, .int .i64 0, .int .i64 0, .int .i64 0, .int .i64 0, .int .i64 0] #[.int .i64 0, .int .i64 1, .int .i64 2, .int .u32 0] V7) := Lib.hid ⟨f5, (S5.out.below hb7).os, (S5.out.below hb7).vs, (S5.out.below hb7).ts⟩
  have A6 : Hid (ScO (w7.heap.size + 1 + 1 + 1 + 1 + 1) bV6 bT6 bO6 (some0 bV6 bT6 bO6) (obj0 bV6 bT6) #[.int .i64 0, .int .i64 0, .int .i64 0, .int .i64 0, .int .i64 0, .int .i64 0, .int .i64 0, .int .i64 0, .int .i64 0] #[.int .i64 0, .int .i64 1, .int .i64 2, .int .u32 0] V7) := Lib.hid ⟨f6, (S6.out.below hb7).os, (S6.out.below hb7).vs, (S6.out.below hb7).ts⟩
  have A7 : Hid (ScO (w7.heap.size + 1 + 1 + 1 + 1 + 1 + 1) bV7 bT7 bO7 (some0 bV7 bT7 bO7) (obj0 bV7 bT7) #[.int .i64 0, .int .i64 0, .int .i64 0, .int .i64 0, .int .i64 0, .int .i64 0, .int .i64 0, .int .i64 0, .int .i64 0] #[.int .i64 0, .int .i64 1, .int .i64 2, .int .u32 0] V7) := Lib.hid ⟨f7, (S7.out.below hb7).os, (S7.out.below hb7).vs, (S7.out.below hb7).ts⟩
  have BL : Hid (Below w.heap.size w V7) := Lib.hid (bnext BB7.out hb7)
  have Q1 := Lib.hid q1
  have Q2 := Lib.hid q2
  have Q3 := Lib.hid q3
  have Q4 := Lib.hid q4
  have Q5 := Lib.hid q5
  have Q6 := Lib.hid q6
  have Q7 := Lib.hid q7
  have HV0 := Lib.hid hV0
  have HV1 := Lib.hid hV1
  have HV2 := Lib.hid hV2
  have HV3 := Lib.hid hV3
  have HV4 := Lib.hid hV4
  have HV5 := Lib.hid hV5
  have HV6 := Lib.hid hV6
  have HV7 := Lib.hid hV7
  have HSZ : Hid ((Tryd.prog.info? 28).map (·.size) = some 19) := Lib.hid (by kernel_rfl)
  have HONE := Lib.hid (fun a b c : Nat => (show (scC (some0 a b c)).all (·.oneCell') = true by simp [scC, scL, some0, idl, scl, encI, Value.oneCell']))
  have c1 : V7.cell? ⟨w7.heap.size, 18, none⟩ = some (.slice (some ⟨bO1, 0, none⟩) 1 1) := by rw [cell_of_row _ _ _ _ _ _ A1.out.sc]; rfl
  have c2 : V7.cell? ⟨bO1, 18, none⟩ = some (.slice (some ⟨bT1, 0, none⟩) 1 1) := by rw [cell_of_row _ _ _ _ _ _ A1.out.ob]; rfl
  have c3 : V7.cell? ⟨bT1, 2, none⟩ = some (.int .i64 2) := by rw [cell_of_row _ _ _ _ _ _ A1.out.ts]; rfl
  have f8 : V7.frozen? ⟨bT1, 2, none⟩ = false := frozen_row A1.out.ts
  obtain ⟨X1, hX1⟩ : ∃ V, V7.setCell ⟨bT1, 2, none⟩ (.int .i64 3) = V := ⟨_, rfl⟩
  replace A1 : Hid (ScO w7.heap.size bV1 bT1 bO1 (some0 bV1 bT1 bO1) (obj0 bV1 bT1) #[.int .i64 0, .int .i64 0, .int .i64 0, .int .i64 0, .int .i64 0, .int .i64 0, .int .i64 0, .int .i64 0, .int .i64 0] #[.int .i64 0, .int .i64 1, .int .i64 3, .int .u32 0] X1) := Lib.hid (by rw [← hX1]; exact (A1.out.setT (j := 2) (.int .i64 3)))
  replace A2 : Hid (ScO (w7.heap.size + 1) bV2 bT2 bO2 (some0 bV2 bT2 bO2) (obj0 bV2 bT2) #[.int .i64 0, .int .i64 0, .int .i64 0, .int .i64 0, .int .i64 0, .int .i64 0, .int .i64 0, .int .i64 0, .int .i64 0] #[.int .i64 0, .int .i64 1, .int .i64 2, .int .u32 0] X1) := Lib.hid (by have lt := LT.out; rw [← hX1]; exact A2.out.set _ (by omega) (by omega) (by omega) (by omega))
  replace A3 : Hid (ScO (w7.heap.size + 1 + 1) bV3 bT3 bO3 (some0 bV3 bT3 bO3) (obj0 bV3 bT3) #[.int .i64 0, .int .i64 0, .int .i64 0, .int .i64 0, .int .i64 0, .int .i64 0, .int .i64 0, .int .i64 0, .int .i64 0] #[.int .i64 0, .int .i64 1, .int .i64 2, .int .u32 0] X1) := Lib.hid (by have lt := LT.out; rw [← hX1]; exact A3.out.set _ (by omega) (by omega) (by omega) (by omega))
  replace A4 : Hid (ScO (w7.heap.size + 1 + 1 + 1) bV4 bT4 bO4 (some0 bV4 bT4 bO4) (obj0 bV4 bT4) #[.int .i64 0, .int .i64 0, .int .i64 0, .int .i64 0, .int .i64 0, .int .i64 0, .int .i64 0, .int .i64 0, .int .i64 0] #[.int .i64 0, .int .i64 1, .int .i64 2, .int .u32 0] X1) := Lib.hid (by have lt := LT.out; rw [← hX1]; exact A4.out.set _ (by omega) (by omega) (by omega) (by omega))
  replace A5 : Hid (ScO (w7.heap.size + 1 + 1 + 1 + 1) bV5 bT5 bO5 (some0 bV5 bT5 bO5) (obj0 bV5 bT5) #[.int .i64 0, .int .i64 0, .int .i64 0, .int .i64 0, .int .i64 0, .int .i64 0, .int .i64 0, .int .i64 0, .int .i64 0] #[.int .i64 0, .int .i64 1, .int .i64 2, .int .u32 0] X1) := Lib.hid (by have lt := LT.out; rw [← hX1]; exact A5.out.set _ (by omega) (by omega) (by omega) (by omega))
  replace A6 : Hid (ScO (w7.heap.size + 1 + 1 + 1 + 1 + 1) bV6 bT6 bO6 (some0 bV6 bT6 bO6) (obj0 bV6 bT6) #[.int .i64 0, .int .i64 0, .int .i64 0, .int .i64 0, .int .i64 0, .int .i64 0, .int .i64 0, .int .i64 0, .int .i64 0] #[.int .i64 0, .int .i64 1, .int .i64 2, .int .u32 0] X1) := Lib.hid (by have lt := LT.out; rw [← hX1]; exact A6.out.set _ (by omega) (by omega) (by omega) (by omega))
  replace A7 : Hid (ScO (w7.heap.size + 1 + 1 + 1 + 1 + 1 + 1) bV7 bT7 bO7 (some0 bV7 bT7 bO7) (obj0 bV7 bT7) #[.int .i64 0, .int .i64 0, .int .i64 0, .int .i64 0, .int .i64 0, .int .i64 0, .int .i64 0, .int .i64 0, .int .i64 0] #[.int .i64 0, .int .i64 1, .int .i64 2, .int .u32 0] X1) := Lib.hid (by have lt := LT.out; rw [← hX1]; exact A7.out.set _ (by omega) (by omega) (by omega) (by omega))
  replace BL := Lib.hid (show Below w.heap.size w X1 by have lt := LT.out; rw [← hX1]; exact BL.out.setCell (p := ⟨bT1, 2, none⟩) (by show _ ≤ bT1; omega) _)
  have HX1 := Lib.hid hX1
  clear r1 q1 f1 S1 R1 hV1 r2 q2 f2 S2 R2 hV2 r3 q3 f3 S3 R3 hV3 r4 q4 f4 S4 R4 hV4 r5 q5 f5 S5 R5 hV5 r6 q6 f6 S6 R6 hV6 r7 q7 f7 S7 R7 hV7 hV0 h07 hb7 hX1 BB7
  go_wp2_with (first | (rw [HV0.out]) | (rw [HV1.out]) | (rw [HV2.out]) | (rw [HV3.out]) | (rw [HV4.out]) | (rw [HV5.out]) | (rw [HV6.out]) | (rw [HV7.out]) | (rw [HX1.out]) |
    (refine wpList_store_big rfl 28 (.tmp 1) (.tmp 21) rfl w7.heap.size _ _ (scC (some0 bV1 bT1 bO1)) rfl rfl Q1.out HSZ.out rfl (HONE.out _ _ _) ?_) |
    (refine wpList_store_big rfl 28 (.tmp 2) (.tmp 22) rfl (w7.heap.size + 1) _ _ (scC (some0 bV2 bT2 bO2)) rfl rfl Q2.out HSZ.out rfl (HONE.out _ _ _) ?_) |
    (refine wpList_store_big rfl 28 (.tmp 3) (.tmp 23) rfl (w7.heap.size + 1 + 1) _ _ (scC (some0 bV3 bT3 bO3)) rfl rfl Q3.out HSZ.out rfl (HONE.out _ _ _) ?_) |
    (refine wpList_store_big rfl 28 (.tmp 4) (.tmp 24) rfl (w7.heap.size + 1 + 1 + 1) _ _ (scC (some0 bV4 bT4 bO4)) rfl rfl Q4.out HSZ.out rfl (HONE.out _ _ _) ?_) |
    (refine wpList_store_big rfl 28 (.tmp 5) (.tmp 25) rfl (w7.heap.size + 1 + 1 + 1 + 1) _ _ (scC (some0 bV5 bT5 bO5)) rfl rfl Q5.out HSZ.out rfl (HONE.out _ _ _) ?_) |
    (refine wpList_store_big rfl 28 (.tmp 6) (.tmp 26) rfl (w7.heap.size + 1 + 1 + 1 + 1 + 1) _ _ (scC (some0 bV6 bT6 bO6)) rfl rfl Q6.out HSZ.out rfl (HONE.out _ _ _) ?_) |
    (refine wpList_store_big rfl 28 (.tmp 7) (.tmp 27) rfl (w7.heap.size + 1 + 1 + 1 + 1 + 1 + 1) _ _ (scC (some0 bV7 bT7 bO7)) rfl rfl Q7.out HSZ.out rfl (HONE.out _ _ _) ?_))
  clear c1 c2 c3 f8 HX1 HV0 HV1 HV2 HV3 HV4 HV5 HV6 HV7 Q1 Q2 Q3 Q4 Q5 Q6 Q7 HSZ HONE
  refine (scale_any 16777216 16777216 16777216 _).mono ?_
  rintro e Y0 ⟨rfl, hb⟩
  replace A1 := Lib.hid (A1.out.below hb)
  replace A2 := Lib.hid (A2.out.below hb)
  replace A3 := Lib.hid (A3.out.below hb)
  replace A4 := Lib.hid (A4.out.below hb)
  replace A5 := Lib.hid (A5.out.below hb)
  replace A6 := Lib.hid (A6.out.below hb)
  replace A7 := Lib.hid (A7.out.below hb)
  replace BL := Lib.hid (bnext BL.out hb)
  clear hb
  obtain ⟨Y1, hY1⟩ : ∃ V, Y0.alloc (.cells #[.int .i64 0, .int .i64 0, .int .i64 0, .int .i64 0, .int .i64 0, .int .i64 0, .int .i64 0, .int .i64 0, .int .i64 0, .int .i64 0, .int .i64 0, .int .i64 0, .int .i64 0, .int .i64 0, .int .i64 0, .int .i64 0] 25) = V := ⟨_, rfl⟩
  have m1 : RowAt 25 Y0.heap.size #[.int .i64 0, .int .i64 0, .int .i64 0, .int .i64 0, .int .i64 0, .int .i64 0, .int .i64 0, .int .i64 0, .int .i64 0, .int .i64 0, .int .i64 0, .int .i64 0, .int .i64 0, .int .i64 0, .int .i64 0, .int .i64 0] Y1 := by rw [← hY1]; exact RowAt.new _ _ _
  obtain ⟨Y2, hY2⟩ : ∃ V, Y1.setRow Y0.heap.size (mC grt) = V := ⟨_, rfl⟩
  have m2 : RowAt 25 Y0.heap.size (mC grt) Y2 := by rw [← hY2]; exact m1.row _
  have hb : Below Y0.heap.size Y0 Y2 := by rw [← hY2, ← hY1]; exact Below.row ((Below.refl _ Y0).alloc (Nat.le_refl _) _) (Nat.le_refl _) _
  replace A1 := Lib.hid (A1.out.below hb)
  replace A2 := Lib.hid (A2.out.below hb)
  replace A3 := Lib.hid (A3.out.below hb)
  replace A4 := Lib.hid (A4.out.below hb)
  replace A5 := Lib.hid (A5.out.below hb)
  replace A6 := Lib.hid (A6.out.below hb)
  replace A7 := Lib.hid (A7.out.below hb)
  replace BL := Lib.hid (bnext BL.out hb)
  clear hb
  have g4 : Y2.rangeAt Y0.heap.size 0 (grt.map encI) := fun j v hj => by rw [cell_of_row _ _ _ _ _ _ m2, Nat.zero_add]; simpa [mC] using hj
  have t4 : Y2.there (w7.heap.size + 1) 2 (mC grt).size := there_row A2.out.sc (Nat.le_of_ble_eq_true rfl)
  obtain ⟨Y3, hY3⟩ : ∃ V, Y2.setCells (w7.heap.size + 1) 2 (mC grt).toList = V := ⟨_, rfl⟩
  have m3 : RowAt 25 Y0.heap.size (mC grt) Y3 := by rw [← hY3]; exact other_setCells (row_ne m2 A2.out.sc (by decide)) _ _ _ _ m2
  replace A1 : Hid (ScO w7.heap.size bV1 bT1 bO1 (some0 bV1 bT1 bO1) (obj0 bV1 bT1) #[.int .i64 0, .int .i64 0, .int .i64 0, .int .i64 0, .int .i64 0, .int .i64 0, .int .i64 0, .int .i64 0, .int .i64 0] #[.int .i64 0, .int .i64 1, .int .i64 3, .int .u32 0] Y3) := Lib.hid (by have lt := LT.out; rw [← hY3]; exact A1.out.sets _ (by omega) (by omega) (by omega) (by omega))
  replace A2 : Hid (ScO (w7.heap.size + 1) bV2 bT2 bO2 (nB0 bV2 bT2 bO2) (obj0 bV2 bT2) #[.int .i64 0, .int .i64 0, .int .i64 0, .int .i64 0, .int .i64 0, .int .i64 0, .int .i64 0, .int .i64 0, .int .i64 0] #[.int .i64 0, .int .i64 1, .int .i64 2, .int .u32 0] Y3) := Lib.hid (by rw [← hY3]; exact (A2.out.setSs (j := 2) (mC grt).toList _ (put1 _ _ _)))
  replace A3 : Hid (ScO (w7.heap.size + 1 + 1) bV3 bT3 bO3 (some0 bV3 bT3 bO3) (obj0 bV3 bT3) #[.int .i64 0, .int .i64 0, .int .i64 0, .int .i64 0, .int .i64 0, .int .i64 0, .int .i64 0, .int .i64 0, .int .i64 0] #[.int .i64 0, .int .i64 1, .int .i64 2, .int .u32 0] Y3) := Lib.hid (by have lt := LT.out; rw [← hY3]; exact A3.out.sets _ (by omega) (by omega) (by omega) (by omega))
  replace A4 : Hid (ScO (w7.heap.size + 1 + 1 + 1) bV4 bT4 bO4 (some0 bV4 bT4 bO4) (obj0 bV4 bT4) #[.int .i64 0, .int .i64 0, .int .i64 0, .int .i64 0, .int .i64 0, .int .i64 0, .int .i64 0, .int .i64 0, .int .i64 0] #[.int .i64 0, .int .i64 1, .int .i64 2, .int .u32 0] Y3) := Lib.hid (by have lt := LT.out; rw [← hY3]; exact A4.out.sets _ (by omega) (by omega) (by omega) (by omega))
  replace A5 : Hid (ScO (w7.heap.size + 1 + 1 + 1 + 1) bV5 bT5 bO5 (some0 bV5 bT5 bO5) (obj0 bV5 bT5) #[.int .i64 0, .int .i64 0, .int .i64 0, .int .i64 0, .int .i64 0, .int .i64 0, .int .i64 0, .int .i64 0, .int .i64 0] #[.int .i64 0, .int .i64 1, .int .i64 2, .int .u32 0] Y3) := Lib.hid (by have lt := LT.out; rw [← hY3]; exact A5.out.sets _ (by omega) (by omega) (by omega) (by omega))
  replace A6 : Hid (ScO (w7.heap.size + 1 + 1 + 1 + 1 + 1) bV6 bT6 bO6 (some0 bV6 bT6 bO6) (obj0 bV6 bT6) #[.int .i64 0, .int .i64 0, .int .i64 0, .int .i64 0, .int .i64 0, .int .i64 0, .int .i64 0, .int .i64 0, .int .i64 0] #[.int .i64 0, .int .i64 1, .int .i64 2, .int .u32 0] Y3) := Lib.hid (by have lt := LT.out; rw [← hY3]; exact A6.out.sets _ (by omega) (by omega) (by omega) (by omega))
  replace A7 : Hid (ScO (w7.heap.size + 1 + 1 + 1 + 1 + 1 + 1) bV7 bT7 bO7 (some0 bV7 bT7 bO7) (obj0 bV7 bT7) #[.int .i64 0, .int .i64 0, .int .i64 0, .int .i64 0, .int .i64 0, .int .i64 0, .int .i64 0, .int .i64 0, .int .i64 0] #[.int .i64 0, .int .i64 1, .int .i64 2, .int .u32 0] Y3) := Lib.hid (by have lt := LT.out; rw [← hY3]; exact A7.out.sets _ (by omega) (by omega) (by omega) (by omega))
  replace BL := Lib.hid (show Below w.heap.size w Y3 by have lt := LT.out; rw [← hY3]; exact below_setCells (by omega) _ _ _ BL.out)
  have c5 : Y3.cell? ⟨(w7.heap.size + 1), 18, none⟩ = some (.slice (some ⟨bO2, 0, none⟩) 1 1) := by rw [cell_of_row _ _ _ _ _ _ A2.out.sc]; rfl
  have g5 : Y3.rangeAt Y0.heap.size 0 (grt.map encI) := fun j v hj => by rw [cell_of_row _ _ _ _ _ _ m3, Nat.zero_add]; simpa [mC] using hj
  have t5 : Y3.there bO2 1 (mC grt).size := there_row A2.out.ob (Nat.le_of_ble_eq_true rfl)
  obtain ⟨Y4, hY4⟩ : ∃ V, Y3.setCells bO2 1 (mC grt).toList = V := ⟨_, rfl⟩
  replace A1 : Hid (ScO w7.heap.size bV1 bT1 bO1 (some0 bV1 bT1 bO1) (obj0 bV1 bT1) #[.int .i64 0, .int .i64 0, .int .i64 0, .int .i64 0, .int .i64 0, .int .i64 0, .int .i64 0, .int .i64 0, .int .i64 0] #[.int .i64 0, .int .i64 1, .int .i64 3, .int .u32 0] Y4) := Lib.hid (by have lt := LT.out; rw [← hY4]; exact A1.out.sets _ (by omega) (by omega) (by omega) (by omega))
  replace A2 : Hid (ScO (w7.heap.size + 1) bV2 bT2 bO2 (nB0 bV2 bT2 bO2) (oB bV2 bT2) #[.int .i64 0, .int .i64 0, .int .i64 0, .int .i64 0, .int .i64 0, .int .i64 0, .int .i64 0, .int .i64 0, .int .i64 0] #[.int .i64 0, .int .i64 1, .int .i64 2, .int .u32 0] Y4) := Lib.hid (by rw [← hY4]; exact (A2.out.setOs (j := 1) (mC grt).toList _ (put2 _ _)))
  replace A3 : Hid (ScO (w7.heap.size + 1 + 1) bV3 bT3 bO3 (some0 bV3 bT3 bO3) (obj0 bV3 bT3) #[.int .i64 0, .int .i64 0, .int .i64 0, .int .i64 0, .int .i64 0, .int .i64 0, .int .i64 0, .int .i64 0, .int .i64 0] #[.int .i64 0, .int .i64 1, .int .i64 2, .int .u32 0] Y4) := Lib.hid (by have lt := LT.out; rw [← hY4]; exact A3.out.sets _ (by omega) (by omega) (by omega) (by omega))
  replace A4 : Hid (ScO (w7.heap.size + 1 + 1 + 1) bV4 bT4 bO4 (some0 bV4 bT4 bO4) (obj0 bV4 bT4) #[.int .i64 0, .int .i64 0, .int .i64 0, .int .i64 0, .int .i64 0, .int .i64 0, .int .i64 0, .int .i64 0, .int .i64 0] #[.int .i64 0, .int .i64 1, .int .i64 2, .int .u32 0] Y4) := Lib.hid (by have lt := LT.out; rw [← hY4]; exact A4.out.sets _ (by omega) (by omega) (by omega) (by omega))
  replace A5 : Hid (ScO (w7.heap.size + 1 + 1 + 1 + 1) bV5 bT5 bO5 (some0 bV5 bT5 bO5) (obj0 bV5 bT5) #[.int .i64 0, .int .i64 0, .int .i64 0, .int .i64 0, .int .i64 0, .int .i64 0, .int .i64 0, .int .i64 0, .int .i64 0] #[.int .i64 0, .int .i64 1, .int .i64 2, .int .u32 0] Y4) := Lib.hid (by have lt := LT.out; rw [← hY4]; exact A5.out.sets _ (by omega) (by omega) (by omega) (by omega))
  replace A6 : Hid (ScO (w7.heap.size + 1 + 1 + 1 + 1 + 1) bV6 bT6 bO6 (some0 bV6 bT6 bO6) (obj0 bV6 bT6) #[.int .i64 0, .int .i64 0, .int .i64 0, .int .i64 0, .int .i64 0, .int .i64 0, .int .i64 0, .int .i64 0, .int .i64 0] #[.int .i64 0, .int .i64 1, .int .i64 2, .int .u32 0] Y4) := Lib.hid (by have lt := LT.out; rw [← hY4]; exact A6.out.sets _ (by omega) (by omega) (by omega) (by omega))
  replace A7 : Hid (ScO (w7.heap.size + 1 + 1 + 1 + 1 + 1 + 1) bV7 bT7 bO7 (some0 bV7 bT7 bO7) (obj0 bV7 bT7) #[.int .i64 0, .int .i64 0, .int .i64 0, .int .i64 0, .int .i64 0, .int .i64 0, .int .i64 0, .int .i64 0, .int .i64 0] #[.int .i64 0, .int .i64 1, .int .i64 2, .int .u32 0] Y4) := Lib.hid (by have lt := LT.out; rw [← hY4]; exact A7.out.sets _ (by omega) (by omega) (by omega) (by omega))
  replace BL := Lib.hid (show Below w.heap.size w Y4 by have lt := LT.out; rw [← hY4]; exact below_setCells (by omega) _ _ _ BL.out)
  have c6 : Y4.cell? ⟨(w7.heap.size + 1 + 1), 8, none⟩ = some (.int .i64 0) := by rw [cell_of_row _ _ _ _ _ _ A3.out.sc]; rfl
  have f6 : Y4.frozen? ⟨(w7.heap.size + 1 + 1), 8, none⟩ = false := frozen_row A3.out.sc
  obtain ⟨Y5, hY5⟩ : ∃ V, Y4.setCell ⟨(w7.heap.size + 1 + 1), 8, none⟩ (.int .i64 16777217) = V := ⟨_, rfl⟩
  replace A1 : Hid (ScO w7.heap.size bV1 bT1 bO1 (some0 bV1 bT1 bO1) (obj0 bV1 bT1) #[.int .i64 0, .int .i64 0, .int .i64 0, .int .i64 0, .int .i64 0, .int .i64 0, .int .i64 0, .int .i64 0, .int .i64 0] #[.int .i64 0, .int .i64 1, .int .i64 3, .int .u32 0] Y5) := Lib.hid (by have lt := LT.out; rw [← hY5]; exact A1.out.set _ (by omega) (by omega) (by omega) (by omega))
  replace A2 : Hid (ScO (w7.heap.size + 1) bV2 bT2 bO2 (nB0 bV2 bT2 bO2) (oB bV2 bT2) #[.int .i64 0, .int .i64 0, .int .i64 0, .int .i64 0, .int .i64 0, .int .i64 0, .int .i64 0, .int .i64 0, .int .i64 0] #[.int .i64 0, .int .i64 1, .int .i64 2, .int .u32 0] Y5) := Lib.hid (by have lt := LT.out; rw [← hY5]; exact A2.out.set _ (by omega) (by omega) (by omega) (by omega))
  replace A3 : Hid (ScO (w7.heap.size + 1 + 1) bV3 bT3 bO3 (nC bV3 bT3 bO3) (obj0 bV3 bT3) #[.int .i64 0, .int .i64 0, .int .i64 0, .int .i64 0, .int .i64 0, .int .i64 0, .int .i64 0, .int .i64 0, .int .i64 0] #[.int .i64 0, .int .i64 1, .int .i64 2, .int .u32 0] Y5) := Lib.hid (by rw [← hY5]; exact (A3.out.setS (j := 8) (.int .i64 16777217) _ (put3 _ _ _)))
  replace A4 : Hid (ScO (w7.heap.size + 1 + 1 + 1) bV4 bT4 bO4 (some0 bV4 bT4 bO4) (obj0 bV4 bT4) #[.int .i64 0, .int .i64 0, .int .i64 0, .int .i64 0, .int .i64 0, .int .i64 0, .int .i64 0, .int .i64 0, .int .i64 0] #[.int .i64 0, .int .i64 1, .int .i64 2, .int .u32 0] Y5) := Lib.hid (by have lt := LT.out; rw [← hY5]; exact A4.out.set _ (by omega) (by omega) (by omega) (by omega))
  replace A5 : Hid (ScO (w7.heap.size + 1 + 1 + 1 + 1) bV5 bT5 bO5 (some0 bV5 bT5 bO5) (obj0 bV5 bT5) #[.int .i64 0, .int .i64 0, .int .i64 0, .int .i64 0, .int .i64 0, .int .i64 0, .int .i64 0, .int .i64 0, .int .i64 0] #[.int .i64 0, .int .i64 1, .int .i64 2, .int .u32 0] Y5) := Lib.hid (by have lt := LT.out; rw [← hY5]; exact A5.out.set _ (by omega) (by omega) (by omega) (by omega))
  replace A6 : Hid (ScO (w7.heap.size + 1 + 1 + 1 + 1 + 1) bV6 bT6 bO6 (some0 bV6 bT6 bO6) (obj0 bV6 bT6) #[.int .i64 0, .int .i64 0, .int .i64 0, .int .i64 0, .int .i64 0, .int .i64 0, .int .i64 0, .int .i64 0, .int .i64 0] #[.int .i64 0, .int .i64 1, .int .i64 2, .int .u32 0] Y5) := Lib.hid (by have lt := LT.out; rw [← hY5]; exact A6.out.set _ (by omega) (by omega) (by omega) (by omega))
  replace A7 : Hid (ScO (w7.heap.size + 1 + 1 + 1 + 1 + 1 + 1) bV7 bT7 bO7 (some0 bV7 bT7 bO7) (obj0 bV7 bT7) #[.int .i64 0, .int .i64 0, .int .i64 0, .int .i64 0, .int .i64 0, .int .i64 0, .int .i64 0, .int .i64 0, .int .i64 0] #[.int .i64 0, .int .i64 1, .int .i64 2, .int .u32 0] Y5) := Lib.hid (by have lt := LT.out; rw [← hY5]; exact A7.out.set _ (by omega) (by omega) (by omega) (by omega))
  replace BL := Lib.hid (show Below w.heap.size w Y5 by have lt := LT.out; rw [← hY5]; exact BL.out.setCell (p := ⟨(w7.heap.size + 1 + 1), 8, none⟩) (by show _ ≤ (w7.heap.size + 1 + 1); omega) _)
  obtain ⟨Y6, hY6⟩ : ∃ V, Y5.alloc (.cells ((List.replicate 17 o00).flatMap objL).toArray 43) = V := ⟨_, rfl⟩
  have L5 : Hid ((w7.heap.size + 1 + 1 + 1 + 1 + 1 + 1) < Y5.heap.size) := Lib.hid A7.out.sc.lt
  have hb : Below Y5.heap.size Y5 Y6 := by rw [← hY6]; exact (Below.refl _ Y5).alloc (Nat.le_refl _) _
  have RD : Hid (RowAt 43 Y5.heap.size ((List.replicate 17 o00).flatMap objL).toArray Y6) := Lib.hid (by rw [← hY6]; exact RowAt.new _ _ _)
  replace A1 := Lib.hid (A1.out.below hb)
  replace A2 := Lib.hid (A2.out.below hb)
  replace A3 := Lib.hid (A3.out.below hb)
  replace A4 := Lib.hid (A4.out.below hb)
  replace A5 := Lib.hid (A5.out.below hb)
  replace A6 := Lib.hid (A6.out.below hb)
  replace A7 := Lib.hid (A7.out.below hb)
  replace BL := Lib.hid (bnext BL.out hb)
  clear hb
  have c7 : Y6.cell? ⟨(w7.heap.size + 1 + 1 + 1), 18, none⟩ = some (.slice (some ⟨bO4, 0, none⟩) 1 1) := by rw [cell_of_row _ _ _ _ _ _ A4.out.sc]; rfl
  have f7 : Y6.frozen? ⟨(w7.heap.size + 1 + 1 + 1), 18, none⟩ = false := frozen_row A4.out.sc
  obtain ⟨Y7, hY7⟩ : ∃ V, Y6.setCell ⟨(w7.heap.size + 1 + 1 + 1), 18, none⟩ (.slice (some ⟨Y5.heap.size, 0, none⟩) 17 17) = V := ⟨_, rfl⟩
  have D4 : Hid (RowAt 28 (w7.heap.size + 1 + 1 + 1) (scC (nD Y5.heap.size)) Y7) := Lib.hid (by rw [← hY7]; rw [← put6 bV4 bT4 bO4]; exact heap_setCell_same _ _ 18 _ _ (.slice (some ⟨Y5.heap.size, 0, none⟩) 17 17) A4.out.sc)
  replace RD := Lib.hid (show RowAt 43 Y5.heap.size ((List.replicate 17 o00).flatMap objL).toArray Y7 by rw [← hY7]; exact RD.out.cellset (row_ne RD.out A4.out.sc (by decide)))
  replace A1 : Hid (ScO w7.heap.size bV1 bT1 bO1 (some0 bV1 bT1 bO1) (obj0 bV1 bT1) #[.int .i64 0, .int .i64 0, .int .i64 0, .int .i64 0, .int .i64 0, .int .i64 0, .int .i64 0, .int .i64 0, .int .i64 0] #[.int .i64 0, .int .i64 1, .int .i64 3, .int .u32 0] Y7) := Lib.hid (by have lt := LT.out; rw [← hY7]; exact A1.out.set _ (by omega) (by omega) (by omega) (by omega))
  replace A2 : Hid (ScO (w7.heap.size + 1) bV2 bT2 bO2 (nB0 bV2 bT2 bO2) (oB bV2 bT2) #[.int .i64 0, .int .i64 0, .int .i64 0, .int .i64 0, .int .i64 0, .int .i64 0, .int .i64 0, .int .i64 0, .int .i64 0] #[.int .i64 0, .int .i64 1, .int .i64 2, .int .u32 0] Y7) := Lib.hid (by have lt := LT.out; rw [← hY7]; exact A2.out.set _ (by omega) (by omega) (by omega) (by omega))
  replace A3 : Hid (ScO (w7.heap.size + 1 + 1) bV3 bT3 bO3 (nC bV3 bT3 bO3) (obj0 bV3 bT3) #[.int .i64 0, .int .i64 0, .int .i64 0, .int .i64 0, .int .i64 0, .int .i64 0, .int .i64 0, .int .i64 0, .int .i64 0] #[.int .i64 0, .int .i64 1, .int .i64 2, .int .u32 0] Y7) := Lib.hid (by have lt := LT.out; rw [← hY7]; exact A3.out.set _ (by omega) (by omega) (by omega) (by omega))
  replace A5 : Hid (ScO (w7.heap.size + 1 + 1 + 1 + 1) bV5 bT5 bO5 (some0 bV5 bT5 bO5) (obj0 bV5 bT5) #[.int .i64 0, .int .i64 0, .int .i64 0, .int .i64 0, .int .i64 0, .int .i64 0, .int .i64 0, .int .i64 0, .int .i64 0] #[.int .i64 0, .int .i64 1, .int .i64 2, .int .u32 0] Y7) := Lib.hid (by have lt := LT.out; rw [← hY7]; exact A5.out.set _ (by omega) (by omega) (by omega) (by omega))
  replace A6 : Hid (ScO (w7.heap.size + 1 + 1 + 1 + 1 + 1) bV6 bT6 bO6 (some0 bV6 bT6 bO6) (obj0 bV6 bT6) #[.int .i64 0, .int .i64 0, .int .i64 0, .int .i64 0, .int .i64 0, .int .i64 0, .int .i64 0, .int .i64 0, .int .i64 0] #[.int .i64 0, .int .i64 1, .int .i64 2, .int .u32 0] Y7) := Lib.hid (by have lt := LT.out; rw [← hY7]; exact A6.out.set _ (by omega) (by omega) (by omega) (by omega))
  replace A7 : Hid (ScO (w7.heap.size + 1 + 1 + 1 + 1 + 1 + 1) bV7 bT7 bO7 (some0 bV7 bT7 bO7) (obj0 bV7 bT7) #[.int .i64 0, .int .i64 0, .int .i64 0, .int .i64 0, .int .i64 0, .int .i64 0, .int .i64 0, .int .i64 0, .int .i64 0] #[.int .i64 0, .int .i64 1, .int .i64 2, .int .u32 0] Y7) := Lib.hid (by have lt := LT.out; rw [← hY7]; exact A7.out.set _ (by omega) (by omega) (by omega) (by omega))
  clear A4
  replace BL := Lib.hid (show Below w.heap.size w Y7 by have lt := LT.out; rw [← hY7]; exact BL.out.setCell (p := ⟨(w7.heap.size + 1 + 1 + 1), 18, none⟩) (by show _ ≤ (w7.heap.size + 1 + 1 + 1); omega) _)
  have c8 : Y7.cell? ⟨(w7.heap.size + 1 + 1 + 1 + 1), 18, none⟩ = some (.slice (some ⟨bO5, 0, none⟩) 1 1) := by rw [cell_of_row _ _ _ _ _ _ A5.out.sc]; rfl
  have c9 : Y7.cell? ⟨bO5, 16, none⟩ = some (.int .i64 65536) := by rw [cell_of_row _ _ _ _ _ _ A5.out.ob]; rfl
  have f9 : Y7.frozen? ⟨bO5, 16, none⟩ = false := frozen_row A5.out.ob
  obtain ⟨Y8, hY8⟩ : ∃ V, Y7.setCell ⟨bO5, 16, none⟩ (.int .i64 (-16777217)) = V := ⟨_, rfl⟩
  replace RD := Lib.hid (show RowAt 43 Y5.heap.size ((List.replicate 17 o00).flatMap objL).toArray Y8 by have lt := LT.out; have l5 := L5.out; rw [← hY8]; exact RD.out.cellset (by omega))
  replace D4 := Lib.hid (show RowAt 28 (w7.heap.size + 1 + 1 + 1) (scC (nD Y5.heap.size)) Y8 by rw [← hY8]; exact D4.out.cellset (row_ne D4.out A5.out.ob (by decide)))
  replace A1 : Hid (ScO w7.heap.size bV1 bT1 bO1 (some0 bV1 bT1 bO1) (obj0 bV1 bT1) #[.int .i64 0, .int .i64 0, .int .i64 0, .int .i64 0, .int .i64 0, .int .i64 0, .int .i64 0, .int .i64 0, .int .i64 0] #[.int .i64 0, .int .i64 1, .int .i64 3, .int .u32 0] Y8) := Lib.hid (by have lt := LT.out; rw [← hY8]; exact A1.out.set _ (by omega) (by omega) (by omega) (by omega))
  replace A2 : Hid (ScO (w7.heap.size + 1) bV2 bT2 bO2 (nB0 bV2 bT2 bO2) (oB bV2 bT2) #[.int .i64 0, .int .i64 0, .int .i64 0, .int .i64 0, .int .i64 0, .int .i64 0, .int .i64 0, .int .i64 0, .int .i64 0] #[.int .i64 0, .int .i64 1, .int .i64 2, .int .u32 0] Y8) := Lib.hid (by have lt := LT.out; rw [← hY8]; exact A2.out.set _ (by omega) (by omega) (by omega) (by omega))
  replace A3 : Hid (ScO (w7.heap.size + 1 + 1) bV3 bT3 bO3 (nC bV3 bT3 bO3) (obj0 bV3 bT3) #[.int .i64 0, .int .i64 0, .int .i64 0, .int .i64 0, .int .i64 0, .int .i64 0, .int .i64 0, .int .i64 0, .int .i64 0] #[.int .i64 0, .int .i64 1, .int .i64 2, .int .u32 0] Y8) := Lib.hid (by have lt := LT.out; rw [← hY8]; exact A3.out.set _ (by omega) (by omega) (by omega) (by omega))
  replace A5 : Hid (ScO (w7.heap.size + 1 + 1 + 1 + 1) bV5 bT5 bO5 (some0 bV5 bT5 bO5) (oE bV5 bT5) #[.int .i64 0, .int .i64 0, .int .i64 0, .int .i64 0, .int .i64 0, .int .i64 0, .int .i64 0, .int .i64 0, .int .i64 0] #[.int .i64 0, .int .i64 1, .int .i64 2, .int .u32 0] Y8) := Lib.hid (by rw [← hY8]; exact (A5.out.setO (j := 16) (.int .i64 (-16777217)) _ (put4 _ _)))
  replace A6 : Hid (ScO (w7.heap.size + 1 + 1 + 1 + 1 + 1) bV6 bT6 bO6 (some0 bV6 bT6 bO6) (obj0 bV6 bT6) #[.int .i64 0, .int .i64 0, .int .i64 0, .int .i64 0, .int .i64 0, .int .i64 0, .int .i64 0, .int .i64 0, .int .i64 0] #[.int .i64 0, .int .i64 1, .int .i64 2, .int .u32 0] Y8) := Lib.hid (by have lt := LT.out; rw [← hY8]; exact A6.out.set _ (by omega) (by omega) (by omega) (by omega))
  replace A7 : Hid (ScO (w7.heap.size + 1 + 1 + 1 + 1 + 1 + 1) bV7 bT7 bO7 (some0 bV7 bT7 bO7) (obj0 bV7 bT7) #[.int .i64 0, .int .i64 0, .int .i64 0, .int .i64 0, .int .i64 0, .int .i64 0, .int .i64 0, .int .i64 0, .int .i64 0] #[.int .i64 0, .int .i64 1, .int .i64 2, .int .u32 0] Y8) := Lib.hid (by have lt := LT.out; rw [← hY8]; exact A7.out.set _ (by omega) (by omega) (by omega) (by omega))
  replace BL := Lib.hid (show Below w.heap.size w Y8 by have lt := LT.out; rw [← hY8]; exact BL.out.setCell (p := ⟨bO5, 16, none⟩) (by show _ ≤ bO5; omega) _)
  have c10 : Y8.cell? ⟨(w7.heap.size + 1 + 1 + 1 + 1 + 1), 18, none⟩ = some (.slice (some ⟨bO6, 0, none⟩) 1 1) := by rw [cell_of_row _ _ _ _ _ _ A6.out.sc]; rfl
  have c11 : Y8.cell? ⟨bO6, 17, none⟩ = some (.slice (some ⟨bV6, 0, none⟩) 3 3) := by rw [cell_of_row _ _ _ _ _ _ A6.out.ob]; rfl
  have c12 : Y8.cell? ⟨bV6, 7, none⟩ = some (.int .i64 0) := by rw [cell_of_row _ _ _ _ _ _ A6.out.vs]; rfl
  have f12 : Y8.frozen? ⟨bV6, 7, none⟩ = false := frozen_row A6.out.vs
  obtain ⟨Y9, hY9⟩ : ∃ V, Y8.setCell ⟨bV6, 7, none⟩ (.int .i64 1073741825) = V := ⟨_, rfl⟩
  replace RD := Lib.hid (show RowAt 43 Y5.heap.size ((List.replicate 17 o00).flatMap objL).toArray Y9 by rw [← hY9]; exact RD.out.cellset (row_ne RD.out A6.out.vs (by decide)))
  replace D4 := Lib.hid (show RowAt 28 (w7.heap.size + 1 + 1 + 1) (scC (nD Y5.heap.size)) Y9 by rw [← hY9]; exact D4.out.cellset (row_ne D4.out A6.out.vs (by decide)))
  replace A1 : Hid (ScO w7.heap.size bV1 bT1 bO1 (some0 bV1 bT1 bO1) (obj0 bV1 bT1) #[.int .i64 0, .int .i64 0, .int .i64 0, .int .i64 0, .int .i64 0, .int .i64 0, .int .i64 0, .int .i64 0, .int .i64 0] #[.int .i64 0, .int .i64 1, .int .i64 3, .int .u32 0] Y9) := Lib.hid (by have lt := LT.out; rw [← hY9]; exact A1.out.set _ (by omega) (by omega) (by omega) (by omega))
  replace A2 : Hid (ScO (w7.heap.size + 1) bV2 bT2 bO2 (nB0 bV2 bT2 bO2) (oB bV2 bT2) #[.int .i64 0, .int .i64 0, .int .i64 0, .int .i64 0, .int .i64 0, .int .i64 0, .int .i64 0, .int .i64 0, .int .i64 0] #[.int .i64 0, .int .i64 1, .int .i64 2, .int .u32 0] Y9) := Lib.hid (by have lt := LT.out; rw [← hY9]; exact A2.out.set _ (by omega) (by omega) (by omega) (by omega))
  replace A3 : Hid (ScO (w7.heap.size + 1 + 1) bV3 bT3 bO3 (nC bV3 bT3 bO3) (obj0 bV3 bT3) #[.int .i64 0, .int .i64 0, .int .i64 0, .int .i64 0, .int .i64 0, .int .i64 0, .int .i64 0, .int .i64 0, .int .i64 0] #[.int .i64 0, .int .i64 1, .int .i64 2, .int .u32 0] Y9) := Lib.hid (by have lt := LT.out; rw [← hY9]; exact A3.out.set _ (by omega) (by omega) (by omega) (by omega))
  replace A5 : Hid (ScO (w7.heap.size + 1 + 1 + 1 + 1) bV5 bT5 bO5 (some0 bV5 bT5 bO5) (oE bV5 bT5) #[.int .i64 0, .int .i64 0, .int .i64 0, .int .i64 0, .int .i64 0, .int .i64 0, .int .i64 0, .int .i64 0, .int .i64 0] #[.int .i64 0, .int .i64 1, .int .i64 2, .int .u32 0] Y9) := Lib.hid (by have lt := LT.out; rw [← hY9]; exact A5.out.set _ (by omega) (by omega) (by omega) (by omega))
  replace A6 : Hid (ScO (w7.heap.size + 1 + 1 + 1 + 1 + 1) bV6 bT6 bO6 (some0 bV6 bT6 bO6) (obj0 bV6 bT6) #[.int .i64 0, .int .i64 0, .int .i64 0, .int .i64 0, .int .i64 0, .int .i64 0, .int .i64 0, .int .i64 1073741825, .int .i64 0] #[.int .i64 0, .int .i64 1, .int .i64 2, .int .u32 0] Y9) := Lib.hid (by rw [← hY9]; exact (A6.out.setV (j := 7) (.int .i64 1073741825)))
  replace A7 : Hid (ScO (w7.heap.size + 1 + 1 + 1 + 1 + 1 + 1) bV7 bT7 bO7 (some0 bV7 bT7 bO7) (obj0 bV7 bT7) #[.int .i64 0, .int .i64 0, .int .i64 0, .int .i64 0, .int .i64 0, .int .i64 0, .int .i64 0, .int .i64 0, .int .i64 0] #[.int .i64 0, .int .i64 1, .int .i64 2, .int .u32 0] Y9) := Lib.hid (by have lt := LT.out; rw [← hY9]; exact A7.out.set _ (by omega) (by omega) (by omega) (by omega))
  replace BL := Lib.hid (show Below w.heap.size w Y9 by have lt := LT.out; rw [← hY9]; exact BL.out.setCell (p := ⟨bV6, 7, none⟩) (by show _ ≤ bV6; omega) _)
  have c13 : Y9.cell? ⟨(w7.heap.size + 1 + 1 + 1 + 1 + 1 + 1), 18, none⟩ = some (.slice (some ⟨bO7, 0, none⟩) 1 1) := by rw [cell_of_row _ _ _ _ _ _ A7.out.sc]; rfl
  have HY1 := Lib.hid hY1
  have HY2 := Lib.hid hY2
  have HY3 := Lib.hid hY3
  have HY4 := Lib.hid hY4
  have HY5 := Lib.hid hY5
  have HY6 := Lib.hid hY6
  have HY7 := Lib.hid hY7
  have HY8 := Lib.hid hY8
  have HY9 := Lib.hid hY9
  have M1 := Lib.hid m1
  have G4 := Lib.hid g4
  have G5 := Lib.hid g5
  have U4 := Lib.hid t4
  have U5 := Lib.hid t5
  clear m1 m2 m3 g4 g5 t4 t5 hY1 hY2 hY3 hY4 hY5 hY6 hY7 hY8 hY9
  go_wp2_with (first | (rw [HY1.out]) | (rw [HY2.out]) | (rw [HY3.out]) | (rw [HY4.out]) | (rw [HY5.out]) | (rw [HY6.out]) | (rw [HY7.out]) | (rw [HY8.out]) | (rw [HY9.out]) | (rw [make17]) |
    (refine wpList_store_big rfl 25 (.tmp 8) (.tmp 35) rfl Y0.heap.size _ _ (mC grt) rfl rfl M1.out size16 rfl (mC_one _) ?_) |
    (refine wpList_load_mid rfl 25 (.tmp 8) rfl Y0.heap.size 0 rfl (grt.map encI) _ G4.out Tryd.underlying25 rfl size16 ?_) |
    (refine wpList_load_mid rfl 25 (.tmp 8) rfl Y0.heap.size 0 rfl (grt.map encI) _ G5.out Tryd.underlying25 rfl size16 ?_) |
    (refine wpList_store_mid rfl 25 (.tmp 37) (.tmp 36) rfl (w7.heap.size + 1) 2 (mC grt) rfl rfl U4.out size16 (mC_one _) ?_) |
    (refine wpList_store_mid rfl 25 (.tmp 42) (.tmp 40) rfl bO2 1 (mC grt) rfl rfl U5.out size16 (mC_one _) ?_))
  clear c5 c6 f6 c7 f7 c8 c9 f9 c10 c11 c12 f12 M1 G4 G5 U4 U5 HY1 HY2 HY3 HY4 HY5 HY6 HY7 HY8 HY9
  rename_i K5 hK5
  have HK5 := Lib.hid hK5
  clear hK5
  refine (wpIn_wide (n := 5)).1 ?_
  refine heldz_region (S := fun X => X.cell? ⟨(w7.heap.size + 1 + 1 + 1 + 1 + 1 + 1), 18, none⟩ = some (.slice (some ⟨bO7, 0, none⟩) 1 1)) (Z := [5]) (by kernel_rfl) ?_
  refine heldz_take (fun _ => trivial) [5] 0 (?_) (by kernel_rfl) rfl (by kernel_rfl) (fun _ _ _ h => h) c13 (by kernel_rfl) ?_ ?_
  rotate_left
  · intro wz hSw; (first | (go_simp; done) | (go_simp; with_reducible rfl))
  (try simp only [Act.put, List.getElem_toArray, List.getElem_cons_zero, List.getElem_cons_succ, List.setIfInBounds_toArray, List.set_cons_zero, List.set_cons_succ])
  refine heldz_take (fun _ => trivial) [5] 1 (.slice (some ⟨bO7, 0, none⟩) 1 1) (by kernel_rfl) rfl (by kernel_rfl) (fun _ _ _ h => h) c13 (by kernel_rfl) ?_ ?_
  · intro wz hSw; (first | (go_simp; done) | (go_simp; with_reducible rfl))
  (try simp only [Act.put, List.getElem_toArray, List.getElem_cons_zero, List.getElem_cons_succ, List.setIfInBounds_toArray, List.set_cons_zero, List.set_cons_succ])
  refine heldz_step (fun _ => trivial) 2 (by kernel_rfl) rfl (fun K hK => ?_)
  go_simp
  rw [make65b]
  go_simp
  obtain ⟨Ya, hYa⟩ : ∃ X, (Y9.alloc (.cells v65 45)).drew = X := ⟨_, rfl⟩
  have hb : Below Y9.heap.size Y9 Ya := by rw [← hYa]; exact ((Below.refl _ Y9).alloc (Nat.le_refl _) _).trans (bdrew0 _ _ 1)
  have RG : Hid (RowAt 45 Y9.heap.size v65 Ya) := Lib.hid (by rw [← hYa]; exact RowAt.new Y9 45 _)
  have c14 : Ya.cell? ⟨(w7.heap.size + 1 + 1 + 1 + 1 + 1 + 1), 18, none⟩ = some (.slice (some ⟨bO7, 0, none⟩) 1 1) := keep_cell hb c13
  have L9 : Hid ((w7.heap.size + 1 + 1 + 1 + 1 + 1 + 1) < Y9.heap.size) := Lib.hid A7.out.sc.lt
  replace A1 := Lib.hid (A1.out.below hb)
  replace A2 := Lib.hid (A2.out.below hb)
  replace A3 := Lib.hid (A3.out.below hb)
  replace A5 := Lib.hid (A5.out.below hb)
  replace A6 := Lib.hid (A6.out.below hb)
  replace A7 := Lib.hid (A7.out.below hb)
  replace RD := Lib.hid (RD.out.below hb)
  replace D4 := Lib.hid (D4.out.below hb)
  replace BL := Lib.hid (bnext BL.out hb)
  have c15 : Ya.cell? ⟨bO7, 17, none⟩ = some (.slice (some ⟨bV7, 0, none⟩) 3 3) := by rw [cell_of_row _ _ _ _ _ _ A7.out.ob]; rfl
  have f15 : Ya.frozen? ⟨bO7, 17, none⟩ = false := frozen_row A7.out.ob
  rw [hYa]
  clear hYa hb c13
  refine hK.out _ _ (fun _ => c14) ?_
  clear hK K
  (try simp only [Act.put, List.getElem_toArray, List.getElem_cons_zero, List.getElem_cons_succ, List.setIfInBounds_toArray, List.set_cons_zero, List.set_cons_succ])
  refine heldz_take (fun _ => trivial) [4, 5] 3 (.pointer (some ⟨bO7, 0, none⟩)) (by kernel_rfl) rfl (by kernel_rfl) (fun _ _ _ h => h) c14 (by kernel_rfl) ?_ ?_
  · intro wz hSw; (first | (go_simp; done) | (go_simp; with_reducible rfl))
  (try simp only [Act.put, List.getElem_toArray, List.getElem_cons_zero, List.getElem_cons_succ, List.setIfInBounds_toArray, List.set_cons_zero, List.set_cons_succ])
  refine heldz_take (fun _ => trivial) [5] 4 (?_) (by kernel_rfl) rfl (by kernel_rfl) (fun _ _ _ h => h) c14 (by kernel_rfl) ?_ ?_
  rotate_left
  · intro wz hSw; (first | (go_simp; done) | (go_simp; with_reducible rfl))
  (try simp only [Act.put, List.getElem_toArray, List.getElem_cons_zero, List.getElem_cons_succ, List.setIfInBounds_toArray, List.set_cons_zero, List.set_cons_succ])
  refine heldz_step (fun _ => trivial) 5 (by kernel_rfl) rfl (fun K hK => ?_)
  go_simp
  refine hK.out _ _ (fun h => by cases h) ?_
  clear hK K
  refine heldz_done (by kernel_rfl) ?_ _
  refine HK5.out _ _ ?_
  obtain ⟨Yb, hYb⟩ : ∃ V, Ya.setCell ⟨bO7, 17, none⟩ (.slice (some ⟨Y9.heap.size, 0, none⟩) 65 65) = V := ⟨_, rfl⟩
  have F7o : Hid (RowAt 43 bO7 (objL (oG Y9.heap.size bT7)).toArray Yb) := Lib.hid (by rw [← hYb, ← put5 bV7 bT7]; exact heap_setCell_same _ _ 17 _ _ (.slice (some ⟨Y9.heap.size, 0, none⟩) 65 65) A7.out.ob)
  have F7s : Hid (RowAt 28 (w7.heap.size + 1 + 1 + 1 + 1 + 1 + 1) (scC (nG Y9.heap.size bT7 bO7)) Yb) := Lib.hid (by rw [← hYb, ← cG bV7 bT7 bO7]; exact A7.out.sc.cellset (row_ne A7.out.sc A7.out.ob (by decide)))
  have F7t : Hid (RowAt 39 bT7 #[.int .i64 0, .int .i64 1, .int .i64 2, .int .u32 0] Yb) := Lib.hid (by rw [← hYb]; exact A7.out.ts.cellset (row_ne A7.out.ts A7.out.ob (by decide)))
  replace RG := Lib.hid (show RowAt 45 Y9.heap.size v65 Yb by rw [← hYb]; exact RG.out.cellset (row_ne RG.out A7.out.ob (by decide)))
  replace D4 := Lib.hid (show RowAt 28 (w7.heap.size + 1 + 1 + 1) (scC (nD Y5.heap.size)) Yb by rw [← hYb]; exact D4.out.cellset (row_ne D4.out A7.out.ob (by decide)))
  replace RD := Lib.hid (show RowAt 43 Y5.heap.size ((List.replicate 17 o00).flatMap objL).toArray Yb by have lt := LT.out; have l5 := L5.out; rw [← hYb]; exact RD.out.cellset (by omega))
  replace A1 : Hid (ScO w7.heap.size bV1 bT1 bO1 (some0 bV1 bT1 bO1) (obj0 bV1 bT1) #[.int .i64 0, .int .i64 0, .int .i64 0, .int .i64 0, .int .i64 0, .int .i64 0, .int .i64 0, .int .i64 0, .int .i64 0] #[.int .i64 0, .int .i64 1, .int .i64 3, .int .u32 0] Yb) := Lib.hid (by have lt := LT.out; rw [← hYb]; exact A1.out.set _ (by omega) (by omega) (by omega) (by omega))
  replace A2 : Hid (ScO (w7.heap.size + 1) bV2 bT2 bO2 (nB0 bV2 bT2 bO2) (oB bV2 bT2) #[.int .i64 0, .int .i64 0, .int .i64 0, .int .i64 0, .int .i64 0, .int .i64 0, .int .i64 0, .int .i64 0, .int .i64 0] #[.int .i64 0, .int .i64 1, .int .i64 2, .int .u32 0] Yb) := Lib.hid (by have lt := LT.out; rw [← hYb]; exact A2.out.set _ (by omega) (by omega) (by omega) (by omega))
  replace A3 : Hid (ScO (w7.heap.size + 1 + 1) bV3 bT3 bO3 (nC bV3 bT3 bO3) (obj0 bV3 bT3) #[.int .i64 0, .int .i64 0, .int .i64 0, .int .i64 0, .int .i64 0, .int .i64 0, .int .i64 0, .int .i64 0, .int .i64 0] #[.int .i64 0, .int .i64 1, .int .i64 2, .int .u32 0] Yb) := Lib.hid (by have lt := LT.out; rw [← hYb]; exact A3.out.set _ (by omega) (by omega) (by omega) (by omega))
  replace A5 : Hid (ScO (w7.heap.size + 1 + 1 + 1 + 1) bV5 bT5 bO5 (some0 bV5 bT5 bO5) (oE bV5 bT5) #[.int .i64 0, .int .i64 0, .int .i64 0, .int .i64 0, .int .i64 0, .int .i64 0, .int .i64 0, .int .i64 0, .int .i64 0] #[.int .i64 0, .int .i64 1, .int .i64 2, .int .u32 0] Yb) := Lib.hid (by have lt := LT.out; rw [← hYb]; exact A5.out.set _ (by omega) (by omega) (by omega) (by omega))
  replace A6 : Hid (ScO (w7.heap.size + 1 + 1 + 1 + 1 + 1) bV6 bT6 bO6 (some0 bV6 bT6 bO6) (obj0 bV6 bT6) #[.int .i64 0, .int .i64 0, .int .i64 0, .int .i64 0, .int .i64 0, .int .i64 0, .int .i64 0, .int .i64 1073741825, .int .i64 0] #[.int .i64 0, .int .i64 1, .int .i64 2, .int .u32 0] Yb) := Lib.hid (by have lt := LT.out; rw [← hYb]; exact A6.out.set _ (by omega) (by omega) (by omega) (by omega))
  replace BL := Lib.hid (show Below w.heap.size w Yb by have lt := LT.out; rw [← hYb]; exact BL.out.setCell (p := ⟨bO7, 17, none⟩) (by show _ ≤ bO7; omega) _)
  have G1 : Hid (∀ W, Below Yb.heap.size Yb W → W.rangeAt w7.heap.size 0 (scL (nA bV1 bT1 bO1)) ∧ ObjsAt W (nA bV1 bT1 bO1).oo (nA bV1 bT1 bO1).os) := Lib.hid (fun W h => ⟨(show ScAt w7.heap.size (nA bV1 bT1 bO1) W from by unfold ScAt; rw [← cA bV1 bT1 bO1]; exact (A1.out.below h).sc).all, obA (A1.out.below h)⟩)
  have G2 : Hid (∀ W, Below Yb.heap.size Yb W → W.rangeAt (w7.heap.size + 1) 0 (scL (nB bV2 bT2 bO2)) ∧ ObjsAt W (nB bV2 bT2 bO2).oo (nB bV2 bT2 bO2).os) := Lib.hid (fun W h => ⟨(show ScAt (w7.heap.size + 1) (nB bV2 bT2 bO2) W from by unfold ScAt; rw [← cB bV2 bT2 bO2]; exact (A2.out.below h).sc).all, obB (A2.out.below h)⟩)
  have G3 : Hid (∀ W, Below Yb.heap.size Yb W → W.rangeAt (w7.heap.size + 1 + 1) 0 (scL (nC bV3 bT3 bO3)) ∧ ObjsAt W (nC bV3 bT3 bO3).oo (nC bV3 bT3 bO3).os) := Lib.hid (fun W h => ⟨(show ScAt (w7.heap.size + 1 + 1) (nC bV3 bT3 bO3) W from (A3.out.below h).sc).all, obC (A3.out.below h)⟩)
  have G4 : Hid (∀ W, Below Yb.heap.size Yb W → W.rangeAt (w7.heap.size + 1 + 1 + 1) 0 (scL (nD Y5.heap.size)) ∧ ObjsAt W (nD Y5.heap.size).oo (nD Y5.heap.size).os) := Lib.hid (fun W h => ⟨(show ScAt (w7.heap.size + 1 + 1 + 1) (nD Y5.heap.size) W from D4.out.below h).all, obD (RD.out.below h)⟩)
  have G5 : Hid (∀ W, Below Yb.heap.size Yb W → W.rangeAt (w7.heap.size + 1 + 1 + 1 + 1) 0 (scL (nE bV5 bT5 bO5)) ∧ ObjsAt W (nE bV5 bT5 bO5).oo (nE bV5 bT5 bO5).os) := Lib.hid (fun W h => ⟨(show ScAt (w7.heap.size + 1 + 1 + 1 + 1) (nE bV5 bT5 bO5) W from by unfold ScAt; rw [← cE bV5 bT5 bO5]; exact (A5.out.below h).sc).all, obE (A5.out.below h)⟩)
  have G6 : Hid (∀ W, Below Yb.heap.size Yb W → W.rangeAt (w7.heap.size + 1 + 1 + 1 + 1 + 1) 0 (scL (nF bV6 bT6 bO6)) ∧ ObjsAt W (nF bV6 bT6 bO6).oo (nF bV6 bT6 bO6).os) := Lib.hid (fun W h => ⟨(show ScAt (w7.heap.size + 1 + 1 + 1 + 1 + 1) (nF bV6 bT6 bO6) W from by unfold ScAt; rw [← cF bV6 bT6 bO6]; exact (A6.out.below h).sc).all, obF (A6.out.below h)⟩)
  have G7 : Hid (∀ W, Below Yb.heap.size Yb W → W.rangeAt (w7.heap.size + 1 + 1 + 1 + 1 + 1 + 1) 0 (scL (nG Y9.heap.size bT7 bO7)) ∧ ObjsAt W (nG Y9.heap.size bT7 bO7).oo (nG Y9.heap.size bT7 bO7).os) := Lib.hid (fun W h => ⟨(show ScAt (w7.heap.size + 1 + 1 + 1 + 1 + 1 + 1) (nG Y9.heap.size bT7 bO7) W from F7s.out.below h).all, obG (F7o.out.below h) (RG.out.below h) (F7t.out.below h)⟩)
  rw [hYb]
  clear hYb c14 c15 f15 HK5 A1 A2 A3 A5 A6 A7 D4 RD RG F7o F7s F7t L5 L9 LT
  have HB := Lib.hid (Below.refl Yb.heap.size Yb)
  have I1 := is_any (nA bV1 bT1 bO1) 8 0 Yb (wfA bV1 bT1 bO1) (G1.out _ HB.out).2
  rw [zA] at I1
  replace I1 := Lib.hid I1
  go_wp2_with (refine wpList_load_mid rfl 28 (.tmp 1) rfl w7.heap.size 0 rfl (scL (nA bV1 bT1 bO1)) _ (G1.out _ HB.out).1 Tryd.underlying28 rfl (sizeS (wfA bV1 bT1 bO1)) ?_)
  refine I1.out.mono ?_
  rintro e W1 ⟨rfl, hb⟩
  replace HB := Lib.hid (bnext HB.out hb)
  clear hb I1
  have I2 := is_any (nB bV2 bT2 bO2) 6 0 W1 (wfB bV2 bT2 bO2) (G2.out _ HB.out).2
  rw [zB] at I2
  replace I2 := Lib.hid I2
  go_wp2_with (refine wpList_load_mid_g rfl 28 (.tmp 2) rfl (w7.heap.size + 1) 0 rfl (scL (nB bV2 bT2 bO2)) _ (G2.out _ HB.out).1 Tryd.underlying28 rfl (sizeS (wfB bV2 bT2 bO2)) ?_)
  refine I2.out.mono ?_
  rintro e W2 ⟨rfl, hb⟩
  replace HB := Lib.hid (bnext HB.out hb)
  clear hb I2
  have I3 := is_any (nC bV3 bT3 bO3) 2 (-1) W2 (wfC bV3 bT3 bO3) (G3.out _ HB.out).2
  rw [zC] at I3
  replace I3 := Lib.hid I3
  go_wp2_with (refine wpList_load_mid_g rfl 28 (.tmp 3) rfl (w7.heap.size + 1 + 1) 0 rfl (scL (nC bV3 bT3 bO3)) _ (G3.out _ HB.out).1 Tryd.underlying28 rfl (sizeS (wfC bV3 bT3 bO3)) ?_)
  refine I3.out.mono ?_
  rintro e W3 ⟨rfl, hb⟩
  replace HB := Lib.hid (bnext HB.out hb)
  clear hb I3
  have I4 := is_any (nD Y5.heap.size) 3 (-1) W3 (wfD Y5.heap.size) (G4.out _ HB.out).2
  rw [zD] at I4
  replace I4 := Lib.hid I4
  go_wp2_with (refine wpList_load_mid_g rfl 28 (.tmp 4) rfl (w7.heap.size + 1 + 1 + 1) 0 rfl (scL (nD Y5.heap.size)) _ (G4.out _ HB.out).1 Tryd.underlying28 rfl (sizeS (wfD Y5.heap.size)) ?_)
  refine I4.out.mono ?_
  rintro e W4 ⟨rfl, hb⟩
  replace HB := Lib.hid (bnext HB.out hb)
  clear hb I4
  have I5 := is_any (nE bV5 bT5 bO5) 5 0 W4 (wfE bV5 bT5 bO5) (G5.out _ HB.out).2
  rw [zE] at I5
  replace I5 := Lib.hid I5
  go_wp2_with (refine wpList_load_mid_g rfl 28 (.tmp 5) rfl (w7.heap.size + 1 + 1 + 1 + 1) 0 rfl (scL (nE bV5 bT5 bO5)) _ (G5.out _ HB.out).1 Tryd.underlying28 rfl (sizeS (wfE bV5 bT5 bO5)) ?_)
  refine I5.out.mono ?_
  rintro e W5 ⟨rfl, hb⟩
  replace HB := Lib.hid (bnext HB.out hb)
  clear hb I5
  have I6 := is_any (nF bV6 bT6 bO6) 7 0 W5 (wfF bV6 bT6 bO6) (G6.out _ HB.out).2
  rw [zF] at I6
  replace I6 := Lib.hid I6
  go_wp2_with (refine wpList_load_mid_g rfl 28 (.tmp 6) rfl (w7.heap.size + 1 + 1 + 1 + 1 + 1) 0 rfl (scL (nF bV6 bT6 bO6)) _ (G6.out _ HB.out).1 Tryd.underlying28 rfl (sizeS (wfF bV6 bT6 bO6)) ?_)
  refine I6.out.mono ?_
  rintro e W6 ⟨rfl, hb⟩
  replace HB := Lib.hid (bnext HB.out hb)
  clear hb I6
  have I7 := is_any (nG Y9.heap.size bT7 bO7) 7 0 W6 (wfG Y9.heap.size bT7 bO7) (G7.out _ HB.out).2
  rw [zG] at I7
  replace I7 := Lib.hid I7
  go_wp2_with (refine wpList_load_mid_g rfl 28 (.tmp 7) rfl (w7.heap.size + 1 + 1 + 1 + 1 + 1 + 1) 0 rfl (scL (nG Y9.heap.size bT7 bO7)) _ (G7.out _ HB.out).1 Tryd.underlying28 rfl (sizeS (wfG Y9.heap.size bT7 bO7)) ?_)
  refine I7.out.mono ?_
  rintro e W7 ⟨rfl, hb⟩
  replace HB := Lib.hid (bnext HB.out hb)
  clear hb I7
  replace BL := Lib.hid (BL.out.trans (HB.out.mono BL.out.size))
  clear HB G1 G2 G3 G4 G5 G6 G7
  obtain ⟨Z0, hZ0⟩ : ∃ V, W7.alloc (.cells #[.string ⟨#[]⟩, .string ⟨#[115, 105, 122, 101]⟩, .string ⟨#[99, 97, 109, 101, 114, 97]⟩, .string ⟨#[111, 98, 106, 101, 99, 116, 115]⟩, .string ⟨#[105, 100, 115]⟩, .string ⟨#[109, 97, 116, 114, 105, 120]⟩, .string ⟨#[98, 111, 116, 104]⟩, .string ⟨#[118, 101, 114, 116, 105, 99, 101, 115]⟩, .string ⟨#[116, 114, 105, 97, 110, 103, 108, 101, 115]⟩, .string ⟨#[]⟩] 9) = V := ⟨_, rfl⟩
  have rz : RowAt 9 W7.heap.size #[.string ⟨#[]⟩, .string ⟨#[115, 105, 122, 101]⟩, .string ⟨#[99, 97, 109, 101, 114, 97]⟩, .string ⟨#[111, 98, 106, 101, 99, 116, 115]⟩, .string ⟨#[105, 100, 115]⟩, .string ⟨#[109, 97, 116, 114, 105, 120]⟩, .string ⟨#[98, 111, 116, 104]⟩, .string ⟨#[118, 101, 114, 116, 105, 99, 101, 115]⟩, .string ⟨#[116, 114, 105, 97, 110, 103, 108, 101, 115]⟩, .string ⟨#[]⟩] Z0 := by rw [← hZ0]; exact RowAt.new _ _ _
  have hb : Below W7.heap.size W7 Z0 := by rw [← hZ0]; exact (Below.refl _ W7).alloc (Nat.le_refl _) _
  replace BL := Lib.hid (bnext BL.out hb)
  have HNZ := Lib.hid (HNM.out.below BL.out)
  have HC : Hid (∀ k : Nat, k < 10 → Z0.cell? ⟨W7.heap.size, k, none⟩ = some (.string (nameZ (k : Int)))) := Lib.hid (fun k hk => by
    rw [cell_of_row _ _ _ _ _ _ rz]
    obtain rfl | rfl | rfl | rfl | rfl | rfl | rfl | rfl | rfl | rfl : k = 0 ∨ k = 1 ∨ k = 2 ∨ k = 3 ∨ k = 4 ∨ k = 5 ∨ k = 6 ∨ k = 7 ∨ k = 8 ∨ k = 9 := by omega
    all_goals kernel_rfl)
  clear rz hb
  go_wp2_with (rw [hZ0])
  clear hZ0
  generalize W7.heap.size = bz at HC ⊢
  go_loopg [10, 94] 10 (fun g s10 s94 wx => ∃ k : Nat, g = 10 - k ∧ s10 = .bool true ∧ s94 = .int .i64 (k : Int) ∧ k ≤ 10 ∧ Z0 = wx)
  case atStart => exact ⟨0, rfl, rfl, rfl, by omega, rfl⟩
  case round =>
    obtain ⟨k, rfl, rfl, rfl, hk, rfl⟩ := hrel
    by_cases h : k < 10
    · have t1 : (k : Int) < 10 := by omega
      have t0 : (0 : Int) ≤ (k : Int) := by omega
      have hc := HC.out k h
      have hp := Lib.hid (pname_any (k : Int) _ HNZ.out)
      generalize nameZ (k : Int) = z at hc hp
      go_wp2_with fail
      refine hp.out.mono ?_
      rintro e W' ⟨rfl, rfl⟩
      go_wp2_with fail
      go_roundg (10 - (k + 1))
      case measure => omega
      case rel => exact ⟨k + 1, rfl, by simp, by go_num, by omega, rfl⟩
    have t1 : ¬ (k : Int) < 10 := by omega
    obtain rfl : k = 10 := by omega
    clear HC
    go_wp2_with fail
    refine (some_any _).mono ?_
    rintro e E1 ⟨bV, bT, bO, rfl, s0, _, _, _, hb⟩
    replace BL := Lib.hid (bnext BL.out hb)
    have BP := pboth_any (some0 bV bT bO) 1 E1 (some_wf _ _ _) s0.objs
    rw [both1] at BP
    replace BP := Lib.hid BP
    clear s0 hb
    go_wp2_with fail
    refine BP.out.mono ?_
    rintro e E2 ⟨rfl, hb⟩
    replace BL := Lib.hid (bnext BL.out hb)
    clear hb BP
    simp only [Option.getD_none, Option.isSome_none, Bool.false_eq_true, if_false]
    obtain ⟨E3, hE3⟩ : ∃ V, E2.alloc (.cells #[.int .i64 0, .int .i64 0, .int .i64 0, .int .i64 0, .int .i64 0, .int .i64 0, .int .i64 0, .int .i64 0, .int .i64 0, .int .i64 0, .int .i64 0, .int .i64 0, .int .i64 0, .int .i64 0, .int .i64 0, .int .i64 0] 25) = V := ⟨_, rfl⟩
    obtain ⟨E4, hE4⟩ : ∃ V, E3.setRow E2.heap.size (mC zero16) = V := ⟨_, rfl⟩
    have M3 : Hid (RowAt 25 E2.heap.size #[.int .i64 0, .int .i64 0, .int .i64 0, .int .i64 0, .int .i64 0, .int .i64 0, .int .i64 0, .int .i64 0, .int .i64 0, .int .i64 0, .int .i64 0, .int .i64 0, .int .i64 0, .int .i64 0, .int .i64 0, .int .i64 0] E3) := Lib.hid (by rw [← hE3]; exact RowAt.new _ _ _)
    have hb : Below E2.heap.size E2 E4 := by rw [← hE4, ← hE3]; exact Below.row ((Below.refl _ E2).alloc (Nat.le_refl _) _) (Nat.le_refl _) _
    replace BL := Lib.hid (bnext BL.out hb)
    have HE3 := Lib.hid hE3
    have HE4 := Lib.hid hE4
    clear hE3 hE4 hb
    go_wp2_with (first | (rw [HE3.out]) | (rw [HE4.out]) | (refine wpList_store_big rfl 25 (.tmp 13) (.tmp 110) rfl E2.heap.size _ _ (mC zero16) rfl rfl M3.out size16 rfl (mC_one _) ?_))
    clear HE3 HE4 M3
    refine (some_any _).mono ?_
    rintro e F1 ⟨bV, bT, bO, rfl, s0, _, _, _, hb⟩
    replace BL := Lib.hid (bnext BL.out hb)
    have BP := pfind_any (some0 bV bT bO) 7 F1 (some_wf _ _ _) s0.objs
    rw [find7] at BP
    replace BP := Lib.hid BP
    clear s0 hb
    go_wp2_with fail
    refine BP.out.mono ?_
    rintro e F2 ⟨rfl, hb⟩
    replace BL := Lib.hid (bnext BL.out hb)
    clear hb BP
    simp only [Option.getD_none, Option.getD_some, Option.isSome_none, Option.isSome_some]
    go_wp2_with fail
    refine (some_any _).mono ?_
    rintro e G1 ⟨bV, bT, bO, rfl, s0, _, _, _, hb⟩
    replace BL := Lib.hid (bnext BL.out hb)
    have BP := pfind_any (some0 bV bT bO) 8 G1 (some_wf _ _ _) s0.objs
    rw [find8] at BP
    replace BP := Lib.hid BP
    clear s0 hb
    go_wp2_with fail
    refine BP.out.mono ?_
    rintro e G2 ⟨rfl, hb⟩
    replace BL := Lib.hid (bnext BL.out hb)
    clear hb BP
    simp only [Option.getD_none, Option.getD_some, Option.isSome_none, Option.isSome_some]
    go_wp2_with fail
    refine (some_any _).mono ?_
    rintro e H1 ⟨bV, bT, bO, rfl, s0, _, _, _, hb⟩
    replace BL := Lib.hid (bnext BL.out hb)
    have BP := pcount_any (some0 bV bT bO) H1 (some_wf _ _ _) s0.objs (few0 _ _ _)
    unfold RetCount at BP; rw [sumv, sumt] at BP
    replace BP := Lib.hid BP
    clear s0 hb
    go_wp2_with fail
    refine BP.out.mono ?_
    rintro e H2 ⟨rfl, hb⟩
    replace BL := Lib.hid (bnext BL.out hb)
    clear hb BP
    skip
    go_wp2_with fail
    refine (alive_any _).mono ?_
    rintro e J1 ⟨rfl, hb⟩
    replace BL := Lib.hid (bnext BL.out hb)
    clear hb
    have NP := pname_any (-1) J1 (HNM.out.below BL.out)
    rw [show nameZ (-1) = ⟨#[]⟩ from rfl] at NP
    replace NP := Lib.hid NP
    go_wp2_with fail
    refine NP.out.mono ?_
    rintro e J2 ⟨rfl, rfl⟩
    go_wp2_with fail
    go_ret
    exact ⟨rfl, BL.out⟩
end Go.Proofs.YtbkahmnchpbhfaaDoor.Fx
