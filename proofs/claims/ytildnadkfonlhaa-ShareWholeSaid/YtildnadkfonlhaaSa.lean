/- Scenes as a parameter: numbers, a matrix, a slice of objects with a matrix and two slices, opened. -/
import Derived.Test.YtildnadkfonlhaaProg
import Derived.Test.YtildnadkfonlhaaOp
import Derived.WalkKit
import Derived.ProofKit
import Derived.OpenShut
import Derived.Carry
import Derived.Deep.Slices
import Derived.Deep.MidRow
import Derived.Lib.SmallJoins
set_option linter.unusedVariables false
namespace Go.Proofs.Ytildnadkfonlhaa.Fx
open Go Go.RowKit Go.ChangeShapes Go.WideShapes
/-- a triangle -/
structure TriR where
  a : Int
  b : Int
  c : Int
  col : Int
  deriving DecidableEq
instance : Inhabited TriR := ⟨⟨0, 0, 0, 0⟩⟩
/-- an object -/
structure ObjR where
  id : Int
  m : List Int
  vo : Option Addr
  vs : List (List Int)
  vc : Nat
  tq : Option Addr
  ts : List TriR
  tc : Nat
instance : Inhabited ObjR := ⟨⟨0, [], none, [], 0, none, [], 0⟩⟩
/-- a scene -/
structure ScR where
  w : Int
  h : Int
  cam : List Int
  oo : Option Addr
  os : List ObjR
  oc : Nat
def triL (t : TriR) : List Value := [.int .i64 t.a, .int .i64 t.b, .int .i64 t.c, .int .u32 t.col]
def objL (x : ObjR) : List Value := .int .i64 x.id :: (x.m.map encI ++ [.slice x.vo x.vs.length x.vc, .slice x.tq x.ts.length x.tc])
def scL (s : ScR) : List Value := .int .i64 s.w :: .int .i64 s.h :: (s.cam.map encI ++ [.slice s.oo s.os.length s.oc])
def scC (s : ScR) : Array Value := (scL s).toArray
def Num (z : Int) : Prop := -9223372036854775808 ≤ z ∧ z ≤ 9223372036854775807
structure VertWf (v : List Int) : Prop where
  len : v.length = 3
  num : ∀ j, Num (v.getD j 0)
structure TriWf (t : TriR) : Prop where
  a : Num t.a
  b : Num t.b
  c : Num t.c
  col : 0 ≤ t.col ∧ t.col < 4294967296
/-- a list lies behind a slice, each of its members n cells long -/
def ListAt {α : Type} (P : Nat → Nat → α → Prop) (n : Nat) (o : Option Addr) (l : List α) : Prop := ∀ k z, l[k]? = some z → ∃ b off, o = some ⟨b, off, none⟩ ∧ P b (off + k * n) z
def CapOk (o : Option Addr) (n c : Nat) : Prop := (n ≤ c ∧ c ≤ 9223372036854775807) ∧ (o = none → c = 0)
def VertsAt (W : World) (o : Option Addr) (l : List (List Int)) : Prop := ListAt (fun b j v => W.rangeAt b j (v.map encI) ∧ VertWf v) 3 o l
def TrisAt (W : World) (o : Option Addr) (l : List TriR) : Prop := ListAt (fun b j t => W.rangeAt b j (triL t) ∧ TriWf t) 4 o l
structure ObjWf (x : ObjR) : Prop where
  id : Num x.id
  len : x.m.length = 16
  num : ∀ j, Num (x.m.getD j 0)
  vcap : CapOk x.vo x.vs.length x.vc
  tcap : CapOk x.tq x.ts.length x.tc
structure ObjAt (W : World) (b j : Nat) (x : ObjR) : Prop where
  cells : W.rangeAt b j (objL x)
  verts : VertsAt W x.vo x.vs
  tris : TrisAt W x.tq x.ts
  wf : ObjWf x
def ObjsAt (W : World) (o : Option Addr) (l : List ObjR) : Prop := ListAt (ObjAt W) 19 o l
structure ScWf (s : ScR) : Prop where
  w : Num s.w
  h : Num s.h
  len : s.cam.length = 16
  num : ∀ j, Num (s.cam.getD j 0)
  cap : CapOk s.oo s.os.length s.oc
theorem range_below {w W : World} {b j : Nat} {l : List Value} (hb : Below w.heap.size w W) (h : w.rangeAt b j l) : W.rangeAt b j l := fun i v hi => keep_cell hb (h i v hi)
theorem VertsAt.below {w W : World} {o : Option Addr} {l : List (List Int)} (hb : Below w.heap.size w W) (h : VertsAt w o l) : VertsAt W o l := fun k z hk => by
  obtain ⟨b, off, e, h1, h2⟩ := h k z hk
  exact ⟨b, off, e, range_below hb h1, h2⟩
theorem TrisAt.below {w W : World} {o : Option Addr} {l : List TriR} (hb : Below w.heap.size w W) (h : TrisAt w o l) : TrisAt W o l := fun k z hk => by
  obtain ⟨b, off, e, h1, h2⟩ := h k z hk
  exact ⟨b, off, e, range_below hb h1, h2⟩
theorem ObjAt.below {w W : World} {b j : Nat} {x : ObjR} (hb : Below w.heap.size w W) (h : ObjAt w b j x) : ObjAt W b j x :=
  ⟨range_below hb h.cells, h.verts.below hb, h.tris.below hb, h.wf⟩
theorem ObjsAt.below {w W : World} {o : Option Addr} {l : List ObjR} (hb : Below w.heap.size w W) (h : ObjsAt w o l) : ObjsAt W o l := fun k z hk => by
  obtain ⟨b, off, e, h1⟩ := h k z hk
  exact ⟨b, off, e, h1.below hb⟩
theorem scL_len {s : ScR} (h : ScWf s) : (scL s).length = 19 := by simp [scL, h.len]
theorem objL_len {x : ObjR} (h : ObjWf x) : (objL x).length = 19 := by simp [objL, h.len]
theorem scL_w (s : ScR) : (scL s)[0]? = some (.int .i64 s.w) := rfl
theorem scL_h (s : ScR) : (scL s)[1]? = some (.int .i64 s.h) := rfl
theorem scL_cam {s : ScR} {j : Nat} {v : Value} (hj : (s.cam.map encI)[j]? = some v) : (scL s)[2 + j]? = some v := by
  rw [show 2 + j = j + 1 + 1 by omega]
  show (s.cam.map encI ++ _)[j]? = _
  rw [List.getElem?_append_left (List.getElem?_eq_some_iff.1 hj).1]
  exact hj
theorem scL_os {s : ScR} (h : ScWf s) : (scL s)[18]? = some (.slice s.oo s.os.length s.oc) := by
  show (s.cam.map encI ++ _)[16]? = _
  rw [List.getElem?_append_right (by simp [h.len])]
  simp [h.len]
theorem objL_id (x : ObjR) : (objL x)[0]? = some (.int .i64 x.id) := rfl
theorem objL_m {x : ObjR} {j : Nat} {v : Value} (hj : (x.m.map encI)[j]? = some v) : (objL x)[1 + j]? = some v := by
  rw [show 1 + j = j + 1 by omega]
  show (x.m.map encI ++ _)[j]? = _
  rw [List.getElem?_append_left (List.getElem?_eq_some_iff.1 hj).1]
  exact hj
theorem objL_vs {x : ObjR} (h : ObjWf x) : (objL x)[17]? = some (.slice x.vo x.vs.length x.vc) := by
  show (x.m.map encI ++ _)[16]? = _
  rw [List.getElem?_append_right (by simp [h.len])]
  simp [h.len]
theorem objL_ts {x : ObjR} (h : ObjWf x) : (objL x)[18]? = some (.slice x.tq x.ts.length x.tc) := by
  show (x.m.map encI ++ _)[17]? = _
  rw [List.getElem?_append_right (by simp [h.len])]
  simp [h.len]
section
variable {H : Type} {enc : TypeId × Value → H} {w : World} {base : Nat} {held : Bool}
noncomputable def pickA {α : Type} [Inhabited α] (Pp : Nat → α → Prop) (k : Nat) : α := open Classical in if h : ∃ x, Pp k x then Classical.choose h else default
theorem pickA_spec {α : Type} [Inhabited α] {Pp : Nat → α → Prop} {k : Nat} (h : ∃ x, Pp k x) : Pp k (pickA Pp k) := by
  unfold pickA
  rw [dif_pos h]
  exact Classical.choose_spec h
/-- what lies behind a slice -/
theorem trod_list {α : Type} [Inhabited α] {n : Nat} {t e : TypeId} {P : Nat → Nat → α → Prop} (hn : 0 < n) (ht : Try.prog.underlying t = some (.slice e)) (hC : Try.prog.cellsOf e = n)
    (each : ∀ (fuel b j : Nat) (cs : List Value) (y : DataW H × List MemPlace), cs.length = n → (∀ i, i < n → w.cell? ⟨b, j + i, none⟩ = cs[i]?) → DataW.trod enc Try.prog w base (fun _ => true) held fuel e cs = some y → ∃ z : α, P b j z)
    {fuel : Nat} {v : Value} {x : DataW H × List MemPlace} (hf : DataW.trod enc Try.prog w base (fun _ => true) held fuel t [v] = some x) :
    ∃ (o : Option Addr) (l : List α) (c : Nat), v = .slice o l.length c ∧ CapOk o l.length c ∧ ListAt P n o l := by
  rcases DataW.trod_slice ht hf with ⟨hcs, _⟩ | ⟨a, len, cap, elems, rest, n', _, hcs, _, _, hl, hm, hlen, hel, _, _⟩
  · simp only [List.cons.injEq, and_true] at hcs
    subst hcs
    exact ⟨none, [], 0, rfl, ⟨by simp, fun _ => rfl⟩, fun k x hk => by simp at hk⟩
  · simp only [List.cons.injEq, and_true] at hcs
    subst hcs
    rw [hC] at hel
    obtain ⟨b, off, spot⟩ := a
    have hsp : 0 < len → spot = none := fun h0 => by
      have h1 := hel 0 h0
      obtain ⟨y, hy⟩ : ∃ y, elems[0]? = some y := ⟨_, List.getElem?_eq_getElem (by omega)⟩
      rw [hy, Option.bind_eq_some_iff] at h1
      obtain ⟨cs, hc, ht⟩ := h1
      obtain ⟨_, hcl, hat⟩ := World.cells?_some hc
      have h0 := hat 0 (by omega)
      obtain ⟨c0, hc0⟩ : ∃ c0, cs[0]? = some c0 := ⟨_, List.getElem?_eq_getElem (by omega)⟩
      rw [hc0] at h0
      simpa [Addr.add] using World.cell?_spot h0
    have each2 : ∀ k, k < len → ∃ z : α, ∃ b' off', (⟨b, off, spot⟩ : Addr) = ⟨b', off', none⟩ ∧ P b' (off' + k * n) z := by
      intro k hk
      obtain rfl := hsp (by omega)
      have h1 := hel k hk
      obtain ⟨y, hy⟩ : ∃ y, elems[k]? = some y := ⟨_, List.getElem?_eq_getElem (by omega)⟩
      rw [hy, Option.bind_eq_some_iff] at h1
      obtain ⟨cs, hc, ht⟩ := h1
      obtain ⟨_, hcl, hat⟩ := World.cells?_some hc
      obtain ⟨z, hz⟩ := each _ b (off + k * n) cs y hcl (fun i hi => by have := hat i hi; rw [Addr.add_lit, Addr.add_lit] at this; exact this) ht
      exact ⟨z, b, off, rfl, hz⟩
    refine ⟨some ⟨b, off, spot⟩, (List.range len).map (pickA fun k z => ∃ b' off', (⟨b, off, spot⟩ : Addr) = ⟨b', off', none⟩ ∧ P b' (off' + k * n) z), cap, by simp, ⟨⟨by simpa using hl, by unfold maxLen at hm; omega⟩, fun h => by cases h⟩, fun k z hk => ?_⟩
    rw [List.getElem?_map] at hk
    obtain ⟨k', hk', rfl⟩ := Option.map_eq_some_iff.1 hk
    have hkl := (List.getElem?_eq_some_iff.1 hk').1
    have hke : k' = k := by
      rw [List.getElem?_range (by simpa using hkl)] at hk'
      exact (Option.some.inj hk').symm
    subst hke
    obtain ⟨b', off', e', hP⟩ := pickA_spec (Pp := fun k z => ∃ b' off', (⟨b, off, spot⟩ : Addr) = ⟨b', off', none⟩ ∧ P b' (off' + k * n) z) (each2 k' (by simpa using hkl))
    exact ⟨b', off', by rw [e'], hP⟩
theorem num_i64 {z : Int} (h : (Lit.int .i64 z).wf = true) : Num z := wf_bounds h
theorem wf_u32' {z : Int} (h : (Lit.int .u32 z).wf = true) : 0 ≤ z ∧ z < 4294967296 := by
  simp [Lit.wf, IntKind.min, IntKind.max, IntKind.signed, IntKind.bits] at h
  omega
theorem range_of_at {b j n : Nat} {cs : List Value} (hl : cs.length = n) (hat : ∀ i, i < n → w.cell? ⟨b, j + i, none⟩ = cs[i]?) : w.rangeAt b j cs := fun i v hi => by
  rw [hat i (by have := (List.getElem?_eq_some_iff.1 hi).1; omega)]
  exact hi
theorem vert_of {fuel : Nat} {b j : Nat} {cs : List Value} {y : DataW H × List MemPlace} (hlen : cs.length = 3) (hat : ∀ i, i < 3 → w.cell? ⟨b, j + i, none⟩ = cs[i]?)
    (h : DataW.trod enc Try.prog w base (fun _ => true) held fuel 82 cs = some y) : ∃ v : List Int, w.rangeAt b j (v.map encI) ∧ VertWf v := by
  obtain ⟨h1, h2, _⟩ := trod_ints Try.underlying82 Try.underlying2 (by kernel_rfl) (by kernel_rfl) h
  obtain ⟨m, rfl, hw⟩ := ints_of _ h1
  exact ⟨m, range_of_at hlen hat, ⟨by simpa using h2, wf_all hw⟩⟩
theorem tri_of {fuel : Nat} {b j : Nat} {cs : List Value} {y : DataW H × List MemPlace} (hlen : cs.length = 4) (hat : ∀ i, i < 4 → w.cell? ⟨b, j + i, none⟩ = cs[i]?)
    (h : DataW.trod enc Try.prog w base (fun _ => true) held fuel 86 cs = some y) : ∃ t : TriR, w.rangeAt b j (triL t) ∧ TriWf t := by
  have hr := range_of_at hlen hat
  match cs, hlen with
  | [v0, v1, v2, v3], _ =>
    obtain ⟨xs, n, _, _, _, hl, hf⟩ := DataW.trod_struct Try.underlying86 h
    have k1 : Try.prog.cellsOf 3 = 1 := by kernel_rfl
    have k2 : Try.prog.cellsOf 84 = 1 := by kernel_rfl
    match xs, hl with
    | [y0, y1, y2, y3], _ =>
      have e0 : DataW.trod enc Try.prog w base (fun _ => true) held n 3 [v0] = some y0 := by
        have h0 := hf 0 _ rfl
        dsimp only [List.getElem_toArray, List.getElem_cons_zero, List.getElem_cons_succ, List.getElem?_cons_zero, List.getElem?_cons_succ] at h0
        rw [k1] at h0
        exact h0
      have e1 : DataW.trod enc Try.prog w base (fun _ => true) held n 3 [v1] = some y1 := by
        have h0 := hf 1 _ rfl
        dsimp only [List.getElem_toArray, List.getElem_cons_zero, List.getElem_cons_succ, List.getElem?_cons_zero, List.getElem?_cons_succ] at h0
        rw [k1] at h0
        exact h0
      have e2 : DataW.trod enc Try.prog w base (fun _ => true) held n 3 [v2] = some y2 := by
        have h0 := hf 2 _ rfl
        dsimp only [List.getElem_toArray, List.getElem_cons_zero, List.getElem_cons_succ, List.getElem?_cons_zero, List.getElem?_cons_succ] at h0
        rw [k1] at h0
        exact h0
      have e3 : DataW.trod enc Try.prog w base (fun _ => true) held n 84 [v3] = some y3 := by
        have h0 := hf 3 _ rfl
        dsimp only [List.getElem_toArray, List.getElem_cons_zero, List.getElem_cons_succ, List.getElem?_cons_zero, List.getElem?_cons_succ] at h0
        rw [k2] at h0
        exact h0
      obtain ⟨z0, q0, _, w0⟩ := DataW.trod_int Try.underlying3 e0
      obtain ⟨z1, q1, _, w1⟩ := DataW.trod_int Try.underlying3 e1
      obtain ⟨z2, q2, _, w2⟩ := DataW.trod_int Try.underlying3 e2
      obtain ⟨z3, q3, _, w3⟩ := DataW.trod_int Try.underlying84 e3
      simp only [List.cons.injEq, and_true] at q0 q1 q2 q3
      subst q0 q1 q2 q3
      exact ⟨⟨z0, z1, z2, z3⟩, hr, ⟨num_i64 w0, num_i64 w1, num_i64 w2, wf_u32' w3⟩⟩
theorem obj_of {fuel : Nat} {b j : Nat} {cs : List Value} {y : DataW H × List MemPlace} (hlen : cs.length = 19) (hat : ∀ i, i < 19 → w.cell? ⟨b, j + i, none⟩ = cs[i]?)
    (h : DataW.trod enc Try.prog w base (fun _ => true) held fuel 48 cs = some y) : ∃ x : ObjR, ObjAt w b j x := by
  have hr := range_of_at hlen hat
  match cs, hlen with
  | [v0, v1, v2, v3, v4, v5, v6, v7, v8, v9, v10, v11, v12, v13, v14, v15, v16, v17, v18], _ =>
    obtain ⟨xs, n, _, _, _, hl, hf⟩ := DataW.trod_struct Try.underlying48 h
    have k1 : Try.prog.cellsOf 3 = 1 := by kernel_rfl
    have k2 : Try.prog.cellsOf 29 = 16 := by kernel_rfl
    have k3 : Try.prog.cellsOf 45 = 1 := by kernel_rfl
    have k4 : Try.prog.cellsOf 46 = 1 := by kernel_rfl
    match xs, hl with
    | [y0, y1, y2, y3], _ =>
      have e0 : DataW.trod enc Try.prog w base (fun _ => true) held n 3 [v0] = some y0 := by
        have h0 := hf 0 _ rfl
        dsimp only [List.getElem_toArray, List.getElem_cons_zero, List.getElem_cons_succ, List.getElem?_cons_zero, List.getElem?_cons_succ] at h0
        rw [k1] at h0
        exact h0
      have e1 : DataW.trod enc Try.prog w base (fun _ => true) held n 29 [v1, v2, v3, v4, v5, v6, v7, v8, v9, v10, v11, v12, v13, v14, v15, v16] = some y1 := by
        have h0 := hf 1 _ rfl
        dsimp only [List.getElem_toArray, List.getElem_cons_zero, List.getElem_cons_succ, List.getElem?_cons_zero, List.getElem?_cons_succ] at h0
        rw [k2] at h0
        exact h0
      have e2 : DataW.trod enc Try.prog w base (fun _ => true) held n 45 [v17] = some y2 := by
        have h0 := hf 2 _ rfl
        dsimp only [List.getElem_toArray, List.getElem_cons_zero, List.getElem_cons_succ, List.getElem?_cons_zero, List.getElem?_cons_succ] at h0
        rw [k3] at h0
        exact h0
      have e3 : DataW.trod enc Try.prog w base (fun _ => true) held n 46 [v18] = some y3 := by
        have h0 := hf 3 _ rfl
        dsimp only [List.getElem_toArray, List.getElem_cons_zero, List.getElem_cons_succ, List.getElem?_cons_zero, List.getElem?_cons_succ] at h0
        rw [k4] at h0
        exact h0
      obtain ⟨z0, q0, _, w0⟩ := DataW.trod_int Try.underlying3 e0
      obtain ⟨h1, h2, _⟩ := trod_rows Try.underlying29 Try.underlying27 Try.underlying2 (by kernel_rfl) (by kernel_rfl) (by kernel_rfl) (by omega) e1
      obtain ⟨m, hm, hw⟩ := ints_of _ h1
      have hml : m.length = 16 := by
        have := congrArg List.length hm
        simpa using this.symm
      obtain ⟨vo, vs, vc, q2, hv1, hv2⟩ := trod_list (P := fun b j v => w.rangeAt b j (v.map encI) ∧ VertWf v) (n := 3) (by omega) Try.underlying45 (by kernel_rfl) (fun _ _ _ _ _ hl hat h => vert_of hl hat h) e2
      obtain ⟨tq, ts, tc, q3, ht1, ht2⟩ := trod_list (P := fun b j t => w.rangeAt b j (triL t) ∧ TriWf t) (n := 4) (by omega) Try.underlying46 (by kernel_rfl) (fun _ _ _ _ _ hl hat h => tri_of hl hat h) e3
      simp only [List.cons.injEq, and_true] at q0
      refine ⟨⟨z0, m, vo, vs, vc, tq, ts, tc⟩, ?_, hv2, ht2, ⟨num_i64 w0, hml, wf_all hw, hv1, ht1⟩⟩
      have e : objL ⟨z0, m, vo, vs, vc, tq, ts, tc⟩ = [v0, v1, v2, v3, v4, v5, v6, v7, v8, v9, v10, v11, v12, v13, v14, v15, v16, v17, v18] := by
        unfold objL
        dsimp only
        rw [← hm, ← q2, ← q3, ← q0]
        rfl
      rw [e]
      exact hr
set_option maxRecDepth 100000 in
/-- a scene that came in -/
theorem open_scene {r : Reach} {b0 : Nat} {v : Value} {d : DataW H} {ps : List MemPlace}
    (hv : Value.okWide Try.prog w r b0 32 v) (h : DataW.Trod enc Try.prog w base (fun _ => true) held 32 v d ps) :
    ∃ s : ScR, v = .agg (scC s) ∧ ScWf s ∧ ObjsAt w s.oo s.os := by
  obtain ⟨cs, rfl⟩ : ∃ cs : Array Value, v = .agg cs := by
    unfold Value.okWide at hv
    simp only [Try.underlying32] at hv
    obtain ⟨cs, rfl, _⟩ := hv
    exact ⟨cs, rfl⟩
  obtain ⟨fuel, hf0⟩ := h
  have hlen : (Value.agg cs).cells.toList.length = 19 := by
    have := DataW.trod_struct Try.underlying32 hf0
    obtain ⟨xs, n, _, _, hc, _⟩ := this
    refine hc.trans ?_
    kernel_rfl
  obtain ⟨cs⟩ := cs
  have hcs : (Value.agg ⟨cs⟩).cells.toList = cs := rfl
  rw [hcs] at hf0 hlen
  match cs, hlen with
  | [v0, v1, v2, v3, v4, v5, v6, v7, v8, v9, v10, v11, v12, v13, v14, v15, v16, v17, v18], _ =>
    obtain ⟨xs, n, _, _, _, hl, hf⟩ := DataW.trod_struct Try.underlying32 hf0
    have k1 : Try.prog.cellsOf 3 = 1 := by kernel_rfl
    have k2 : Try.prog.cellsOf 29 = 16 := by kernel_rfl
    have k3 : Try.prog.cellsOf 30 = 1 := by kernel_rfl
    match xs, hl with
    | [y0, y1, y2, y3], _ =>
      have e0 : DataW.trod enc Try.prog w base (fun _ => true) held n 3 [v0] = some y0 := by
        have h0 := hf 0 _ rfl
        dsimp only [List.getElem_toArray, List.getElem_cons_zero, List.getElem_cons_succ, List.getElem?_cons_zero, List.getElem?_cons_succ] at h0
        rw [k1] at h0
        exact h0
      have e1 : DataW.trod enc Try.prog w base (fun _ => true) held n 3 [v1] = some y1 := by
        have h0 := hf 1 _ rfl
        dsimp only [List.getElem_toArray, List.getElem_cons_zero, List.getElem_cons_succ, List.getElem?_cons_zero, List.getElem?_cons_succ] at h0
        rw [k1] at h0
        exact h0
      have e2 : DataW.trod enc Try.prog w base (fun _ => true) held n 29 [v2, v3, v4, v5, v6, v7, v8, v9, v10, v11, v12, v13, v14, v15, v16, v17] = some y2 := by
        have h0 := hf 2 _ rfl
        dsimp only [List.getElem_toArray, List.getElem_cons_zero, List.getElem_cons_succ, List.getElem?_cons_zero, List.getElem?_cons_succ] at h0
        rw [k2] at h0
        exact h0
      have e3 : DataW.trod enc Try.prog w base (fun _ => true) held n 30 [v18] = some y3 := by
        have h0 := hf 3 _ rfl
        dsimp only [List.getElem_toArray, List.getElem_cons_zero, List.getElem_cons_succ, List.getElem?_cons_zero, List.getElem?_cons_succ] at h0
        rw [k3] at h0
        exact h0
      obtain ⟨z0, q0, _, w0⟩ := DataW.trod_int Try.underlying3 e0
      obtain ⟨z1, q1, _, w1⟩ := DataW.trod_int Try.underlying3 e1
      obtain ⟨h1, h2, _⟩ := trod_rows Try.underlying29 Try.underlying27 Try.underlying2 (by kernel_rfl) (by kernel_rfl) (by kernel_rfl) (by omega) e2
      obtain ⟨m, hm, hw⟩ := ints_of _ h1
      have hml : m.length = 16 := by
        have := congrArg List.length hm
        simpa using this.symm
      obtain ⟨o, os, c, q3, ho1, ho2⟩ := trod_list (P := ObjAt w) (n := 19) (by omega) Try.underlying30 (by kernel_rfl) (fun _ _ _ _ _ hl hat h => obj_of hl hat h) e3
      simp only [List.cons.injEq, and_true] at q0 q1
      refine ⟨⟨z0, z1, m, o, os, c⟩, ?_, ⟨num_i64 w0, num_i64 w1, hml, wf_all hw, ho1⟩, ho2⟩
      have e : scL ⟨z0, z1, m, o, os, c⟩ = [v0, v1, v2, v3, v4, v5, v6, v7, v8, v9, v10, v11, v12, v13, v14, v15, v16, v17, v18] := by
        unfold scL
        dsimp only
        rw [← hm, ← q3, ← q0, ← q1]
        rfl
      unfold scC
      rw [e]
end
end Go.Proofs.Ytildnadkfonlhaa.Fx
