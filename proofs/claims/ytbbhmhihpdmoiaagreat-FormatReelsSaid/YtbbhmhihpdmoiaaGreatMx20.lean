import Derived.Laws.Rows
import Derived.Test.YtbbhmhihpdmoiaaGreatProg
import Derived.WalkKit
import Derived.ProofKit
import Derived.OpenShut
import Derived.Carry
import Derived.Deep.Slices
import Derived.Deep.MidRow
import Derived.Lib.SmallJoins
import Derived.Laws.StructEq
import Derived.BigQuiet
import Derived.Deep.QuietTactic
import Derived.Deep.LoopGhost
import Derived.Test.YtbbhmhihpdmoiaaGreatMx11
import Derived.Test.YtbbhmhihpdmoiaaGreatMx16
import Derived.Test.YtbbhmhihpdmoiaaGreatMx19
/- Scenes as a parameter: numbers, a matrix, a slice of objects with a matrix and two slices, opened. -/
set_option linter.unusedVariables false
namespace Go.Proofs.YtbbhmhihpdmoiaaGreat.Fx
open Go Go.RowKit Go.ChangeShapes Go.WideShapes
/-- a triangle -/
structure TriR where
  a : Int
  b : Int
  c : Int
  col : Int
  deriving DecidableEq
instance : Inhabited TriR := ⟨⟨0, 0, 0, 0⟩⟩
/-- an object -/
structure ObjR where
  id : Int
  m : List Int
  vo : Option Addr
  vs : List (List Int)
  vc : Nat
  tq : Option Addr
  ts : List TriR
  tc : Nat
instance : Inhabited ObjR := ⟨⟨0, [], none, [], 0, none, [], 0⟩⟩
/-- a scene -/
structure ScR where
  w : Int
  h : Int
  cam : List Int
  oo : Option Addr
  os : List ObjR
  oc : Nat
def triL (t : TriR) : List Value := [.int .i64 t.a, .int .i64 t.b, .int .i64 t.c, .int .u32 t.col]
def objL (x : ObjR) : List Value := .int .i64 x.id :: (x.m.map encI ++ [.slice x.vo x.vs.length x.vc, .slice x.tq x.ts.length x.tc])
def scL (s : ScR) : List Value := .int .i64 s.w :: .int .i64 s.h :: (s.cam.map encI ++ [.slice s.oo s.os.length s.oc])
def scC (s : ScR) : Array Value := (scL s).toArray
def Num (z : Int) : Prop := -9223372036854775808 ≤ z ∧ z ≤ 9223372036854775807
structure VertWf (v : List Int) : Prop where
  len : v.length = 3
  num : ∀ j, Num (v.getD j 0)
structure TriWf (t : TriR) : Prop where
  a : Num t.a
  b : Num t.b
  c : Num t.c
  col : 0 ≤ t.col ∧ t.col < 4294967296
/-- a list lies behind a slice, each of its members n cells long -/
def ListAt {α : Type} (P : Nat → Nat → α → Prop) (n : Nat) (o : Option Addr) (l : List α) : Prop := ∀ k z, l[k]? = some z → ∃ b off, o = some ⟨b, off, none⟩ ∧ P b (off + k * n) z
def CapOk (o : Option Addr) (n c : Nat) : Prop := (n ≤ c ∧ c ≤ 9223372036854775807) ∧ (o = none → c = 0)
def VertsAt (W : World) (o : Option Addr) (l : List (List Int)) : Prop := ListAt (fun b j v => W.rangeAt b j (v.map encI) ∧ VertWf v) 3 o l
def TrisAt (W : World) (o : Option Addr) (l : List TriR) : Prop := ListAt (fun b j t => W.rangeAt b j (triL t) ∧ TriWf t) 4 o l
structure ObjWf (x : ObjR) : Prop where
  id : Num x.id
  len : x.m.length = 16
  num : ∀ j, Num (x.m.getD j 0)
  vcap : CapOk x.vo x.vs.length x.vc
  tcap : CapOk x.tq x.ts.length x.tc
structure ObjAt (W : World) (b j : Nat) (x : ObjR) : Prop where
  cells : W.rangeAt b j (objL x)
  verts : VertsAt W x.vo x.vs
  tris : TrisAt W x.tq x.ts
  wf : ObjWf x
def ObjsAt (W : World) (o : Option Addr) (l : List ObjR) : Prop := ListAt (ObjAt W) 19 o l
structure ScWf (s : ScR) : Prop where
  w : Num s.w
  h : Num s.h
  len : s.cam.length = 16
  num : ∀ j, Num (s.cam.getD j 0)
  cap : CapOk s.oo s.os.length s.oc
theorem range_below {w W : World} {b j : Nat} {l : List Value} (hb : Below w.heap.size w W) (h : w.rangeAt b j l) : W.rangeAt b j l := fun i v hi => keep_cell hb (h i v hi)
theorem VertsAt.below {w W : World} {o : Option Addr} {l : List (List Int)} (hb : Below w.heap.size w W) (h : VertsAt w o l) : VertsAt W o l := fun k z hk => by
  obtain ⟨b, off, e, h1, h2⟩ := h k z hk
  exact ⟨b, off, e, range_below hb h1, h2⟩
theorem TrisAt.below {w W : World} {o : Option Addr} {l : List TriR} (hb : Below w.heap.size w W) (h : TrisAt w o l) : TrisAt W o l := fun k z hk => by
  obtain ⟨b, off, e, h1, h2⟩ := h k z hk
  exact ⟨b, off, e, range_below hb h1, h2⟩
theorem ObjAt.below {w W : World} {b j : Nat} {x : ObjR} (hb : Below w.heap.size w W) (h : ObjAt w b j x) : ObjAt W b j x :=
  ⟨range_below hb h.cells, h.verts.below hb, h.tris.below hb, h.wf⟩
theorem ObjsAt.below {w W : World} {o : Option Addr} {l : List ObjR} (hb : Below w.heap.size w W) (h : ObjsAt w o l) : ObjsAt W o l := fun k z hk => by
  obtain ⟨b, off, e, h1⟩ := h k z hk
  exact ⟨b, off, e, h1.below hb⟩
theorem scL_len {s : ScR} (h : ScWf s) : (scL s).length = 19 := by simp [scL, h.len]
theorem objL_len {x : ObjR} (h : ObjWf x) : (objL x).length = 19 := by simp [objL, h.len]
theorem scL_cam {s : ScR} {j : Nat} {v : Value} (hj : (s.cam.map encI)[j]? = some v) : (scL s)[2 + j]? = some v := by
  rw [show 2 + j = j + 1 + 1 by omega]
  show (s.cam.map encI ++ _)[j]? = _
  rw [List.getElem?_append_left (List.getElem?_eq_some_iff.1 hj).1]
  exact hj
theorem scL_os {s : ScR} (h : ScWf s) : (scL s)[18]? = some (.slice s.oo s.os.length s.oc) := by
  show (s.cam.map encI ++ _)[16]? = _
  rw [List.getElem?_append_right (by simp [h.len])]
  simp [h.len]
theorem objL_id (x : ObjR) : (objL x)[0]? = some (.int .i64 x.id) := rfl
theorem objL_m {x : ObjR} {j : Nat} {v : Value} (hj : (x.m.map encI)[j]? = some v) : (objL x)[1 + j]? = some v := by
  rw [show 1 + j = j + 1 by omega]
  show (x.m.map encI ++ _)[j]? = _
  rw [List.getElem?_append_left (List.getElem?_eq_some_iff.1 hj).1]
  exact hj
theorem objL_vs {x : ObjR} (h : ObjWf x) : (objL x)[17]? = some (.slice x.vo x.vs.length x.vc) := by
  show (x.m.map encI ++ _)[16]? = _
  rw [List.getElem?_append_right (by simp [h.len])]
  simp [h.len]
theorem objL_ts {x : ObjR} (h : ObjWf x) : (objL x)[18]? = some (.slice x.tq x.ts.length x.tc) := by
  show (x.m.map encI ++ _)[17]? = _
  rw [List.getElem?_append_right (by simp [h.len])]
  simp [h.len]
section
variable {H : Type} {enc : TypeId × Value → H} {w : World} {base : Nat} {held : Bool}
noncomputable def pickA {α : Type} [Inhabited α] (Pp : Nat → α → Prop) (k : Nat) : α := open Classical in if h : ∃ x, Pp k x then Classical.choose h else default
theorem pickA_spec {α : Type} [Inhabited α] {Pp : Nat → α → Prop} {k : Nat} (h : ∃ x, Pp k x) : Pp k (pickA Pp k) := by
  unfold pickA
  rw [dif_pos h]
  exact Classical.choose_spec h
/-- what lies behind a slice -/
theorem trod_list {α : Type} [Inhabited α] {n : Nat} {t e : TypeId} {P : Nat → Nat → α → Prop} (hn : 0 < n) (ht : Tryz.prog.underlying t = some (.slice e)) (hC : Tryz.prog.cellsOf e = n)
    (each : ∀ (fuel b j : Nat) (cs : List Value) (y : DataW H × List MemPlace), cs.length = n → (∀ i, i < n → w.cell? ⟨b, j + i, none⟩ = cs[i]?) → DataW.trod enc Tryz.prog w base (fun _ => true) held fuel e cs = some y → ∃ z : α, P b j z)
    {fuel : Nat} {v : Value} {x : DataW H × List MemPlace} (hf : DataW.trod enc Tryz.prog w base (fun _ => true) held fuel t [v] = some x) :
    ∃ (o : Option Addr) (l : List α) (c : Nat), v = .slice o l.length c ∧ CapOk o l.length c ∧ ListAt P n o l := by
  rcases DataW.trod_slice ht hf with ⟨hcs, _⟩ | ⟨a, len, cap, elems, rest, n', _, hcs, _, _, hl, hm, hlen, hel, _, _⟩
  · simp only [List.cons.injEq, and_true] at hcs
    subst hcs
    exact ⟨none, [], 0, rfl, ⟨by simp, fun _ => rfl⟩, fun k x hk => by simp at hk⟩
  · simp only [List.cons.injEq, and_true] at hcs
    subst hcs
    rw [hC] at hel
    obtain ⟨b, off, spot⟩ := a
    have hsp : 0 < len → spot = none := fun h0 => by
      have h1 := hel 0 h0
      obtain ⟨y, hy⟩ : ∃ y, elems[0]? = some y := ⟨_, List.getElem?_eq_getElem (by omega)⟩
      rw [hy, Option.bind_eq_some_iff] at h1
      obtain ⟨cs, hc, ht⟩ := h1
      obtain ⟨_, hcl, hat⟩ := World.cells?_some hc
      have h0 := hat 0 (by omega)
      obtain ⟨c0, hc0⟩ : ∃ c0, cs[0]? = some c0 := ⟨_, List.getElem?_eq_getElem (by omega)⟩
      rw [hc0] at h0
      simpa [Addr.add] using World.cell?_spot h0
    have each2 : ∀ k, k < len → ∃ z : α, ∃ b' off', (⟨b, off, spot⟩ : Addr) = ⟨b', off', none⟩ ∧ P b' (off' + k * n) z := by
      intro k hk
      obtain rfl := hsp (by omega)
      have h1 := hel k hk
      obtain ⟨y, hy⟩ : ∃ y, elems[k]? = some y := ⟨_, List.getElem?_eq_getElem (by omega)⟩
      rw [hy, Option.bind_eq_some_iff] at h1
      obtain ⟨cs, hc, ht⟩ := h1
      obtain ⟨_, hcl, hat⟩ := World.cells?_some hc
      obtain ⟨z, hz⟩ := each _ b (off + k * n) cs y hcl (fun i hi => by have := hat i hi; rw [Addr.add_lit, Addr.add_lit] at this; exact this) ht
      exact ⟨z, b, off, rfl, hz⟩
    refine ⟨some ⟨b, off, spot⟩, (List.range len).map (pickA fun k z => ∃ b' off', (⟨b, off, spot⟩ : Addr) = ⟨b', off', none⟩ ∧ P b' (off' + k * n) z), cap, by simp, ⟨⟨by simpa using hl, by unfold maxLen at hm; omega⟩, fun h => by cases h⟩, fun k z hk => ?_⟩
    rw [List.getElem?_map] at hk
    obtain ⟨k', hk', rfl⟩ := Option.map_eq_some_iff.1 hk
    have hkl := (List.getElem?_eq_some_iff.1 hk').1
    have hke : k' = k := by
      rw [List.getElem?_range (by simpa using hkl)] at hk'
      exact (Option.some.inj hk').symm
    subst hke
    obtain ⟨b', off', e', hP⟩ := pickA_spec (Pp := fun k z => ∃ b' off', (⟨b, off, spot⟩ : Addr) = ⟨b', off', none⟩ ∧ P b' (off' + k * n) z) (each2 k' (by simpa using hkl))
    exact ⟨b', off', by rw [e'], hP⟩
theorem num_i64 {z : Int} (h : (Lit.int .i64 z).wf = true) : Num z := wf_bounds h
theorem wf_u32' {z : Int} (h : (Lit.int .u32 z).wf = true) : 0 ≤ z ∧ z < 4294967296 := by
  simp [Lit.wf, IntKind.min, IntKind.max, IntKind.signed, IntKind.bits] at h
  omega
theorem range_of_at {b j n : Nat} {cs : List Value} (hl : cs.length = n) (hat : ∀ i, i < n → w.cell? ⟨b, j + i, none⟩ = cs[i]?) : w.rangeAt b j cs := fun i v hi => by
  rw [hat i (by have := (List.getElem?_eq_some_iff.1 hi).1; omega)]
  exact hi
theorem vert_of {fuel : Nat} {b j : Nat} {cs : List Value} {y : DataW H × List MemPlace} (hlen : cs.length = 3) (hat : ∀ i, i < 3 → w.cell? ⟨b, j + i, none⟩ = cs[i]?)
    (h : DataW.trod enc Tryz.prog w base (fun _ => true) held fuel 85 cs = some y) : ∃ v : List Int, w.rangeAt b j (v.map encI) ∧ VertWf v := by
  obtain ⟨h1, h2, _⟩ := trod_ints Tryz.underlying85 Tryz.underlying2 (by kernel_rfl) (by kernel_rfl) h
  obtain ⟨m, rfl, hw⟩ := ints_of _ h1
  exact ⟨m, range_of_at hlen hat, ⟨by simpa using h2, wf_all hw⟩⟩
theorem tri_of {fuel : Nat} {b j : Nat} {cs : List Value} {y : DataW H × List MemPlace} (hlen : cs.length = 4) (hat : ∀ i, i < 4 → w.cell? ⟨b, j + i, none⟩ = cs[i]?)
    (h : DataW.trod enc Tryz.prog w base (fun _ => true) held fuel 87 cs = some y) : ∃ t : TriR, w.rangeAt b j (triL t) ∧ TriWf t := by
  have hr := range_of_at hlen hat
  match cs, hlen with
  | [v0, v1, v2, v3], _ =>
    obtain ⟨xs, n, _, _, _, hl, hf⟩ := DataW.trod_struct Tryz.underlying87 h
    have k1 : Tryz.prog.cellsOf 3 = 1 := by kernel_rfl
    have k2 : Tryz.prog.cellsOf 67 = 1 := by kernel_rfl
    match xs, hl with
    | [y0, y1, y2, y3], _ =>
      have e0 : DataW.trod enc Tryz.prog w base (fun _ => true) held n 3 [v0] = some y0 := by
        have h0 := hf 0 _ rfl
        dsimp only [List.getElem_toArray, List.getElem_cons_zero, List.getElem_cons_succ, List.getElem?_cons_zero, List.getElem?_cons_succ] at h0
        rw [k1] at h0
        exact h0
      have e1 : DataW.trod enc Tryz.prog w base (fun _ => true) held n 3 [v1] = some y1 := by
        have h0 := hf 1 _ rfl
        dsimp only [List.getElem_toArray, List.getElem_cons_zero, List.getElem_cons_succ, List.getElem?_cons_zero, List.getElem?_cons_succ] at h0
        rw [k1] at h0
        exact h0
      have e2 : DataW.trod enc Tryz.prog w base (fun _ => true) held n 3 [v2] = some y2 := by
        have h0 := hf 2 _ rfl
        dsimp only [List.getElem_toArray, List.getElem_cons_zero, List.getElem_cons_succ, List.getElem?_cons_zero, List.getElem?_cons_succ] at h0
        rw [k1] at h0
        exact h0
      have e3 : DataW.trod enc Tryz.prog w base (fun _ => true) held n 67 [v3] = some y3 := by
        have h0 := hf 3 _ rfl
        dsimp only [List.getElem_toArray, List.getElem_cons_zero, List.getElem_cons_succ, List.getElem?_cons_zero, List.getElem?_cons_succ] at h0
        rw [k2] at h0
        exact h0
      obtain ⟨z0, q0, _, w0⟩ := DataW.trod_int Tryz.underlying3 e0
      obtain ⟨z1, q1, _, w1⟩ := DataW.trod_int Tryz.underlying3 e1
      obtain ⟨z2, q2, _, w2⟩ := DataW.trod_int Tryz.underlying3 e2
      obtain ⟨z3, q3, _, w3⟩ := DataW.trod_int Tryz.underlying67 e3
      simp only [List.cons.injEq, and_true] at q0 q1 q2 q3
      subst q0 q1 q2 q3
      exact ⟨⟨z0, z1, z2, z3⟩, hr, ⟨num_i64 w0, num_i64 w1, num_i64 w2, wf_u32' w3⟩⟩
theorem obj_of {fuel : Nat} {b j : Nat} {cs : List Value} {y : DataW H × List MemPlace} (hlen : cs.length = 19) (hat : ∀ i, i < 19 → w.cell? ⟨b, j + i, none⟩ = cs[i]?)
    (h : DataW.trod enc Tryz.prog w base (fun _ => true) held fuel 73 cs = some y) : ∃ x : ObjR, ObjAt w b j x := by
  have hr := range_of_at hlen hat
  match cs, hlen with
  | [v0, v1, v2, v3, v4, v5, v6, v7, v8, v9, v10, v11, v12, v13, v14, v15, v16, v17, v18], _ =>
    obtain ⟨xs, n, _, _, _, hl, hf⟩ := DataW.trod_struct Tryz.underlying73 h
    have k1 : Tryz.prog.cellsOf 3 = 1 := by kernel_rfl
    have k2 : Tryz.prog.cellsOf 25 = 16 := by kernel_rfl
    have k3 : Tryz.prog.cellsOf 70 = 1 := by kernel_rfl
    have k4 : Tryz.prog.cellsOf 71 = 1 := by kernel_rfl
    match xs, hl with
    | [y0, y1, y2, y3], _ =>
      have e0 : DataW.trod enc Tryz.prog w base (fun _ => true) held n 3 [v0] = some y0 := by
        have h0 := hf 0 _ rfl
        dsimp only [List.getElem_toArray, List.getElem_cons_zero, List.getElem_cons_succ, List.getElem?_cons_zero, List.getElem?_cons_succ] at h0
        rw [k1] at h0
        exact h0
      have e1 : DataW.trod enc Tryz.prog w base (fun _ => true) held n 25 [v1, v2, v3, v4, v5, v6, v7, v8, v9, v10, v11, v12, v13, v14, v15, v16] = some y1 := by
        have h0 := hf 1 _ rfl
        dsimp only [List.getElem_toArray, List.getElem_cons_zero, List.getElem_cons_succ, List.getElem?_cons_zero, List.getElem?_cons_succ] at h0
        rw [k2] at h0
        exact h0
      have e2 : DataW.trod enc Tryz.prog w base (fun _ => true) held n 70 [v17] = some y2 := by
        have h0 := hf 2 _ rfl
        dsimp only [List.getElem_toArray, List.getElem_cons_zero, List.getElem_cons_succ, List.getElem?_cons_zero, List.getElem?_cons_succ] at h0
        rw [k3] at h0
        exact h0
      have e3 : DataW.trod enc Tryz.prog w base (fun _ => true) held n 71 [v18] = some y3 := by
        have h0 := hf 3 _ rfl
        dsimp only [List.getElem_toArray, List.getElem_cons_zero, List.getElem_cons_succ, List.getElem?_cons_zero, List.getElem?_cons_succ] at h0
        rw [k4] at h0
        exact h0
      obtain ⟨z0, q0, _, w0⟩ := DataW.trod_int Tryz.underlying3 e0
      obtain ⟨h1, h2, _⟩ := trod_rows Tryz.underlying25 Tryz.underlying23 Tryz.underlying2 (by kernel_rfl) (by kernel_rfl) (by kernel_rfl) (by omega) e1
      obtain ⟨m, hm, hw⟩ := ints_of _ h1
      have hml : m.length = 16 := by
        have := congrArg List.length hm
        simpa using this.symm
      obtain ⟨vo, vs, vc, q2, hv1, hv2⟩ := trod_list (P := fun b j v => w.rangeAt b j (v.map encI) ∧ VertWf v) (n := 3) (by omega) Tryz.underlying70 (by kernel_rfl) (fun _ _ _ _ _ hl hat h => vert_of hl hat h) e2
      obtain ⟨tq, ts, tc, q3, ht1, ht2⟩ := trod_list (P := fun b j t => w.rangeAt b j (triL t) ∧ TriWf t) (n := 4) (by omega) Tryz.underlying71 (by kernel_rfl) (fun _ _ _ _ _ hl hat h => tri_of hl hat h) e3
      simp only [List.cons.injEq, and_true] at q0
      refine ⟨⟨z0, m, vo, vs, vc, tq, ts, tc⟩, ?_, hv2, ht2, ⟨num_i64 w0, hml, wf_all hw, hv1, ht1⟩⟩
      have e : objL ⟨z0, m, vo, vs, vc, tq, ts, tc⟩ = [v0, v1, v2, v3, v4, v5, v6, v7, v8, v9, v10, v11, v12, v13, v14, v15, v16, v17, v18] := by
        unfold objL
        dsimp only
        rw [← hm, ← q2, ← q3, ← q0]
        rfl
      rw [e]
      exact hr
end
end Go.Proofs.YtbbhmhihpdmoiaaGreat.Fx


/- Matrices, vertices and triangles held against one another. -/
set_option linter.unusedVariables false
set_option linter.unusedSimpArgs false
namespace Go.Proofs.YtbbhmhihpdmoiaaGreat.Fx
open Go Go.RowKit Go.Shelf Wm
theorem neq_mat2 (w : World) (xs ys : List Int) (hx : xs.length = 16) (hy : ys.length = 16) :
    (binOp .neq 25 (.agg (xs.map encI).toArray) (.agg (ys.map encI).toArray)).run Tryz.prog w = .ok (.bool (!(xs == ys))) w := by
  have h := eqIn_mat w 9997 xs ys hx hy
  unfold mC at h
  rw [run_neq_struct, h]
  rfl
set_option maxRecDepth 100000 in
theorem eqIn_v3 (w : World) (d : Nat) (xs ys : List Int) (hx : xs.length = 3) (hy : ys.length = 3) :
    (Op.equalIn (d + 2) 85 (.agg (mC xs)) (.agg (mC ys))).run Tryz.prog w = .ok (xs == ys) w := by
  have ht := Tryz.underlying85
  have he := Tryz.underlying2
  have hsz := Tryz.sizeOf2
  rw [← all_range_int xs ys (hx.trans hy.symm), hx, List.range_eq_range', Op.equalIn]
  simp only [Sem.run_bind, run_underlying ht, Result.andThen_ok, hsz, Std.Legacy.Range.forIn_eq_forIn_range', Std.Legacy.Range.size, Nat.sub_zero, Nat.add_sub_cancel, Nat.div_one]
  have hl : ∀ i ∈ List.range' 0 3 1, i < 3 := fun i hi => by simpa using (List.mem_range'_1.1 hi).2
  generalize List.range' 0 3 1 = l at hl ⊢
  induction l with
  | nil => simp
  | cons i l ih =>
    have hi : i < 3 := hl i (by simp)
    have px : (part 2 (mC xs) (i * 1)).run Tryz.prog w = .ok (encI (xs.getD i 0)) w := by
      simp [part, mC, isAgg, run_underlying he, List.getD, List.getElem?_eq_getElem (show i < xs.length by omega)]
    have py : (part 2 (mC ys) (i * 1)).run Tryz.prog w = .ok (encI (ys.getD i 0)) w := by
      simp [part, mC, isAgg, run_underlying he, List.getD, List.getElem?_eq_getElem (show i < ys.length by omega)]
    have pe : (Op.equalIn (d + 1) 2 (encI (xs.getD i 0)) (encI (ys.getD i 0))).run Tryz.prog w = .ok (xs.getD i 0 == ys.getD i 0) w := by
      rw [encI, encI, run_equalIn_int w d 2 .i64 .i64 _ _ he]
    simp only [List.forIn_cons, Sem.run_bind, px, py, pe, Result.andThen_ok, List.all_cons]
    cases hb : (xs.getD i 0 == ys.getD i 0)
    · simp
    · simp only [Bool.not_true, Bool.false_eq_true, if_false, Sem.run_pure, Result.andThen_ok, Bool.true_and]
      exact ih fun j hj => hl j (by simp [hj])
theorem neq_v3 (w : World) (xs ys : List Int) (hx : xs.length = 3) (hy : ys.length = 3) :
    (binOp .neq 85 (.agg (xs.map encI).toArray) (.agg (ys.map encI).toArray)).run Tryz.prog w = .ok (.bool (!(xs == ys))) w := by
  have h := eqIn_v3 w 9998 xs ys hx hy
  unfold mC at h
  rw [run_neq_struct, h]
  rfl
set_option maxRecDepth 100000 in
theorem neq_tri (w : World) (t u : TriR) :
    (binOp .neq 87 (.agg (triL t).toArray) (.agg (triL u).toArray)).run Tryz.prog w = .ok (.bool (!(decide (t = u)))) w := by
  obtain ⟨a, b, c, l⟩ := t
  obtain ⟨a', b', c', l'⟩ := u
  have h : ((Op.equalIn 10000 87 (.agg #[.int .i64 a, .int .i64 b, .int .i64 c, .int .u32 l]) (.agg #[.int .i64 a', .int .i64 b', .int .i64 c', .int .u32 l'])).run Tryz.prog w) = .ok (a == a' && (b == b' && (c == c' && l == l'))) w := by
    go_simp
    by_cases h1 : a = a' <;> by_cases h2 : b = b' <;> by_cases h3 : c = c' <;> by_cases h4 : l = l' <;> simp [h1, h2, h3, h4]
  rw [run_neq_struct]
  unfold triL
  rw [h]
  show Result.ok _ w = _
  congr 3
  by_cases h1 : a = a' <;> by_cases h2 : b = b' <;> by_cases h3 : c = c' <;> by_cases h4 : l = l' <;> simp [h1, h2, h3, h4]
end Go.Proofs.YtbbhmhihpdmoiaaGreat.Fx


/- The document's sums of sizes, walked. 
  The document's comparison of sizes, walked. 
  The document's differences of sizes, walked. 
  The document's numbers with the other sign, walked. 
  The document's numbers of layer 2, plain: what their digits come to. -/
set_option linter.unusedVariables false
set_option linter.unusedSimpArgs false
namespace Go.Proofs.YtbbhmhihpdmoiaaGreat.Fx
open Go Go.RowKit Wm
/-- twenty digits -/
def Dg (d : List Nat) : Prop := d.length = 20 ∧ ∀ x ∈ d, x < 65536
def addL : List Nat → List Nat → Nat → List Nat
  | x :: xs, y :: ys, c => (x + y + c) % 65536 :: addL xs ys ((x + y + c) / 65536)
  | _, _, _ => []
/-- a number whose first digits are laid -/
def pad (p : List Nat) : List Nat := p ++ List.replicate (20 - p.length) 0
theorem pad_put (p : List Nat) (v : Nat) (neg : Bool) (h : p.length < 20) : (bigC neg (pad p)).setIfInBounds (1 + p.length) (.int .u64 (v : Int)) = bigC neg (pad (p ++ [v])) := by
  unfold bigC pad
  rw [List.setIfInBounds_toArray]
  congr 1
  rw [Nat.add_comm, List.set_cons_succ]
  congr 1
  rw [show 20 - p.length = (20 - (p ++ [v]).length) + 1 from by simp; omega, List.replicate_succ]
  simp [encN, List.set_append_right]
theorem big_at (neg : Bool) (d : List Nat) (k : Nat) (h : k < d.length) : (bigC neg d)[1 + k]? = some (.int .u64 ((d.getD k 0 : Nat) : Int)) := by
  unfold bigC
  rw [List.getElem?_toArray, Nat.add_comm, List.getElem?_cons_succ, List.getElem?_map]
  simp [List.getD_eq_getElem?_getD, h, encN]
theorem pad_len (p : List Nat) (h : p.length ≤ 20) : (pad p).length = 20 := by simp [pad]; omega
structure MInv (nx ny : Bool) (dx dy : List Nat) (w : World) (k c : Nat) (p : List Nat) (wr : World) : Prop where
  kl : k ≤ 20
  pl : p.length = k
  cl : c ≤ 1
  eq : addL dx dy 0 = p ++ addL (dx.drop k) (dy.drop k) c
  bx : wr.heap[w.heap.size]? = some (.cells (bigC nx dx) 214 (0, 0))
  by0 : wr.heap[w.heap.size + 1]? = some (.cells (bigC ny dy) 214 (0, 0))
  bz : wr.heap[w.heap.size + 1 + 1 + 1]? = some (.cells (bigC false (pad p)) 214 (0, 0))
  br : wr.heap[w.heap.size + 1 + 1]? = some (.cells (bigC false zeros) 214 (0, 0))
  below : Below w.heap.size w wr
theorem block3 (w : World) (A B C D : Obj) : (((((w.alloc A).alloc B).alloc C).alloc D).heap[w.heap.size]? = some A ∧ ((((w.alloc A).alloc B).alloc C).alloc D).heap[w.heap.size + 1]? = some B) ∧ ((((w.alloc A).alloc B).alloc C).alloc D).heap[w.heap.size + 1 + 1]? = some C ∧ ((((w.alloc A).alloc B).alloc C).alloc D).heap[w.heap.size + 1 + 1 + 1]? = some D := by
  have h0 : (w.alloc A).heap[w.heap.size]? = some A := heap_alloc_new w A
  have h1 : ((w.alloc A).alloc B).heap[w.heap.size + 1]? = some B := heap_alloc2_new w A B
  have h2 : (((w.alloc A).alloc B).alloc C).heap[w.heap.size + 1 + 1]? = some C := by
    have := heap_alloc_new ((w.alloc A).alloc B) C
    simpa only [World.size_alloc] using this
  have h3 : ((((w.alloc A).alloc B).alloc C).alloc D).heap[w.heap.size + 1 + 1 + 1]? = some D := by
    have := heap_alloc_new (((w.alloc A).alloc B).alloc C) D
    simpa only [World.size_alloc] using this
  exact ⟨⟨step_row (step_row (step_row h0)), step_row (step_row h1)⟩, step_row h2, h3⟩
theorem addL_step (dx dy : List Nat) (k c : Nat) (hx : k < dx.length) (hy : k < dy.length) :
    addL (dx.drop k) (dy.drop k) c = ((dx.getD k 0 + dy.getD k 0 + c) % 65536) :: addL (dx.drop (k + 1)) (dy.drop (k + 1)) ((dx.getD k 0 + dy.getD k 0 + c) / 65536) := by
  rw [List.drop_eq_getElem_cons hx, List.drop_eq_getElem_cons hy, addL]
  simp [List.getD_eq_getElem?_getD, hx, hy]
theorem MInv.next {nx ny : Bool} {dx dy : List Nat} {w wr : World} {k c a b nq : Nat} {p : List Nat} (I : MInv nx ny dx dy w k c p wr) (hx : Dg dx) (hy : Dg dy) (hk : k < 20) (ha : dx.getD k 0 = a) (hb : dy.getD k 0 = b) (ha1 : a < 65536) (hb1 : b < 65536) :
    MInv nx ny dx dy w (k + 1) ((a + b + c) / 65536) (p ++ [(a + b + c) % 65536]) ((wr.drewN nq).setCell ⟨w.heap.size + 1 + 1 + 1, 1 + k, none⟩ (.int .u64 (((a + b + c) % 65536 : Nat) : Int))) := by
  have hc := I.cl
  have hp := I.pl
  have hz : (wr.drewN nq).heap[w.heap.size + 1 + 1 + 1]? = some (.cells (bigC false (pad p)) 214 (0, 0)) := I.bz
  refine { kl := (by omega), pl := (by rw [List.length_append, hp]; rfl), cl := (by omega), eq := ?_, bx := ?_, by0 := ?_, bz := ?_, br := ?_, below := ?_ }
  · rw [I.eq, addL_step dx dy k c (by rw [hx.1]; exact hk) (by rw [hy.1]; exact hk), ha, hb, List.append_assoc]
    rfl
  · rw [heap_setCell_other _ _ _ _ (show w.heap.size ≠ w.heap.size + 1 + 1 + 1 by omega)]; exact I.bx
  · rw [heap_setCell_other _ _ _ _ (show w.heap.size + 1 ≠ w.heap.size + 1 + 1 + 1 by omega)]; exact I.by0
  · rw [heap_setCell_same _ _ _ _ _ _ hz, ← hp, pad_put p _ false (by omega)]
  · rw [heap_setCell_other _ _ _ _ (show w.heap.size + 1 + 1 ≠ w.heap.size + 1 + 1 + 1 by omega)]; exact I.br
  · exact Below.setCell (show Below w.heap.size w (wr.drewN nq) from ⟨I.below.os, I.below.tape, I.below.output, I.below.size, I.below.block⟩) (show w.heap.size ≤ w.heap.size + 1 + 1 + 1 by omega) _
def MRel (nx ny : Bool) (dx dy : List Nat) (w : World) (g : Nat) (s6 s7 : Value) (wr : World) : Prop :=
  ∃ k c p, g = 20 - k ∧ s6 = .int .u64 ((c : Nat) : Int) ∧ s7 = .int .i64 ((k : Nat) : Int) ∧ MInv nx ny dx dy w k c p wr
/-- answers a number -/
def RetB (neg : Bool) (d : List Nat) (w : World) (e : Ending) (w' : World) : Prop := e = .returned (.agg (bigC neg d)) ∧ Below w.heap.size w w'
set_option maxHeartbeats 2000000 in
set_option maxRecDepth 100000 in
theorem more_any (nx ny : Bool) (dx dy : List Nat) (w : World) (hx : Dg dx) (hy : Dg dy) :
    Calls Tryz.prog 165 #[.agg (bigC nx dx), .agg (bigC ny dy)] w (RetB false (addL dx dy 0) w) := by
  have HX := Lib.hid hx
  have HY := Lib.hid hy
  clear hx hy
  go_enter Tryz.func165, Tryz.ntmps165
  go_wp2_with fail
  go_loopg [6, 7] 20 (MRel nx ny dx dy w)
  case atStart =>
    refine ⟨0, 0, [], rfl, rfl, rfl, ?_⟩
    refine { kl := (by omega), pl := rfl, cl := (by omega), eq := rfl, bx := ?_, by0 := ?_, bz := ?_, br := ?_, below := (by go_grown) }
    · exact (block3 w _ _ _ _).1.1
    · exact (block3 w _ _ _ _).1.2
    · exact (block3 w _ _ _ _).2.2
    · exact (block3 w _ _ _ _).2.1
  case round =>
    obtain ⟨k, c, p, rfl, rfl, rfl, I⟩ := hrel
    have HI := Lib.hid I
    by_cases hk : k < 20
    · obtain ⟨a, ha⟩ : ∃ a, dx.getD k 0 = a := ⟨_, rfl⟩
      obtain ⟨b, hb⟩ : ∃ b, dy.getD k 0 = b := ⟨_, rfl⟩
      have ha1 : a < 65536 := HX.out.2 a (by rw [← ha]; have := HX.out.1; simp [List.getD_eq_getElem?_getD, show k < dx.length by omega])
      have hb1 : b < 65536 := HY.out.2 b (by rw [← hb]; have := HY.out.1; simp [List.getD_eq_getElem?_getD, show k < dy.length by omega])
      have cx : wr.cell? ⟨w.heap.size, 1 + k, none⟩ = some (.int .u64 (a : Int)) := by rw [cell_of_row _ _ _ _ _ _ I.bx, big_at _ _ _ (by rw [HX.out.1]; exact hk), ha]
      have cy : wr.cell? ⟨w.heap.size + 1, 1 + k, none⟩ = some (.int .u64 (b : Int)) := by rw [cell_of_row _ _ _ _ _ _ I.by0, big_at _ _ _ (by rw [HY.out.1]; exact hk), hb]
      have cz : wr.cell? ⟨w.heap.size + 1 + 1 + 1, 1 + k, none⟩ = some (.int .u64 (((pad p).getD k 0 : Nat) : Int)) := by rw [cell_of_row _ _ _ _ _ _ I.bz, big_at _ _ _ (by rw [pad_len p (by have := I.pl; omega)]; exact hk)]
      have fz : wr.frozen? ⟨w.heap.size + 1 + 1 + 1, 1 + k, none⟩ = false := frozen_row I.bz
      have hc1 := I.cl
      have k0 : (0 : Int) ≤ (k : Int) := by omega
      have k1 : (k : Int) < 20 := by omega
      have HA := Lib.hid ha
      have HB := Lib.hid hb
      clear ha hb I
      go_wp2_with fail
      go_quiet (fail)
      go_wp2_with fail
      go_roundg (20 - (k + 1))
      case measure => omega
      case rel => exact ⟨k + 1, _, _, rfl, by go_num, by go_num, by have := HI.out.next (nq := nq) HX.out HY.out hk HA.out HB.out ha1 hb1; simpa using this⟩
    · have hk20 : k = 20 := by have := I.kl; omega
      have hp := I.pl
      have hpd : pad p = p := by unfold pad; rw [hp, hk20]; simp
      have hres : addL dx dy 0 = p := by
        rw [I.eq, hk20, List.drop_of_length_le (by rw [HX.out.1]; omega)]
        simp [addL]
      have bz := I.bz
      have br := I.br
      rw [hpd] at bz
      have hpl : p.length = 20 := by omega
      have hs1 : (bigC false p).size = 21 := by rw [big_size, hpl]
      have hi1 : (Tryz.prog.info? 214).map (·.size) = some (bigC false p).size := by rw [size21, hs1]
      have hs0 : (bigC false zeros).size = (bigC false p).size := by rw [hs1]; rfl
      have k1 : ¬ (k : Int) < 20 := by omega
      have HRES := Lib.hid hres
      have BZ := Lib.hid bz
      have BR := Lib.hid br
      have HI1 := Lib.hid hi1
      have HS0 := Lib.hid hs0
      have BB := Lib.hid I.below
      clear hk20 hp hpd hres bz br hpl hs1 hi1 hs0 I
      go_wp2_with (first | (refine wpList_load_row rfl 214 (.tmp 5) rfl (w.heap.size + 1 + 1 + 1) rfl _ _ _ _ BZ.out Tryz.underlying214 rfl HI1.out ?_) | (refine wpList_store_big rfl 214 (.tmp 4) (.tmp 31) rfl (w.heap.size + 1 + 1) _ _ (bigC false p) rfl rfl BR.out HI1.out HS0.out (big_one _ _) ?_))
      refine bodyPost_ret (v := .agg (bigC false p)) (results_cell_row rfl _ _ (w.heap.size + 1 + 1) _ _ _ _ rfl (setRow_heap _ _ _ _ _ _ BR.out) Tryz.underlying214 rfl HI1.out) rfl ?_
      rw [HRES.out]
      exact ⟨rfl, Below.row BB.out (by omega) _⟩
end Go.Proofs.YtbbhmhihpdmoiaaGreat.Fx
set_option linter.unusedVariables false
set_option linter.unusedSimpArgs false
namespace Go.Proofs.YtbbhmhihpdmoiaaGreat.Fx
open Go Go.RowKit Wm
end Go.Proofs.YtbbhmhihpdmoiaaGreat.Fx
set_option linter.unusedVariables false
set_option linter.unusedSimpArgs false
namespace Go.Proofs.YtbbhmhihpdmoiaaGreat.Fx
open Go Go.RowKit Wm
/-- the greater size less the lesser one, with what was borrowed -/
def subL : List Nat → List Nat → Nat → List Nat
  | x :: xs, y :: ys, c => (x + 65536 - y - c) % 65536 :: subL xs ys (1 - (x + 65536 - y - c) / 65536)
  | _, _, _ => []
structure AInv (nx ny : Bool) (dx dy : List Nat) (w : World) (k c : Nat) (p : List Nat) (wr : World) : Prop where
  kl : k ≤ 20
  pl : p.length = k
  cl : c ≤ 1
  eq : subL dx dy 0 = p ++ subL (dx.drop k) (dy.drop k) c
  bx : wr.heap[w.heap.size]? = some (.cells (bigC nx dx) 214 (0, 0))
  by0 : wr.heap[w.heap.size + 1]? = some (.cells (bigC ny dy) 214 (0, 0))
  bz : wr.heap[w.heap.size + 1 + 1 + 1]? = some (.cells (bigC false (pad p)) 214 (0, 0))
  br : wr.heap[w.heap.size + 1 + 1]? = some (.cells (bigC false zeros) 214 (0, 0))
  below : Below w.heap.size w wr
theorem subL_step (dx dy : List Nat) (k c : Nat) (hx : k < dx.length) (hy : k < dy.length) :
    subL (dx.drop k) (dy.drop k) c = ((dx.getD k 0 + 65536 - dy.getD k 0 - c) % 65536) :: subL (dx.drop (k + 1)) (dy.drop (k + 1)) (1 - (dx.getD k 0 + 65536 - dy.getD k 0 - c) / 65536) := by
  rw [List.drop_eq_getElem_cons hx, List.drop_eq_getElem_cons hy, subL]
  simp [List.getD_eq_getElem?_getD, hx, hy]
theorem AInv.next {nx ny : Bool} {dx dy : List Nat} {w wr : World} {k c a b s nq : Nat} {p : List Nat} (I : AInv nx ny dx dy w k c p wr) (hx : Dg dx) (hy : Dg dy) (hk : k < 20) (ha : dx.getD k 0 = a) (hb : dy.getD k 0 = b) (ha1 : a < 65536) (hb1 : b < 65536) (hs : a + 65536 - b - c = s) :
    AInv nx ny dx dy w (k + 1) (1 - s / 65536) (p ++ [s % 65536]) ((wr.drewN nq).setCell ⟨w.heap.size + 1 + 1 + 1, 1 + k, none⟩ (.int .u64 ((s % 65536 : Nat) : Int))) := by
  have hc := I.cl
  have hp := I.pl
  have hz : (wr.drewN nq).heap[w.heap.size + 1 + 1 + 1]? = some (.cells (bigC false (pad p)) 214 (0, 0)) := I.bz
  refine { kl := (by omega), pl := (by rw [List.length_append, hp]; rfl), cl := (by omega), eq := ?_, bx := ?_, by0 := ?_, bz := ?_, br := ?_, below := ?_ }
  · rw [I.eq, subL_step dx dy k c (by rw [hx.1]; exact hk) (by rw [hy.1]; exact hk), ha, hb, hs, List.append_assoc]
    rfl
  · rw [heap_setCell_other _ _ _ _ (show w.heap.size ≠ w.heap.size + 1 + 1 + 1 by omega)]; exact I.bx
  · rw [heap_setCell_other _ _ _ _ (show w.heap.size + 1 ≠ w.heap.size + 1 + 1 + 1 by omega)]; exact I.by0
  · rw [heap_setCell_same _ _ _ _ _ _ hz, ← hp, pad_put p _ false (by omega)]
  · rw [heap_setCell_other _ _ _ _ (show w.heap.size + 1 + 1 ≠ w.heap.size + 1 + 1 + 1 by omega)]; exact I.br
  · exact Below.setCell (show Below w.heap.size w (wr.drewN nq) from ⟨I.below.os, I.below.tape, I.below.output, I.below.size, I.below.block⟩) (show w.heap.size ≤ w.heap.size + 1 + 1 + 1 by omega) _
end Go.Proofs.YtbbhmhihpdmoiaaGreat.Fx
set_option linter.unusedVariables false
set_option linter.unusedSimpArgs false
namespace Go.Proofs.YtbbhmhihpdmoiaaGreat.Fx
open Go Go.RowKit Wm
theorem big_sign (neg x : Bool) (d : List Nat) : (bigC neg d).setIfInBounds 0 (.bool x) = bigC x d := by
  unfold bigC
  rw [List.setIfInBounds_toArray]
  rfl
theorem big_head (neg : Bool) (d : List Nat) : (bigC neg d)[0]? = some (.bool neg) := by
  unfold bigC
  rw [List.getElem?_toArray]
  rfl
end Go.Proofs.YtbbhmhihpdmoiaaGreat.Fx
set_option linter.unusedVariables false
namespace Go.Proofs.YtbbhmhihpdmoiaaGreat.Fx
open Go Go.RowKit Wm
/-- the lowest k digits -/
def dgF : Nat → Nat → List Nat
  | 0, _ => []
  | k + 1, n => n % 65536 :: dgF k (n / 65536)
def dg (n : Nat) : List Nat := dgF 20 n
/-- less than this many may be written -/
def BB : Nat := 65536 ^ 20
/-- what digits come to -/
def num : List Nat → Nat
  | [] => 0
  | x :: xs => x + 65536 * num xs
theorem dgF_num : ∀ (d : List Nat), (∀ x ∈ d, x < 65536) → dgF d.length (num d) = d
  | [], _ => rfl
  | x :: d, h => by
    have hx := h x (by simp)
    rw [List.length_cons, dgF, num, show (x + 65536 * num d) % 65536 = x by omega, show (x + 65536 * num d) / 65536 = num d by omega, dgF_num d fun y hy => h y (by simp [hy])]
theorem dg_num {d : List Nat} (h : Dg d) : dg (num d) = d := by
  have := dgF_num d h.2
  rw [h.1] at this
  exact this
/-- a number as the document writes it -/
def bv (z : Int) : Array Value := bigC (decide (z < 0)) (dg z.natAbs)
end Go.Proofs.YtbbhmhihpdmoiaaGreat.Fx

