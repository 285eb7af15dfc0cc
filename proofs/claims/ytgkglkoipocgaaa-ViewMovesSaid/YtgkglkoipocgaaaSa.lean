/- Scenes as a parameter: numbers, a matrix, a slice of objects with a matrix and two slices, opened. -/
import Derived.Test.YtgkglkoipocgaaaProg
import Derived.Test.YtgkglkoipocgaaaOp
import Derived.WalkKit
import Derived.ProofKit
import Derived.OpenShut
import Derived.Carry
import Derived.Deep.Slices
import Derived.Deep.MidRow
import Derived.Lib.SmallJoins
set_option linter.unusedVariables false
namespace Go.Proofs.Ytgkglkoipocgaaa.Fx
open Go Go.RowKit Go.ChangeShapes Go.WideShapes
/-- a triangle -/
structure TriR where
  a : Int
  b : Int
  c : Int
  col : Int
  deriving DecidableEq
instance : Inhabited TriR := ⟨⟨0, 0, 0, 0⟩⟩
/-- an object -/
structure ObjR where
  id : Int
  m : List Int
  vo : Option Addr
  vs : List (List Int)
  vc : Nat
  tq : Option Addr
  ts : List TriR
  tc : Nat
instance : Inhabited ObjR := ⟨⟨0, [], none, [], 0, none, [], 0⟩⟩
/-- a scene -/
structure ScR where
  w : Int
  h : Int
  cam : List Int
  oo : Option Addr
  os : List ObjR
  oc : Nat
def triL (t : TriR) : List Value := [.int .i64 t.a, .int .i64 t.b, .int .i64 t.c, .int .u32 t.col]
def objL (x : ObjR) : List Value := .int .i64 x.id :: (x.m.map encI ++ [.slice x.vo x.vs.length x.vc, .slice x.tq x.ts.length x.tc])
def scL (s : ScR) : List Value := .int .i64 s.w :: .int .i64 s.h :: (s.cam.map encI ++ [.slice s.oo s.os.length s.oc])
def scC (s : ScR) : Array Value := (scL s).toArray
def Num (z : Int) : Prop := -9223372036854775808 ≤ z ∧ z ≤ 9223372036854775807
structure VertWf (v : List Int) : Prop where
  len : v.length = 3
  num : ∀ j, Num (v.getD j 0)
structure TriWf (t : TriR) : Prop where
  a : Num t.a
  b : Num t.b
  c : Num t.c
  col : 0 ≤ t.col ∧ t.col < 4294967296
/-- a list lies behind a slice, each of its members n cells long -/
def ListAt {α : Type} (P : Nat → Nat → α → Prop) (n : Nat) (o : Option Addr) (l : List α) : Prop := ∀ k z, l[k]? = some z → ∃ b off, o = some ⟨b, off, none⟩ ∧ P b (off + k * n) z
def CapOk (o : Option Addr) (n c : Nat) : Prop := (n ≤ c ∧ c ≤ 9223372036854775807) ∧ (o = none → c = 0)
def VertsAt (W : World) (o : Option Addr) (l : List (List Int)) : Prop := ListAt (fun b j v => W.rangeAt b j (v.map encI) ∧ VertWf v) 3 o l
def TrisAt (W : World) (o : Option Addr) (l : List TriR) : Prop := ListAt (fun b j t => W.rangeAt b j (triL t) ∧ TriWf t) 4 o l
structure ObjWf (x : ObjR) : Prop where
  id : Num x.id
  len : x.m.length = 16
  num : ∀ j, Num (x.m.getD j 0)
  vcap : CapOk x.vo x.vs.length x.vc
  tcap : CapOk x.tq x.ts.length x.tc
structure ObjAt (W : World) (b j : Nat) (x : ObjR) : Prop where
  cells : W.rangeAt b j (objL x)
  verts : VertsAt W x.vo x.vs
  tris : TrisAt W x.tq x.ts
  wf : ObjWf x
def ObjsAt (W : World) (o : Option Addr) (l : List ObjR) : Prop := ListAt (ObjAt W) 19 o l
structure ScWf (s : ScR) : Prop where
  w : Num s.w
  h : Num s.h
  len : s.cam.length = 16
  num : ∀ j, Num (s.cam.getD j 0)
  cap : CapOk s.oo s.os.length s.oc
theorem range_below {w W : World} {b j : Nat} {l : List Value} (hb : Below w.heap.size w W) (h : w.rangeAt b j l) : W.rangeAt b j l := fun i v hi => keep_cell hb (h i v hi)
theorem VertsAt.below {w W : World} {o : Option Addr} {l : List (List Int)} (hb : Below w.heap.size w W) (h : VertsAt w o l) : VertsAt W o l := fun k z hk => by
  obtain ⟨b, off, e, h1, h2⟩ := h k z hk
  exact ⟨b, off, e, range_below hb h1, h2⟩
theorem TrisAt.below {w W : World} {o : Option Addr} {l : List TriR} (hb : Below w.heap.size w W) (h : TrisAt w o l) : TrisAt W o l := fun k z hk => by
  obtain ⟨b, off, e, h1, h2⟩ := h k z hk
  exact ⟨b, off, e, range_below hb h1, h2⟩
theorem ObjAt.below {w W : World} {b j : Nat} {x : ObjR} (hb : Below w.heap.size w W) (h : ObjAt w b j x) : ObjAt W b j x :=
  ⟨range_below hb h.cells, h.verts.below hb, h.tris.below hb, h.wf⟩
theorem ObjsAt.below {w W : World} {o : Option Addr} {l : List ObjR} (hb : Below w.heap.size w W) (h : ObjsAt w o l) : ObjsAt W o l := fun k z hk => by
  obtain ⟨b, off, e, h1⟩ := h k z hk
  exact ⟨b, off, e, h1.below hb⟩
theorem scL_len {s : ScR} (h : ScWf s) : (scL s).length = 19 := by simp [scL, h.len]
theorem objL_len {x : ObjR} (h : ObjWf x) : (objL x).length = 19 := by simp [objL, h.len]
theorem scL_w (s : ScR) : (scL s)[0]? = some (.int .i64 s.w) := rfl
theorem scL_h (s : ScR) : (scL s)[1]? = some (.int .i64 s.h) := rfl
theorem scL_cam {s : ScR} {j : Nat} {v : Value} (hj : (s.cam.map encI)[j]? = some v) : (scL s)[2 + j]? = some v := by
  rw [show 2 + j = j + 1 + 1 by omega]
  show (s.cam.map encI ++ _)[j]? = _
  rw [List.getElem?_append_left (List.getElem?_eq_some_iff.1 hj).1]
  exact hj
theorem scL_os {s : ScR} (h : ScWf s) : (scL s)[18]? = some (.slice s.oo s.os.length s.oc) := by
  show (s.cam.map encI ++ _)[16]? = _
  rw [List.getElem?_append_right (by simp [h.len])]
  simp [h.len]
theorem objL_id (x : ObjR) : (objL x)[0]? = some (.int .i64 x.id) := rfl
theorem objL_m {x : ObjR} {j : Nat} {v : Value} (hj : (x.m.map encI)[j]? = some v) : (objL x)[1 + j]? = some v := by
  rw [show 1 + j = j + 1 by omega]
  show (x.m.map encI ++ _)[j]? = _
  rw [List.getElem?_append_left (List.getElem?_eq_some_iff.1 hj).1]
  exact hj
theorem objL_vs {x : ObjR} (h : ObjWf x) : (objL x)[17]? = some (.slice x.vo x.vs.length x.vc) := by
  show (x.m.map encI ++ _)[16]? = _
  rw [List.getElem?_append_right (by simp [h.len])]
  simp [h.len]
theorem objL_ts {x : ObjR} (h : ObjWf x) : (objL x)[18]? = some (.slice x.tq x.ts.length x.tc) := by
  show (x.m.map encI ++ _)[17]? = _
  rw [List.getElem?_append_right (by simp [h.len])]
  simp [h.len]
section
variable {H : Type} {enc : TypeId × Value → H} {w : World} {base : Nat} {held : Bool}
noncomputable def pickA {α : Type} [Inhabited α] (Pp : Nat → α → Prop) (k : Nat) : α := open Classical in if h : ∃ x, Pp k x then Classical.choose h else default
theorem pickA_spec {α : Type} [Inhabited α] {Pp : Nat → α → Prop} {k : Nat} (h : ∃ x, Pp k x) : Pp k (pickA Pp k) := by
  unfold pickA
  rw [dif_pos h]
  exact Classical.choose_spec h
/-- what lies behind a slice -/
theorem trod_list {α : Type} [Inhabited α] {n : Nat} {t e : TypeId} {P : Nat → Nat → α → Prop} (hn : 0 < n) (ht : Try.prog.underlying t = some (.slice e)) (hC : Try.prog.cellsOf e = n)
    (each : ∀ (fuel b j : Nat) (cs : List Value) (y : DataW H × List MemPlace), cs.length = n → (∀ i, i < n → w.cell? ⟨b, j + i, none⟩ = cs[i]?) → DataW.trod enc Try.prog w base (fun _ => true) held fuel e cs = some y → ∃ z : α, P b j z)
    {fuel : Nat} {v : Value} {x : DataW H × List MemPlace} (hf : DataW.trod enc Try.prog w base (fun _ => true) held fuel t [v] = some x) :
    ∃ (o : Option Addr) (l : List α) (c : Nat), v = .slice o l.length c ∧ CapOk o l.length c ∧ ListAt P n o l := by
  rcases DataW.trod_slice ht hf with ⟨hcs, _⟩ | ⟨a, len, cap, elems, rest, n', _, hcs, _, _, hl, hm, hlen, hel, _, _⟩
  · simp only [List.cons.injEq, and_true] at hcs
    subst hcs
    exact ⟨none, [], 0, rfl, ⟨by simp, fun _ => rfl⟩, fun k x hk => by simp at hk⟩
  · simp only [List.cons.injEq, and_true] at hcs
    subst hcs
    rw [hC] at hel
    obtain ⟨b, off, spot⟩ := a
    have hsp : 0 < len → spot = none := fun h0 => by
      have h1 := hel 0 h0
      obtain ⟨y, hy⟩ : ∃ y, elems[0]? = some y := ⟨_, List.getElem?_eq_getElem (by omega)⟩
      rw [hy, Option.bind_eq_some_iff] at h1
      obtain ⟨cs, hc, ht⟩ := h1
      obtain ⟨_, hcl, hat⟩ := World.cells?_some hc
      have h0 := hat 0 (by omega)
      obtain ⟨c0, hc0⟩ : ∃ c0, cs[0]? = some c0 := ⟨_, List.getElem?_eq_getElem (by omega)⟩
      rw [hc0] at h0
      simpa [Addr.add] using World.cell?_spot h0
    have each2 : ∀ k, k < len → ∃ z : α, ∃ b' off', (⟨b, off, spot⟩ : Addr) = ⟨b', off', none⟩ ∧ P b' (off' + k * n) z := by
      intro k hk
      obtain rfl := hsp (by omega)
      have h1 := hel k hk
      obtain ⟨y, hy⟩ : ∃ y, elems[k]? = some y := ⟨_, List.getElem?_eq_getElem (by omega)⟩
      rw [hy, Option.bind_eq_some_iff] at h1
      obtain ⟨cs, hc, ht⟩ := h1
      obtain ⟨_, hcl, hat⟩ := World.cells?_some hc
      obtain ⟨z, hz⟩ := each _ b (off + k * n) cs y hcl (fun i hi => by have := hat i hi; rw [Addr.add_lit, Addr.add_lit] at this; exact this) ht
      exact ⟨z, b, off, rfl, hz⟩
    refine ⟨some ⟨b, off, spot⟩, (List.range len).map (pickA fun k z => ∃ b' off', (⟨b, off, spot⟩ : Addr) = ⟨b', off', none⟩ ∧ P b' (off' + k * n) z), cap, by simp, ⟨⟨by simpa using hl, by unfold maxLen at hm; omega⟩, fun h => by cases h⟩, fun k z hk => ?_⟩
    rw [List.getElem?_map] at hk
    obtain ⟨k', hk', rfl⟩ := Option.map_eq_some_iff.1 hk
    have hkl := (List.getElem?_eq_some_iff.1 hk').1
    have hke : k' = k := by
      rw [List.getElem?_range (by simpa using hkl)] at hk'
      exact (Option.some.inj hk').symm
    subst hke
    obtain ⟨b', off', e', hP⟩ := pickA_spec (Pp := fun k z => ∃ b' off', (⟨b, off, spot⟩ : Addr) = ⟨b', off', none⟩ ∧ P b' (off' + k * n) z) (each2 k' (by simpa using hkl))
    exact ⟨b', off', by rw [e'], hP⟩
theorem num_i64 {z : Int} (h : (Lit.int .i64 z).wf = true) : Num z := wf_bounds h
theorem wf_u32' {z : Int} (h : (Lit.int .u32 z).wf = true) : 0 ≤ z ∧ z < 4294967296 := by
  simp [Lit.wf, IntKind.min, IntKind.max, IntKind.signed, IntKind.bits] at h
  omega
theorem range_of_at {b j n : Nat} {cs : List Value} (hl : cs.length = n) (hat : ∀ i, i < n → w.cell? ⟨b, j + i, none⟩ = cs[i]?) : w.rangeAt b j cs := fun i v hi => by
  rw [hat i (by have := (List.getElem?_eq_some_iff.1 hi).1; omega)]
  exact hi
theorem vert_of {fuel : Nat} {b j : Nat} {cs : List Value} {y : DataW H × List MemPlace} (hlen : cs.length = 3) (hat : ∀ i, i < 3 → w.cell? ⟨b, j + i, none⟩ = cs[i]?)
    (h : DataW.trod enc Try.prog w base (fun _ => true) held fuel 50 cs = some y) : ∃ v : List Int, w.rangeAt b j (v.map encI) ∧ VertWf v := by
  obtain ⟨h1, h2, _⟩ := trod_ints Try.underlying50 Try.underlying2 (by kernel_rfl) (by kernel_rfl) h
  obtain ⟨m, rfl, hw⟩ := ints_of _ h1
  exact ⟨m, range_of_at hlen hat, ⟨by simpa using h2, wf_all hw⟩⟩
end
end Go.Proofs.Ytgkglkoipocgaaa.Fx
