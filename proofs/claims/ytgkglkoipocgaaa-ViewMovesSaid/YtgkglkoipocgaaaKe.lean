/- Lists of vertices: as a parameter, in memory, and of one's own. -/
import Derived.Test.YtgkglkoipocgaaaProg
import Derived.Test.YtgkglkoipocgaaaYa
import Derived.Test.YtgkglkoipocgaaaAp
import Derived.Test.YtgkglkoipocgaaaKd
import Derived.Test.YtgkglkoipocgaaaQ2
set_option linter.unusedVariables false
set_option linter.unusedSimpArgs false
namespace Go.Proofs.Ytgkglkoipocgaaa.Fx
open Go Go.RowKit Go.ChangeShapes Go.WideShapes
/-- a vertex: four numbers -/
structure VecWf (v : List Int) : Prop where
  len : v.length = 4
  num : ∀ j, Num (v.getD j 0)
def VecsAt (W : World) (o : Option Addr) (l : List (List Int)) : Prop := ListAt (fun b j v => W.rangeAt b j (v.map encI) ∧ VecWf v) 4 o l
theorem VecsAt.below {w W : World} {o : Option Addr} {l : List (List Int)} (hb : Below w.heap.size w W) (h : VecsAt w o l) : VecsAt W o l := fun k z hk => by
  obtain ⟨b, off, e, h1, h2⟩ := h k z hk
  exact ⟨b, off, e, range_below hb h1, h2⟩
theorem VecsAt.src {W : World} {o : Option Addr} {l : List (List Int)} (h : VecsAt W o l) : ListAt (fun b j z => W.rangeAt b j (z.map encI)) 4 o l := fun k z hk => by
  obtain ⟨b, off, e, h1, _⟩ := h k z hk
  exact ⟨b, off, e, h1⟩
theorem VecsAt.wf {W : World} {o : Option Addr} {l : List (List Int)} (h : VecsAt W o l) : ∀ x ∈ l, VecWf x := fun x hx => by
  obtain ⟨k, hk⟩ := List.getElem?_of_mem hx
  obtain ⟨_, _, _, _, hw⟩ := h k x hk
  exact hw
theorem LiesG.vecs {W : World} {B : Nat} {o : Option Addr} {l : List (List Int)} (s : LiesG 23 4 (fun x => x.map encI) W B o l) (hw : ∀ x ∈ l, VecWf x) : VecsAt W o l := fun k z hk => by
  obtain ⟨g, cur, e, _, _, _, h⟩ := s.at_ k z hk
  exact ⟨g, 0, e, h, hw z (List.mem_of_getElem? hk)⟩
theorem infoG4 : InfoG 23 4 32 := InfoG.of (by omega) (by omega) (by kernel_rfl)
theorem vec_len {l : List (List Int)} (h : ∀ x ∈ l, VecWf x) : ∀ x ∈ l, (x.map encI).length = 4 := fun x hx => by rw [List.length_map]; exact (h x hx).len
/-- the list of vertices that a call made itself -/
abbrev OwnK (W : World) (B : Nat) (v : Value) (l : List (List Int)) : Prop := OwnG 23 4 (fun x => List.map encI x) W B v l
theorem OwnK.form {W : World} {B : Nat} {v : Value} {l : List (List Int)} (s : OwnK W B v l) (hl : ∀ x ∈ l, VecWf x) : ∃ o cap, v = .slice o l.length cap ∧ CapOk o l.length cap ∧ VecsAt W o l := by
  obtain ⟨o, cap, e, hc, h⟩ := OwnG.form s (vec_len hl)
  exact ⟨o, cap, e, hc, h.vecs hl⟩
/-- a place of a list of vertices -/
theorem VecsAt.get {W : World} {o : Option Addr} {l : List (List Int)} (h : VecsAt W o l) {k : Nat} (hk : k < l.length) : ∃ b off, o = some ⟨b, off, none⟩ ∧ W.rangeAt b (off + k * 4) ((l.getD k []).map encI) ∧ VecWf (l.getD k []) := by
  have e : l[k]? = some (l.getD k []) := by rw [List.getD_eq_getElem?_getD, List.getElem?_eq_getElem hk]; rfl
  obtain ⟨b, off, e1, h1, h2⟩ := h k _ e
  exact ⟨b, off, e1, h1, h2⟩
theorem VecWf.four {v : List Int} (h : VecWf v) : v = [v.getD 0 0, v.getD 1 0, v.getD 2 0, v.getD 3 0] := list4 h.len
theorem vec_of_may {v : List Int} (hl : v.length = 4) (h : mayK v = true) : VecWf v := by
  refine ⟨hl, fun j => ?_⟩
  unfold Num
  by_cases hj : j < 4
  · have := (may_iff v).1 h j hj
    unfold nv at this
    omega
  · rw [List.getD_eq_getElem?_getD, List.getElem?_eq_none (by omega)]
    simp
theorem cross_len (k : Nat) (a b : List Int) : (crossK k a b).length = 4 := rfl
section
variable {H : Type} {enc : TypeId × Value → H} {w : World} {base : Nat} {held : Bool}
theorem vec_of {fuel : Nat} {b j : Nat} {cs : List Value} {y : DataW H × List MemPlace} (hlen : cs.length = 4) (hat : ∀ i, i < 4 → w.cell? ⟨b, j + i, none⟩ = cs[i]?)
    (h : DataW.trod enc Try.prog w base (fun _ => true) held fuel 23 cs = some y) : ∃ v : List Int, w.rangeAt b j (v.map encI) ∧ VecWf v := by
  obtain ⟨h1, h2, _⟩ := trod_ints Try.underlying23 Try.underlying2 (by kernel_rfl) (by kernel_rfl) h
  obtain ⟨m, rfl, hw⟩ := ints_of _ h1
  exact ⟨m, range_of_at hlen hat, ⟨by simpa using h2, wf_all hw⟩⟩
set_option maxRecDepth 100000 in
/-- a list of vertices that came in -/
theorem open_vecs {r : Reach} {b0 : Nat} {v : Value} {d : DataW H} {ps : List MemPlace}
    (hv : Value.okWide Try.prog w r b0 24 v) (h : DataW.Trod enc Try.prog w base (fun _ => true) held 24 v d ps) :
    ∃ (xs : List (List Int)) (o : Option Addr) (c : Nat), v = .slice o xs.length c ∧ CapOk o xs.length c ∧ VecsAt w o xs := by
  obtain ⟨a1, len, cap, rfl⟩ := okWide_slice Try.underlying24 hv
  obtain ⟨fuel, hf⟩ := h
  obtain ⟨o, l, c, e, h1, h2⟩ := trod_list (P := fun b j v => w.rangeAt b j (v.map encI) ∧ VecWf v) (n := 4) (by omega) Try.underlying24 (by kernel_rfl) (fun _ _ _ _ _ hl hat h => vec_of hl hat h) hf
  exact ⟨l, o, c, e, h1, h2⟩
end
end Go.Proofs.Ytgkglkoipocgaaa.Fx
