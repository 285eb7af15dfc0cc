/- Calls as a parameter: a slice of structs with bytes in them, opened. -/
import Derived.Test.YtpbidfmijliehaaProg
import Derived.Test.YtpbidfmijliehaaAa
import Derived.WalkKit
import Derived.ProofKit
import Derived.OpenShut
import Derived.Carry
import Derived.Deep.Slices
import Derived.Lib.SmallJoins
set_option linter.unusedVariables false
namespace Go.Proofs.Ytpbidfmijliehaa.Fx
open Go Go.RowKit Go.ChangeShapes Go.WideShapes
/-- a call -/
structure OpR where
  kind : Int
  u : Int
  i : Int
  n : Int
  most : Int
  is : Bool
  bo : Option Addr
  bl : List Nat
  bc : Nat
/-- a call lies at a place -/
structure OpAt (W : World) (b j : Nat) (x : OpR) : Prop where
  c0 : W.cell? ⟨b, j, none⟩ = some (.int .i64 x.kind)
  c1 : W.cell? ⟨b, j + 1, none⟩ = some (.int .u64 x.u)
  c2 : W.cell? ⟨b, j + 2, none⟩ = some (.int .i64 x.i)
  c3 : W.cell? ⟨b, j + 3, none⟩ = some (.int .i64 x.n)
  c4 : W.cell? ⟨b, j + 4, none⟩ = some (.int .i64 x.most)
  c5 : W.cell? ⟨b, j + 5, none⟩ = some (.bool x.is)
  c6 : W.cell? ⟨b, j + 6, none⟩ = some (.slice x.bo x.bl.length x.bc)
  bs : Bs W x.bo x.bl
structure OpWf (x : OpR) : Prop where
  kind : -9223372036854775808 ≤ x.kind ∧ x.kind ≤ 9223372036854775807
  u : 0 ≤ x.u ∧ x.u < 18446744073709551616
  i : -9223372036854775808 ≤ x.i ∧ x.i ≤ 9223372036854775807
  n : -9223372036854775808 ≤ x.n ∧ x.n ≤ 9223372036854775807
  most : -9223372036854775808 ≤ x.most ∧ x.most ≤ 9223372036854775807
  by' : By x.bl
  len : x.bl.length ≤ x.bc ∧ x.bc ≤ 9223372036854775807
  none' : x.bo = none → x.bc = 0
  spot : 0 < x.bc → ∀ a, x.bo = some a → a.spot = none
def OpsAt (W : World) (o : Option Addr) (xs : List OpR) : Prop := ∀ k x, xs[k]? = some x → ∃ b off, o = some ⟨b, off, none⟩ ∧ OpAt W b (off + k * 7) x ∧ OpWf x
theorem OpAt.below {w W : World} {b j : Nat} {x : OpR} (hb : Below w.heap.size w W) (h : OpAt w b j x) : OpAt W b j x :=
  ⟨keep_cell hb h.c0, keep_cell hb h.c1, keep_cell hb h.c2, keep_cell hb h.c3, keep_cell hb h.c4, keep_cell hb h.c5, keep_cell hb h.c6, h.bs.below hb⟩
theorem OpsAt.below {w W : World} {o : Option Addr} {xs : List OpR} (hb : Below w.heap.size w W) (h : OpsAt w o xs) : OpsAt W o xs := fun k x hk => by
  obtain ⟨b, off, e, ha, hw⟩ := h k x hk
  exact ⟨b, off, e, ha.below hb, hw⟩
theorem laidOut : laidOutB Try.prog = true := by kernel_rfl
section
variable {H : Type} {enc : TypeId × Value → H} {w : World} {base : Nat} {held : Bool}
theorem wf_i64 {z : Int} (h : (Lit.int .i64 z).wf = true) : -9223372036854775808 ≤ z ∧ z ≤ 9223372036854775807 := by
  simp [Lit.wf, IntKind.min, IntKind.max, IntKind.signed, IntKind.bits] at h
  omega
theorem wf_u64 {z : Int} (h : (Lit.int .u64 z).wf = true) : 0 ≤ z ∧ z < 18446744073709551616 := by
  simp [Lit.wf, IntKind.min, IntKind.max, IntKind.signed, IntKind.bits] at h
  omega
theorem u8s_of : ∀ (zs : List Int), (∀ n ∈ zs, (Lit.int .u8 n).wf = true) → ∃ l : List Nat, zs = l.map (fun x : Nat => (x : Int)) ∧ By l
  | [], _ => ⟨[], rfl, by intro c hc; cases hc⟩
  | z :: zs, h => by
    have hz := h z (by simp)
    have hz2 : 0 ≤ z ∧ z < 256 := by
      simp [Lit.wf, IntKind.min, IntKind.max, IntKind.signed, IntKind.bits] at hz
      omega
    obtain ⟨l, rfl, hl⟩ := u8s_of zs fun n hn => h n (by simp [hn])
    refine ⟨z.toNat :: l, by simp; omega, fun c hc => ?_⟩
    rcases List.mem_cons.1 hc with rfl | hc
    · omega
    · exact hl c hc
/-- bytes in a cell -/
theorem cell_bytes {fuel : Nat} {v : Value} {x : DataW H × List MemPlace} (h : DataW.trod enc Try.prog w base (fun _ => true) held fuel 27 [v] = some x) :
    ∃ (o : Option Addr) (l : List Nat) (c : Nat), v = .slice o l.length c ∧ Bs w o l ∧ By l ∧ (l.length ≤ c ∧ c ≤ 9223372036854775807) ∧ (o = none → c = 0) ∧ (0 < c → ∀ a, o = some a → a.spot = none) := by
  rcases open_ints Try.underlying27 Try.underlying5 (by kernel_rfl) h with ⟨hcs, hx⟩ | ⟨a, len, cap, zs, hcs, _, hl, hm, hz, hx, hcell, hwz⟩
  · simp at hcs
    subst hcs
    exact ⟨none, [], 0, rfl, fun j hj => absurd hj (by simp), (by intro c hc; cases hc), by simp, fun _ => rfl, fun h => absurd h (by omega)⟩
  · simp at hcs
    subst hcs
    simp only [if_true] at hz
    obtain ⟨m, rfl, hby⟩ := u8s_of zs hwz
    rw [List.length_map] at hz
    have hlen : (m.take len).length = len := by simp; omega
    obtain ⟨ab, ao, spot⟩ := a
    have hsp : 0 < cap → spot = none := fun h => by simpa [Addr.add] using World.cell?_spot (hcell 0 (by rw [List.length_map]; omega))
    refine ⟨some ⟨ab, ao, spot⟩, m.take len, cap, by rw [hlen], fun j hj => ?_, hby.take _, ⟨by rw [hlen]; exact hl, by unfold maxLen at hm; omega⟩, fun h => (by cases h), fun h a e => (by cases e; exact hsp h)⟩
    rw [hlen] at hj
    obtain rfl := hsp (by omega)
    have hcj := hcell j (by rw [List.length_map]; omega)
    rw [Addr.add_lit] at hcj
    refine ⟨ab, ao, rfl, hcj.trans ?_⟩
    have e1 : (m.map (fun x : Nat => (x : Int))).getD j 0 = ((m[j]'(by omega) : Nat) : Int) := by simp [List.getD, List.getElem?_eq_getElem (show j < m.length by omega)]
    have e2 : (m.take len).getD j 0 = m[j]'(by omega) := by simp [List.getD, hj, List.getElem?_eq_getElem (show j < m.length by omega)]
    rw [e1, e2]
theorem op_of {fuel : Nat} {b j : Nat} {cs : List Value} {y : DataW H × List MemPlace} (hlen : cs.length = 7) (hat : ∀ i, i < 7 → w.cell? ⟨b, j + i, none⟩ = cs[i]?)
    (h : DataW.trod enc Try.prog w base (fun _ => true) held fuel 32 cs = some y) : ∃ x : OpR, OpAt w b j x ∧ OpWf x := by
  match cs, hlen with
  | [v0, v1, v2, v3, v4, v5, v6], _ =>
    obtain ⟨xs, n, _, _, _, hl, hf⟩ := DataW.trod_struct Try.underlying32 h
    have k3 : Try.prog.cellsOf 3 = 1 := by kernel_rfl
    have k30 : Try.prog.cellsOf 30 = 1 := by kernel_rfl
    have k2 : Try.prog.cellsOf 2 = 1 := by kernel_rfl
    have k4 : Try.prog.cellsOf 4 = 1 := by kernel_rfl
    have k27 : Try.prog.cellsOf 27 = 1 := by kernel_rfl
    match xs, hl with
    | [y0, y1, y2, y3, y4, y5, y6], _ =>
      have e0 : DataW.trod enc Try.prog w base (fun _ => true) held n 3 [v0] = some y0 := by
        have h0 := hf 0 _ rfl
        dsimp only [List.getElem_toArray, List.getElem_cons_zero, List.getElem_cons_succ, List.getElem?_cons_zero, List.getElem?_cons_succ] at h0
        rw [k3] at h0
        exact h0
      have e1 : DataW.trod enc Try.prog w base (fun _ => true) held n 30 [v1] = some y1 := by
        have h0 := hf 1 _ rfl
        dsimp only [List.getElem_toArray, List.getElem_cons_zero, List.getElem_cons_succ, List.getElem?_cons_zero, List.getElem?_cons_succ] at h0
        rw [k30] at h0
        exact h0
      have e2 : DataW.trod enc Try.prog w base (fun _ => true) held n 2 [v2] = some y2 := by
        have h0 := hf 2 _ rfl
        dsimp only [List.getElem_toArray, List.getElem_cons_zero, List.getElem_cons_succ, List.getElem?_cons_zero, List.getElem?_cons_succ] at h0
        rw [k2] at h0
        exact h0
      have e3 : DataW.trod enc Try.prog w base (fun _ => true) held n 3 [v3] = some y3 := by
        have h0 := hf 3 _ rfl
        dsimp only [List.getElem_toArray, List.getElem_cons_zero, List.getElem_cons_succ, List.getElem?_cons_zero, List.getElem?_cons_succ] at h0
        rw [k3] at h0
        exact h0
      have e4 : DataW.trod enc Try.prog w base (fun _ => true) held n 3 [v4] = some y4 := by
        have h0 := hf 4 _ rfl
        dsimp only [List.getElem_toArray, List.getElem_cons_zero, List.getElem_cons_succ, List.getElem?_cons_zero, List.getElem?_cons_succ] at h0
        rw [k3] at h0
        exact h0
      have e5 : DataW.trod enc Try.prog w base (fun _ => true) held n 4 [v5] = some y5 := by
        have h0 := hf 5 _ rfl
        dsimp only [List.getElem_toArray, List.getElem_cons_zero, List.getElem_cons_succ, List.getElem?_cons_zero, List.getElem?_cons_succ] at h0
        rw [k4] at h0
        exact h0
      have e6 : DataW.trod enc Try.prog w base (fun _ => true) held n 27 [v6] = some y6 := by
        have h0 := hf 6 _ rfl
        dsimp only [List.getElem_toArray, List.getElem_cons_zero, List.getElem_cons_succ, List.getElem?_cons_zero, List.getElem?_cons_succ] at h0
        rw [k27] at h0
        exact h0
      obtain ⟨z0, q0, _, w0⟩ := DataW.trod_int Try.underlying3 e0
      obtain ⟨z1, q1, _, w1⟩ := DataW.trod_int Try.underlying30 e1
      obtain ⟨z2, q2, _, w2⟩ := DataW.trod_int Try.underlying2 e2
      obtain ⟨z3, q3, _, w3⟩ := DataW.trod_int Try.underlying3 e3
      obtain ⟨z4, q4, _, w4⟩ := DataW.trod_int Try.underlying3 e4
      obtain ⟨z5, q5, _⟩ := DataW.trod_bool Try.underlying4 e5
      obtain ⟨o, l, c, q6, hbs, hby, hc, hn, hsp⟩ := cell_bytes e6
      simp only [List.cons.injEq, and_true] at q0 q1 q2 q3 q4 q5
      subst q0 q1 q2 q3 q4 q5 q6
      exact ⟨⟨z0, z1, z2, z3, z4, z5, o, l, c⟩, ⟨hat 0 (by omega), hat 1 (by omega), hat 2 (by omega), hat 3 (by omega), hat 4 (by omega), hat 5 (by omega), hat 6 (by omega), hbs⟩, ⟨wf_i64 w0, wf_u64 w1, wf_i64 w2, wf_i64 w3, wf_i64 w4, hby, hc, hn, hsp⟩⟩
noncomputable def pick (Pp : Nat → OpR → Prop) (k : Nat) : OpR := open Classical in if h : ∃ x, Pp k x then Classical.choose h else ⟨0, 0, 0, 0, 0, false, none, [], 0⟩
theorem pick_spec {Pp : Nat → OpR → Prop} {k : Nat} (h : ∃ x, Pp k x) : Pp k (pick Pp k) := by
  unfold pick
  rw [dif_pos h]
  exact Classical.choose_spec h
/-- bytes that came in -/
theorem open_bytesS {r : Reach} {b0 : Nat} {v : Value} {d : DataW H} {ps : List MemPlace}
    (hv : Value.okWide Try.prog w r b0 27 v) (h : DataW.Trod enc Try.prog w base (fun _ => true) held 27 v d ps) :
    ∃ (l : List Nat) (o : Option Addr) (c : Nat), v = .slice o l.length c ∧ By l ∧ (l.length ≤ c ∧ c ≤ 9223372036854775807) ∧ (o = none → c = 0) ∧ (0 < c → ∀ a, o = some a → a.spot = none) ∧ Bs w o l := by
  obtain ⟨a1, len, cap, rfl⟩ := okWide_slice Try.underlying27 hv
  obtain ⟨fuel, hf⟩ := h
  obtain ⟨o, l, c, e, h1, h2, h3, h4, h5⟩ := cell_bytes (v := .slice a1 len cap) hf
  exact ⟨l, o, c, e, h2, h3, h4, h5, h1⟩
/-- calls that came in -/
theorem open_ops {r : Reach} {b0 : Nat} {v : Value} {d : DataW H} {ps : List MemPlace}
    (hv : Value.okWide Try.prog w r b0 22 v) (h : DataW.Trod enc Try.prog w base (fun _ => true) held 22 v d ps) :
    ∃ (xs : List OpR) (o : Option Addr) (c : Nat), v = .slice o xs.length c ∧ xs.length ≤ 9223372036854775807 ∧ OpsAt w o xs := by
  obtain ⟨a1, len, cap, rfl⟩ := okWide_slice Try.underlying22 hv
  obtain ⟨fuel, hf⟩ := h
  have hC : Try.prog.cellsOf 32 = 7 := by kernel_rfl
  rcases DataW.trod_slice Try.underlying22 hf with ⟨hcs, _⟩ | ⟨a, len', cap', elems, rest, n, _, hcs, _, _, hl, hm, hlen, hel, _, _⟩
  · simp [Value.cells] at hcs
    obtain ⟨rfl, rfl, rfl⟩ := hcs
    exact ⟨[], none, 0, rfl, by simp, fun k x hk => by simp at hk⟩
  · simp [Value.cells] at hcs
    obtain ⟨rfl, rfl, rfl⟩ := hcs
    rw [hC] at hel
    obtain ⟨b, off, spot⟩ := a
    have hsp : 0 < len → spot = none := fun h0 => by
      have h1 := hel 0 h0
      obtain ⟨y, hy⟩ : ∃ y, elems[0]? = some y := ⟨_, List.getElem?_eq_getElem (by omega)⟩
      rw [hy, Option.bind_eq_some_iff] at h1
      obtain ⟨cs, hc, ht⟩ := h1
      obtain ⟨_, hcl, hat⟩ := World.cells?_some hc
      have h0 := hat 0 (by omega)
      obtain ⟨c0, hc0⟩ : ∃ c0, cs[0]? = some c0 := ⟨_, List.getElem?_eq_getElem (by omega)⟩
      rw [hc0] at h0
      simpa [Addr.add] using World.cell?_spot h0
    have each : ∀ k, k < len → ∃ x : OpR, (∃ b' off', (⟨b, off, spot⟩ : Addr) = ⟨b', off', none⟩ ∧ OpAt w b' (off' + k * 7) x) ∧ OpWf x := by
      intro k hk
      obtain rfl := hsp (by omega)
      have h1 := hel k hk
      obtain ⟨y, hy⟩ : ∃ y, elems[k]? = some y := ⟨_, List.getElem?_eq_getElem (by omega)⟩
      rw [hy, Option.bind_eq_some_iff] at h1
      obtain ⟨cs, hc, ht⟩ := h1
      obtain ⟨_, hcl, hat⟩ := World.cells?_some hc
      obtain ⟨x, hx, hw⟩ := op_of (b := b) (j := off + k * 7) hcl (fun i hi => by have := hat i hi; rw [Addr.add_lit, Addr.add_lit] at this; exact this) ht
      exact ⟨x, ⟨b, off, rfl, hx⟩, hw⟩
    refine ⟨(List.range len).map (pick fun k x => (∃ b' off', (⟨b, off, spot⟩ : Addr) = ⟨b', off', none⟩ ∧ OpAt w b' (off' + k * 7) x) ∧ OpWf x), some ⟨b, off, spot⟩, cap, by simp, by simp; unfold maxLen at hm; omega, fun k x hk => ?_⟩
    rw [List.getElem?_map] at hk
    obtain ⟨k', hk', rfl⟩ := Option.map_eq_some_iff.1 hk
    have hkl := (List.getElem?_eq_some_iff.1 hk').1
    have hke : k' = k := by
      rw [List.getElem?_range (by simpa using hkl)] at hk'
      exact (Option.some.inj hk').symm
    subst hke
    obtain ⟨⟨b', off', e, ha⟩, hw⟩ := pick_spec (Pp := fun k x => (∃ b' off', (⟨b, off, spot⟩ : Addr) = ⟨b', off', none⟩ ∧ OpAt w b' (off' + k * 7) x) ∧ OpWf x) (each k' (by simpa using hkl))
    exact ⟨b', off', by rw [e], ha, hw⟩
end
end Go.Proofs.Ytpbidfmijliehaa.Fx
