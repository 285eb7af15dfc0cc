import Derived.Laws.Rows
import Derived.Test.YtbbhmhihpdmoiaaGreatProg
import Derived.Lib.AppendZerosOnto
import Derived.Lib.SlBytesConst
import Derived.Test.YtbbhmhihpdmoiaaGreatMy25
import Derived.Test.YtbbhmhihpdmoiaaGreatMy27
import Derived.Test.YtbbhmhihpdmoiaaGreatMy39
/- The form of the chapter's first example: the statements' bare, walked; an append of zeros to one's own bytes. -/
set_option linter.unusedVariables false
set_option linter.unusedSimpArgs false
namespace Go.Proofs.YtbbhmhihpdmoiaaGreat.Fx
open Go Go.RowKit Go.Lib
open Go.Proofs.YtbbhmhihpdmoiaaGreat.Pk (Bs By Own)
theorem zeroCells_u8 (k : Nat) : Builtin.zeroCells #[.int .u8 0] k = (List.replicate k (Value.int .u8 0)).toArray := by
  unfold Builtin.zeroCells
  apply Array.ext
  · simp
  · intro i h1 h2
    simp [Nat.mod_one]
theorem run_room_zeros {P : Program} (w : World) (t tn ty e : TypeId) (i : TypeInfo) (kq kn : IntKind) (ht : P.underlying t = some (.slice e)) (htn : P.underlying tn = some (.int kn)) (hi : P.info? e = some i) (hz : i.zero = some (.int .u8 0)) (hs : i.size = 1) (hby : i.bytes = 1)
    (g sLen sCap k : Nat) (cur : Array Value) (hg : w.heap[g]? = some (.cells cur e (0, 0))) (hk0 : 0 < k) (hk : k ≤ 1000) (hroom : sLen + k ≤ sCap) (hfit : sLen + k ≤ cur.size) :
    (Builtin.append_ #[t, tn] ty #[.slice (some ⟨g, 0, none⟩) sLen sCap, Value.int kq (k : Int)]).run P w =
      .ok (.slice (some ⟨g, 0, none⟩) (sLen + k) sCap) (w.setRow g (cur.toList.take sLen ++ List.replicate k (Value.int .u8 0) ++ cur.toList.drop (sLen + k)).toArray) := by
  have hw : IntKind.i64.wrap (k : Int) = k := by rw [IntKind.wrap_i64]; omega
  have hneg : ¬ ((k : Int) < 0) := by omega
  have h48i : ¬ (281474976710656 < (k : Int) * (i.bytes : Int)) := by rw [hby]; omega
  have hns : ¬ (k * i.size = 0) := by rw [hs]; omega
  have hst := run_storeCells_at P g sLen e (List.replicate k (Value.int .u8 0)) 0 cur w hg (by simpa using hfit) (fun v hv => by
    rw [List.mem_replicate] at hv
    rw [hv.2]
    rfl)
  simp only [Nat.add_zero, List.length_replicate] at hst
  have hzc : Builtin.zeroCells (Value.int .u8 0).cells k = (List.replicate k (Value.int .u8 0)).toArray := zeroCells_u8 k
  simp [Builtin.append_, run_underlying ht, run_underlying htn, sizeOf, typeInfo, zeroValue, hi, hz, asInt, asIntOf, hw, hneg, h48i, hroom, hs, Addr.add_lit, show ¬ (k = 0) by omega, hzc, hst, Value.cells, zeroCells_u8 k]
  done
theorem run_own_zeros (B k : Nat) (v : Value) (l : List Nat) (W : World) (ty : TypeId) (kq : IntKind) (hB : B ≤ W.heap.size) (hk0 : 0 < k) (hk : k ≤ 1000) (hl : l.length ≤ 1000) (h0 : 0 < l.length) (hown : Pk.Own W B v l) :
    ∃ v' X, (Builtin.append_ #[31, 3] ty #[v, Value.int kq (k : Int)]).run Tryz.prog W = .ok v' X ∧ Pk.Own X B v' (l ++ List.replicate k 0) ∧ W.grownBy X v.ownBlock := by
  obtain ⟨i0, hi, hz0, hz1, hz2⟩ := info_parts Pk.info5
  have htn : Tryz.prog.underlying 3 = some (.int .i64) := by kernel_rfl
  obtain ⟨hx, h⟩ := hown
  rcases h with ⟨_, h2⟩ | ⟨g, cap, cur, rfl, hb, hg, hle, hm, hsz, htk⟩
  · omega
  · have hfl : (l.map Pk.encB ++ List.replicate k (Value.int .u8 0)) = (l ++ List.replicate k 0).map Pk.encB := by simp [Pk.encB]
    rw [Nat.mul_one] at hsz htk
    by_cases hroom : l.length + k ≤ cap
    · refine ⟨_, _, run_room_zeros W _ _ ty _ i0 kq .i64 Tryz.underlying31 htn hi hz0 hz1 hz2 g l.length cap k cur hg hk0 hk hroom (by omega), ?_, ⟨rfl, rfl, rfl, by simp, fun j _ hj => setRow_other W g j _ (fun e => hj (by simp [Value.ownBlock, e]))⟩⟩
      refine ⟨by simp, .inr ⟨g, cap, _, by simp, hb, setRow_heap W g cur _ _ _ hg, by simp; omega, hm, ?_, ?_⟩⟩
      · simp only [List.size_toArray, List.length_append, List.length_take, List.length_drop, Array.length_toList, List.length_replicate, Nat.mul_one]
        omega
      · rw [htk, ← hfl]
        simp [List.take_append, List.take_of_length_le]
    · have hold : (Builtin.firstCells i0.size l.length (.slice (some ⟨g, 0, none⟩) l.length cap)).run Tryz.prog W.drew = .ok (l.map Pk.encB).toArray W.drew := by
        have := run_firstCells_some (P := Tryz.prog) W.drew i0.size l.length ⟨g, 0, none⟩ l.length cap (l.map Pk.encB) (by rw [hz1]; simp) (fun j u hj => by
          rw [Addr.add_lit, Nat.zero_add]
          have hc : W.drew.cell? ⟨g, j, none⟩ = W.cell? ⟨g, j, none⟩ := rfl
          rw [hc, cell_of_row _ _ _ _ _ _ hg]
          rw [← htk, List.getElem?_take] at hj
          split at hj
          · simpa using hj
          · cases hj)
        exact this
      have hrun := run_append_grow_zeros (P := Tryz.prog) W 31 3 ty 5 i0 (.int .u8 0) kq .i64 Tryz.underlying31 htn hi hz0 (some ⟨g, 0, none⟩) l.length cap (l.map Pk.encB) hold k hk0 (by omega) (by omega) (by omega) (by rw [hz2]; omega) (by
        have := nextslicecap_le (need := l.length + k) (old := cap) (by omega)
        rw [hz2]
        omega)
      have hge := grownCap_ge W (l.length + k) cap 5
      have hcm : grownCap W (l.length + k) cap 5 ≤ maxLen := grownCap_le_maxLen W (l.length + k) cap 5 (by unfold maxLen; omega)
      refine ⟨_, _, hrun, ?_, ⟨rfl, rfl, rfl, by simp, fun j hj _ => by first | exact heap_alloc_old W.drew _ hj | exact heap_alloc_old W.drew _ j hj⟩⟩
      refine ⟨by simp, .inr ⟨W.heap.size, _, _, by simp, hB, heap_alloc_new W.drew _, by simpa using hge, hcm, ?_, ?_⟩⟩
      · simp only [Array.size_append, List.size_toArray, size_zeroCells, List.length_map, Nat.mul_one]
        show l.length + k * 1 + _ * 1 = _
        omega
      · rw [show (Value.int .u8 0).cells = #[Value.int .u8 0] from rfl, zeroCells_u8 k]
        simp only [Array.toList_append, List.length_append, List.length_replicate, Nat.mul_one]
        rw [hfl]
        exact List.take_left' (by simp)
theorem wpList_appZ {ops : Array Oper} {rest : List Oper} {o : Oper} {a : Act} {Q : Exit → Act → World → Prop} {W : World} (hgd : o.guard = none) (s x : Operand) (ts tn : TypeId)
    (ho : o.op = .call { callee := .builtin .append, args := #[s, x], argTypes := #[ts, tn] }) (va vx v : Value) (X : World) (hs : a.eval s = va) (hx : a.eval x = vx) (hrun : (Builtin.append_ #[ts, tn] o.type #[va, vx]).run Tryz.prog W = .ok v X)
    (h : wpList Tryz.prog ops Q rest (a.put o.dst v) X) : wpList Tryz.prog ops Q (o :: rest) a W := by
  refine wpList_plain hgd fun K hK' => ?_
  unfold Oper.wp
  simp [execOp, ho, resolve, invoke, builtin, hs, hx, hrun, Result.andThen]
  exact hK' _ _ h
theorem own_base {W : World} {B D : Nat} {v : Value} {l : List Nat} (h : D ≤ B) (s : Pk.Own W B v l) : Pk.Own W D v l := by
  obtain ⟨h1, h2⟩ := s
  refine ⟨h1, ?_⟩
  rcases h2 with h2 | ⟨g, cap, cur, e, hb, hg⟩
  · exact .inl h2
  · exact .inr ⟨g, cap, cur, e, Nat.le_trans h hb, hg⟩
set_option maxRecDepth 100000 in
set_option maxHeartbeats 2000000 in
theorem bare_any (c : Nat) (hc : c ≤ 255) (w : World) :
    Calls Tryz.prog 28 #[.int .u8 (c : Int)] w (RetBs ([109, 117, 108, 49, c, 1] ++ List.replicate 17 0) w) := by
  obtain ⟨i0, hi, hz0, hz1, hz2⟩ := info_parts Pk.info5
  obtain ⟨C, hC⟩ : ∃ C : Array Value, #[.int .u8 109, .int .u8 117, .int .u8 108, .int .u8 49] = C := ⟨_, rfl⟩
  obtain ⟨W1, hW1⟩ : ∃ V, w.alloc (.cells C 5 (C.size, C.size + 1)) = V := ⟨_, rfl⟩
  obtain ⟨W2, hW2⟩ : ∃ V, W1.alloc (.cells #[.int .u8 (c : Int), .int .u8 1] 5) = V := ⟨_, rfl⟩
  have z1 : W1.heap.size = w.heap.size + 1 := by rw [← hW1]; simp
  have r1 : W1.heap[w.heap.size]? = some (.cells C 5 (C.size, C.size + 1)) := by rw [← hW1]; exact heap_alloc_new _ _
  have r2 : W2.heap[W1.heap.size]? = some (.cells #[.int .u8 (c : Int), .int .u8 1] 5 (0, 0)) := by rw [← hW2]; exact heap_alloc_new _ _
  have b1 : Below w.heap.size w W1 := by rw [← hW1]; exact (Below.refl _ _).alloc (Nat.le_refl _) _
  have b2 : Below w.heap.size w W2 := by rw [← hW2]; exact b1.alloc (by omega) _
  have r3 : W2.heap[w.heap.size]? = some (.cells C 5 (C.size, C.size + 1)) := by rw [← hW2]; exact step_row r1
  have hcv := run_convert_bytes_const (P := Tryz.prog) w 31 5 C 4 4 Tryz.underlying31 (by kernel_rfl)
  rw [hW1] at hcv
  obtain ⟨v3, W3, hrun3, hown3, hg3⟩ := run_append_arg_grows (P := Tryz.prog) (w := W2) 31 31 5 i0 (.int .u8 0) 1 1 Tryz.underlying31 hi hz0 hz1 hz2 rfl (by decide) ⟨w.heap.size, 0, none⟩ 4 4 ([109, 117, 108, 49].map Pk.encB) (by simp) (fun j u hj => by
      rw [Addr.add_lit, Nat.zero_add, cell_of_row _ _ _ _ _ _ r3, ← hC, ← hj]
      simp only [List.getElem?_toArray]
      rfl) ⟨W1.heap.size, 0, none⟩ 2 2 ([c, 1].map Pk.encB) (by simp) (fun j u hj => by
      rw [Addr.add_lit, Nat.zero_add, cell_of_row _ _ _ _ _ _ r2, ← hj]
      simp only [List.getElem?_toArray]
      rfl) (by omega) (by unfold maxLen; omega) (by omega)
  have ho3 : Pk.Own W3 W2.heap.size v3 [109, 117, 108, 49, c, 1] := hown3
  have hb3 : Below w.heap.size w W3 := bnext b2 (below_none hg3)
  have hs3 := hg3.size
  obtain ⟨v4, W4, hrun4, hown4, hg4⟩ := run_own_zeros W2.heap.size 17 v3 _ W3 31 .i64 hs3 (by omega) (by omega) (by simp) (by simp) ho3
  have hb4 : Below w.heap.size w W4 := below_grown2 (Nat.le_refl _) hb3 hg4 (fun k hk => Nat.le_trans b2.size (Pk.Own.blk ho3 k hk))
  obtain ⟨L, hL⟩ : ∃ L, [109, 117, 108, 49, c, 1] ++ List.replicate 17 0 = L := ⟨_, rfl⟩
  have hown5 : Pk.Own W4 w.heap.size v4 L := by rw [← hL]; exact own_base b2.size hown4
  rw [hL]
  have HE : Hid (RetBs L w (.returned v4) W4) := Lib.hid ⟨⟨v4, rfl, hown5⟩, hb4⟩
  have hrun5 : (Builtin.append_ #[31, 3] 31 #[v3, .int .i64 17]).run Tryz.prog W3 = .ok v4 W4 := hrun4
  have HR3 := Lib.hid hrun3
  have HR4 := Lib.hid hrun5
  have HCV := Lib.hid hcv
  have HW2 := Lib.hid hW2
  have HCC := Lib.hid hC
  clear z1 r1 r2 b1 b2 r3 hW1 hW2 hc hcv hrun3 hown3 hg3 ho3 hb3 hs3 hrun4 hown4 hg4 hb4 hown5 hrun5 hL hC hi hz0 hz1 hz2
  go_enter Tryz.func28, Tryz.ntmps28
  go_wp2_with (first | (rw [HCC.out]; rw [HCV.out]) | (rw [HW2.out]) | (with_reducible refine stop_at (some 8) rfl ?_; refine Lib.hid ?_; refine wpList_appX rfl (.tmp 5) (.tmp 7) 31 rfl (.slice (some ⟨w.heap.size, 0, none⟩) 4 4) (.slice (some ⟨W1.heap.size, 0, none⟩) 2 2) v3 W3 rfl rfl HR3.out ?_) | (with_reducible refine stop_at (some 10) rfl ?_; refine Lib.hid ?_; refine wpList_appZ rfl (.tmp 9) (.const (.int .i64 17)) 31 3 rfl v3 (.int .i64 17) v4 W4 rfl rfl HR4.out ?_))
  go_ret
  exact HE.out
end Go.Proofs.YtbbhmhihpdmoiaaGreat.Fx


/- A scene whose lists are rows of one's own, in a box: numbers are written over, the lists stay where they are. -/
set_option linter.unusedVariables false
set_option linter.unusedSimpArgs false
namespace Go.Proofs.YtbbhmhihpdmoiaaGreat.Fx
open Go Go.RowKit
/-- a number that may be written over -/
def IntAt (k : IntKind) (W : World) (b j : Nat) : Prop := ((∃ z, W.cell? ⟨b, j, none⟩ = some (.int k z)) ∧ b < W.heap.size) ∧ W.frozen? ⟨b, j, none⟩ = false
theorem IntAt.below {k : IntKind} {W X : World} {b j : Nat} (hb : Below W.heap.size W X) (h : IntAt k W b j) : IntAt k X b j := by
  obtain ⟨⟨⟨z, hz⟩, hl⟩, hf⟩ := h
  exact ⟨⟨⟨z, keep_cell hb hz⟩, Nat.lt_of_lt_of_le hl hb.size⟩, keep_free hb hl hf⟩
theorem IntAt.put {k q : IntKind} {W : World} {b j b2 j2 : Nat} (h : IntAt k W b j) (h2 : IntAt q W b2 j2) (z : Int) : IntAt k (W.setCell ⟨b2, j2, none⟩ (.int q z)) b j := by
  obtain ⟨⟨⟨y, hy⟩, hl⟩, hf⟩ := h
  obtain ⟨⟨⟨y2, hy2⟩, hl2⟩, hf2⟩ := h2
  refine ⟨⟨?_, by simpa using hl⟩, by rw [World.frozen?_setCell]; exact hf⟩
  by_cases e : (⟨b2, j2, none⟩ : Addr) = ⟨b, j, none⟩
  · cases e
    rw [hy2] at hy
    cases hy
    exact ⟨z, World.cell?_setCell_same _ _ _ hy2⟩
  · exact ⟨y, by rw [World.cell?_setCell_other _ _ _ _ e]; exact hy⟩
theorem slice_put {q : IntKind} {W : World} {a : Addr} {b2 j2 n c : Nat} {o : Option Addr} (h : W.cell? a = some (.slice o n c)) (h2 : IntAt q W b2 j2) (z : Int) : (W.setCell ⟨b2, j2, none⟩ (.int q z)).cell? a = some (.slice o n c) := by
  obtain ⟨⟨⟨y2, hy2⟩, hl2⟩, hf2⟩ := h2
  by_cases e : (⟨b2, j2, none⟩ : Addr) = a
  · subst e
    rw [hy2] at h
    cases h
  · rw [World.cell?_setCell_other _ _ _ _ e]
    exact h
structure SpI (B bc : Nat) (c : ScR) (V W : World) : Prop where
  below : Below B V W
  le : B ≤ bc
  box : W.heap[bc]? = some (.cells (scC c) 28 (0, 0))
  id : ∀ k x, c.os[k]? = some x → ∃ g off, c.oo = some ⟨g, off, none⟩ ∧ B ≤ g ∧ g ≠ bc ∧ IntAt .i64 W g (off + k * 19) ∧ W.cell? ⟨g, off + k * 19 + 17, none⟩ = some (.slice x.vo x.vs.length x.vc) ∧ W.cell? ⟨g, off + k * 19 + 18, none⟩ = some (.slice x.tq x.ts.length x.tc)
  vs : ∀ x ∈ c.os, ∀ j, j < x.vs.length → ∃ g off, x.vo = some ⟨g, off, none⟩ ∧ B ≤ g ∧ g ≠ bc ∧ IntAt .i64 W g (off + j * 3)
  ts : ∀ x ∈ c.os, ∀ j, j < x.ts.length → ∃ g off, x.tq = some ⟨g, off, none⟩ ∧ B ≤ g ∧ g ≠ bc ∧ IntAt .i64 W g (off + j * 4)
theorem SpI.up {B bc : Nat} {c : ScR} {V W X : World} (hb : Below W.heap.size W X) (hB : B ≤ W.heap.size) (i : SpI B bc c V W) : SpI B bc c V X := by
  refine ⟨i.below.trans (hb.mono hB), i.le, keep_row hb i.box, fun k x hk => ?_, fun x hx j hj => ?_, fun x hx j hj => ?_⟩
  · obtain ⟨g, off, e, h1, h2, h3, h4, h5⟩ := i.id k x hk
    exact ⟨g, off, e, h1, h2, h3.below hb, keep_cell hb h4, keep_cell hb h5⟩
  · obtain ⟨g, off, e, h1, h2, h3⟩ := i.vs x hx j hj
    exact ⟨g, off, e, h1, h2, h3.below hb⟩
  · obtain ⟨g, off, e, h1, h2, h3⟩ := i.ts x hx j hj
    exact ⟨g, off, e, h1, h2, h3.below hb⟩
theorem SpI.lt {B bc : Nat} {c : ScR} {V W : World} (i : SpI B bc c V W) : B ≤ W.heap.size := by
  have := (Array.getElem?_eq_some_iff.1 i.box).1
  have := i.le
  omega
theorem SpI.put {B bc : Nat} {c : ScR} {V W : World} (i : SpI B bc c V W) {g j : Nat} (hg : B ≤ g) (hn : g ≠ bc) (h : IntAt .i64 W g j) (z : Int) : SpI B bc c V (W.setCell ⟨g, j, none⟩ (.int .i64 z)) := by
  refine ⟨i.below.setCell (p := ⟨g, j, none⟩) hg _, i.le, ?_, fun k x hk => ?_, fun x hx j hj => ?_, fun x hx j hj => ?_⟩
  · rw [heap_setCell_other _ _ _ _ (by exact fun e => hn e.symm)]
    exact i.box
  · obtain ⟨g, off, e, h1, h2, h3, h4, h5⟩ := i.id k x hk
    exact ⟨g, off, e, h1, h2, h3.put h z, slice_put h4 h z, slice_put h5 h z⟩
  · obtain ⟨g, off, e, h1, h2, h3⟩ := i.vs x hx j hj
    exact ⟨g, off, e, h1, h2, h3.put h z⟩
  · obtain ⟨g, off, e, h1, h2, h3⟩ := i.ts x hx j hj
    exact ⟨g, off, e, h1, h2, h3.put h z⟩
theorem int_row {t : TypeId} {W : World} {g j : Nat} {cur : Array Value} {k : IntKind} {z : Int} (h : W.heap[g]? = some (.cells cur t (0, 0))) (hc : W.cell? ⟨g, j, none⟩ = some (.int k z)) : IntAt k W g j := ⟨⟨⟨z, hc⟩, (Array.getElem?_eq_some_iff.1 h).1⟩, frozen_row h⟩
theorem SpI.new {B C bc : Nat} {c : ScR} {V W : World} (hC : B ≤ C) (s : FreshS C c W) (hb : Below B V W) (hle : B ≤ bc) (hbc : W.heap[bc]? = some (.cells (scC c) 28 (0, 0))) : SpI B bc c V W := by
  have hne : ∀ {t : TypeId} {g : Nat} {cur : Array Value}, W.heap[g]? = some (.cells cur t (0, 0)) → t ≠ 28 → g ≠ bc := fun h ht e => by
    subst e
    rw [hbc] at h
    cases h
    exact ht rfl
  refine ⟨hb, hle, hbc, fun k x hk => ?_, fun x hx j hj => ?_, fun x hx j hj => ?_⟩
  · obtain ⟨g, cur, e, h1, h2, _, h3⟩ := s.objs.at_ k x hk
    have hw := (s.each x (List.mem_of_getElem? hk)).wf
    refine ⟨g, 0, e, by omega, hne h2 (by decide), int_row h2 (z := x.id) ?_, ?_, ?_⟩
    · exact h3 0 _ (objL_id x)
    · exact h3 17 _ (objL_vs hw)
    · exact h3 18 _ (objL_ts hw)
  · have hw := s.each x hx
    obtain ⟨v, hv⟩ : ∃ v, x.vs[j]? = some v := ⟨_, List.getElem?_eq_getElem hj⟩
    obtain ⟨g, cur, e, h1, h2, _, h3⟩ := hw.v.at_ j v hv
    have hvl := (hw.vw v (List.mem_of_getElem? hv)).len
    obtain ⟨z, hz⟩ : ∃ z, v[0]? = some z := ⟨_, List.getElem?_eq_getElem (by omega)⟩
    refine ⟨g, 0, e, by omega, hne h2 (by decide), int_row h2 (z := z) ?_⟩
    exact h3 0 _ (by rw [List.getElem?_map, hz]; rfl)
  · have hw := s.each x hx
    obtain ⟨v, hv⟩ : ∃ v, x.ts[j]? = some v := ⟨_, List.getElem?_eq_getElem hj⟩
    obtain ⟨g, cur, e, h1, h2, _, h3⟩ := hw.t.at_ j v hv
    refine ⟨g, 0, e, by omega, hne h2 (by decide), int_row h2 (z := v.a) ?_⟩
    exact h3 0 _ rfl
/-- a call in a region that draws its order, whose answer is not known ahead -/
theorem wpIn_call_any {n : Nat} {P : Program} {o : Oper} {a : Act} {w : World} {K : Act → World → Prop} {Q : Exit → Act → World → Prop} (f : FuncId) (args : Array Value) (hrun : (execOp a.eval o).run P w = .ok (.enter f args) w) (c : Callee) (ps : Array Operand) (ts : Array TypeId) (ho : o.op = .call { callee := c, args := ps, argTypes := ts })
    {post : Ending → World → Prop} (hc : Calls P f args w post) (h : ∀ e w', post e w' → ∃ v, e = .returned v ∧ K (a.put o.dst v) w') : Oper.wpIn Fence.wide n P o a w K Q := by
  unfold Oper.wpIn
  refine ⟨fun f _ => trivial, ?_⟩
  rw [Oper.semAt_plain _ _ _ (by rw [ho]; intro c hc'; cases hc'), hrun]
  refine ⟨fun h => (by cases h), callsIn_wide.2 (hc.mono ?_)⟩
  intro e w' hp
  obtain ⟨v, rfl, hk⟩ := h e w' hp
  exact hk
end Go.Proofs.YtbbhmhihpdmoiaaGreat.Fx


/- The document's Same, whatever the scenes are (as in Yc, for seats without SceneTells). -/
set_option linter.unusedVariables false
set_option linter.unusedSimpArgs false
namespace Go.Proofs.YtbbhmhihpdmoiaaGreat.Fx
open Go Go.RowKit Go.Shelf
theorem zsame_any (a b : ScR) (w : World) (ha : ScWf a) (hb : ScWf b) (h : ObjsAt w a.oo a.os) (h2 : ObjsAt w b.oo b.os) :
    Calls Tryz.prog 15 #[.agg (scC a), .agg (scC b)] w (RetBool (decide (sameS a b)) w) := by
  by_cases hno : a.w = b.w ∧ a.h = b.h ∧ a.cam = b.cam ∧ a.os.length = b.os.length
  · obtain ⟨h1, h3, h4, hl⟩ := hno
    have := zsame_yes a b w ha hb h h2 h1 h3 h4 hl
    have e : decide (sameS a b) = decide (a.os.map keyO = b.os.map keyO) := by
      unfold sameS
      simp [h1, h3, h4]
    rw [e]
    exact this
  · have e : decide (sameS a b) = false := decide_eq_false (fun hs => hno ⟨hs.1, hs.2.1, hs.2.2.1, by have := congrArg List.length hs.2.2.2; simpa using this⟩)
    rw [e]
    exact zsame_no a b w ha hb h h2 hno
end Go.Proofs.YtbbhmhihpdmoiaaGreat.Fx

