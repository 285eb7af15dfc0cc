import Derived.Laws.Rows
import Derived.Test.YtbbhmhihpdmoiaaGreatProg
import Derived.Laws.AppendOwnNone
import Derived.WalkKit
import Derived.Lib.Hide
import Derived.Outline
import Derived.Shelf.Abstract
import Derived.Shelf.RegionOpen
import Derived.OwnWalkIn
import Derived.TacticsInMore
import Derived.Deep.QuietTactic
import Derived.BigQuiet
import Derived.Laws.Concat
import Derived.Deep.LoopGhost
import Derived.Lib.ConvBytes
import Derived.ArgAppend
import Derived.Test.YtbbhmhihpdmoiaaGreatMw01
import Derived.Test.YtbbhmhihpdmoiaaGreatMw29
import Derived.Test.YtbbhmhihpdmoiaaGreatMw30
import Derived.Test.YtbbhmhihpdmoiaaGreatMw32
set_option linter.unusedVariables false
set_option linter.unusedSimpArgs false
namespace Go.Proofs.YtbbhmhihpdmoiaaGreat.Cx
open Go.Proofs.YtbbhmhihpdmoiaaGreat.Fx (held_done held_region held_take)
open Go Go.RowKit Go.Shelf
attribute [local go_sem] Oper.semAt_some
theorem nil_of {W : World} {l : List Nat} (h : Bs W none l) : l = [] := by
 cases l with
 | nil => rfl
 | cons x l => obtain ⟨_, _, e, _⟩ := h 0 (by simp); cases e
theorem le4_val {c0 c1 c2 c3 s : Nat} (h0 : c0 < 256) (h1 : c1 < 256) (h2 : c2 < 256) (h3 : c3 < 256) (hs : s < 4294967296) : (c0 + 256 * c1 + 65536 * c2 + 16777216 * c3 = s) ↔ [c0, c1, c2, c3] = le4 s := by
 simp only [le4, List.cons.injEq, and_true]
 omega
end Go.Proofs.YtbbhmhihpdmoiaaGreat.Cx

set_option linter.unusedVariables false
set_option linter.unusedSimpArgs false
namespace Go.Proofs.YtbbhmhihpdmoiaaGreat.Cx
open Go.Proofs.YtbbhmhihpdmoiaaGreat.Fx (held_done held_region held_step held_take)
open Go Go.RowKit Go.Shelf
attribute [local go_sem] Oper.semAt_some
theorem bstr_size (l : List Nat) : (bstr l).size = l.length := by
 show (l.map UInt8.ofNat).toArray.size = _
 simp
def opened (l : List Nat) : Option (List Nat) := if 4 ≤ l.length ∧ l.drop (l.length - 4) = le4 (more 0 (l.take (l.length - 4))) then some (l.take (l.length - 4)) else none
def erO (R : Option (List Nat)) : Int := if R.isSome then 0 else 40
def RetO (R : Option (List Nat)) (B : Nat) (e : Ending) (w' : World) : Prop := ∃ v, e = .returned (.tuple #[v, .int .i64 (erO R)]) ∧ Own w' B v (R.getD [])
theorem No.ret {w w' : World} {e : Ending} (h : No w e w') : RetO none w.heap.size e w' ∧ Below w.heap.size w w' := ⟨⟨_, h.1, World.ownsRow_nil _ _ _ _⟩, h.2⟩
theorem four_of {l : List Nat} {n : Nat} (h : l.length = n + 4) : l = l.take n ++ [l.getD n 0, l.getD (n + 1) 0, l.getD (n + 2) 0, l.getD (n + 3) 0] := by
 have e : l.drop n = [l.getD n 0, l.getD (n + 1) 0, l.getD (n + 2) 0, l.getD (n + 3) 0] := by
  apply List.ext_getElem?
  intro i
  rw [List.getElem?_drop]
  have g : ∀ j, j < l.length → l[j]? = some (l.getD j 0) := fun j hj => by simp [List.getD, hj]
  match i with
  | 0 => exact g _ (by omega)
  | 1 => exact g _ (by omega)
  | 2 => exact g _ (by omega)
  | 3 => exact g _ (by omega)
  | i + 4 =>
   rw [List.getElem?_eq_none (by omega)]
   rfl
 rw [← e, List.take_append_drop]
theorem opened_long {l t : List Nat} {c0 c1 c2 c3 : Nat} (h : l = t ++ [c0, c1, c2, c3]) : opened l = if ([c0, c1, c2, c3] == le4 (more 0 t)) = true then some t else none := by
 have hl : l.length = t.length + 4 := by rw [h]; simp
 have ht : l.take (l.length - 4) = t := by rw [hl, Nat.add_sub_cancel, h, List.take_left]
 have hd : l.drop (l.length - 4) = [c0, c1, c2, c3] := by rw [hl, Nat.add_sub_cancel, h, List.drop_left]
 unfold opened
 rw [ht, hd]
 by_cases hc : [c0, c1, c2, c3] = le4 (more 0 t)
 ·rw [if_pos ⟨by omega, hc⟩, if_pos (by rw [hc]; exact beq_self_eq_true _)]
 ·rw [if_neg (fun h => hc h.2), if_neg (fun h => hc (by simpa using h))]
theorem opened_short {l : List Nat} (h : l.length < 4) : opened l = none := by
 unfold opened
 rw [if_neg (fun h2 => by omega)]
theorem open_all (l : List Nat) (n : Nat) (hn : l.length = n) (o : Option Addr) (cap : Nat) (w : World) (hl : By l) (hlen : l.length ≤ 900000) (hcap : l.length ≤ cap) (hcap2 : cap ≤ 9223372036854775807) (hb : Bs w o l) :
  Calls Tryz.prog 71 #[.slice o n cap] w fun e w' => RetO (opened l) w.heap.size e w' ∧ Below w.heap.size w w' := by
 subst hn
 by_cases h4 : l.length < 4
 ·rw [opened_short h4]
  exact (open_short _ o cap w h4).mono fun e w' h => h.ret
 ·obtain ⟨b, off, rfl, _⟩ := hb 0 (by omega)
  have hf := four_of (l := l) (n := l.length - 4) (by omega)
  have hlt : (l.take (l.length - 4)).length + 4 = l.length := by rw [List.length_take]; omega
  rw [opened_long hf]
  have := open_at (l.take (l.length - 4)) _ _ _ _ b off cap w (hl.take _) (by omega) (by omega) hcap2 (by rw [← hf]; exact hb)
  rw [hlt] at this
  refine this.mono ?_
  intro e w' h
  split at h
  ·rename_i hc
   rw [if_pos hc]
   obtain ⟨⟨v, he, ho⟩, hbel⟩ := h
   exact ⟨⟨v, he, ho⟩, hbel⟩
  ·rename_i hc
   rw [if_neg hc]
   exact h.ret
theorem grown_trans {a b c : World} {r : Option Nat} (h1 : a.grownBy b r) (h2 : b.grownBy c r) : a.grownBy c r :=
 ⟨h2.os.trans h1.os, h2.tape.trans h1.tape, h2.output.trans h1.output, Nat.le_trans h1.size h2.size, fun k hk hr => (h2.block k (Nat.lt_of_lt_of_le hk h1.size) hr).trans (h1.block k hk hr)⟩
theorem bump {W : World} {B g cap k : Nat} {ls : List Nat} (h : Own W B (.slice (some ⟨g, 0, none⟩) ls.length cap) ls) (c : Nat) :
  Own (W.setCell ⟨g, k, none⟩ (.int .u8 (c : Int))) B (.slice (some ⟨g, 0, none⟩) ls.length cap) (ls.set k c) ∧ W.grownBy (W.setCell ⟨g, k, none⟩ (.int .u8 (c : Int))) (some g) := by
 obtain ⟨h1, h2⟩ := World.ownsRow.stored h k (.int .u8 (c : Int))
 refine ⟨?_, h2⟩
 unfold Own
 rw [List.length_set, List.map_set]
 exact h1
def Bump (W0 : World) (B N : Nat) (v : Value) (wx : World) : Prop := ∃ ls, ls.length = N ∧ By ls ∧ Own wx B v ls ∧ W0.grownBy wx v.ownBlock
theorem Bump.facts {W0 wx : World} {B N k cap : Nat} {o : Option Addr} (h : Bump W0 B N (.slice o N cap) wx) (hk : k < N) :
  ∃ g c, o = some ⟨g, 0, none⟩ ∧ c < 256 ∧ wx.cell? ⟨g, k, none⟩ = some (.int .u8 ((c : Nat) : Int)) ∧ wx.frozen? ⟨g, k, none⟩ = false ∧
   Bump W0 B N (.slice (some ⟨g, 0, none⟩) N cap) (wx.setCell ⟨g, k, none⟩ (.int .u8 (((c + 1) % 256 : Nat) : Int))) := by
 obtain ⟨ls, hN, hby, hown, hgr⟩ := h
 obtain ⟨o2, cap2, e, hbs, _, _, _, hfr⟩ := hown.open
 cases e
 obtain ⟨b, off, e, hc⟩ := hbs k (by omega)
 obtain ⟨g, e2, _, _, hf⟩ := hfr _ e
 cases e2
 subst e
 have hb := bump (k := k) hown ((ls.getD k 0 + 1) % 256)
 refine ⟨b, ls.getD k 0, rfl, hby.get k, by simpa using hc, hf k, ls.set k ((ls.getD k 0 + 1) % 256), by simp, ?_, hb.1, grown_trans hgr hb.2⟩
 intro c hc2
 rcases List.mem_or_eq_of_mem_set hc2 with h | rfl
 ·exact hby c h
 ·exact Nat.mod_lt _ (by omega)
theorem own_shape {W : World} {B n : Nat} {v : Value} {l : List Nat} (ho : Own W B v l) (hl : l.length = n) (hn : 0 < n) : ∃ g cap, v = .slice (some ⟨g, 0, none⟩) n cap ∧ n ≤ cap ∧ cap ≤ 9223372036854775807 ∧ Bs W (some ⟨g, 0, none⟩) l := by
 obtain ⟨o, cap, e, hbs, h1, h2, _, hf⟩ := ho.open
 rw [hl] at e h1
 subst e
 obtain ⟨b, off, rfl, _⟩ := hbs 0 (by omega)
 obtain ⟨g, e2, _⟩ := hf _ rfl
 cases e2
 exact ⟨b, cap, rfl, h1, h2, hbs⟩
end Go.Proofs.YtbbhmhihpdmoiaaGreat.Cx

set_option linter.unusedVariables false
set_option linter.unusedSimpArgs false
namespace Go.Proofs.YtbbhmhihpdmoiaaGreat.Fx
open Go Go.RowKit Go.Lib
open Go.Proofs.YtbbhmhihpdmoiaaGreat.Pk (Bs By)
def sealL (l : List Nat) : List Nat := l ++ Cx.le4 (Cx.more 0 l)
theorem wpList_appX {ops : Array Oper} {rest : List Oper} {o : Oper} {a : Act} {Q : Exit → Act → World → Prop} {W : World} (hgd : o.guard = none) (s x : Operand) (ts : TypeId)
  (ho : o.op = .call { callee := .builtin .append, args := #[s, x], argTypes := #[ts, ts] }) (va vx v : Value) (X : World) (hs : a.eval s = va) (hx : a.eval x = vx) (hrun : (Builtin.append_ #[ts, ts] o.type #[va, vx]).run Tryz.prog W = .ok v X)
  (h : wpList Tryz.prog ops Q rest (a.put o.dst v) X) : wpList Tryz.prog ops Q (o :: rest) a W := by
 refine wpList_plain hgd fun K hK' => ?_
 unfold Oper.wp
 simp [execOp, ho, resolve, invoke, builtin, hs, hx, hrun, Result.andThen]
 exact hK' _ _ h
theorem wpList_cvX {ops : Array Oper} {rest : List Oper} {o : Oper} {a : Act} {Q : Exit → Act → World → Prop} {W : World} (hgd : o.guard = none) (x : Operand) (src dst : TypeId)
  (ho : o.op = .convert src dst x) (vx v : Value) (X : World) (hx : a.eval x = vx) (hrun : (convert src dst vx).run Tryz.prog W = .ok v X)
  (h : wpList Tryz.prog ops Q rest (a.put o.dst v) X) : wpList Tryz.prog ops Q (o :: rest) a W := by
 refine wpList_plain hgd fun K hK' => ?_
 unfold Oper.wp
 simp [execOp, ho, hx, hrun, Result.andThen]
 exact hK' _ _ h
theorem bstr_size (l : List Nat) : (Pk.bstr l).size = l.length := by simp [Pk.bstr, ByteArray.size]
theorem bstr_at {l : List Nat} (h : By l) {j : Nat} (hj : j < l.length) : ((Pk.bstr l).data.toList.getD j 0).toNat = l.getD j 0 := by
 have h1 := h _ (List.getElem_mem hj)
 simp [Pk.bstr, List.getD_eq_getElem?_getD, hj]
 omega
theorem bytesWorld_below (w : World) (e : TypeId) (s : ByteArray) : Below w.heap.size w (bytesWorld w e s) := by
 refine ⟨rfl, rfl, rfl, by rw [bytesWorld_size]; omega, fun k hk => bytesWorld_at_old w e s k hk⟩
theorem below_cells {B b : Nat} {a : World} (hb : B ≤ b) : ∀ (vs : List Value) (o : Nat) {w : World}, Below B a w → Below B a (w.setCells b o vs)
 | [], _, _, h => h
 | v :: vs, o, w, h => by
  rw [World.setCells]
  exact below_cells hb vs (o + 1) (h.setCell (p := ⟨b, o, none⟩) hb v)
set_option maxRecDepth 100000 in
theorem mark_app (mk m : List Nat) (hmk : By mk) (W : World) (ox : Option Addr) (c : Nat) (hm : 0 < m.length) (hl : mk.length + m.length ≤ 1000000) (hb : Bs (bytesWorld W 5 (Pk.bstr mk)) ox m) (ty : TypeId) :
  ∃ o cap X, (Builtin.append_ #[31, 31] ty #[.slice (some ⟨W.heap.size, 0, none⟩) mk.length (grownCap W mk.length 0 5), .slice ox m.length c]).run Tryz.prog (bytesWorld W 5 (Pk.bstr mk)) = .ok (.slice o (mk ++ m).length cap) X ∧ Bs X o (mk ++ m) ∧ (o = none → cap = 0) ∧ Below W.heap.size W X := by
 obtain ⟨i0, hi, hz0, hz1, hz2⟩ := info_parts Pk.info5
 obtain ⟨b, off, rfl, _⟩ := hb 0 hm
 have hnews : ∀ j u, (m.map Pk.encB)[j]? = some u → (bytesWorld W 5 (Pk.bstr mk)).cell? ((⟨b, off, none⟩ : Addr).add j) = some u := fun j u hj => by
  have hlt := (List.getElem?_eq_some_iff.1 hj).1
  rw [List.length_map] at hlt
  obtain ⟨b', off', e, hc⟩ := hb j hlt
  cases e
  rw [Addr.add_lit, hc, ← hj, List.getElem?_map, List.getElem?_eq_getElem hlt]
  simp [Pk.encB, List.getD_eq_getElem?_getD, hlt]
 have hone : ∀ u ∈ m.map Pk.encB, u.oneCell' = true := fun u hu => by
  obtain ⟨z, _, rfl⟩ := List.mem_map.1 hu
  rfl
 have hnew := bytesWorld_at_new W 5 (Pk.bstr mk)
 have hold : ∀ j, j < mk.length → (bytesWorld W 5 (Pk.bstr mk)).cell? ⟨W.heap.size, j, none⟩ = some (.int .u8 ((mk.getD j 0 : Nat) : Int)) := fun j hj => by
  rw [bytesWorld_cell _ _ _ _ (by rw [bstr_size]; exact hj), bstr_at hmk hj]
 have hbw := bytesWorld_below W 5 (Pk.bstr mk)
 have hsz := bytesWorld_size W 5 (Pk.bstr mk)
 have hcap : mk.length ≤ grownCap W mk.length 0 5 := grownCap_ge W mk.length 0 5
 have hcs : (bytesCells W 5 (Pk.bstr mk)).size = grownCap W mk.length 0 5 := by
  unfold bytesCells
  rw [bstr_size]
  simp [Pk.bstr]
  omega
 by_cases hr : mk.length + m.length ≤ grownCap W mk.length 0 5
 ·have hsome : ∀ j, j < (m.map Pk.encB).length → ((bytesWorld W 5 (Pk.bstr mk)).cell? ⟨W.heap.size, 0 + mk.length * i0.size + j, none⟩).isSome = true := fun j hj => by
   rw [List.length_map] at hj
   rw [cell_of_row _ _ _ _ _ _ hnew, hz1]
   simp
   omega
  have hfro : ∀ j, j < (m.map Pk.encB).length → (bytesWorld W 5 (Pk.bstr mk)).frozen? ⟨W.heap.size, 0 + mk.length * i0.size + j, none⟩ = false := fun j hj => by
   rw [List.length_map] at hj
   unfold World.frozen?
   rw [hz1]
   simp only [hnew]
   simp
   omega
  have hrun := run_append_room_cells (P := Tryz.prog) (w := bytesWorld W 5 (Pk.bstr mk)) 31 ty 5 i0 Tryz.underlying31 hi W.heap.size 0 mk.length _ ⟨b, off, none⟩ m.length c (m.map Pk.encB) (by rw [hz1]; simp) hnews hone hr hsome hfro
  rw [hz1] at hrun hsome
  refine ⟨_, _, _, by rw [List.length_append]; exact hrun, fun j hj => ⟨W.heap.size, 0, rfl, ?_⟩, (fun h => by cases h), below_cells (Nat.le_refl _) _ _ hbw⟩
  rw [List.length_append] at hj
  by_cases hj1 : j < mk.length
  ·rw [World.cell?_setCells_out _ _ _ _ _ (fun _ _ => Or.inl (by show 0 + j < _; omega)), Nat.zero_add, hold j hj1]
   congr 3
   simp [List.getD_eq_getElem?_getD, List.getElem?_append_left hj1]
  ·have := World.cell?_setCells_in W.heap.size (m.map Pk.encB) (0 + mk.length * 1) (bytesWorld W 5 (Pk.bstr mk)) hsome (j - mk.length) (by rw [List.length_map]; omega)
   rw [show 0 + mk.length * 1 + (j - mk.length) = 0 + j by omega] at this
   rw [this]
   have h2 : j - mk.length < m.length := by omega
   congr 1
   simp [Pk.encB, List.getD_eq_getElem?_getD, List.getElem?_append_right (show mk.length ≤ j by omega), h2]
 ·obtain ⟨v', X, hrun, hown, hg⟩ := run_append_arg_grows (P := Tryz.prog) (w := bytesWorld W 5 (Pk.bstr mk)) 31 ty 5 i0 (.int .u8 0) 1 1 Tryz.underlying31 hi hz0 hz1 hz2 rfl (by decide) ⟨W.heap.size, 0, none⟩ mk.length (grownCap W mk.length 0 5) (mk.map Pk.encB) (by simp) (fun j u hj => by
   have hlt := (List.getElem?_eq_some_iff.1 hj).1
   rw [List.length_map] at hlt
   rw [Addr.add_lit, Nat.zero_add, hold j hlt, ← hj, List.getElem?_map, List.getElem?_eq_getElem hlt]
   simp [Pk.encB, List.getD_eq_getElem?_getD, hlt]) ⟨b, off, none⟩ m.length c (m.map Pk.encB) (by simp) hnews (by omega) (by unfold maxLen; omega) (by omega)
  have ho : Pk.Own X (bytesWorld W 5 (Pk.bstr mk)).heap.size v' (mk ++ m) := by
   unfold Pk.Own
   rw [List.length_append, List.map_append]
   exact hown
  obtain ⟨o, cap, rfl, hbs, _, _, hn, _⟩ := ho.open
  refine ⟨o, cap, X, hrun, hbs, hn, bnext hbw (below_none hg)⟩
theorem own_px {W : World} {B : Nat} {v : Value} {l : List Nat} (h : Pk.Own W B v l) : Cx.Own W B v l := h
theorem own_xp {W : World} {B : Nat} {v : Value} {l : List Nat} (h : Cx.Own W B v l) : Pk.Own W B v l := h
theorem bs_px {W : World} {o : Option Addr} {l : List Nat} (h : Pk.Bs W o l) : Cx.Bs W o l := h
theorem bs_xp {W : World} {o : Option Addr} {l : List Nat} (h : Cx.Bs W o l) : Pk.Bs W o l := h
theorem by_px {l : List Nat} (h : Pk.By l) : Cx.By l := h
def RetBs (l : List Nat) (w : World) (e : Ending) (w' : World) : Prop := (∃ v, e = .returned v ∧ Pk.Own w' w.heap.size v l) ∧ Below w.heap.size w w'
set_option maxRecDepth 100000 in
set_option maxHeartbeats 2000000 in
theorem psealed_any (mk : List Nat) (hmk : By mk) (p : Nat) (l : List Nat) (w : World) (hby : By l) (h0 : 0 < l.length) (hl : mk.length + l.length ≤ 1000000) (h : WSt p l w) :
  Calls Tryz.prog 33 #[.string (Pk.bstr mk), .pointer (some ⟨p, 0, none⟩)] w (RetBs (sealL (mk ++ l)) w) := by
 obtain ⟨v, hw⟩ := h
 have HB := Lib.hid (Pk.pbytes_any (p + 1) p v l false w (by omega) hw)
 have HMK := Lib.hid hmk
 have HBY := Lib.hid hby
 clear hw
 go_enter Tryz.func33, Tryz.ntmps33
 go_wp2_with fail
 refine HB.out.mono ?_
 rintro e w1 ⟨⟨v1, rfl, ho⟩, hb1⟩
 simp only [Bool.false_eq_true, if_false] at ho
 obtain ⟨o1, c1, rfl, hbs, _, _, hn1, _⟩ := ho.open
 have hcv : (convert 9 31 (.string (Pk.bstr mk))).run Tryz.prog w1 = .ok (.slice (some ⟨w1.heap.size, 0, none⟩) (Pk.bstr mk).size (grownCap w1 (Pk.bstr mk).size 0 5)) (bytesWorld w1 5 (Pk.bstr mk)) := Go.Lib.run_convert_string_bytes w1 _ _ _ _ Tryz.underlying9 Tryz.underlying31 Tryz.underlying5
 rw [bstr_size] at hcv
 have hbs2 := hbs.below (bytesWorld_below w1 5 (Pk.bstr mk))
 obtain ⟨o3, c3, X3, hrun3, hbs3, hn3, hb3⟩ := mark_app mk l hmk w1 o1 c1 h0 hl hbs2 31
 obtain ⟨cp, hcp⟩ : ∃ c, grownCap w1 mk.length 0 5 = c := ⟨_, rfl⟩
 obtain ⟨W4, hW4⟩ : ∃ W, bytesWorld w1 5 (Pk.bstr mk) = W := ⟨_, rfl⟩
 rw [hcp, hW4] at hcv hrun3
 have HSE := Lib.hid (Cx.seal_any (mk ++ l) o3 c3 X3 (by_px (By.app hmk hby)) (by rw [List.length_append]; exact hl) hn3 (bs_px hbs3))
 have HB3 := Lib.hid (bnext hb1 hb3)
 obtain ⟨n3, hn3'⟩ : ∃ n, (mk ++ l).length = n := ⟨_, rfl⟩
 obtain ⟨n2, hn2'⟩ : ∃ n, mk.length = n := ⟨_, rfl⟩
 obtain ⟨n1, hn1'⟩ : ∃ n, l.length = n := ⟨_, rfl⟩
 rw [hn3'] at hrun3 HSE
 rw [hn2'] at hrun3 hcv
 rw [hn1'] at hrun3 ⊢
 have HR3 := Lib.hid hrun3
 have HCV := Lib.hid hcv
 clear hbs hbs2 hb1 hcv hrun3 hbs3 hb3 ho HB hcp hW4 hn3' hn2' hn1' hn3 hn1 h0 hl hby hmk HMK HBY
 generalize Pk.bstr mk = bs at HCV ⊢
 generalize Pk.fl true false = ef
 go_wp2_with (first | (with_reducible refine stop_at (some 13) rfl ?_; refine Lib.hid ?_; refine wpList_cvX rfl (.tmp 12) 9 31 rfl (.string bs) (.slice (some ⟨w1.heap.size, 0, none⟩) n2 cp) W4 rfl HCV.out ?_) | (at_builtin; refine wpList_appX rfl (.tmp 13) (.tmp 14) 31 rfl (.slice (some ⟨w1.heap.size, 0, none⟩) n2 cp) (.slice o1 n1 c1) (.slice o3 n3 c3) X3 rfl rfl HR3.out ?_))
 refine HSE.out.mono ?_
 rintro e w4 ⟨⟨v4, rfl, ho4⟩, hb4⟩
 have HE := Lib.hid (show RetBs (sealL (mk ++ l)) w (.returned v4) w4 from ⟨⟨v4, rfl, (own_xp ho4).mono HB3.out.size⟩, bnext HB3.out hb4⟩)
 clear ho4 hb4 HSE HCV HR3
 go_wp2_with fail
 go_ret
 exact HE.out
end Go.Proofs.YtbbhmhihpdmoiaaGreat.Fx

set_option linter.unusedVariables false
set_option linter.unusedSimpArgs false
namespace Go.Proofs.YtbbhmhihpdmoiaaGreat.Fx
open Go Go.RowKit
open Go.Proofs.YtbbhmhihpdmoiaaGreat.Pk (PR RdOk)
def opt {κ : Type} (lost : Bool) (x : κ) : Option κ := if lost = true then none else some x
theorem OneG.use {α κ : Type} {P : Prs κ} {key : α → κ} {El : α → World → Prop} {val : α → Value} {o : Option Addr} {c : Nat} {l : List Nat} {p a : Nat} {lost : Bool} {w : World} {e : Ending} {w' : World} (h : OneG P key El val o c l p a lost w e w') :
  w.grownBy w' (some p) ∧ ∃ x b lost2, e = .returned (val x) ∧ El x w' ∧ PR o c l p b lost2 w' ∧ b ≤ l.length ∧ runP lost P l a = opt lost2 (key x, b) := by
 obtain ⟨hg, x, he, hx, hm⟩ := h
 refine ⟨hg, x, ?_⟩
 cases hr : runP lost P l a with
 | none =>
  rw [hr] at hm
  obtain ⟨b, hb, hp⟩ := hm
  exact ⟨b, true, he, hx, hp, hb, rfl⟩
 | some q =>
  obtain ⟨k, b⟩ := q
  rw [hr] at hm
  obtain ⟨hk, hb, hp⟩ := hm
  exact ⟨b, false, he, hx, hp, hb, by rw [hk]; rfl⟩
theorem OneG.make {α κ : Type} {P : Prs κ} {key : α → κ} {El : α → World → Prop} {val : α → Value} {o : Option Addr} {c : Nat} {l : List Nat} {p a : Nat} {lost : Bool} {w : World} {w' : World} {x : α} {b : Nat} {lost2 : Bool}
  (hg : w.grownBy w' (some p)) (hx : El x w') (hp : PR o c l p b lost2 w') (hb : b ≤ l.length) (hr : runP lost P l a = opt lost2 (key x, b)) : OneG P key El val o c l p a lost w (.returned (val x)) w' := by
 refine ⟨hg, x, rfl, hx, ?_⟩
 rw [hr]
 cases lost2
 ·exact ⟨rfl, hb, hp⟩
 ·exact ⟨b, hb, hp⟩
theorem runP_seq {κ μ : Type} {P : Prs κ} {Q : Prs μ} {l : List Nat} {lost lost1 lost2 : Bool} {a a1 a2 : Nat} {k : κ} {m : μ} (h : runP lost P l a = opt lost1 (k, a1)) (h2 : runP lost1 Q l a1 = opt lost2 (m, a2)) : runP lost (pSeq P Q) l a = opt lost2 ((k, m), a2) := by
 unfold runP opt pSeq at *
 cases lost <;> cases lost1 <;> cases lost2 <;> simp_all
theorem pList_succ {κ : Type} (P : Prs κ) (l : List Nat) (n a : Nat) : pList P (n + 1) l a = match P l a with
  | none => none
  | some (k, b) => match pList P n l b with
   | none => none
   | some (ks, c) => some (k :: ks, c) := rfl
theorem pList_snoc {κ : Type} (P : Prs κ) (l : List Nat) : ∀ (n a : Nat), pList P (n + 1) l a = match pList P n l a with
  | none => none
  | some (ks, b) => match P l b with
   | none => none
   | some (k, c) => some (ks ++ [k], c)
 | 0, a => by
  rw [pList_succ]
  show (match P l a with
   | none => none
   | some (k, b) => some ([k], b)) = (match P l a with
   | none => none
   | some (k, c) => some ([] ++ [k], c))
  cases P l a with
  | none => rfl
  | some q => rfl
 | n + 1, a => by
  rw [pList_succ, pList_succ]
  cases P l a with
  | none => rfl
  | some q =>
   obtain ⟨k, b⟩ := q
   dsimp only
   rw [pList_snoc P l n b]
   cases pList P n l b with
   | none => rfl
   | some q2 =>
    obtain ⟨ks, c⟩ := q2
    dsimp only
    cases P l c with
    | none => rfl
    | some q3 => rfl
theorem runP_nil {κ : Type} (P : Prs κ) (l : List Nat) (lost : Bool) (a : Nat) : runP lost (pList P 0) l a = opt lost ([], a) := by
 cases lost <;> rfl
theorem runP_snoc {κ : Type} {P : Prs κ} {l : List Nat} {lost lost1 lost2 : Bool} {n a a1 a2 : Nat} {ks : List κ} {k : κ} (h : runP lost (pList P n) l a = opt lost1 (ks, a1)) (h2 : runP lost1 P l a1 = opt lost2 (k, a2)) : runP lost (pList P (n + 1)) l a = opt lost2 (ks ++ [k], a2) := by
 unfold runP opt at *
 rw [pList_snoc]
 cases lost <;> cases lost1 <;> cases lost2 <;> simp_all
theorem runP_map {κ μ : Type} {P : Prs κ} (f : κ → μ) {l : List Nat} {lost lost1 : Bool} {a a1 : Nat} {k : κ} (h : runP lost P l a = opt lost1 (k, a1)) : runP lost (pMap f P) l a = opt lost1 (f k, a1) := by
 unfold runP opt pMap at *
 cases lost <;> cases lost1 <;> simp_all
theorem rd_ok {l : List Nat} {a b : Nat} (k : RdOk l a) (hb : b ≤ l.length) : RdOk l b := ⟨k.by', k.len, hb⟩
theorem PR_low {o : Option Addr} {c : Nat} {l : List Nat} {p a B : Nat} {lost : Bool} {W X : World} (h : PR o c l p a lost W) (hp : p < B) (hob : ∀ b off, o = some ⟨b, off, none⟩ → 0 < l.length → b < B) (hb : Below B W X) : PR o c l p a lost X :=
 ⟨by rw [hb.block p hp]; exact h.row, fun j hj => by
  obtain ⟨b, off, e, hc⟩ := h.bs j hj
  exact ⟨b, off, e, by rw [World.cell?_of_block (w := W) (hb.block b (hob b off e (by omega)))]; exact hc⟩, h.ok⟩
theorem grown_low {w W X : World} {row : Option Nat} (hg : w.grownBy W row) (hb : Below w.heap.size W X) : w.grownBy X row :=
 ⟨hb.os.trans hg.os, hb.tape.trans hg.tape, hb.output.trans hg.output, Nat.le_trans hg.size hb.size, fun k hk hn => (hb.block k hk).trans (hg.block k hk hn)⟩
theorem row_grown {t : TypeId} {g m : Nat} {c : Array Value} {W X : World} (h : RowAt t g c W) (hg : W.grownBy X (some m)) (e : g ≠ m) : RowAt t g c X := by
 unfold RowAt
 rw [hg.block g h.lt (fun hh => e (by cases hh; rfl))]
 exact h
def PVal (p a : Nat) (lost : Bool) (o : Option Addr) (c : Nat) (l : List Nat) (w : World) : Ending → World → Prop := OneG pVert (fun z : List Int => z) (fun z _ => VertWf z) (fun z => .agg (z.map encI).toArray) o c l p a lost w
theorem three_wf {x y z : Int} (hx : Num x) (hy : Num y) (hz : Num z) : VertWf [x, y, z] := ⟨rfl, fun j => by
 match j with
 | 0 => exact hx
 | 1 => exact hy
 | 2 => exact hz
 | j + 3 => exact ⟨by simp, by simp⟩⟩
set_option maxRecDepth 100000 in
set_option maxHeartbeats 2000000 in
theorem takev_any (o : Option Addr) (c : Nat) (l : List Nat) (p a : Nat) (lost : Bool) (w : World) (k : RdOk l a) (h : PR o c l p a lost w) (hob : ∀ b off, o = some ⟨b, off, none⟩ → 0 < l.length → b < w.heap.size) :
  Calls Tryz.prog 79 #[.pointer (some ⟨p, 0, none⟩)] w (PVal p a lost o c l w) := by
 obtain ⟨V0, hV0⟩ : ∃ V, w.alloc (.cells #[.int .i64 0, .int .i64 0, .int .i64 0] 85) = V := ⟨_, rfl⟩
 have hb0 : Below w.heap.size w V0 := by rw [← hV0]; exact (Below.refl _ _).alloc (Nat.le_refl _) _
 have hr0 : RowAt 85 w.heap.size #[.int .i64 0, .int .i64 0, .int .i64 0] V0 := by rw [← hV0]; exact RowAt.new _ _ _
 have HR0 := Lib.hid hr0
 have HG0 := Lib.hid (Pk.below_grown hb0 (some p))
 have HP0 := Lib.hid (h.below hb0)
 have HI := Lib.hid (fun (b : Nat) (lo : Bool) (W : World) (hb : b ≤ l.length) (hp : PR o c l p b lo W) => rint_any o c l p b lo W (rd_ok k hb) hp)
 have HK := Lib.hid k.at'
 have HLT := Lib.hid h.lt
 have HOB := Lib.hid hob
 have HV0 := Lib.hid hV0
 clear h hb0 hr0 k hV0 hob
 go_enter Tryz.func79, Tryz.ntmps79
 go_wp2_with (rw [HV0.out])
 refine (HI.out a lost _ HK.out HP0.out).mono ?_
 rintro e w1 h1
 obtain ⟨hg1, x1, a1, lo1, rfl, hn1, hp1, hl1, hr1⟩ := h1.use
 have H1 := Lib.hid (show PR o c l p a1 lo1 w1 ∧ a1 ≤ l.length ∧ Num x1 ∧ runP lost pI l a = opt lo1 (x1, a1) ∧ w.grownBy w1 (some p) from ⟨hp1, hl1, hn1, hr1, HG0.out.trans hg1⟩)
 have HR1 : Hid (RowAt 85 w.heap.size #[.int .i64 0, .int .i64 0, .int .i64 0] w1) := Lib.hid (row_grown HR0.out hg1 (by have := HLT.out; omega))
 clear h1 hg1 hn1 hp1 hl1 hr1 HR0 HV0
 go_wp2_with fail
 refine (HI.out a1 lo1 _ H1.out.2.1 H1.out.1).mono ?_
 rintro e w2 h2
 obtain ⟨hg2, x2, a2, lo2, rfl, hn2, hp2, hl2, hr2⟩ := h2.use
 have H2 := Lib.hid (show PR o c l p a2 lo2 w2 ∧ a2 ≤ l.length ∧ Num x2 ∧ runP lo1 pI l a1 = opt lo2 (x2, a2) ∧ w.grownBy w2 (some p) from ⟨hp2, hl2, hn2, hr2, H1.out.2.2.2.2.trans hg2⟩)
 have HR2 : Hid (RowAt 85 w.heap.size #[.int .i64 0, .int .i64 0, .int .i64 0] w2) := Lib.hid (row_grown HR1.out hg2 (by have := HLT.out; omega))
 clear h2 hg2 hn2 hp2 hl2 hr2 HR1
 go_wp2_with fail
 refine (HI.out a2 lo2 _ H2.out.2.1 H2.out.1).mono ?_
 rintro e w3 h3
 obtain ⟨hg3, x3, a3, lo3, rfl, hn3, hp3, hl3, hr3⟩ := h3.use
 have hR3 : RowAt 85 w.heap.size #[.int .i64 0, .int .i64 0, .int .i64 0] w3 := row_grown HR2.out hg3 (by have := HLT.out; omega)
 obtain ⟨Y3, hY3⟩ : ∃ V, w3.setRow w.heap.size #[.int .i64 x1, .int .i64 x2, .int .i64 x3] = V := ⟨_, rfl⟩
 have HE : Hid (PVal p a lost o c l w (.returned (.agg #[.int .i64 x1, .int .i64 x2, .int .i64 x3])) Y3) := Lib.hid (by
  have hg := H2.out.2.2.2.2.trans hg3
  have hbY : Below w.heap.size w3 Y3 := by rw [← hY3]; exact Below.row ⟨rfl, rfl, rfl, Nat.le_refl _, fun _ _ => rfl⟩ (Nat.le_refl _) _
  have hgY := grown_low hg hbY
  have hpr := PR_low hp3 HLT.out HOB.out hbY
  have h3 := runP_snoc (runP_snoc (runP_snoc (runP_nil pI l lost a) H1.out.2.2.2.1) H2.out.2.2.2.1) hr3
  exact OneG.make (x := [x1, x2, x3]) hgY (three_wf H1.out.2.2.1 H2.out.2.2.1 hn3) hpr hl3 h3)
 have HR3 := Lib.hid hR3
 have HY3 := Lib.hid hY3
 have hi := Lib.hid (show (Tryz.prog.info? 85).map (·.size) = some (#[Value.int .i64 x1, Value.int .i64 x2, Value.int .i64 x3] : Array Value).size by kernel_rfl)
 have hone := Lib.hid (show (#[Value.int .i64 x1, Value.int .i64 x2, Value.int .i64 x3] : Array Value).all (·.oneCell') = true by simp [Value.oneCell'])
 have hsz := Lib.hid (show (#[Value.int .i64 0, Value.int .i64 0, Value.int .i64 0] : Array Value).size = (#[Value.int .i64 x1, Value.int .i64 x2, Value.int .i64 x3] : Array Value).size from rfl)
 clear h3 hg3 hn3 hp3 hl3 hr3 hR3 hY3 HR2 H1 H2
 go_wp2_with (refine wpList_store_big rfl 85 (.tmp 2) (.tmp 9) rfl w.heap.size _ _ #[.int .i64 x1, .int .i64 x2, .int .i64 x3] rfl rfl HR3.out hi.out hsz.out hone.out ?_)
 refine bodyPost_ret (v := .agg #[.int .i64 x1, .int .i64 x2, .int .i64 x3]) (results_cell_row rfl _ _ w.heap.size _ #[.int .i64 x1, .int .i64 x2, .int .i64 x3] _ _ rfl (setRow_heap _ _ _ _ _ _ HR3.out) Tryz.underlying85 rfl hi.out) rfl ?_
 rw [HY3.out]
 exact HE.out
def PCol (p a : Nat) (lost : Bool) (o : Option Addr) (c : Nat) (l : List Nat) (w : World) : Ending → World → Prop := OneG (pU 4294967295) (fun z : Int => z) (fun z _ => 0 ≤ z ∧ z ≤ 4294967295) (fun z => .int .u32 z) o c l p a lost w
set_option maxRecDepth 100000 in
set_option maxHeartbeats 2000000 in
theorem takec_any (o : Option Addr) (c : Nat) (l : List Nat) (p a : Nat) (lost : Bool) (w : World) (k : RdOk l a) (h : PR o c l p a lost w) :
  Calls Tryz.prog 83 #[.pointer (some ⟨p, 0, none⟩)] w (PCol p a lost o c l w) := by
 have hu := Pk.pruint_any o c l p a lost w k h
 have hr : runP lost (pU 4294967295) l a = match Pk.rq lost 18446744073709551615 (l.drop a) with
   | none => none
   | some (n, j) => if n ≤ 4294967295 then some ((n : Int), a + j) else none := by
  unfold runP pU Pk.rq
  cases lost
  ·rw [if_neg (by simp), if_neg (by simp), Pk.rd_most _ (by unfold Pk.M64; omega)]
   show Option.map _ (match Pk.rd Pk.M64 (l.drop a) with | none => none | some (v, j) => if v ≤ 4294967295 then some (v, j) else none) = match Pk.rd Pk.M64 (l.drop a) with | none => none | some (n, j) => if n ≤ 4294967295 then some ((n : Int), a + j) else none
   cases Pk.rd Pk.M64 (l.drop a) with
   | none => rfl
   | some q =>
    obtain ⟨n, j⟩ := q
    dsimp only
    split <;> rfl
  ·rfl
 have hj : ∀ n j, Pk.rq lost 18446744073709551615 (l.drop a) = some (n, j) → a + j ≤ l.length ∧ n ≤ 18446744073709551615 := fun n j hq => by
  unfold Pk.rq at hq
  split at hq
  ·cases hq
  ·have := Pk.rd_le hq
   have hdl : (l.drop a).length = l.length - a := by simp
   have := k.at'
   omega
 have HK := Lib.hid k.at'
 generalize Pk.rq lost 18446744073709551615 (l.drop a) = r at hu hr hj
 have HU := Lib.hid hu
 have HR := Lib.hid hr
 clear hu hr k h
 cases r with
 | none =>
  go_enter Tryz.func83, Tryz.ntmps83
  go_wp2_with fail
  refine HU.out.mono ?_
  rintro e w1 ⟨rfl, hp1, hg1⟩
  have HE : Hid (PCol p a lost o c l w (.returned (.int .u32 0)) w1) := Lib.hid (OneG.make (x := (0 : Int)) (lost2 := true) hg1 ⟨by omega, by omega⟩ hp1 HK.out (by rw [HR.out]; rfl))
  simp only [Pk.upV]
  clear hp1 hg1 HU HR hj
  go_wp2_with fail
  go_ret
  exact HE.out
 | some q =>
  obtain ⟨n, j⟩ := q
  obtain ⟨hj1, hn1⟩ := hj n j rfl
  have n0 : (0 : Int) ≤ (n : Int) := by omega
  have n1 : (n : Int) ≤ 18446744073709551615 := by omega
  by_cases hn : n ≤ 4294967295
  ·have t1 : ¬ (4294967295 : Int) < (n : Int) := by omega
   have hm : (n : Int) % 4294967296 = n := by omega
   go_enter Tryz.func83, Tryz.ntmps83
   go_wp2_with fail
   refine HU.out.mono ?_
   rintro e w1 ⟨rfl, hp1, hg1⟩
   have HE : Hid (PCol p a lost o c l w (.returned (.int .u32 (n : Int))) w1) := Lib.hid (OneG.make (x := (n : Int)) (lost2 := false) hg1 ⟨by omega, by omega⟩ hp1 hj1 (by rw [HR.out, if_pos hn]; rfl))
   simp only [Pk.upV]
   clear hp1 hg1 HU HR hj hj1 hn1 hn
   go_wp2_with fail
   go_ret
   first | exact HE.out | (simp only [hm]; exact HE.out)
  ·have t1 : (4294967295 : Int) < (n : Int) := by omega
   go_enter Tryz.func83, Tryz.ntmps83
   go_wp2_with fail
   refine HU.out.mono ?_
   rintro e w1 ⟨rfl, hp1, hg1⟩
   have HSP := Lib.hid (Pk.pspoil_any o c l p _ _ w1 hp1)
   have HG1 := Lib.hid hg1
   have HRN : Hid (runP lost (pU 4294967295) l a = none) := Lib.hid (by rw [HR.out]; simp [hn])
   simp only [Pk.upV]
   clear hp1 hg1 HU HR hj hn1 hn
   go_wp2_with fail
   refine HSP.out.mono ?_
   rintro e w2 ⟨rfl, hp2, hg2⟩
   have HE : Hid (∀ z : Int, 0 ≤ z → z ≤ 4294967295 → PCol p a lost o c l w (.returned (.int .u32 z)) w2) := Lib.hid (fun z h0 h1 => OneG.make (x := z) (lost2 := true) (HG1.out.trans hg2) ⟨h0, h1⟩ hp2 hj1 (by rw [HRN.out]; rfl))
   clear hp2 hg2 HSP HG1 HRN
   go_wp2_with fail
   go_ret
   exact HE.out _ (by omega) (by omega)
end Go.Proofs.YtbbhmhihpdmoiaaGreat.Fx
