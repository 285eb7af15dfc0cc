import Derived.Laws.Rows
import Derived.Test.YtbbhmhihpdmoiaaGreatProg
import Derived.Lib.ConvBytes
import Derived.ArgAppend
import Derived.Defers
import Derived.Recover
import Derived.Test.YtbbhmhihpdmoiaaGreatMv26
import Derived.Test.YtbbhmhihpdmoiaaGreatMv30
import Derived.Test.YtbbhmhihpdmoiaaGreatMv32
import Derived.Test.YtbbhmhihpdmoiaaGreatMv33
import Derived.Test.YtbbhmhihpdmoiaaGreatMv35
set_option linter.unusedVariables false
set_option linter.unusedSimpArgs false
namespace Go.Proofs.YtbbhmhihpdmoiaaGreat.Fx
open Go Go.RowKit Go.Lib
open Go.Proofs.YtbbhmhihpdmoiaaGreat.Pk (Bs By)
def sealL (l : List Nat) : List Nat := l ++ Cx.le4 (Cx.more 0 l)
theorem wpList_appX {ops : Array Oper} {rest : List Oper} {o : Oper} {a : Act} {Q : Exit → Act → World → Prop} {W : World} (hgd : o.guard = none) (s x : Operand) (ts : TypeId)
  (ho : o.op = .call { callee := .builtin .append, args := #[s, x], argTypes := #[ts, ts] }) (va vx v : Value) (X : World) (hs : a.eval s = va) (hx : a.eval x = vx) (hrun : (Builtin.append_ #[ts, ts] o.type #[va, vx]).run Tryz.prog W = .ok v X)
  (h : wpList Tryz.prog ops Q rest (a.put o.dst v) X) : wpList Tryz.prog ops Q (o :: rest) a W := by
 refine wpList_plain hgd fun K hK' => ?_
 unfold Oper.wp
 simp [execOp, ho, resolve, invoke, builtin, hs, hx, hrun, Result.andThen]
 exact hK' _ _ h
theorem wpList_cvX {ops : Array Oper} {rest : List Oper} {o : Oper} {a : Act} {Q : Exit → Act → World → Prop} {W : World} (hgd : o.guard = none) (x : Operand) (src dst : TypeId)
  (ho : o.op = .convert src dst x) (vx v : Value) (X : World) (hx : a.eval x = vx) (hrun : (convert src dst vx).run Tryz.prog W = .ok v X)
  (h : wpList Tryz.prog ops Q rest (a.put o.dst v) X) : wpList Tryz.prog ops Q (o :: rest) a W := by
 refine wpList_plain hgd fun K hK' => ?_
 unfold Oper.wp
 simp [execOp, ho, hx, hrun, Result.andThen]
 exact hK' _ _ h
theorem bstr_size (l : List Nat) : (Pk.bstr l).size = l.length := by simp [Pk.bstr, ByteArray.size]
theorem bstr_at {l : List Nat} (h : By l) {j : Nat} (hj : j < l.length) : ((Pk.bstr l).data.toList.getD j 0).toNat = l.getD j 0 := by
 have h1 := h _ (List.getElem_mem hj)
 simp [Pk.bstr, List.getD_eq_getElem?_getD, hj]
 omega
theorem bytesWorld_below (w : World) (e : TypeId) (s : ByteArray) : Below w.heap.size w (bytesWorld w e s) := by
 refine ⟨rfl, rfl, rfl, by rw [bytesWorld_size]; omega, fun k hk => bytesWorld_at_old w e s k hk⟩
theorem below_cells {B b : Nat} {a : World} (hb : B ≤ b) : ∀ (vs : List Value) (o : Nat) {w : World}, Below B a w → Below B a (w.setCells b o vs)
 | [], _, _, h => h
 | v :: vs, o, w, h => by
  rw [World.setCells]
  exact below_cells hb vs (o + 1) (h.setCell (p := ⟨b, o, none⟩) hb v)
set_option maxRecDepth 100000 in
theorem mark_app (mk m : List Nat) (hmk : By mk) (W : World) (ox : Option Addr) (c : Nat) (hm : 0 < m.length) (hl : mk.length + m.length ≤ 1000000) (hb : Bs (bytesWorld W 5 (Pk.bstr mk)) ox m) (ty : TypeId) :
  ∃ o cap X, (Builtin.append_ #[31, 31] ty #[.slice (some ⟨W.heap.size, 0, none⟩) mk.length (grownCap W mk.length 0 5), .slice ox m.length c]).run Tryz.prog (bytesWorld W 5 (Pk.bstr mk)) = .ok (.slice o (mk ++ m).length cap) X ∧ Bs X o (mk ++ m) ∧ (o = none → cap = 0) ∧ Below W.heap.size W X := by
 obtain ⟨i0, hi, hz0, hz1, hz2⟩ := info_parts Pk.info5
 obtain ⟨b, off, rfl, _⟩ := hb 0 hm
 have hnews : ∀ j u, (m.map Pk.encB)[j]? = some u → (bytesWorld W 5 (Pk.bstr mk)).cell? ((⟨b, off, none⟩ : Addr).add j) = some u := fun j u hj => by
  have hlt := (List.getElem?_eq_some_iff.1 hj).1
  rw [List.length_map] at hlt
  obtain ⟨b', off', e, hc⟩ := hb j hlt
  cases e
  rw [Addr.add_lit, hc, ← hj, List.getElem?_map, List.getElem?_eq_getElem hlt]
  simp [Pk.encB, List.getD_eq_getElem?_getD, hlt]
 have hone : ∀ u ∈ m.map Pk.encB, u.oneCell' = true := fun u hu => by
  obtain ⟨z, _, rfl⟩ := List.mem_map.1 hu
  rfl
 have hnew := bytesWorld_at_new W 5 (Pk.bstr mk)
 have hold : ∀ j, j < mk.length → (bytesWorld W 5 (Pk.bstr mk)).cell? ⟨W.heap.size, j, none⟩ = some (.int .u8 ((mk.getD j 0 : Nat) : Int)) := fun j hj => by
  rw [bytesWorld_cell _ _ _ _ (by rw [bstr_size]; exact hj), bstr_at hmk hj]
 have hbw := bytesWorld_below W 5 (Pk.bstr mk)
 have hsz := bytesWorld_size W 5 (Pk.bstr mk)
 have hcap : mk.length ≤ grownCap W mk.length 0 5 := grownCap_ge W mk.length 0 5
 have hcs : (bytesCells W 5 (Pk.bstr mk)).size = grownCap W mk.length 0 5 := by
  unfold bytesCells
  rw [bstr_size]
  simp [Pk.bstr]
  omega
 by_cases hr : mk.length + m.length ≤ grownCap W mk.length 0 5
 ·have hsome : ∀ j, j < (m.map Pk.encB).length → ((bytesWorld W 5 (Pk.bstr mk)).cell? ⟨W.heap.size, 0 + mk.length * i0.size + j, none⟩).isSome = true := fun j hj => by
   rw [List.length_map] at hj
   rw [cell_of_row _ _ _ _ _ _ hnew, hz1]
   simp
   omega
  have hfro : ∀ j, j < (m.map Pk.encB).length → (bytesWorld W 5 (Pk.bstr mk)).frozen? ⟨W.heap.size, 0 + mk.length * i0.size + j, none⟩ = false := fun j hj => by
   rw [List.length_map] at hj
   unfold World.frozen?
   rw [hz1]
   simp only [hnew]
   simp
   omega
  have hrun := run_append_room_cells (P := Tryz.prog) (w := bytesWorld W 5 (Pk.bstr mk)) 31 ty 5 i0 Tryz.underlying31 hi W.heap.size 0 mk.length _ ⟨b, off, none⟩ m.length c (m.map Pk.encB) (by rw [hz1]; simp) hnews hone hr hsome hfro
  rw [hz1] at hrun hsome
  refine ⟨_, _, _, by rw [List.length_append]; exact hrun, fun j hj => ⟨W.heap.size, 0, rfl, ?_⟩, (fun h => by cases h), below_cells (Nat.le_refl _) _ _ hbw⟩
  rw [List.length_append] at hj
  by_cases hj1 : j < mk.length
  ·rw [World.cell?_setCells_out _ _ _ _ _ (fun _ _ => Or.inl (by show 0 + j < _; omega)), Nat.zero_add, hold j hj1]
   congr 3
   simp [List.getD_eq_getElem?_getD, List.getElem?_append_left hj1]
  ·have := World.cell?_setCells_in W.heap.size (m.map Pk.encB) (0 + mk.length * 1) (bytesWorld W 5 (Pk.bstr mk)) hsome (j - mk.length) (by rw [List.length_map]; omega)
   rw [show 0 + mk.length * 1 + (j - mk.length) = 0 + j by omega] at this
   rw [this]
   have h2 : j - mk.length < m.length := by omega
   congr 1
   simp [Pk.encB, List.getD_eq_getElem?_getD, List.getElem?_append_right (show mk.length ≤ j by omega), h2]
 ·obtain ⟨v', X, hrun, hown, hg⟩ := run_append_arg_grows (P := Tryz.prog) (w := bytesWorld W 5 (Pk.bstr mk)) 31 ty 5 i0 (.int .u8 0) 1 1 Tryz.underlying31 hi hz0 hz1 hz2 rfl (by decide) ⟨W.heap.size, 0, none⟩ mk.length (grownCap W mk.length 0 5) (mk.map Pk.encB) (by simp) (fun j u hj => by
   have hlt := (List.getElem?_eq_some_iff.1 hj).1
   rw [List.length_map] at hlt
   rw [Addr.add_lit, Nat.zero_add, hold j hlt, ← hj, List.getElem?_map, List.getElem?_eq_getElem hlt]
   simp [Pk.encB, List.getD_eq_getElem?_getD, hlt]) ⟨b, off, none⟩ m.length c (m.map Pk.encB) (by simp) hnews (by omega) (by unfold maxLen; omega) (by omega)
  have ho : Pk.Own X (bytesWorld W 5 (Pk.bstr mk)).heap.size v' (mk ++ m) := by
   unfold Pk.Own
   rw [List.length_append, List.map_append]
   exact hown
  obtain ⟨o, cap, rfl, hbs, _, _, hn, _⟩ := ho.open
  refine ⟨o, cap, X, hrun, hbs, hn, bnext hbw (below_none hg)⟩
theorem own_xp {W : World} {B : Nat} {v : Value} {l : List Nat} (h : Cx.Own W B v l) : Pk.Own W B v l := h
theorem bs_px {W : World} {o : Option Addr} {l : List Nat} (h : Pk.Bs W o l) : Cx.Bs W o l := h
theorem by_px {l : List Nat} (h : Pk.By l) : Cx.By l := h
def RetBs (l : List Nat) (w : World) (e : Ending) (w' : World) : Prop := (∃ v, e = .returned v ∧ Pk.Own w' w.heap.size v l) ∧ Below w.heap.size w w'
set_option maxRecDepth 100000 in
set_option maxHeartbeats 2000000 in
theorem psealed_any (mk : List Nat) (hmk : By mk) (p : Nat) (l : List Nat) (w : World) (hby : By l) (h0 : 0 < l.length) (hl : mk.length + l.length ≤ 1000000) (h : WSt p l w) :
  Calls Tryz.prog 33 #[.string (Pk.bstr mk), .pointer (some ⟨p, 0, none⟩)] w (RetBs (sealL (mk ++ l)) w) := by
 obtain ⟨v, hw⟩ := h
 have HB := Lib.hid (Pk.pbytes_any (p + 1) p v l false w (by omega) hw)
 have HMK := Lib.hid hmk
 have HBY := Lib.hid hby
 clear hw
 go_enter Tryz.func33, Tryz.ntmps33
 go_wp2_with fail
 refine HB.out.mono ?_
 rintro e w1 ⟨⟨v1, rfl, ho⟩, hb1⟩
 simp only [Bool.false_eq_true, if_false] at ho
 obtain ⟨o1, c1, rfl, hbs, _, _, hn1, _⟩ := ho.open
 have hcv : (convert 9 31 (.string (Pk.bstr mk))).run Tryz.prog w1 = .ok (.slice (some ⟨w1.heap.size, 0, none⟩) (Pk.bstr mk).size (grownCap w1 (Pk.bstr mk).size 0 5)) (bytesWorld w1 5 (Pk.bstr mk)) := Go.Lib.run_convert_string_bytes w1 _ _ _ _ Tryz.underlying9 Tryz.underlying31 Tryz.underlying5
 rw [bstr_size] at hcv
 have hbs2 := hbs.below (bytesWorld_below w1 5 (Pk.bstr mk))
 obtain ⟨o3, c3, X3, hrun3, hbs3, hn3, hb3⟩ := mark_app mk l hmk w1 o1 c1 h0 hl hbs2 31
 obtain ⟨cp, hcp⟩ : ∃ c, grownCap w1 mk.length 0 5 = c := ⟨_, rfl⟩
 obtain ⟨W4, hW4⟩ : ∃ W, bytesWorld w1 5 (Pk.bstr mk) = W := ⟨_, rfl⟩
 rw [hcp, hW4] at hcv hrun3
 have HSE := Lib.hid (Cx.seal_any (mk ++ l) o3 c3 X3 (by_px (By.app hmk hby)) (by rw [List.length_append]; exact hl) hn3 (bs_px hbs3))
 have HB3 := Lib.hid (bnext hb1 hb3)
 obtain ⟨n3, hn3'⟩ : ∃ n, (mk ++ l).length = n := ⟨_, rfl⟩
 obtain ⟨n2, hn2'⟩ : ∃ n, mk.length = n := ⟨_, rfl⟩
 obtain ⟨n1, hn1'⟩ : ∃ n, l.length = n := ⟨_, rfl⟩
 rw [hn3'] at hrun3 HSE
 rw [hn2'] at hrun3 hcv
 rw [hn1'] at hrun3 ⊢
 have HR3 := Lib.hid hrun3
 have HCV := Lib.hid hcv
 clear hbs hbs2 hb1 hcv hrun3 hbs3 hb3 ho HB hcp hW4 hn3' hn2' hn1' hn3 hn1 h0 hl hby hmk HMK HBY
 generalize Pk.bstr mk = bs at HCV ⊢
 generalize Pk.fl true false = ef
 go_wp2_with (first | (with_reducible refine stop_at (some 13) rfl ?_; refine Lib.hid ?_; refine wpList_cvX rfl (.tmp 12) 9 31 rfl (.string bs) (.slice (some ⟨w1.heap.size, 0, none⟩) n2 cp) W4 rfl HCV.out ?_) | (at_builtin; refine wpList_appX rfl (.tmp 13) (.tmp 14) 31 rfl (.slice (some ⟨w1.heap.size, 0, none⟩) n2 cp) (.slice o1 n1 c1) (.slice o3 n3 c3) X3 rfl rfl HR3.out ?_))
 refine HSE.out.mono ?_
 rintro e w4 ⟨⟨v4, rfl, ho4⟩, hb4⟩
 have HE := Lib.hid (show RetBs (sealL (mk ++ l)) w (.returned v4) w4 from ⟨⟨v4, rfl, (own_xp ho4).mono HB3.out.size⟩, bnext HB3.out hb4⟩)
 clear ho4 hb4 HSE HCV HR3
 go_wp2_with fail
 go_ret
 exact HE.out
end Go.Proofs.YtbbhmhihpdmoiaaGreat.Fx

set_option linter.unusedVariables false
set_option linter.unusedSimpArgs false
namespace Go.Proofs.YtbbhmhihpdmoiaaGreat.Fx
open Go Go.RowKit
open Go.Proofs.YtbbhmhihpdmoiaaGreat.Pk (PR RdOk)
def opt {κ : Type} (lost : Bool) (x : κ) : Option κ := if lost = true then none else some x
theorem OneG.make {α κ : Type} {P : Prs κ} {key : α → κ} {El : α → World → Prop} {val : α → Value} {o : Option Addr} {c : Nat} {l : List Nat} {p a : Nat} {lost : Bool} {w : World} {w' : World} {x : α} {b : Nat} {lost2 : Bool}
  (hg : w.grownBy w' (some p)) (hx : El x w') (hp : PR o c l p b lost2 w') (hb : b ≤ l.length) (hr : runP lost P l a = opt lost2 (key x, b)) : OneG P key El val o c l p a lost w (.returned (val x)) w' := by
 refine ⟨hg, x, rfl, hx, ?_⟩
 rw [hr]
 cases lost2
 ·exact ⟨rfl, hb, hp⟩
 ·exact ⟨b, hb, hp⟩
theorem pList_succ {κ : Type} (P : Prs κ) (l : List Nat) (n a : Nat) : pList P (n + 1) l a = match P l a with
  | none => none
  | some (k, b) => match pList P n l b with
   | none => none
   | some (ks, c) => some (k :: ks, c) := rfl
theorem pList_snoc {κ : Type} (P : Prs κ) (l : List Nat) : ∀ (n a : Nat), pList P (n + 1) l a = match pList P n l a with
  | none => none
  | some (ks, b) => match P l b with
   | none => none
   | some (k, c) => some (ks ++ [k], c)
 | 0, a => by
  rw [pList_succ]
  show (match P l a with
   | none => none
   | some (k, b) => some ([k], b)) = (match P l a with
   | none => none
   | some (k, c) => some ([] ++ [k], c))
  cases P l a with
  | none => rfl
  | some q => rfl
 | n + 1, a => by
  rw [pList_succ, pList_succ]
  cases P l a with
  | none => rfl
  | some q =>
   obtain ⟨k, b⟩ := q
   dsimp only
   rw [pList_snoc P l n b]
   cases pList P n l b with
   | none => rfl
   | some q2 =>
    obtain ⟨ks, c⟩ := q2
    dsimp only
    cases P l c with
    | none => rfl
    | some q3 => rfl
theorem runP_snoc {κ : Type} {P : Prs κ} {l : List Nat} {lost lost1 lost2 : Bool} {n a a1 a2 : Nat} {ks : List κ} {k : κ} (h : runP lost (pList P n) l a = opt lost1 (ks, a1)) (h2 : runP lost1 P l a1 = opt lost2 (k, a2)) : runP lost (pList P (n + 1)) l a = opt lost2 (ks ++ [k], a2) := by
 unfold runP opt at *
 rw [pList_snoc]
 cases lost <;> cases lost1 <;> cases lost2 <;> simp_all
theorem PR_low {o : Option Addr} {c : Nat} {l : List Nat} {p a B : Nat} {lost : Bool} {W X : World} (h : PR o c l p a lost W) (hp : p < B) (hob : ∀ b off, o = some ⟨b, off, none⟩ → 0 < l.length → b < B) (hb : Below B W X) : PR o c l p a lost X :=
 ⟨by rw [hb.block p hp]; exact h.row, fun j hj => by
  obtain ⟨b, off, e, hc⟩ := h.bs j hj
  exact ⟨b, off, e, by rw [World.cell?_of_block (w := W) (hb.block b (hob b off e (by omega)))]; exact hc⟩, h.ok⟩
theorem grown_low {w W X : World} {row : Option Nat} (hg : w.grownBy W row) (hb : Below w.heap.size W X) : w.grownBy X row :=
 ⟨hb.os.trans hg.os, hb.tape.trans hg.tape, hb.output.trans hg.output, Nat.le_trans hg.size hb.size, fun k hk hn => (hb.block k hk).trans (hg.block k hk hn)⟩
theorem row_grown {t : TypeId} {g m : Nat} {c : Array Value} {W X : World} (h : RowAt t g c W) (hg : W.grownBy X (some m)) (e : g ≠ m) : RowAt t g c X := by
 unfold RowAt
 rw [hg.block g h.lt (fun hh => e (by cases hh; rfl))]
 exact h
end Go.Proofs.YtbbhmhihpdmoiaaGreat.Fx

set_option linter.unusedVariables false
set_option linter.unusedSimpArgs false
namespace Go.Proofs.YtbbhmhihpdmoiaaGreat.Fx
open Go Go.RowKit Go.Shelf
open Go.Proofs.YtbbhmhihpdmoiaaGreat.Pk (PR RdOk)
attribute [local go_sem] Oper.semAt_some
structure TmS (o : Option Addr) (c : Nat) (l : List Nat) (p a : Nat) (lost : Bool) (zs : List Int) (b : Nat) (lo : Bool) (w W : World) : Prop where
 box : W.heap[w.heap.size]? = some (.cells #[.pointer (some ⟨p, 0, none⟩)] 90 (0, 0))
 res : W.heap[w.heap.size + 1]? = some (.cells #[.int .i64 0, .int .i64 0, .int .i64 0, .int .i64 0, .int .i64 0, .int .i64 0, .int .i64 0, .int .i64 0, .int .i64 0, .int .i64 0, .int .i64 0, .int .i64 0, .int .i64 0, .int .i64 0, .int .i64 0, .int .i64 0] 25 (0, 0))
 mat : W.heap[w.heap.size + 1 + 1]? = some (.cells (mC (zs ++ List.replicate (16 - zs.length) 0)) 25 (0, 0))
 it : W.heap[w.heap.size + 1 + 1 + 1]? = some (.cells #[.pointer (some ⟨w.heap.size + 1 + 1, 0, none⟩)] 158 (0, 0))
 rd : PR o c l p b lo W
 grow : w.grownBy W (some p)
 le : b ≤ l.length
 num : ∀ z ∈ zs, Num z
 run : runP lost (pList pI zs.length) l a = opt lo (zs, b)
theorem PR_kept {o : Option Addr} {c : Nat} {l : List Nat} {p a B : Nat} {lost : Bool} {W X : World} (h : PR o c l p a lost W) (k : Kept B W X) : PR o c l p a lost X :=
 ⟨k.cells h.row, fun j hj => by
  obtain ⟨b, off, e, hc⟩ := h.bs j hj
  exact ⟨b, off, e, k.cell hc⟩, h.ok⟩
theorem grown_kept {B : Nat} {w W X : World} {row : Option Nat} (hB : w.heap.size ≤ B) (hg : w.grownBy W row) (k : Kept B W X) : w.grownBy X row :=
 ⟨k.os.trans hg.os, k.tape.trans hg.tape, k.output.trans hg.output, Nat.le_trans hg.size k.size, fun i hi hn => by
  have h1 := hg.block i hi hn
  rw [Array.getElem?_eq_getElem hi] at h1 ⊢
  exact k.block i _ h1 (.inl (by omega))⟩
theorem TmS.kept {o : Option Addr} {c : Nat} {l : List Nat} {p a : Nat} {lost : Bool} {zs : List Int} {b B : Nat} {lo : Bool} {w W X : World} (hB : w.heap.size ≤ B) (k : Kept B W X) (i : TmS o c l p a lost zs b lo w W) : TmS o c l p a lost zs b lo w X :=
 ⟨k.cells i.box, k.cells i.res, k.cells i.mat, k.cells i.it, PR_kept i.rd k, grown_kept hB i.grow k, i.le, i.num, i.run⟩
theorem mC_set {zs : List Int} {z : Int} (h : zs.length < 16) : (mC (zs ++ List.replicate (16 - zs.length) 0)).setIfInBounds zs.length (.int .i64 z) = mC ((zs ++ [z]) ++ List.replicate (16 - (zs ++ [z]).length) 0) := by
 have e : 16 - zs.length = (16 - (zs ++ [z]).length) + 1 := by simp; omega
 rw [e, List.replicate_succ]
 simp [mC, encI, List.set_append]
theorem TmS.step {o : Option Addr} {c : Nat} {l : List Nat} {p a : Nat} {lost : Bool} {zs : List Int} {b b2 : Nat} {lo lo2 : Bool} {z : Int} {w W X : World} (hp : p < w.heap.size) (hob : ∀ b off, o = some ⟨b, off, none⟩ → 0 < l.length → b < w.heap.size) (i : TmS o c l p a lost zs b lo w W) (hz : zs.length < 16)
  (hg : W.grownBy X (some p)) (hn : Num z) (hr : PR o c l p b2 lo2 X) (hl : b2 ≤ l.length) (hrun : runP lo pI l b = opt lo2 (z, b2)) : TmS o c l p a lost (zs ++ [z]) b2 lo2 w (X.setCell ⟨w.heap.size + 1 + 1, zs.length, none⟩ (.int .i64 z)) := by
 have keep : ∀ {g : Nat} {ob : Obj}, g ≠ p → W.heap[g]? = some ob → X.heap[g]? = some ob := fun hne h => by
  rw [hg.block _ (Array.getElem?_eq_some_iff.1 h).1 (fun e => hne (Option.some.inj e))]
  exact h
 have k2 : ∀ {g : Nat} {ob : Obj}, g ≠ p → g ≠ w.heap.size + 1 + 1 → W.heap[g]? = some ob → (X.setCell ⟨w.heap.size + 1 + 1, zs.length, none⟩ (.int .i64 z)).heap[g]? = some ob := fun h1 h2 h => by
  rw [heap_setCell_other _ _ _ _ h2]
  exact keep h1 h
 have hbX : Below w.heap.size X (X.setCell ⟨w.heap.size + 1 + 1, zs.length, none⟩ (.int .i64 z)) := Below.setCell (p := ⟨w.heap.size + 1 + 1, zs.length, none⟩) ⟨rfl, rfl, rfl, Nat.le_refl _, fun _ _ => rfl⟩ (by show _ ≤ w.heap.size + 1 + 1; omega) _
 refine ⟨k2 (by omega) (by omega) i.box, k2 (by omega) (by omega) i.res, ?_, k2 (by omega) (by omega) i.it, PR_low hr hp hob hbX, grown_low (i.grow.trans hg) hbX, hl, fun y hy => ?_, ?_⟩
 ·rw [heap_setCell_same _ _ zs.length _ _ _ (keep (by omega) i.mat), mC_set hz]
 ·rcases List.mem_append.1 hy with hy | hy
  ·exact i.num y hy
  ·simp at hy
   subst hy
   exact hn
 ·rw [List.length_append]
  exact runP_snoc i.run hrun
end Go.Proofs.YtbbhmhihpdmoiaaGreat.Fx

set_option linter.unusedVariables false
set_option linter.unusedSimpArgs false
namespace Go.Proofs.YtbbhmhihpdmoiaaGreat.Fx
open Go Go.RowKit
open Go.Proofs.YtbbhmhihpdmoiaaGreat.Pk (PR RdOk Bs)
end Go.Proofs.YtbbhmhihpdmoiaaGreat.Fx

set_option linter.unusedVariables false
set_option linter.unusedSimpArgs false
namespace Go.Proofs.YtbbhmhihpdmoiaaGreat.Fx
open Go Go.RowKit
open Go.Proofs.YtbbhmhihpdmoiaaGreat.Pk (PR RdOk)
def objV (id : Int) (m : List Int) (v1 v2 : Value) : List Value := .int .i64 id :: (m.map encI ++ [v1, v2])
structure TkS (o : Option Addr) (c : Nat) (l : List Nat) (p b : Nat) (lo : Bool) (id : Int) (m : List Int) (v1 v2 : Value) (w W : World) : Prop where
 res : W.heap[w.heap.size]? = some (.cells #[.int .i64 0, .int .i64 0, .int .i64 0, .int .i64 0, .int .i64 0, .int .i64 0, .int .i64 0, .int .i64 0, .int .i64 0, .int .i64 0, .int .i64 0, .int .i64 0, .int .i64 0, .int .i64 0, .int .i64 0, .int .i64 0, .int .i64 0, .slice none 0 0, .slice none 0 0] 73 (0, 0))
 box : W.heap[w.heap.size + 1]? = some (.cells (objV id m v1 v2).toArray 73 (0, 0))
 rd : PR o c l p b lo W
 le : b ≤ l.length
 grow : w.grownBy W (some p)
theorem TkS.step {o : Option Addr} {c : Nat} {l : List Nat} {p b b2 : Nat} {lo lo2 : Bool} {id : Int} {m : List Int} {v1 v2 : Value} {w W X : World} (hp : p < w.heap.size) (i : TkS o c l p b lo id m v1 v2 w W) (hg : W.grownBy X (some p)) (hr : PR o c l p b2 lo2 X) (hl : b2 ≤ l.length) : TkS o c l p b2 lo2 id m v1 v2 w X := by
 have keep : ∀ {g : Nat} {ob : Obj}, g ≠ p → W.heap[g]? = some ob → X.heap[g]? = some ob := fun hne h => by
  rw [hg.block _ (Array.getElem?_eq_some_iff.1 h).1 (fun e => hne (Option.some.inj e))]
  exact h
 exact ⟨keep (by omega) i.res, keep (by omega) i.box, hr, hl, i.grow.trans hg⟩
theorem TkS.put {o : Option Addr} {c : Nat} {l : List Nat} {p b : Nat} {lo : Bool} {id id2 : Int} {m m2 : List Int} {v1 v2 u1 u2 : Value} {w W X : World} (hp : p < w.heap.size) (hob : ∀ b off, o = some ⟨b, off, none⟩ → 0 < l.length → b < w.heap.size) (i : TkS o c l p b lo id m v1 v2 w W) (hb : Below w.heap.size W X)
  (hres : X.heap[w.heap.size]? = W.heap[w.heap.size]?) (hbox : X.heap[w.heap.size + 1]? = some (.cells (objV id2 m2 u1 u2).toArray 73 (0, 0))) : TkS o c l p b lo id2 m2 u1 u2 w X :=
 ⟨hres.trans i.res, hbox, PR_low i.rd hp hob hb, i.le, grown_low i.grow hb⟩
theorem TkS.cell {o : Option Addr} {c : Nat} {l : List Nat} {p b : Nat} {lo : Bool} {id : Int} {m : List Int} {v1 v2 : Value} {w W : World} (i : TkS o c l p b lo id m v1 v2 w W) {j : Nat} {u : Value} (h : (objV id m v1 v2)[j]? = some u) : W.cell? ⟨w.heap.size + 1, j, none⟩ = some u ∧ W.frozen? ⟨w.heap.size + 1, j, none⟩ = false :=
 ⟨by rw [cell_of_row _ _ _ _ _ _ i.box]; simpa using h, frozen_row i.box⟩
theorem TkS.set {o : Option Addr} {c : Nat} {l : List Nat} {p b : Nat} {lo : Bool} {id id2 : Int} {m m2 : List Int} {v1 v2 u1 u2 : Value} {w W : World} {j : Nat} {u : Value} (hp : p < w.heap.size) (hob : ∀ b off, o = some ⟨b, off, none⟩ → 0 < l.length → b < w.heap.size) (i : TkS o c l p b lo id m v1 v2 w W)
  (h : (objV id m v1 v2).toArray.setIfInBounds j u = (objV id2 m2 u1 u2).toArray) : TkS o c l p b lo id2 m2 u1 u2 w (W.setCell ⟨w.heap.size + 1, j, none⟩ u) := by
 have hb : Below w.heap.size W (W.setCell ⟨w.heap.size + 1, j, none⟩ u) := Below.setCell (p := ⟨w.heap.size + 1, j, none⟩) ⟨rfl, rfl, rfl, Nat.le_refl _, fun _ _ => rfl⟩ (by show _ ≤ w.heap.size + 1; omega) _
 refine i.put hp hob hb (heap_setCell_other _ _ _ _ (by show w.heap.size ≠ w.heap.size + 1; omega)) ?_
 rw [heap_setCell_same _ _ j _ _ u i.box, h]
end Go.Proofs.YtbbhmhihpdmoiaaGreat.Fx

set_option linter.unusedVariables false
set_option linter.unusedSimpArgs false
namespace Go.Proofs.YtbbhmhihpdmoiaaGreat.Fx
open Go Go.RowKit
open Go.Proofs.YtbbhmhihpdmoiaaGreat.Pk (PR RdOk)
def frL (f : Int × Int × List Int) (v : Value) : List Value := .int .i64 f.1 :: .int .i64 f.2.1 :: (f.2.2.map encI ++ [v])
structure FkS (o : Option Addr) (c : Nat) (l : List Nat) (p b : Nat) (lo : Bool) (f : Int × Int × List Int) (w W : World) : Prop where
 res : W.heap[w.heap.size]? = some (.cells #[.int .i64 0, .int .i64 0, .int .i64 0, .int .i64 0, .int .i64 0, .int .i64 0, .int .i64 0, .int .i64 0, .int .i64 0, .int .i64 0, .int .i64 0, .int .i64 0, .int .i64 0, .int .i64 0, .int .i64 0, .int .i64 0, .int .i64 0, .int .i64 0, .slice none 0 0] 28 (0, 0))
 box : W.heap[w.heap.size + 1]? = some (.cells (frL f (.slice none 0 0)).toArray 28 (0, 0))
 rd : PR o c l p b lo W
 le : b ≤ l.length
 grow : w.grownBy W (some p)
section
variable {o : Option Addr} {c : Nat} {l : List Nat} {p b b2 : Nat} {lo lo2 : Bool} {f f2 : Int × Int × List Int} {w W X : World}
theorem FkS.step (hp : p < w.heap.size) (i : FkS o c l p b lo f w W) (hg : W.grownBy X (some p)) (hr : PR o c l p b2 lo2 X) (hl : b2 ≤ l.length) : FkS o c l p b2 lo2 f w X := by
 have keep : ∀ {g : Nat} {ob : Obj}, g ≠ p → W.heap[g]? = some ob → X.heap[g]? = some ob := fun hne h => by
  rw [hg.block _ (Array.getElem?_eq_some_iff.1 h).1 (fun e => hne (Option.some.inj e))]
  exact h
 exact ⟨keep (by omega) i.res, keep (by omega) i.box, hr, hl, i.grow.trans hg⟩
theorem FkS.put (hp : p < w.heap.size) (hob : ∀ b off, o = some ⟨b, off, none⟩ → 0 < l.length → b < w.heap.size) (i : FkS o c l p b lo f w W) (hb : Below w.heap.size W X)
  (hres : X.heap[w.heap.size]? = W.heap[w.heap.size]?) (hbox : X.heap[w.heap.size + 1]? = some (.cells (frL f2 (.slice none 0 0)).toArray 28 (0, 0))) : FkS o c l p b lo f2 w X :=
 ⟨hres.trans i.res, hbox, PR_low i.rd hp hob hb, i.le, grown_low i.grow hb⟩
theorem FkS.cell (i : FkS o c l p b lo f w W) {j : Nat} {u : Value} (h : (frL f (.slice none 0 0))[j]? = some u) : W.cell? ⟨w.heap.size + 1, j, none⟩ = some u ∧ W.frozen? ⟨w.heap.size + 1, j, none⟩ = false :=
 ⟨by rw [cell_of_row _ _ _ _ _ _ i.box]; simpa using h, frozen_row i.box⟩
theorem FkS.set {j : Nat} {u : Value} (hp : p < w.heap.size) (hob : ∀ b off, o = some ⟨b, off, none⟩ → 0 < l.length → b < w.heap.size) (i : FkS o c l p b lo f w W)
  (h : (frL f (.slice none 0 0)).toArray.setIfInBounds j u = (frL f2 (.slice none 0 0)).toArray) : FkS o c l p b lo f2 w (W.setCell ⟨w.heap.size + 1, j, none⟩ u) := by
 have hb : Below w.heap.size W (W.setCell ⟨w.heap.size + 1, j, none⟩ u) := Below.setCell (p := ⟨w.heap.size + 1, j, none⟩) ⟨rfl, rfl, rfl, Nat.le_refl _, fun _ _ => rfl⟩ (by show _ ≤ w.heap.size + 1; omega) _
 refine i.put hp hob hb (heap_setCell_other _ _ _ _ (by show w.heap.size ≠ w.heap.size + 1; omega)) ?_
 rw [heap_setCell_same _ _ j _ _ u i.box, h]
end
end Go.Proofs.YtbbhmhihpdmoiaaGreat.Fx

set_option linter.unusedVariables false
set_option linter.unusedSimpArgs false
namespace Go.Proofs.YtbbhmhihpdmoiaaGreat.Fx
open Go Go.RowKit
open Go.Proofs.YtbbhmhihpdmoiaaGreat.Pk (PR RdOk Bs)
end Go.Proofs.YtbbhmhihpdmoiaaGreat.Fx

set_option linter.unusedVariables false
set_option linter.unusedSimpArgs false
namespace Go.Proofs.YtbbhmhihpdmoiaaGreat.Fx
open Go Go.RowKit Go.Lib
open Go.Proofs.YtbbhmhihpdmoiaaGreat.Pk (Bs By PR)
end Go.Proofs.YtbbhmhihpdmoiaaGreat.Fx

set_option linter.unusedVariables false
set_option linter.unusedSimpArgs false
namespace Go.Proofs.YtbbhmhihpdmoiaaGreat.Fx
open Go Go.RowKit Go.Lib
open Go.Proofs.YtbbhmhihpdmoiaaGreat.Pk (Bs By PR cutA)
end Go.Proofs.YtbbhmhihpdmoiaaGreat.Fx

set_option linter.unusedVariables false
set_option linter.unusedSimpArgs false
namespace Go.Proofs.YtbbhmhihpdmoiaaGreat.Fx
open Go Go.RowKit Go.Lib
open Go.Proofs.YtbbhmhihpdmoiaaGreat.Pk (Bs By PR cutA)
def behind (mk l : List Nat) : Option (List Nat) := match Cx.opened l with
 | none => none
 | some m => if m.take mk.length = mk then some (m.drop mk.length) else none
end Go.Proofs.YtbbhmhihpdmoiaaGreat.Fx
