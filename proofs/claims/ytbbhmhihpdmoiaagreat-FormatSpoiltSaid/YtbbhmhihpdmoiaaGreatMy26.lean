import Derived.Laws.Rows
import Derived.Test.YtbbhmhihpdmoiaaGreatProg
import Derived.RangeFuncCalls
import Derived.Test.YtbbhmhihpdmoiaaGreatMy02
import Derived.Test.YtbbhmhihpdmoiaaGreatMy07
import Derived.Test.YtbbhmhihpdmoiaaGreatMy23
import Derived.Test.YtbbhmhihpdmoiaaGreatMy25
/- pack.Many, whatever its parts are: what it has and keeps. -/
set_option linter.unusedVariables false
set_option linter.unusedSimpArgs false
namespace Go.Proofs.YtbbhmhihpdmoiaaGreat.Fx
open Go Go.RowKit
open Go.Proofs.YtbbhmhihpdmoiaaGreat.Pk (PR RdOk Bs)
def runP {κ : Type} (lost : Bool) (P : Prs κ) (l : List Nat) (a : Nat) : Option (κ × Nat) := if lost = true then none else P l a
/-- what is known of a part stays while none of its rows is written to -/
def ElOk {α : Type} (t tS : TypeId) (El : α → World → Prop) : Prop := ∀ z W X, El z W → (∀ u, u ≠ t → u ≠ 144 → u ≠ tS → Rows u W X) → El z X
/-- the boxes of the reader and the list, the reader, the list -/
structure MSG {α : Type} (t tS : TypeId) (n : Nat) (f : α → List Value) (El : α → World → Prop) (o : Option Addr) (c : Nat) (l : List Nat) (p a : Nat) (lost : Bool) (v : Value) (zs : List α) (w W : World) : Prop where
  box : W.heap[w.heap.size]? = some (.cells #[.pointer (some ⟨p, 0, none⟩)] 90 (0, 0))
  res : W.heap[w.heap.size + 1]? = some (.cells #[v] tS (0, 0))
  rd : PR o c l p a lost W
  own : OwnG t n f W (w.heap.size + 2) v zs
  el : ∀ z ∈ zs, El z W
  grow : w.grownBy W (some p)
section
variable {α : Type} {t tS : TypeId} {n : Nat} {f : α → List Value} {El : α → World → Prop} {o : Option Addr} {c : Nat} {l : List Nat} {p a : Nat} {lost : Bool} {v : Value} {zs : List α} {w W : World}
theorem MSG.facts (s : MSG t tS n f El o c l p a lost v zs w W) :
    W.cell? ⟨w.heap.size, 0, none⟩ = some (.pointer (some ⟨p, 0, none⟩)) ∧ W.cell? ⟨w.heap.size + 1, 0, none⟩ = some v ∧ W.frozen? ⟨w.heap.size + 1, 0, none⟩ = false :=
  ⟨(cell_of_row _ _ 0 _ _ _ s.box).trans rfl, (cell_of_row _ _ 0 _ _ _ s.res).trans rfl, frozen_row s.res⟩
theorem MSG.lt (s : MSG t tS n f El o c l p a lost v zs w W) : w.heap.size + 2 ≤ W.heap.size := by
  have := (Array.getElem?_eq_some_iff.1 s.res).1
  omega
/-- something was read -/
theorem MSG.read {a2 : Nat} {lost2 : Bool} {X : World} (hel : ElOk t tS El) (ht : t ≠ 144) (s : MSG t tS n f El o c l p a lost v zs w W) (hp : p < w.heap.size) (hr : PR o c l p a2 lost2 X) (hg : W.grownBy X (some p)) : MSG t tS n f El o c l p a2 lost2 v zs w X := by
  refine ⟨?_, ?_, hr, s.own.grown hg (fun k hk e => ?_), fun z hz => hel z W X (s.el z hz) (fun u _ hu _ => Rows.of_grown hg (fun k hk => by cases hk; exact ⟨_, s.rd.row⟩) hu), s.grow.trans hg⟩
  · rw [hg.block _ (Array.getElem?_eq_some_iff.1 s.box).1 (fun e => by have := Option.some.inj e; omega)]
    exact s.box
  · rw [hg.block _ (Array.getElem?_eq_some_iff.1 s.res).1 (fun e => by have := Option.some.inj e; omega)]
    exact s.res
  · cases hk
    obtain ⟨cur, hc⟩ := s.own.row p e
    rw [s.rd.row] at hc
    cases hc
    exact ht rfl
theorem MSG.up {X : World} (hel : ElOk t tS El) (s : MSG t tS n f El o c l p a lost v zs w W) (hb : Below W.heap.size W X) : MSG t tS n f El o c l p a lost v zs w X :=
  ⟨keep_row hb s.box, keep_row hb s.res, s.rd.below hb, s.own.below hb, fun z hz => hel z W X (s.el z hz) (fun u _ _ _ => Rows.of_below hb), s.grow.trans (Pk.below_grown hb (some p))⟩
theorem grown_cell1 (W : World) (b j : Nat) (v : Value) : W.grownBy (W.setCell ⟨b, j, none⟩ v) (some b) :=
  ⟨rfl, rfl, rfl, by simp, fun k _ hk => heap_setCell_other _ _ _ _ (by intro e; exact hk (by rw [show k = b from e]))⟩
/-- parts were put behind -/
theorem MSG.app {v' : Value} {zs' : List α} {X : World} (hel : ElOk t tS El) (hts : t ≠ tS) (s : MSG t tS n f El o c l p a lost v zs w W) (hp : p < w.heap.size) (hob : ∀ b off, o = some ⟨b, off, none⟩ → 0 < l.length → b < w.heap.size) (ho : OwnG t n f X (w.heap.size + 2) v' zs') (hg : W.grownBy X v.ownBlock) (he : ∀ z ∈ zs', El z W) :
    X.heap[w.heap.size + 1]? = some (.cells #[v] tS (0, 0)) ∧ MSG t tS n f El o c l p a lost v' zs' w (X.setCell ⟨w.heap.size + 1, 0, none⟩ v') := by
  have hv := s.own.blk
  have hres : X.heap[w.heap.size + 1]? = some (.cells #[v] tS (0, 0)) := by
    rw [hg.block _ (Array.getElem?_eq_some_iff.1 s.res).1 (fun e => by have := hv _ e.symm; omega)]
    exact s.res
  have hbox : X.heap[w.heap.size]? = some (.cells #[.pointer (some ⟨p, 0, none⟩)] 90 (0, 0)) := by
    rw [hg.block _ (Array.getElem?_eq_some_iff.1 s.box).1 (fun e => by have := hv _ e.symm; omega)]
    exact s.box
  have hrd : PR o c l p a lost X := s.rd.grown hg (fun e => by have := hv _ e.symm; omega) (fun b off e hm h => by have := hv b h.symm; have := hob b off e hm; omega)
  have hgx : w.grownBy X (some p) := ⟨hg.os.trans s.grow.os, hg.tape.trans s.grow.tape, hg.output.trans s.grow.output, Nat.le_trans s.grow.size hg.size, fun q hq hqp => by
    rw [hg.block q (Nat.lt_of_lt_of_le hq s.grow.size) (fun e => by have := hv q e.symm; omega)]
    exact s.grow.block q hq hqp⟩
  have hc := grown_cell1 X (w.heap.size + 1) 0 v'
  refine ⟨hres, by rw [heap_setCell_other _ _ _ _ (by show _ ≠ w.heap.size + 1; omega)]; exact hbox, heap_setCell_same _ _ 0 _ _ v' hres, hrd.grown hc (fun e => by have := Option.some.inj e; omega) (fun b off e hm h => by have := Option.some.inj h; have := hob b off e hm; omega),
    ho.cellset (fun e => by have := ho.blk _ e; omega), fun z hz => hel z W _ (he z hz) (fun u h1 _ h3 => (Rows.of_grown hg (fun k hk => s.own.row k hk) h1).trans (Rows.of_set hres h3)), ?_⟩
  exact ⟨hc.os.trans hgx.os, hc.tape.trans hgx.tape, hc.output.trans hgx.output, Nat.le_trans hgx.size hc.size, fun q hq hqp => by
    rw [hc.block q (Nat.lt_of_lt_of_le hq hgx.size) (fun e => by have := Option.some.inj e; omega)]
    exact hgx.block q hq hqp⟩
/-- the list is struck -/
theorem MSG.strike (hel : ElOk t tS El) (hts : t ≠ tS) (s : MSG t tS n f El o c l p a lost v zs w W) (hp : p < w.heap.size) (hob : ∀ b off, o = some ⟨b, off, none⟩ → 0 < l.length → b < w.heap.size) : MSG t tS n f El o c l p a lost (.slice none 0 0) [] w (W.setCell ⟨w.heap.size + 1, 0, none⟩ (.slice none 0 0)) :=
  (s.app (v' := .slice none 0 0) (zs' := []) hel hts hp hob (OwnG.nil _ _ _ _ _) (World.grownBy.refl _ _) (fun z hz => by simp at hz)).2
end
/-- what a part's reader answers -/
def OneG {α κ : Type} (P : Prs κ) (key : α → κ) (El : α → World → Prop) (val : α → Value) (o : Option Addr) (c : Nat) (l : List Nat) (p a : Nat) (lost : Bool) (w : World) (e : Ending) (w' : World) : Prop :=
  w.grownBy w' (some p) ∧ ∃ x, e = .returned (val x) ∧ El x w' ∧ match runP lost P l a with
    | some (k, b) => key x = k ∧ b ≤ l.length ∧ PR o c l p b false w'
    | none => ∃ b, b ≤ l.length ∧ PR o c l p b true w'
/-- what Many answers -/
structure PMG {α κ : Type} (key : α → κ) (t : TypeId) (n : Nat) (f : α → List Value) (El : α → World → Prop) (o : Option Addr) (c : Nat) (l : List Nat) (p : Nat) (r : Option (List κ × Nat)) (w : World) (e : Ending) (w' : World) : Prop where
  grow : w.grownBy w' (some p)
  no : r = none → e = .returned (.slice none 0 0) ∧ ∃ a, a ≤ l.length ∧ PR o c l p a true w'
  yes : ∀ ks a, r = some (ks, a) → (∃ v zs, e = .returned v ∧ OwnG t n f w' w.heap.size v zs ∧ (∀ z ∈ zs, El z w') ∧ zs.map key = ks) ∧ a ≤ l.length ∧ PR o c l p a false w'
theorem pU_le {most : Nat} {l : List Nat} {a : Nat} {z : Int} {b : Nat} (ha : a ≤ l.length) (h : pU most l a = some (z, b)) : 0 ≤ z ∧ z ≤ most ∧ b ≤ l.length := by
  unfold pU at h
  rw [Option.map_eq_some_iff] at h
  obtain ⟨⟨n, j⟩, hr, e⟩ := h
  simp only [Prod.mk.injEq] at e
  obtain ⟨rfl, rfl⟩ := e
  have := Pk.rd_le hr
  have hdl : (l.drop a).length = l.length - a := by simp
  omega
/-- what a number that is read comes to -/
theorem small_eq {lost : Bool} {most : Nat} {l : List Nat} {a : Nat} : (Pk.rz lost (most : Int) (l.drop a)).map (fun q => ((q.1 : Int), a + q.2)) = runP lost (pU most) l a := by
  unfold Pk.rz runP pU
  cases lost
  · have h : ¬ ((false = true) ∨ (most : Int) < 0) := by simp
    rw [if_neg h]
    simp
  · simp
end Go.Proofs.YtbbhmhihpdmoiaaGreat.Fx


/- A vertex and a triangle are taken, walked. -/
set_option linter.unusedVariables false
set_option linter.unusedSimpArgs false
namespace Go.Proofs.YtbbhmhihpdmoiaaGreat.Fx
open Go Go.RowKit
open Go.Proofs.YtbbhmhihpdmoiaaGreat.Pk (PR RdOk Bs upV upA upB rq)
/-- a number with a sign, as a part -/
theorem rint_any (o : Option Addr) (c : Nat) (l : List Nat) (p a : Nat) (lost : Bool) (w : World) (k : RdOk l a) (h : PR o c l p a lost w) :
    Calls Tryz.prog 80 #[.pointer (some ⟨p, 0, none⟩)] w (OneG pI (fun z : Int => z) (fun z _ => Num z) (fun z => .int .i64 z) o c l p a lost w) := by
  refine (Pk.print_any o c l p a lost w k h).mono ?_
  rintro e w' ⟨rfl, hr, hg⟩
  have hlt : upV (rq lost 18446744073709551615 (l.drop a)) < 18446744073709551616 := by have := Pk.rq_le (lost := lost) (most := 18446744073709551615) (s := l.drop a); omega
  refine ⟨hg, _, rfl, unf_num hlt, ?_⟩
  have e1 : runP lost pI l a = (rq lost 18446744073709551615 (l.drop a)).map (fun q => (Pk.unf q.1, a + q.2)) := by
    unfold runP pI rq
    cases lost <;> rfl
  rw [e1]
  cases hq : rq lost 18446744073709551615 (l.drop a) with
  | none =>
    rw [hq] at hr
    exact ⟨a, k.at', hr⟩
  | some q =>
    rw [hq] at hr
    refine ⟨rfl, ?_, hr⟩
    unfold rq at hq
    split at hq
    · cases hq
    · have := Pk.rd_le hq
      have hdl : (l.drop a).length = l.length - a := by simp
      omega
theorem rsmall_any (most : Nat) (hm : most < 9223372036854775808) (o : Option Addr) (c : Nat) (l : List Nat) (p a : Nat) (lost : Bool) (w : World) (k : RdOk l a) (h : PR o c l p a lost w) :
    Calls Tryz.prog 50 #[.pointer (some ⟨p, 0, none⟩), .int .i64 (most : Int)] w (OneG (pU most) (fun z : Int => z) (fun z _ => 0 ≤ z ∧ z ≤ most) (fun z => .int .i64 z) o c l p a lost w) := by
  refine (Pk.prsmall_any o c l p a most lost w k (by omega) h).mono ?_
  rintro e w' ⟨rfl, hr, hg⟩
  have hle := Pk.rz_le (lost := lost) (most := (most : Int)) (s := l.drop a)
  refine ⟨hg, _, rfl, ⟨by omega, by omega⟩, ?_⟩
  rw [← small_eq]
  cases hq : Pk.rz lost (most : Int) (l.drop a) with
  | none =>
    rw [hq] at hr
    exact ⟨a, k.at', hr⟩
  | some q =>
    rw [hq] at hr
    refine ⟨rfl, ?_, hr⟩
    have := small_eq (lost := lost) (most := most) (l := l) (a := a)
    rw [hq] at this
    simp only [Option.map_some] at this
    unfold runP at this
    split at this
    · cases this
    · exact (pU_le k.at' this.symm).2.2
end Go.Proofs.YtbbhmhihpdmoiaaGreat.Fx


/- A matrix is put, walked. -/
set_option linter.unusedVariables false
set_option linter.unusedSimpArgs false
namespace Go.Proofs.YtbbhmhihpdmoiaaGreat.Fx
open Go Go.RowKit Go.Shelf
attribute [local go_sem] Oper.semAt_some
/-- a call in a round's region that draws its order -/
theorem wpIn_call_round {l n : Nat} {P : Program} {o : Oper} {a : Act} {w : World} {K : Act → World → Prop} {Q : Exit → Act → World → Prop} (f : FuncId) (args : Array Value) (hrun : (execOp a.eval o).run P w = .ok (.enter f args) w) (c : Callee) (ps : Array Operand) (ts : Array TypeId) (ho : o.op = .call { callee := c, args := ps, argTypes := ts })
    {post : Ending → World → Prop} (hc : Calls P f args w post) (h : ∀ e w', post e w' → ∃ v, e = .returned v ∧ K (a.put o.dst v) w') : Oper.wpIn (Fence.wide.inRound l) n P o a w K Q := by
  unfold Oper.wpIn
  refine ⟨fun f _ => trivial, ?_⟩
  rw [Oper.semAt_plain _ _ _ (by rw [ho]; intro c hc'; cases hc'), hrun]
  refine ⟨fun h => (by cases h), CallsIn.inRound l (callsIn_wide.2 (hc.mono ?_))⟩
  intro e w' hp
  obtain ⟨v, rfl, hk⟩ := h e w' hp
  exact hk
structure PmS (p : Nat) (m : List Int) (l : List Nat) (w W : World) : Prop where
  box : W.heap[w.heap.size]? = some (.cells #[.pointer (some ⟨p, 0, none⟩)] 75 (0, 0))
  mat : W.heap[w.heap.size + 1]? = some (.cells (mC m) 25 (0, 0))
  it : W.heap[w.heap.size + 1 + 1]? = some (.cells #[.pointer (some ⟨w.heap.size + 1, 0, none⟩)] 158 (0, 0))
  wr : WSt p l W
  fr : WFr p w W
theorem PmS.kept {p : Nat} {m : List Int} {l : List Nat} {B : Nat} {w W X : World} (hB : w.heap.size ≤ B) (hp : p ≤ w.heap.size) (k : Kept B W X) (i : PmS p m l w W) : PmS p m l w X :=
  ⟨k.cells i.box, k.cells i.mat, k.cells i.it, i.wr.kept k, i.fr.kept hB hp k⟩
theorem PmS.step {p : Nat} {m : List Int} {l l' : List Nat} {w W X : World} (i : PmS p m l w W) (h : WSt p l' X) (hf : WFr p W X) : PmS p m l' w X := by
  obtain ⟨cs, hr⟩ := i.wr.row
  exact ⟨hf.rows (by decide) hr (by decide) _ _ i.box, hf.rows (by decide) hr (by decide) _ _ i.mat, hf.rows (by decide) hr (by decide) _ _ i.it, h, i.fr.trans hf⟩
theorem mC_get0 {m : List Int} {k : Nat} (hk : k < m.length) : (mC m)[k]? = some (.int .i64 (m.getD k 0)) := by
  simp [mC, hk, encI]
theorem PmS.num {p : Nat} {m : List Int} {l : List Nat} {w W : World} (i : PmS p m l w W) {k : Nat} (hk : k < m.length) : W.cell? ⟨w.heap.size + 1, k, none⟩ = some (.int .i64 (m.getD k 0)) := by
  rw [cell_of_row _ _ _ _ _ _ i.mat]
  exact mC_get0 hk
def PmI (p : Nat) (m : List Int) (l : List Nat) (w : World) (k : Nat) (W : World) : Prop := PmS p m (l ++ fNums (m.take k)) w W
def PmA (p : Nat) (m : List Int) (w : World) (k : Nat) (a : Act) : Prop :=
  a = { tmps := #[.pointer (some ⟨p, 0, none⟩), .agg (mC m), .pointer (some ⟨w.heap.size, 0, none⟩), .pointer (some ⟨w.heap.size + 1, 0, none⟩), .pointer (some ⟨w.heap.size + 1, k, none⟩), .func (.func 131) #[] #[.pointer (some ⟨w.heap.size + 1 + 1, 0, none⟩)], .pointer (some ⟨w.heap.size + 1, k, none⟩), undef, undef, undef, undef, undef], defers := [] }
theorem fNums_len (m : List Int) : (fNums m).length ≤ 11 * m.length := by
  unfold fNums
  induction m with
  | nil => simp
  | cons a t ih =>
    rw [List.flatMap_cons, List.length_append, List.length_cons]
    have : (fI a).length ≤ 11 := (Pk.form_len _).2
    omega
theorem fNums_snoc {m : List Int} {k : Nat} (hk : k < m.length) : fNums (m.take (k + 1)) = fNums (m.take k) ++ fI (m.getD k 0) := by
  unfold fNums
  rw [List.take_add_one, List.flatMap_append, List.getElem?_eq_getElem hk]
  simp [hk]
set_option maxRecDepth 100000 in
set_option maxHeartbeats 4000000 in
theorem pputm_any (p : Nat) (m : List Int) (l : List Nat) (w : World) (hm : dNums 16 m) (hl : l.length ≤ 90000000) (h : WSt p l w) : Calls Tryz.prog 62 #[.pointer (some ⟨p, 0, none⟩), .agg (mC m)] w (WPost p (l ++ fNums m) w) := by
  have hlt := h.lt
  obtain ⟨W1, hW1⟩ : ∃ V, (w.alloc (.cells #[.pointer (some ⟨p, 0, none⟩)] 75)).alloc (.cells (mC m) 25) = V := ⟨_, rfl⟩
  obtain ⟨W0, hW0⟩ : ∃ V, W1.alloc (.cells #[.pointer (some ⟨w.heap.size + 1, 0, none⟩)] 158) = V := ⟨_, rfl⟩
  have z1 : W1.heap.size = w.heap.size + 1 + 1 := by rw [← hW1]; simp
  have b1 : Below w.heap.size w W1 := by rw [← hW1]; exact ((Below.refl _ w).alloc (Nat.le_refl _) _).alloc (by simp) _
  have b0 : Below W1.heap.size W1 W0 := by rw [← hW0]; exact (Below.refl _ W1).alloc (Nat.le_refl _) _
  have F0 : PmS p m l w W0 := by
    have hb := bnext b1 b0
    refine ⟨keep_row b0 ?_, keep_row b0 ?_, ?_, h.below hb, WFr.of_below hb (by omega)⟩
    · rw [← hW1]; exact step_row (heap_alloc_new _ _)
    · rw [← hW1]
      have := heap_alloc_new (w.alloc (.cells #[.pointer (some ⟨p, 0, none⟩)] 75)) (.cells (mC m) 25)
      rw [World.size_alloc] at this
      exact this
    · rw [← hW0, ← z1]
      exact heap_alloc_new W1 _
  have HF0 : Hid (PmI p m l w 0 W0) := Lib.hid (by unfold PmI; rw [List.take_zero]; simpa [fNums] using F0)
  have HS0 : Hid (W0.heap.size = w.heap.size + 1 + 1 + 1) := Lib.hid (by rw [← hW0, World.size_alloc, z1])
  have HZ1 := Lib.hid z1
  have HW1 := Lib.hid hW1
  have HW0 := Lib.hid hW0
  have HM := Lib.hid hm
  have HLL := Lib.hid hl
  have HP := Lib.hid hlt
  clear F0 b0 b1 z1 hW0 hW1 hm hl hlt h
  refine (callsIn_wide (n := 5)).1 ?_
  refine callsIn_of_wp_marks Tryz.func62 rfl trivial ?_ rfl
  simp only [Tryz.ntmps62, List.size_toArray, List.length_cons, List.length_nil, Nat.reduceAdd, Nat.reduceSub, Array.replicate_succ, Array.replicate_zero, List.push_toArray, List.append_toArray, List.nil_append, List.cons_append]
  refine wpIn_wide.2 ?_
  go_wp2_with (rw [HW1.out])
  refine (nums_w _ _).mono ?_
  rintro e w' ⟨rfl, rfl⟩
  rw [HZ1.out, HW0.out]
  go_wp2_with fail
  refine wpIn_wide.1 (wpIn_range_jump (F := Fence.wide) (n := 5) rfl (by omega) (gf := 131) (lb := #[.pointer (some ⟨w.heap.size + 1 + 1, 0, none⟩)]) rfl trivial (enters_of Tryz.func131 (by kernel_rfl) rfl)
    (nums_hands (w.heap.size + 1 + 1) (w.heap.size + 1)) (fun _ => rfl) .ret (PmI p m l w) (fun _ => False) (fun j a' W => PmA p m w j a' ∧ PmI p m l w j W)
    ?i1 ?i2 ?i3 ?i4 ?i5 HF0.out ?assign ?body ?done ?stop)
  case i1 => rintro j W X h1 hk; exact PmS.kept (by have := HS0.out; omega) (by have := HP.out; omega) hk h1
  case i2 => rintro W X h; exact h.elim
  case i3 => rintro j a W X ⟨h0, h1⟩ hk; exact ⟨h0, PmS.kept (by have := HS0.out; omega) (by have := HP.out; omega) hk h1⟩
  case i4 => rintro j W h1; unfold NuM; rw [cell_of_row _ _ _ _ _ _ (PmS.it h1)]; rfl
  case i5 => rintro W h; exact h.elim
  case assign =>
    intro l1 j W C hk hI hC
    simp only [nElem]
    gi_wp2
    exact hC _ _ (KeepsFrom.refl _ _) ⟨rfl, hI⟩
  case body =>
    rintro l1 j a' W hk ⟨ha, fs⟩
    unfold PmA at ha
    subst ha
    unfold PmI at fs
    have hkm : j < m.length := by rw [HM.out.1]; exact hk
    have c0 : W.cell? ⟨w.heap.size, 0, none⟩ = some (.pointer (some ⟨p, 0, none⟩)) := by rw [cell_of_row _ _ _ _ _ _ fs.box]; rfl
    have c1 := fs.num hkm
    have HSN := Lib.hid (fNums_snoc hkm)
    have hzn : Num (m.getD j 0) := HM.out.2 _ (by rw [List.getD_eq_getElem?_getD, List.getElem?_eq_getElem hkm]; exact List.getElem_mem hkm)
    have hll : (l ++ fNums (m.take j)).length ≤ 100000000 := by
      have := fNums_len (m.take j)
      have h2 := HLL.out
      have h3 : (m.take j).length ≤ 16 := by rw [List.length_take, HM.out.1]; omega
      rw [List.length_append]
      omega
    generalize m.getD j 0 = z at c1 hzn HSN
    have HI : Hid (∀ X, WSt p (l ++ fNums (m.take j)) X → Calls Tryz.prog 103 #[.pointer (some ⟨p, 0, none⟩), .int .i64 z] X (WPost p (l ++ fNums (m.take j) ++ fI z) X)) := Lib.hid (fun X hX => wint_any p z _ X hzn hll hX)
    have HS := Lib.hid fs
    clear fs hzn hll hk hkm
    gi_wp2
    refine heldz_region (S := fun X => X.cell? ⟨w.heap.size, 0, none⟩ = some (.pointer (some ⟨p, 0, none⟩)) ∧ X.cell? ⟨w.heap.size + 1, j, none⟩ = some (.int .i64 z)) (Z := [4]) (by kernel_rfl) ?_
    refine heldz_take (fun _ => trivial) [4] 0 (.pointer (some ⟨p, 0, none⟩)) (by kernel_rfl) rfl (by kernel_rfl) (fun _ _ _ h => h) ⟨c0, c1⟩ (by kernel_rfl) ?_ ?_
    · intro wz hSw; obtain ⟨q1, q2⟩ := hSw; (first | (go_simp; done) | (go_simp; with_reducible rfl))
    (try simp only [Act.put, List.getElem_toArray, List.getElem_cons_zero, List.getElem_cons_succ, List.setIfInBounds_toArray, List.set_cons_zero, List.set_cons_succ])
    refine heldz_take (fun _ => trivial) [2, 3, 4] 1 (?_) (by kernel_rfl) rfl (by kernel_rfl) (fun _ _ _ h => h) ⟨c0, c1⟩ (by kernel_rfl) ?_ ?_
    rotate_left
    · intro wz hSw; (first | (go_simp; done) | (go_simp; with_reducible rfl))
    (try simp only [Act.put, List.getElem_toArray, List.getElem_cons_zero, List.getElem_cons_succ, List.setIfInBounds_toArray, List.set_cons_zero, List.set_cons_succ])
    refine heldz_take (fun _ => trivial) [3, 4] 2 (?_) (by kernel_rfl) rfl (by kernel_rfl) (fun _ _ _ h => h) ⟨c0, c1⟩ (by kernel_rfl) ?_ ?_
    rotate_left
    · intro wz hSw; (first | (go_simp; done) | (go_simp; with_reducible rfl))
    (try simp only [Act.put, List.getElem_toArray, List.getElem_cons_zero, List.getElem_cons_succ, List.setIfInBounds_toArray, List.set_cons_zero, List.set_cons_succ])
    refine heldz_take (fun _ => trivial) [4] 3 (.int .i64 z) (by kernel_rfl) rfl (by kernel_rfl) (fun _ _ _ h => h) ⟨c0, c1⟩ (by kernel_rfl) ?_ ?_
    · intro wz hSw; obtain ⟨q1, q2⟩ := hSw; (first | (go_simp; done) | (go_simp; with_reducible rfl))
    (try simp only [Act.put, List.getElem_toArray, List.getElem_cons_zero, List.getElem_cons_succ, List.setIfInBounds_toArray, List.set_cons_zero, List.set_cons_succ])
    refine heldz_step (fun _ => trivial) 4 (by kernel_rfl) rfl (fun K hK => ?_)
    rw [if_pos (by kernel_rfl)]
    have hD : Below W.heap.size W W.drew := bdrew0 _ W 1
    refine wpIn_call_round 103 #[.pointer (some ⟨p, 0, none⟩), .int .i64 z] (by first | (go_simp; done) | (go_simp; with_reducible rfl)) _ _ _ rfl (HI.out _ (HS.out.wr.below hD)) (fun e w2 hp => ?_)
    obtain ⟨rfl, hw2, hf2⟩ := hp
    have hf3 := (WFr.of_below hD (by have := HS.out.wr.lt; omega)).trans hf2
    have HS2 := Lib.hid (HS.out.step hw2 hf3)
    have HKF : Hid (KeepsFrom W0.heap.size W w2) := Lib.hid (by obtain ⟨cs, hr⟩ := HS.out.wr.row; exact (hf3.keeps hr).from _)
    refine ⟨_, rfl, hK.out _ _ (fun h => by cases h) ?_⟩
    clear hK K hD hw2 hf2 hf3
    (try simp only [Act.put, List.getElem_toArray, List.getElem_cons_zero, List.getElem_cons_succ, List.setIfInBounds_toArray, List.set_cons_zero, List.set_cons_succ])
    refine heldz_done (by kernel_rfl) ?_ _
    clear c0 c1
    gi_wp2
    exact ⟨HKF.out, by unfold PmI; rw [HSN.out, ← List.append_assoc]; exact HS2.out⟩
  case done =>
    rintro D W hD fs hdef
    unfold PmI at fs
    rw [List.take_of_length_le (by rw [HM.out.1]; omega)] at fs
    have hk : Kept w.heap.size W (W.putObj D (.deferred none)) := Kept.putObj _ (by have := HS0.out; omega) hdef rfl
    have HE : Hid (WPost p (l ++ fNums m) w (.returned undef) (W.putObj D (.deferred none))) := Lib.hid ⟨rfl, fs.wr.kept hk, fs.fr.kept (Nat.le_refl _) (by have := HP.out; omega) hk⟩
    have HDF := Lib.hid hdef
    clear fs hD hdef hk
    go_wp2_with fail
    refine ⟨by simp, .inl ⟨_, _, rfl, run_takeDeferred HDF.out, ?_⟩⟩
    exact ⟨_, results_none rfl _ _ _, HE.out⟩
  case stop =>
    rintro D W hD h hdef
    exact h.elim
end Go.Proofs.YtbbhmhihpdmoiaaGreat.Fx


/- Are two scenes the same: the document's Same. -/
set_option linter.unusedVariables false
set_option linter.unusedSimpArgs false
namespace Go.Proofs.YtbbhmhihpdmoiaaGreat.Fx
open Go Go.RowKit
/-- two objects in their boxes, and the scenes below -/
structure ZsI (a b : ScR) (x y : ObjR) (m n : Nat) (w W : World) : Prop where
  s : TwoS a b w W
  a : BoxO x m W
  b : BoxO y n W
  va : VertsAt W x.vo x.vs
  vb : VertsAt W y.vo y.vs
  ta : TrisAt W x.tq x.ts
  tb : TrisAt W y.tq y.ts
theorem ZsI.up {a b : ScR} {x y : ObjR} {m n : Nat} {w W X : World} (i : ZsI a b x y m n w W) (hb : Below W.heap.size W X) : ZsI a b x y m n w X :=
  ⟨i.s.up hb, i.a.up hb, i.b.up hb, i.va.below hb, i.vb.below hb, i.ta.below hb, i.tb.below hb⟩
def ZsRel (a b : ScR) (w : World) (n g : Nat) (s5 s6 s7 s8 s9 : Value) (W : World) : Prop :=
  ∃ k : Nat, g = n - k ∧ s5 = .int .i64 (k : Int) ∧ k ≤ n ∧ TwoS a b w W ∧ (a.os.map keyO).take k = (b.os.map keyO).take k
def ZiRel {α : Type} (a b : ScR) (x y : ObjR) (m1 m2 : Nat) (p q : List α) (w : World) (n g : Nat) (s8 : Value) (W : World) : Prop :=
  ∃ j : Nat, g = n - j ∧ s8 = .int .i64 (j : Int) ∧ j ≤ n ∧ ZsI a b x y m1 m2 w W ∧ p.take j = q.take j
set_option maxRecDepth 100000 in
set_option maxHeartbeats 2000000 in
theorem zsame_no (a b : ScR) (w : World) (ha : ScWf a) (hb : ScWf b) (h : ObjsAt w a.oo a.os) (h2 : ObjsAt w b.oo b.os) (hno : ¬ (a.w = b.w ∧ a.h = b.h ∧ a.cam = b.cam ∧ a.os.length = b.os.length)) :
    Calls Tryz.prog 15 #[.agg (scC a), .agg (scC b)] w (RetBool false w) := by
  have HI := Lib.hid (TwoS.new h h2)
  have hA := Lib.hid (sizeM ha.len)
  have hBm := Lib.hid (sizeM hb.len)
  have c0 : ((w.alloc (.cells (scC a) 28)).alloc (.cells (scC b) 28)).cell? ⟨w.heap.size, 0, none⟩ = some (.int .i64 a.w) := HI.out.sa.c0
  have c1 : ((w.alloc (.cells (scC a) 28)).alloc (.cells (scC b) 28)).cell? ⟨w.heap.size, 1, none⟩ = some (.int .i64 a.h) := HI.out.sa.c1
  have d0 : ((w.alloc (.cells (scC a) 28)).alloc (.cells (scC b) 28)).cell? ⟨w.heap.size + 1, 0, none⟩ = some (.int .i64 b.w) := HI.out.sb.c0
  have d1 : ((w.alloc (.cells (scC a) 28)).alloc (.cells (scC b) 28)).cell? ⟨w.heap.size + 1, 1, none⟩ = some (.int .i64 b.h) := HI.out.sb.c1
  have c18 : ((w.alloc (.cells (scC a) 28)).alloc (.cells (scC b) 28)).cell? ⟨w.heap.size, 18, none⟩ = some (.slice a.oo a.os.length a.oc) := HI.out.sa.c18 ha
  have d18 : ((w.alloc (.cells (scC a) 28)).alloc (.cells (scC b) 28)).cell? ⟨w.heap.size + 1, 18, none⟩ = some (.slice b.oo b.os.length b.oc) := HI.out.sb.c18 hb
  by_cases h1 : a.w = b.w
  · by_cases h3 : a.h = b.h
    · by_cases h4 : a.cam = b.cam
      · have hne : ∀ W, (binOp .neq 25 (.agg (a.cam.map encI).toArray) (.agg (b.cam.map encI).toArray)).run Tryz.prog W = .ok (.bool false) W := fun W => by rw [neq_mat2 W _ _ ha.len hb.len]; simp [h4]
        have hl : ¬ (a.os.length : Int) = (b.os.length : Int) := fun e => hno ⟨h1, h3, h4, by omega⟩
        rw [h1] at c0
        rw [h3] at c1
        clear ha hb h h2 h1 h3 h4 hno
        generalize b.w = bw at c0 d0
        generalize b.h = bh at c1 d1
        generalize a.os.length = n1 at c18 hl
        generalize b.os.length = n2 at d18 hl
        go_enter Tryz.func15, Tryz.ntmps15
        go_wp2_with (first | (refine wpList_load_mid_g rfl 25 (.tmp 23) rfl w.heap.size 2 rfl (a.cam.map encI) _ HI.out.sa.cam Tryz.underlying25 rfl hA.out ?_) | (refine wpList_load_mid_g rfl 25 (.tmp 25) rfl (w.heap.size + 1) 2 rfl (b.cam.map encI) _ HI.out.sb.cam Tryz.underlying25 rfl hBm.out ?_))
        go_ret
        exact ⟨by first | rfl | simp, HI.out.bel⟩
      · have hne : ∀ W, (binOp .neq 25 (.agg (a.cam.map encI).toArray) (.agg (b.cam.map encI).toArray)).run Tryz.prog W = .ok (.bool true) W := fun W => by rw [neq_mat2 W _ _ ha.len hb.len]; simp [h4]
        rw [h1] at c0
        rw [h3] at c1
        clear ha hb h h2 h1 h3 h4 hno c18 d18
        generalize b.w = bw at c0 d0
        generalize b.h = bh at c1 d1
        go_enter Tryz.func15, Tryz.ntmps15
        go_wp2_with (first | (refine wpList_load_mid_g rfl 25 (.tmp 23) rfl w.heap.size 2 rfl (a.cam.map encI) _ HI.out.sa.cam Tryz.underlying25 rfl hA.out ?_) | (refine wpList_load_mid_g rfl 25 (.tmp 25) rfl (w.heap.size + 1) 2 rfl (b.cam.map encI) _ HI.out.sb.cam Tryz.underlying25 rfl hBm.out ?_))
        go_ret
        exact ⟨by first | rfl | simp, HI.out.bel⟩
    · rw [h1] at c0
      clear ha hb h h2 h1 hno c18 d18
      generalize b.w = bw at c0 d0
      generalize b.h = bh at d1 h3
      generalize a.h = ah at c1 h3
      go_enter Tryz.func15, Tryz.ntmps15
      go_wp2_with fail
      go_ret
      exact ⟨by first | rfl | simp, HI.out.bel⟩
  · clear ha hb h h2 hno c18 d18 c1 d1
    generalize b.w = bw at d0 h1
    generalize a.w = aw at c0 h1
    go_enter Tryz.func15, Tryz.ntmps15
    go_wp2_with fail
    go_ret
    exact ⟨by first | rfl | simp, HI.out.bel⟩
end Go.Proofs.YtbbhmhihpdmoiaaGreat.Fx

