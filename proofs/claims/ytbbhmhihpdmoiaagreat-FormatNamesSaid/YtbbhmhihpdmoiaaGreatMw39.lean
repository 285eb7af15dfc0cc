import Derived.Laws.Rows
import Derived.Test.YtbbhmhihpdmoiaaGreatProg
import Derived.Test.YtbbhmhihpdmoiaaGreatMw02
import Derived.Test.YtbbhmhihpdmoiaaGreatMw33
import Derived.Test.YtbbhmhihpdmoiaaGreatMw38
set_option linter.unusedVariables false
set_option linter.unusedSimpArgs false
namespace Go.Proofs.YtbbhmhihpdmoiaaGreat.Fx
open Go Go.RowKit Go.Shelf
def RetErr (b : Bool) (w : World) (e : Ending) (w' : World) : Prop := e = .returned (.int .i64 (if b = true then 0 else 60)) ∧ Below w.heap.size w w'
set_option maxRecDepth 100000 in
set_option maxHeartbeats 1000000 in
theorem pcheck_any (s : ScR) (w : World) (hs : ScWf s) (h : ObjsAt w s.oo s.os) :
  Calls Tryz.prog 30 #[.agg (scC s)] w (RetErr (okZ s) w) := by
 have HI := Lib.hid (WrI.new h)
 have hall := Lib.hid (sizeS hs)
 have HC := Lib.hid (pwrong_any s _ hs HI.out.ob)
 clear h hs
 unfold RetErr
 cases hc : okZ s
 ·have h0 : ¬ (wrongZ s).1 = 0 := by simpa [okZ] using hc
  have e : ((if false = true then 0 else 60 : Int)) = 60 := rfl
  rw [e]
  clear hc e
  unfold RetWrong at HC
  generalize wrongZ s = p at HC h0
  obtain ⟨p1, p2⟩ := p
  dsimp only at HC h0
  go_enter Tryz.func30, Tryz.ntmps30
  go_wp2_with (refine wpList_load_mid rfl 28 (.tmp 1) rfl w.heap.size 0 rfl (scL s) _ HI.out.all Tryz.underlying28 rfl hall.out ?_)
  refine HC.out.mono ?_
  rintro e w1 ⟨rfl, hb⟩
  have HB := Lib.hid (bnext HI.out.bel hb)
  clear hb
  go_wp2_with fail
  go_ret
  exact ⟨rfl, HB.out⟩
 ·have h0 : (wrongZ s).1 = 0 := by simpa [okZ] using hc
  have e : ((if true = true then 0 else 60 : Int)) = 0 := rfl
  rw [e]
  clear hc e
  unfold RetWrong at HC
  generalize wrongZ s = p at HC h0
  obtain ⟨p1, p2⟩ := p
  dsimp only at HC h0
  subst h0
  go_enter Tryz.func30, Tryz.ntmps30
  go_wp2_with (refine wpList_load_mid rfl 28 (.tmp 1) rfl w.heap.size 0 rfl (scL s) _ HI.out.all Tryz.underlying28 rfl hall.out ?_)
  refine HC.out.mono ?_
  rintro e w1 ⟨rfl, hb⟩
  have HB := Lib.hid (bnext HI.out.bel hb)
  clear hb
  go_wp2_with fail
  go_ret
  exact ⟨rfl, HB.out⟩
end Go.Proofs.YtbbhmhihpdmoiaaGreat.Fx
set_option linter.unusedVariables false
set_option linter.unusedSimpArgs false
namespace Go.Proofs.YtbbhmhihpdmoiaaGreat.Fx
open Go Go.RowKit Go.Shelf Wm
theorem give_callS {n : Nat} {P : Program} {ops : Array Oper} {Q : Exit → Act → World → Prop} {md : Region.Mode} {S : World → Prop} {Z : List Nat} (D : List Nat) (i : Nat) (f : FuncId) (args : Array Value) (v : Value) (s : Sound P ops Q S) {oi : Oper} {fuel : Nat} {listed : Array Bool} {a : Act} {w : World} (hi : ops[i]? = some oi)
  (hk : okTake md ops Z listed i D = true) (hS : S w) (hw : Region.wanted oi (yielded ops a.tmps) = true) (hv : ∀ w, (execOp a.eval oi).run P w = .ok (.enter f args) w)
  (hc : ∀ w, S w → Calls P f args w fun e w' => e = .returned v ∧ Below w.heap.size w w')
  (h : ∀ w3, S w3 → HeldG n P md ops Q S Z fuel (listed.setIfInBounds i true) (a.put oi.dst v) w3) : HeldG n P md ops Q S Z (fuel + 1) listed a w :=
 give_take D i v s hi hk hS (Or.inl ⟨hw, fun w hS => Or.inr ⟨f, args, hv w, hc w hS⟩⟩) h
theorem bad_none {s : ScR} {r k : Nat} {x : ObjR} (h : badIn s r = none) (hx : s.os[k]? = some x) : keepZ s x k r = true := by
 unfold badIn at h
 rw [List.find?_eq_none] at h
 have h1 := h k (by simpa using (List.getElem?_eq_some_iff.1 hx).1)
 unfold badAt at h1
 rw [hx] at h1
 simpa using h1
theorem ok_all {s : ScR} (h : okZ s = true) : sizeB s = false ∧ wB 16777216 s.cam 16 = true ∧ s.os.length ≤ 16 ∧ ∀ r, 4 ≤ r → r < 9 → badIn s r = none := by
 have h0 : (wrongZ s).1 = 0 := by simpa [okZ] using h
 unfold wrongZ at h0
 split at h0
 ·simp at h0
 rename_i h1
 split at h0
 ·simp at h0
 rename_i h2
 split at h0
 ·simp at h0
 rename_i h3
 refine ⟨by simpa using h1, by simpa using h2, by omega, ?_⟩
 cases b4 : badIn s 4 with
 | some k => simp [List.findSome?, b4] at h0
 | none =>
 cases b5 : badIn s 5 with
 | some k => simp [List.findSome?, b4, b5] at h0
 | none =>
 cases b6 : badIn s 6 with
 | some k => simp [List.findSome?, b4, b5, b6] at h0
 | none =>
 cases b7 : badIn s 7 with
 | some k => simp [List.findSome?, b4, b5, b6, b7] at h0
 | none =>
 cases b8 : badIn s 8 with
 | some k => simp [List.findSome?, b4, b5, b6, b7, b8] at h0
 | none =>
 intro r h4 h9
 obtain rfl | rfl | rfl | rfl | rfl : r = 4 ∨ r = 5 ∨ r = 6 ∨ r = 7 ∨ r = 8 := by omega
 all_goals assumption
end Go.Proofs.YtbbhmhihpdmoiaaGreat.Fx

set_option linter.unusedVariables false
set_option linter.unusedSimpArgs false
namespace Go.Proofs.YtbbhmhihpdmoiaaGreat.Fx
open Go Go.RowKit
theorem keepZ_key {s t : ScR} {x y : ObjR} {k r : Nat} (hc : s.cam = t.cam) (ho : s.os.map keyO = t.os.map keyO) (hx : keyO x = keyO y) : keepZ s x k r = keepZ t y k r := by
 unfold keyO at hx
 simp only [Prod.mk.injEq] at hx
 obtain ⟨h1, h2, h3, h4⟩ := hx
 have hk : (s.os.take k).all (fun z => decide (z.id ≠ x.id)) = (t.os.take k).all (fun z => decide (z.id ≠ x.id)) := by
  have e : ∀ u : ScR, (u.os.take k).all (fun z => decide (z.id ≠ x.id)) = ((u.os.map keyO).take k).all (fun z => decide (z.1 ≠ x.id)) := fun u => by
   rw [← List.map_take, List.all_map]
   rfl
  rw [e s, e t, ho]
 unfold keepZ keep4 keep5 keep6 keep7 keep8
 rw [hk, hc, h1, h2, h3, h4]
theorem badAt_key {s t : ScR} {r k : Nat} (hc : s.cam = t.cam) (ho : s.os.map keyO = t.os.map keyO) : badAt s r k = badAt t r k := by
 unfold badAt
 have h := congrArg (fun L => L[k]?) ho
 simp only [List.getElem?_map] at h
 cases hs : s.os[k]? with
 | none =>
  rw [hs] at h
  cases ht : t.os[k]? with
  | none => rfl
  | some y => rw [ht] at h; cases h
 | some x =>
  rw [hs] at h
  cases ht : t.os[k]? with
  | none => rw [ht] at h; cases h
  | some y =>
   rw [ht] at h
   simp only [Option.map_some, Option.some.injEq] at h
   dsimp only
   rw [keepZ_key hc ho h]
theorem okZ_key {s t : ScR} (h : keyS s = keyS t) : okZ s = okZ t := by
 unfold keyS at h
 simp only [Prod.mk.injEq] at h
 obtain ⟨h1, h2, h3, h4⟩ := h
 have hl : s.os.length = t.os.length := by
  have := congrArg List.length h4
  simpa using this
 have hb : ∀ r, badIn s r = badIn t r := fun r => by
  unfold badIn
  rw [hl]
  congr 1
  funext k
  exact badAt_key h3 h4
 unfold okZ wrongZ sizeB
 simp only [h1, h2, h3, hl, hb]
theorem num_all {m : List Int} (h : ∀ j, Num (m.getD j 0)) : ∀ z ∈ m, Num z := fun z hz => by
 obtain ⟨j, hj, rfl⟩ := List.mem_iff_getElem.1 hz
 have := h j
 rwa [List.getD_eq_getElem?_getD, List.getElem?_eq_getElem hj] at this
theorem ok_dSc {s : ScR} {W : World} (hs : ScWf s) (ho : ObjsAt W s.oo s.os) (h : okZ s = true) : dSc (keyS s) := by
 obtain ⟨hz, hc, hl, hb⟩ := ok_all h
 unfold sizeB at hz
 simp only [Bool.or_eq_false_iff, decide_eq_false_iff_not] at hz
 refine ⟨⟨by show 0 ≤ s.w; omega, by show s.w ≤ 64; omega⟩, ⟨by show 0 ≤ s.h; omega, by show s.h ≤ 64; omega⟩, ⟨hs.len, num_all hs.num⟩, by show (s.os.map keyO).length ≤ 16; rw [List.length_map]; exact hl, fun q hq => ?_⟩
 obtain ⟨x, hx, rfl⟩ := List.mem_map.1 hq
 obtain ⟨k, hk⟩ := List.getElem?_of_mem hx
 obtain ⟨_, _, _, hat⟩ := ho k x hk
 have k4 := bad_none (hb 4 (by omega) (by omega)) hk
 have k7 := bad_none (hb 7 (by omega) (by omega)) hk
 have k8 := bad_none (hb 8 (by omega) (by omega)) hk
 unfold keepZ at k4 k7 k8
 simp only [if_true, Nat.reduceEqDiff, if_false] at k4 k7 k8
 unfold keep4 at k4
 unfold keep7 at k7
 unfold keep8 at k8
 simp only [Bool.and_eq_true, decide_eq_true_eq] at k4 k7 k8
 refine ⟨⟨by show 0 ≤ x.id; omega, by show x.id ≤ 65535; omega⟩, ⟨hat.wf.len, num_all hat.wf.num⟩, ⟨by show x.vs.length ≤ 64; omega, fun v hv => ?_⟩, ⟨by show x.ts.length ≤ 64; omega, fun t ht => ?_⟩⟩
 ·have hw := hat.verts.wf v hv
  exact ⟨hw.len, num_all hw.num⟩
 ·have hf := List.all_eq_true.1 k8.1 t ht
  have hw := hat.tris.wf t ht
  unfold fineT at hf
  simp only [Bool.and_eq_true, Bool.or_eq_true, Bool.not_eq_true', decide_eq_true_eq, decide_eq_false_iff_not, Bool.or_eq_false_iff] at hf
  have hw2 := hw.col
  unfold dTri
  omega
def mark1 : List Nat := [109, 117, 108, 49]
def markF : List Nat := [109, 117, 108, 102]
theorem mark1_by : Pk.By mark1 := by unfold Pk.By mark1; decide
theorem markF_by : Pk.By markF := by unfold Pk.By markF; decide
def bytesK (k : KeyS) : List Nat := sealL (mark1 ++ fSc k)
def encO (s : ScR) : Option (List Nat) := if okZ s = true then some (bytesK (keyS s)) else none
theorem fSc_len {k : KeyS} (h : dSc k) : 0 < (fSc k).length ∧ (fSc k).length ≤ 97000 := by
 unfold fSc fMany
 simp only [List.length_append]
 have h1 := fU_len k.1
 have h1' : 1 ≤ (fU k.1).length := (Pk.form_len _).1
 have h2 := fU_len k.2.1
 have h3 := fNums_len k.2.2.1
 have h3' := h.2.2.1.1
 have h4 := fU_len (k.2.2.2.length : Int)
 have h5 := flat_le (f := fObj) (c := 6000) k.2.2.2 (fun y hy => fObj_len (h.2.2.2.2 y hy))
 have h6 := h.2.2.2.1
 omega
def erE (r : Option (List Nat)) : Int := if r.isSome = true then 0 else 60
def RetEn (r : Option (List Nat)) (w : World) (e : Ending) (w' : World) : Prop := (∃ v, e = .returned (.tuple #[v, .int .i64 (erE r)]) ∧ Pk.Own w' w.heap.size v (r.getD [])) ∧ Below w.heap.size w w'
set_option maxRecDepth 100000 in
set_option maxHeartbeats 2000000 in
theorem pencode_any (s : ScR) (w : World) (hs : ScWf s) (h : ObjsAt w s.oo s.os) :
  Calls Tryz.prog 12 #[.agg (scC s)] w (RetEn (encO s) w) := by
 have HI := Lib.hid (WrI.new h)
 have HS := Lib.hid hs
 have hall := Lib.hid (sizeS hs)
 have HC := Lib.hid (pcheck_any s _ hs HI.out.ob)
 have HOK := Lib.hid (fun (ho : okZ s = true) => ok_dSc hs h ho)
 obtain ⟨V0, hV0⟩ : ∃ V, w.alloc (.cells (scC s) 28) = V := ⟨_, rfl⟩
 rw [hV0] at HI HC
 have HV0 := Lib.hid hV0
 clear h hs hV0
 unfold RetErr at HC
 cases hok : okZ s with
 | false =>
  have HE := Lib.hid (show encO s = none by unfold encO; rw [hok]; rfl)
  rw [hok] at HC
  simp only [Bool.false_eq_true, if_false] at HC
  clear hok HOK
  go_enter Tryz.func12, Tryz.ntmps12
  go_wp2_with (first | (rw [HV0.out]) | (with_reducible refine stop_at (some 6) rfl ?_; refine Lib.hid ?_; refine wpList_load_mid rfl 28 (.tmp 1) rfl w.heap.size 0 rfl (scL s) _ HI.out.all Tryz.underlying28 rfl hall.out ?_))
  refine HC.out.mono ?_
  rintro e w1 ⟨rfl, hb⟩
  have HB := Lib.hid (bnext HI.out.bel hb)
  clear hb HC HV0
  go_wp2_with fail
  go_ret2
  rw [HE.out]
  exact ⟨⟨_, rfl, World.ownsRow_nil _ _ _ _⟩, HB.out⟩
 | true =>
  have HE := Lib.hid (show encO s = some (bytesK (keyS s)) by unfold encO; rw [hok]; rfl)
  have HD := Lib.hid (HOK.out hok)
  rw [hok] at HC
  simp only [if_true] at HC
  clear hok HOK
  go_enter Tryz.func12, Tryz.ntmps12
  go_wp2_with (first | (rw [HV0.out]) | (with_reducible refine stop_at (some 6) rfl ?_; refine Lib.hid ?_; refine wpList_load_mid rfl 28 (.tmp 1) rfl w.heap.size 0 rfl (scL s) _ HI.out.all Tryz.underlying28 rfl hall.out ?_))
  refine HC.out.mono ?_
  rintro e w1 ⟨rfl, hb⟩
  have HI1 := Lib.hid (HI.out.up hb)
  clear hb HC HV0 HI
  go_wp2_with fail
  refine (Pk.new_writer _).mono ?_
  rintro e w2 ⟨rfl, hpw, hw2⟩
  have hb2 : Below w1.heap.size w1 w2 := by rw [hw2]; exact (Below.refl _ _).alloc (Nat.le_refl _) _
  have HI2 := Lib.hid (HI1.out.up hb2)
  have HPS := Lib.hid (pputs_any w1.heap.size s [] w2 HS.out HD.out (by simp) (fun X hX => HI1.out.ob.below ⟨hX.os.trans hb2.os, hX.tape.trans hb2.tape, hX.output.trans hb2.output, Nat.le_trans hb2.size hX.size, fun k hk => (hX.block k hk).trans (hb2.block k hk)⟩) ⟨_, hpw⟩)
  have HB2 := Lib.hid hb2
  clear hpw hw2 hb2 
  go_wp2_with (with_reducible refine stop_at (some 13) rfl ?_; refine Lib.hid ?_; refine wpList_load_mid rfl 28 (.tmp 1) rfl w.heap.size 0 rfl (scL s) _ HI2.out.all Tryz.underlying28 rfl hall.out ?_)
  refine HPS.out.mono ?_
  rintro e w3 ⟨rfl, hw3, hf3⟩
  rw [List.nil_append] at hw3
  have hlen := fSc_len HD.out
  have hse := psealed_any mark1 mark1_by w1.heap.size (fSc (keyS s)) w3 (goodSc.bytes _ HD.out) hlen.1 (by show 4 + _ ≤ _; omega) hw3
  rw [show Pk.bstr mark1 = ⟨#[109, 117, 108, 49]⟩ from rfl] at hse
  have HSE := Lib.hid hse
  have HB3 : Hid (Below w.heap.size w w3) := Lib.hid (by
   have h1 := HI1.out.bel
   have h2 : Below w1.heap.size w1 w3 := ⟨hf3.os.trans HB2.out.os, hf3.tape.trans HB2.out.tape, hf3.output.trans HB2.out.output, Nat.le_trans HB2.out.size hf3.size, fun k hk => (hf3.low k hk).trans (HB2.out.block k hk)⟩
   exact bnext h1 h2)
  clear hw3 hf3 hlen hse HPS HB2 HI2 HI1
  go_wp2_with fail
  refine HSE.out.mono ?_
  rintro e w4 ⟨⟨v4, rfl, ho4⟩, hb4⟩
  have HR := Lib.hid (show RetEn (encO s) w (.returned (.tuple #[v4, .int .i64 0])) w4 by
   rw [HE.out]
   exact ⟨⟨v4, rfl, ho4.mono HB3.out.size⟩, bnext HB3.out hb4⟩)
  clear ho4 hb4 HSE
  go_wp2_with fail
  go_ret2
  exact HR.out
def RetSz (r : Option (List Nat)) (w : World) (e : Ending) (w' : World) : Prop := e = .returned (.tuple #[.int .i64 (((r.getD []).length : Nat) : Int), .int .i64 (erE r)]) ∧ Below w.heap.size w w'
set_option maxRecDepth 100000 in
set_option maxHeartbeats 2000000 in
theorem psize_any (s : ScR) (w : World) (hs : ScWf s) (h : ObjsAt w s.oo s.os) :
  Calls Tryz.prog 14 #[.agg (scC s)] w (RetSz (encO s) w) := by
 have HI := Lib.hid (WrI.new h)
 have hall := Lib.hid (sizeS hs)
 have HC := Lib.hid (pencode_any s _ hs HI.out.ob)
 obtain ⟨V0, hV0⟩ : ∃ V, w.alloc (.cells (scC s) 28) = V := ⟨_, rfl⟩
 rw [hV0] at HI HC
 have HV0 := Lib.hid hV0
 clear h hs hV0
 generalize encO s = r at HC ⊢
 go_enter Tryz.func14, Tryz.ntmps14
 go_wp2_with (first | (rw [HV0.out]) | (with_reducible refine stop_at (some 7) rfl ?_; refine Lib.hid ?_; refine wpList_load_mid rfl 28 (.tmp 1) rfl w.heap.size 0 rfl (scL s) _ HI.out.all Tryz.underlying28 rfl hall.out ?_))
 refine HC.out.mono ?_
 rintro e w1 ⟨⟨v1, rfl, ho⟩, hb⟩
 obtain ⟨o1, c1, rfl, _, _, _, _, _⟩ := ho.open
 have HB := Lib.hid (bnext HI.out.bel hb)
 clear hb HC HV0 ho
 go_wp2_with fail
 go_ret2
 exact ⟨rfl, HB.out⟩
end Go.Proofs.YtbbhmhihpdmoiaaGreat.Fx
