import Derived.Laws.Rows
import Derived.Test.YtbbhmhihpdmoiaaGreatProg
import Derived.Laws.ResultCell
import Derived.Deep.QuietTactic
import Derived.BigQuiet
import Derived.WalkSmall
import Derived.Lib.AppendZerosOnto
import Derived.Lib.SlBytesConst
import Derived.Defers
import Derived.Recover
import Derived.Test.YtbbhmhihpdmoiaaGreatMv01
import Derived.Test.YtbbhmhihpdmoiaaGreatMv06
import Derived.Test.YtbbhmhihpdmoiaaGreatMv17
import Derived.Test.YtbbhmhihpdmoiaaGreatMv22
import Derived.Test.YtbbhmhihpdmoiaaGreatMv28
import Derived.Test.YtbbhmhihpdmoiaaGreatMv30
import Derived.Test.YtbbhmhihpdmoiaaGreatMv32
import Derived.Test.YtbbhmhihpdmoiaaGreatMv35
import Derived.Test.YtbbhmhihpdmoiaaGreatMv36
import Derived.Test.YtbbhmhihpdmoiaaGreatMv37
set_option linter.unusedVariables false
set_option linter.unusedSimpArgs false
namespace Go.Proofs.YtbbhmhihpdmoiaaGreat.Fx
open Go Go.RowKit Go.Shelf
def RetErr (b : Bool) (w : World) (e : Ending) (w' : World) : Prop := e = .returned (.int .i64 (if b = true then 0 else 60)) ∧ Below w.heap.size w w'
set_option maxRecDepth 100000 in
set_option maxHeartbeats 1000000 in
theorem pcheck_any (s : ScR) (w : World) (hs : ScWf s) (h : ObjsAt w s.oo s.os) :
  Calls Tryz.prog 30 #[.agg (scC s)] w (RetErr (okZ s) w) := by
 have HI := Lib.hid (WrI.new h)
 have hall := Lib.hid (sizeS hs)
 have HC := Lib.hid (pwrong_any s _ hs HI.out.ob)
 clear h hs
 unfold RetErr
 cases hc : okZ s
 ·have h0 : ¬ (wrongZ s).1 = 0 := by simpa [okZ] using hc
  have e : ((if false = true then 0 else 60 : Int)) = 60 := rfl
  rw [e]
  clear hc e
  unfold RetWrong at HC
  generalize wrongZ s = p at HC h0
  obtain ⟨p1, p2⟩ := p
  dsimp only at HC h0
  go_enter Tryz.func30, Tryz.ntmps30
  go_wp2_with (refine wpList_load_mid rfl 28 (.tmp 1) rfl w.heap.size 0 rfl (scL s) _ HI.out.all Tryz.underlying28 rfl hall.out ?_)
  refine HC.out.mono ?_
  rintro e w1 ⟨rfl, hb⟩
  have HB := Lib.hid (bnext HI.out.bel hb)
  clear hb
  go_wp2_with fail
  go_ret
  exact ⟨rfl, HB.out⟩
 ·have h0 : (wrongZ s).1 = 0 := by simpa [okZ] using hc
  have e : ((if true = true then 0 else 60 : Int)) = 0 := rfl
  rw [e]
  clear hc e
  unfold RetWrong at HC
  generalize wrongZ s = p at HC h0
  obtain ⟨p1, p2⟩ := p
  dsimp only at HC h0
  subst h0
  go_enter Tryz.func30, Tryz.ntmps30
  go_wp2_with (refine wpList_load_mid rfl 28 (.tmp 1) rfl w.heap.size 0 rfl (scL s) _ HI.out.all Tryz.underlying28 rfl hall.out ?_)
  refine HC.out.mono ?_
  rintro e w1 ⟨rfl, hb⟩
  have HB := Lib.hid (bnext HI.out.bel hb)
  clear hb
  go_wp2_with fail
  go_ret
  exact ⟨rfl, HB.out⟩
end Go.Proofs.YtbbhmhihpdmoiaaGreat.Fx
set_option linter.unusedVariables false
set_option linter.unusedSimpArgs false
namespace Go.Proofs.YtbbhmhihpdmoiaaGreat.Fx
open Go Go.RowKit Go.Shelf Wm
theorem bad_none {s : ScR} {r k : Nat} {x : ObjR} (h : badIn s r = none) (hx : s.os[k]? = some x) : keepZ s x k r = true := by
 unfold badIn at h
 rw [List.find?_eq_none] at h
 have h1 := h k (by simpa using (List.getElem?_eq_some_iff.1 hx).1)
 unfold badAt at h1
 rw [hx] at h1
 simpa using h1
theorem ok_all {s : ScR} (h : okZ s = true) : sizeB s = false ∧ wB 16777216 s.cam 16 = true ∧ s.os.length ≤ 16 ∧ ∀ r, 4 ≤ r → r < 9 → badIn s r = none := by
 have h0 : (wrongZ s).1 = 0 := by simpa [okZ] using h
 unfold wrongZ at h0
 split at h0
 ·simp at h0
 rename_i h1
 split at h0
 ·simp at h0
 rename_i h2
 split at h0
 ·simp at h0
 rename_i h3
 refine ⟨by simpa using h1, by simpa using h2, by omega, ?_⟩
 cases b4 : badIn s 4 with
 | some k => simp [List.findSome?, b4] at h0
 | none =>
 cases b5 : badIn s 5 with
 | some k => simp [List.findSome?, b4, b5] at h0
 | none =>
 cases b6 : badIn s 6 with
 | some k => simp [List.findSome?, b4, b5, b6] at h0
 | none =>
 cases b7 : badIn s 7 with
 | some k => simp [List.findSome?, b4, b5, b6, b7] at h0
 | none =>
 cases b8 : badIn s 8 with
 | some k => simp [List.findSome?, b4, b5, b6, b7, b8] at h0
 | none =>
 intro r h4 h9
 obtain rfl | rfl | rfl | rfl | rfl : r = 4 ∨ r = 5 ∨ r = 6 ∨ r = 7 ∨ r = 8 := by omega
 all_goals assumption
end Go.Proofs.YtbbhmhihpdmoiaaGreat.Fx

set_option linter.unusedVariables false
set_option linter.unusedSimpArgs false
namespace Go.Proofs.YtbbhmhihpdmoiaaGreat.Fx
open Go Go.RowKit
theorem keepZ_key {s t : ScR} {x y : ObjR} {k r : Nat} (hc : s.cam = t.cam) (ho : s.os.map keyO = t.os.map keyO) (hx : keyO x = keyO y) : keepZ s x k r = keepZ t y k r := by
 unfold keyO at hx
 simp only [Prod.mk.injEq] at hx
 obtain ⟨h1, h2, h3, h4⟩ := hx
 have hk : (s.os.take k).all (fun z => decide (z.id ≠ x.id)) = (t.os.take k).all (fun z => decide (z.id ≠ x.id)) := by
  have e : ∀ u : ScR, (u.os.take k).all (fun z => decide (z.id ≠ x.id)) = ((u.os.map keyO).take k).all (fun z => decide (z.1 ≠ x.id)) := fun u => by
   rw [← List.map_take, List.all_map]
   rfl
  rw [e s, e t, ho]
 unfold keepZ keep4 keep5 keep6 keep7 keep8
 rw [hk, hc, h1, h2, h3, h4]
theorem badAt_key {s t : ScR} {r k : Nat} (hc : s.cam = t.cam) (ho : s.os.map keyO = t.os.map keyO) : badAt s r k = badAt t r k := by
 unfold badAt
 have h := congrArg (fun L => L[k]?) ho
 simp only [List.getElem?_map] at h
 cases hs : s.os[k]? with
 | none =>
  rw [hs] at h
  cases ht : t.os[k]? with
  | none => rfl
  | some y => rw [ht] at h; cases h
 | some x =>
  rw [hs] at h
  cases ht : t.os[k]? with
  | none => rw [ht] at h; cases h
  | some y =>
   rw [ht] at h
   simp only [Option.map_some, Option.some.injEq] at h
   dsimp only
   rw [keepZ_key hc ho h]
theorem okZ_key {s t : ScR} (h : keyS s = keyS t) : okZ s = okZ t := by
 unfold keyS at h
 simp only [Prod.mk.injEq] at h
 obtain ⟨h1, h2, h3, h4⟩ := h
 have hl : s.os.length = t.os.length := by
  have := congrArg List.length h4
  simpa using this
 have hb : ∀ r, badIn s r = badIn t r := fun r => by
  unfold badIn
  rw [hl]
  congr 1
  funext k
  exact badAt_key h3 h4
 unfold okZ wrongZ sizeB
 simp only [h1, h2, h3, hl, hb]
theorem num_all {m : List Int} (h : ∀ j, Num (m.getD j 0)) : ∀ z ∈ m, Num z := fun z hz => by
 obtain ⟨j, hj, rfl⟩ := List.mem_iff_getElem.1 hz
 have := h j
 rwa [List.getD_eq_getElem?_getD, List.getElem?_eq_getElem hj] at this
theorem ok_dSc {s : ScR} {W : World} (hs : ScWf s) (ho : ObjsAt W s.oo s.os) (h : okZ s = true) : dSc (keyS s) := by
 obtain ⟨hz, hc, hl, hb⟩ := ok_all h
 unfold sizeB at hz
 simp only [Bool.or_eq_false_iff, decide_eq_false_iff_not] at hz
 refine ⟨⟨by show 0 ≤ s.w; omega, by show s.w ≤ 64; omega⟩, ⟨by show 0 ≤ s.h; omega, by show s.h ≤ 64; omega⟩, ⟨hs.len, num_all hs.num⟩, by show (s.os.map keyO).length ≤ 16; rw [List.length_map]; exact hl, fun q hq => ?_⟩
 obtain ⟨x, hx, rfl⟩ := List.mem_map.1 hq
 obtain ⟨k, hk⟩ := List.getElem?_of_mem hx
 obtain ⟨_, _, _, hat⟩ := ho k x hk
 have k4 := bad_none (hb 4 (by omega) (by omega)) hk
 have k7 := bad_none (hb 7 (by omega) (by omega)) hk
 have k8 := bad_none (hb 8 (by omega) (by omega)) hk
 unfold keepZ at k4 k7 k8
 simp only [if_true, Nat.reduceEqDiff, if_false] at k4 k7 k8
 unfold keep4 at k4
 unfold keep7 at k7
 unfold keep8 at k8
 simp only [Bool.and_eq_true, decide_eq_true_eq] at k4 k7 k8
 refine ⟨⟨by show 0 ≤ x.id; omega, by show x.id ≤ 65535; omega⟩, ⟨hat.wf.len, num_all hat.wf.num⟩, ⟨by show x.vs.length ≤ 64; omega, fun v hv => ?_⟩, ⟨by show x.ts.length ≤ 64; omega, fun t ht => ?_⟩⟩
 ·have hw := hat.verts.wf v hv
  exact ⟨hw.len, num_all hw.num⟩
 ·have hf := List.all_eq_true.1 k8.1 t ht
  have hw := hat.tris.wf t ht
  unfold fineT at hf
  simp only [Bool.and_eq_true, Bool.or_eq_true, Bool.not_eq_true', decide_eq_true_eq, decide_eq_false_iff_not, Bool.or_eq_false_iff] at hf
  have hw2 := hw.col
  unfold dTri
  omega
def mark1 : List Nat := [109, 117, 108, 49]
theorem mark1_by : Pk.By mark1 := by unfold Pk.By mark1; decide
def bytesK (k : KeyS) : List Nat := sealL (mark1 ++ fSc k)
def encO (s : ScR) : Option (List Nat) := if okZ s = true then some (bytesK (keyS s)) else none
theorem encO_key {s t : ScR} (h : keyS s = keyS t) : encO s = encO t := by
 unfold encO
 rw [okZ_key h, h]
theorem fSc_len {k : KeyS} (h : dSc k) : 0 < (fSc k).length ∧ (fSc k).length ≤ 97000 := by
 unfold fSc fMany
 simp only [List.length_append]
 have h1 := fU_len k.1
 have h1' : 1 ≤ (fU k.1).length := (Pk.form_len _).1
 have h2 := fU_len k.2.1
 have h3 := fNums_len k.2.2.1
 have h3' := h.2.2.1.1
 have h4 := fU_len (k.2.2.2.length : Int)
 have h5 := flat_le (f := fObj) (c := 6000) k.2.2.2 (fun y hy => fObj_len (h.2.2.2.2 y hy))
 have h6 := h.2.2.2.1
 omega
def erE (r : Option (List Nat)) : Int := if r.isSome = true then 0 else 60
def RetEn (r : Option (List Nat)) (w : World) (e : Ending) (w' : World) : Prop := (∃ v, e = .returned (.tuple #[v, .int .i64 (erE r)]) ∧ Pk.Own w' w.heap.size v (r.getD [])) ∧ Below w.heap.size w w'
set_option maxRecDepth 100000 in
set_option maxHeartbeats 2000000 in
theorem pencode_any (s : ScR) (w : World) (hs : ScWf s) (h : ObjsAt w s.oo s.os) :
  Calls Tryz.prog 12 #[.agg (scC s)] w (RetEn (encO s) w) := by
 have HI := Lib.hid (WrI.new h)
 have HS := Lib.hid hs
 have hall := Lib.hid (sizeS hs)
 have HC := Lib.hid (pcheck_any s _ hs HI.out.ob)
 have HOK := Lib.hid (fun (ho : okZ s = true) => ok_dSc hs h ho)
 obtain ⟨V0, hV0⟩ : ∃ V, w.alloc (.cells (scC s) 28) = V := ⟨_, rfl⟩
 rw [hV0] at HI HC
 have HV0 := Lib.hid hV0
 clear h hs hV0
 unfold RetErr at HC
 cases hok : okZ s with
 | false =>
  have HE := Lib.hid (show encO s = none by unfold encO; rw [hok]; rfl)
  rw [hok] at HC
  simp only [Bool.false_eq_true, if_false] at HC
  clear hok HOK
  go_enter Tryz.func12, Tryz.ntmps12
  go_wp2_with (first | (rw [HV0.out]) | (with_reducible refine stop_at (some 6) rfl ?_; refine Lib.hid ?_; refine wpList_load_mid rfl 28 (.tmp 1) rfl w.heap.size 0 rfl (scL s) _ HI.out.all Tryz.underlying28 rfl hall.out ?_))
  refine HC.out.mono ?_
  rintro e w1 ⟨rfl, hb⟩
  have HB := Lib.hid (bnext HI.out.bel hb)
  clear hb HC HV0
  go_wp2_with fail
  go_ret2
  rw [HE.out]
  exact ⟨⟨_, rfl, World.ownsRow_nil _ _ _ _⟩, HB.out⟩
 | true =>
  have HE := Lib.hid (show encO s = some (bytesK (keyS s)) by unfold encO; rw [hok]; rfl)
  have HD := Lib.hid (HOK.out hok)
  rw [hok] at HC
  simp only [if_true] at HC
  clear hok HOK
  go_enter Tryz.func12, Tryz.ntmps12
  go_wp2_with (first | (rw [HV0.out]) | (with_reducible refine stop_at (some 6) rfl ?_; refine Lib.hid ?_; refine wpList_load_mid rfl 28 (.tmp 1) rfl w.heap.size 0 rfl (scL s) _ HI.out.all Tryz.underlying28 rfl hall.out ?_))
  refine HC.out.mono ?_
  rintro e w1 ⟨rfl, hb⟩
  have HI1 := Lib.hid (HI.out.up hb)
  clear hb HC HV0 HI
  go_wp2_with fail
  refine (Pk.new_writer _).mono ?_
  rintro e w2 ⟨rfl, hpw, hw2⟩
  have hb2 : Below w1.heap.size w1 w2 := by rw [hw2]; exact (Below.refl _ _).alloc (Nat.le_refl _) _
  have HI2 := Lib.hid (HI1.out.up hb2)
  have HPS := Lib.hid (pputs_any w1.heap.size s [] w2 HS.out HD.out (by simp) (fun X hX => HI1.out.ob.below ⟨hX.os.trans hb2.os, hX.tape.trans hb2.tape, hX.output.trans hb2.output, Nat.le_trans hb2.size hX.size, fun k hk => (hX.block k hk).trans (hb2.block k hk)⟩) ⟨_, hpw⟩)
  have HB2 := Lib.hid hb2
  clear hpw hw2 hb2 
  go_wp2_with (with_reducible refine stop_at (some 13) rfl ?_; refine Lib.hid ?_; refine wpList_load_mid rfl 28 (.tmp 1) rfl w.heap.size 0 rfl (scL s) _ HI2.out.all Tryz.underlying28 rfl hall.out ?_)
  refine HPS.out.mono ?_
  rintro e w3 ⟨rfl, hw3, hf3⟩
  rw [List.nil_append] at hw3
  have hlen := fSc_len HD.out
  have hse := psealed_any mark1 mark1_by w1.heap.size (fSc (keyS s)) w3 (goodSc.bytes _ HD.out) hlen.1 (by show 4 + _ ≤ _; omega) hw3
  rw [show Pk.bstr mark1 = ⟨#[109, 117, 108, 49]⟩ from rfl] at hse
  have HSE := Lib.hid hse
  have HB3 : Hid (Below w.heap.size w w3) := Lib.hid (by
   have h1 := HI1.out.bel
   have h2 : Below w1.heap.size w1 w3 := ⟨hf3.os.trans HB2.out.os, hf3.tape.trans HB2.out.tape, hf3.output.trans HB2.out.output, Nat.le_trans HB2.out.size hf3.size, fun k hk => (hf3.low k hk).trans (HB2.out.block k hk)⟩
   exact bnext h1 h2)
  clear hw3 hf3 hlen hse HPS HB2 HI2 HI1
  go_wp2_with fail
  refine HSE.out.mono ?_
  rintro e w4 ⟨⟨v4, rfl, ho4⟩, hb4⟩
  have HR := Lib.hid (show RetEn (encO s) w (.returned (.tuple #[v4, .int .i64 0])) w4 by
   rw [HE.out]
   exact ⟨⟨v4, rfl, ho4.mono HB3.out.size⟩, bnext HB3.out hb4⟩)
  clear ho4 hb4 HSE
  go_wp2_with fail
  go_ret2
  exact HR.out
def RetSz (r : Option (List Nat)) (w : World) (e : Ending) (w' : World) : Prop := e = .returned (.tuple #[.int .i64 (((r.getD []).length : Nat) : Int), .int .i64 (erE r)]) ∧ Below w.heap.size w w'
set_option maxRecDepth 100000 in
set_option maxHeartbeats 2000000 in
theorem psize_any (s : ScR) (w : World) (hs : ScWf s) (h : ObjsAt w s.oo s.os) :
  Calls Tryz.prog 14 #[.agg (scC s)] w (RetSz (encO s) w) := by
 have HI := Lib.hid (WrI.new h)
 have hall := Lib.hid (sizeS hs)
 have HC := Lib.hid (pencode_any s _ hs HI.out.ob)
 obtain ⟨V0, hV0⟩ : ∃ V, w.alloc (.cells (scC s) 28) = V := ⟨_, rfl⟩
 rw [hV0] at HI HC
 have HV0 := Lib.hid hV0
 clear h hs hV0
 generalize encO s = r at HC ⊢
 go_enter Tryz.func14, Tryz.ntmps14
 go_wp2_with (first | (rw [HV0.out]) | (with_reducible refine stop_at (some 7) rfl ?_; refine Lib.hid ?_; refine wpList_load_mid rfl 28 (.tmp 1) rfl w.heap.size 0 rfl (scL s) _ HI.out.all Tryz.underlying28 rfl hall.out ?_))
 refine HC.out.mono ?_
 rintro e w1 ⟨⟨v1, rfl, ho⟩, hb⟩
 obtain ⟨o1, c1, rfl, _, _, _, _, _⟩ := ho.open
 have HB := Lib.hid (bnext HI.out.bel hb)
 clear hb HC HV0 ho
 go_wp2_with fail
 go_ret2
 exact ⟨rfl, HB.out⟩
end Go.Proofs.YtbbhmhihpdmoiaaGreat.Fx

set_option linter.unusedVariables false
set_option linter.unusedSimpArgs false
namespace Go.Proofs.YtbbhmhihpdmoiaaGreat.Fx
open Go Go.RowKit
open Go.Proofs.YtbbhmhihpdmoiaaGreat.Pk (PR RdOk By Bs)
theorem FreshS.rows {B : Nat} {c : ScR} {W X : World} (s : FreshS B c W) (hO : Rows 73 W X) (h3 : Rows 85 W X) (h4 : Rows 87 W X) : FreshS B c X :=
 ⟨s.wf, s.objs.rows hO, fun x hx => (s.each x hx).rows h3 h4⟩
end Go.Proofs.YtbbhmhihpdmoiaaGreat.Fx

set_option linter.unusedVariables false
set_option linter.unusedSimpArgs false
namespace Go.Proofs.YtbbhmhihpdmoiaaGreat.Fx
open Go Go.RowKit
open Go.Proofs.YtbbhmhihpdmoiaaGreat.Pk (PR RdOk By Bs)
end Go.Proofs.YtbbhmhihpdmoiaaGreat.Fx

set_option linter.unusedVariables false
set_option linter.unusedSimpArgs false
namespace Go.Proofs.YtbbhmhihpdmoiaaGreat.Fx
open Go Go.RowKit
open Go.Proofs.YtbbhmhihpdmoiaaGreat.Pk (By)
theorem le4_four (n : Nat) : (Cx.le4 n).length = 4 := by simp [Cx.le4]
theorem opened_seal (l : List Nat) : Cx.opened (sealL l) = some l := by
 have hl : (sealL l).length - 4 = l.length := by unfold sealL; rw [List.length_append, le4_four]; omega
 have h4 : 4 ≤ (sealL l).length := by unfold sealL; rw [List.length_append, le4_four]; omega
 have ht : (sealL l).take l.length = l := by unfold sealL; rw [List.take_left]
 have hd : (sealL l).drop l.length = Cx.le4 (Cx.more 0 l) := by unfold sealL; rw [List.drop_left]
 unfold Cx.opened
 rw [hl, ht, hd, if_pos ⟨h4, rfl⟩]
theorem seal_opened {l m : List Nat} (h : Cx.opened l = some m) : sealL m = l := by
 unfold Cx.opened at h
 split at h
 ·rename_i hc
  cases h
  unfold sealL
  rw [← hc.2, List.take_append_drop]
 ·cases h
end Go.Proofs.YtbbhmhihpdmoiaaGreat.Fx

set_option linter.unusedVariables false
set_option linter.unusedSimpArgs false
namespace Go.Proofs.YtbbhmhihpdmoiaaGreat.Fx
open Go Go.RowKit Go.Lib
open Go.Proofs.YtbbhmhihpdmoiaaGreat.Pk (Bs By Own)
end Go.Proofs.YtbbhmhihpdmoiaaGreat.Fx

set_option linter.unusedVariables false
set_option linter.unusedSimpArgs false
namespace Go.Proofs.YtbbhmhihpdmoiaaGreat.Fx
open Go Go.RowKit Go.Lib
open Go.Proofs.YtbbhmhihpdmoiaaGreat.Pk (Bs By cutA)
end Go.Proofs.YtbbhmhihpdmoiaaGreat.Fx

set_option linter.unusedVariables false
set_option linter.unusedSimpArgs false
namespace Go.Proofs.YtbbhmhihpdmoiaaGreat.Fx
open Go Go.RowKit
theorem info19 {s : ScR} (h : ScWf s) : (Tryz.prog.info? 28).map (·.size) = some (scL s).length := by rw [scL_len h]; kernel_rfl
end Go.Proofs.YtbbhmhihpdmoiaaGreat.Fx

set_option linter.unusedVariables false
set_option linter.unusedSimpArgs false
namespace Go.Proofs.YtbbhmhihpdmoiaaGreat.Fx
open Go Go.RowKit Go.Lib
open Go.Proofs.YtbbhmhihpdmoiaaGreat.Pk (Bs By cutA)
structure BkI (s : ScR) (l : List Nat) (o : Option Addr) (w W : World) : Prop where
 box : ScAt w.heap.size s W
 oa : ObjsAt W s.oo s.os
 bs : Bs W o l
 bel : Below w.heap.size w W
theorem BkI.up {s : ScR} {l : List Nat} {o : Option Addr} {w W X : World} (i : BkI s l o w W) (h : Below W.heap.size W X) : BkI s l o w X := ⟨i.box.below h, i.oa.below h, i.bs.below h, bnext i.bel h⟩
end Go.Proofs.YtbbhmhihpdmoiaaGreat.Fx

set_option linter.unusedVariables false
set_option linter.unusedSimpArgs false
namespace Go.Proofs.YtbbhmhihpdmoiaaGreat.Fx
open Go Go.RowKit Go.Lib
open Go.Proofs.YtbbhmhihpdmoiaaGreat.Pk (Bs By PW PCall Turn)
structure JoI (p : Nat) (l : List Nat) (w W : World) : Prop where
 wr : WSt p l W
 bel : Below p w W
 lt : p < W.heap.size
theorem JoI.up {p : Nat} {l : List Nat} {w W X : World} (i : JoI p l w W) (h : Below W.heap.size W X) : JoI p l w X :=
 ⟨i.wr.below h, i.bel.trans ⟨h.os, h.tape, h.output, h.size, fun k hk => h.block k (by have := i.lt; omega)⟩, Nat.lt_of_lt_of_le i.lt h.size⟩
theorem JoI.post {p : Nat} {l l' : List Nat} {w W X : World} {e : Ending} (i : JoI p l w W) (h : WPost p l' W e X) : JoI p l' w X :=
 ⟨h.2.1, i.bel.trans h.2.2.below, h.2.1.lt⟩
end Go.Proofs.YtbbhmhihpdmoiaaGreat.Fx

set_option linter.unusedVariables false
set_option linter.unusedSimpArgs false
namespace Go.Proofs.YtbbhmhihpdmoiaaGreat.Fx
open Go Go.RowKit Go.Lib
open Go.Proofs.YtbbhmhihpdmoiaaGreat.Pk (form fold)
def ZSt (p : Nat) (l : List Nat) (W : World) : Prop := Pk.ZW 0 p l false W
def ZPost (p : Nat) (l : List Nat) (w : World) (e : Ending) (w' : World) : Prop := e = .returned undef ∧ ZSt p l w' ∧ w.grownBy w' (some p)
theorem zi_any (p : Nat) (z : Int) (l : List Nat) (w : World) (hz : Num z) (hl : l.length ≤ 100000000) (h : ZSt p l w) : Calls Tryz.prog 37 #[.pointer (some ⟨p, 0, none⟩), .int .i64 z] w (ZPost p (l ++ fI z) w) :=
 Pk.zint_any 0 p z l false w (Nat.zero_le _) hz.1 hz.2 hl h
theorem zu_any (p n : Nat) (l : List Nat) (w : World) (hn : n < 18446744073709551616) (hl : l.length ≤ 100000000) (h : ZSt p l w) : Calls Tryz.prog 38 #[.pointer (some ⟨p, 0, none⟩), .int .u64 (n : Int)] w (ZPost p (l ++ form n) w) :=
 Pk.zuint_any 0 p n l false w (Nat.zero_le _) hn hl h
theorem zs_any (p : Nat) (n most : Int) (l : List Nat) (w : World) (h0 : 0 ≤ n) (h1 : n ≤ most) (hm : most ≤ 9223372036854775807) (hl : l.length ≤ 100000000) (h : ZSt p l w) : Calls Tryz.prog 35 #[.pointer (some ⟨p, 0, none⟩), .int .i64 n, .int .i64 most] w (ZPost p (l ++ fU n) w) := by
 have := Pk.zsmall_any 0 p n most l false w (Nat.zero_le _) (by omega) (by omega) hl h
 have e : Pk.mayB n most = true := decide_eq_true ⟨h0, h1⟩
 rw [e] at this
 exact this
theorem ZSt.lt {p : Nat} {l : List Nat} {W : World} (h : ZSt p l W) : p < W.heap.size := Pk.ZW.lt h
theorem ZSt.below {p : Nat} {l : List Nat} {W X : World} (h : ZSt p l W) (hb : Below W.heap.size W X) : ZSt p l X := Pk.ZW.below h hb
structure ZmI (p : Nat) (m : List Int) (l : List Nat) (w W : World) : Prop where
 box : W.rangeAt w.heap.size 0 (m.map encI)
 wr : ZSt p l W
 gr : w.grownBy W (some p)
theorem ZmI.step {p : Nat} {m : List Int} {l l' : List Nat} {w W X : World} {e : Ending} (i : ZmI p m l w W) (hp : p < w.heap.size) (h : ZPost p l' W e X) : ZmI p m l' w X :=
 ⟨fun j v hj => h.2.2.cell (i.box j v hj) (fun e => by have : w.heap.size = p := Option.some.inj e; omega), h.2.1, i.gr.trans h.2.2⟩
set_option maxRecDepth 100000 in
set_option maxHeartbeats 4000000 in
theorem zmat_any (p : Nat) (m : List Int) (l : List Nat) (w : World) (hm : dNums 16 m) (hl : l.length ≤ 10000000) (h : ZSt p l w) :
  Calls Tryz.prog 36 #[.pointer (some ⟨p, 0, none⟩), .agg (mC m)] w (ZPost p (l ++ fNums m) w) := by
 obtain ⟨V0, hV0⟩ : ∃ V, w.alloc (.cells (mC m) 25) = V := ⟨_, rfl⟩
 have hb0 : Below w.heap.size w V0 := by rw [← hV0]; exact (Below.refl _ w).alloc (Nat.le_refl _) _
 have hr0 : V0.heap[w.heap.size]? = some (.cells (mC m) 25 (0, 0)) := by rw [← hV0]; exact heap_alloc_new _ _
 have HI := Lib.hid (show ZmI p m l w V0 from ⟨fun j v hj => by rw [cell_of_row _ _ _ _ _ _ hr0, Nat.zero_add]; simpa [mC] using hj, h.below hb0, Pk.below_grown hb0 (some p)⟩)
 have HV0 := Lib.hid hV0
 have HP := Lib.hid h.lt
 have HM := Lib.hid hm
 have HL := Lib.hid hl
 clear hb0 hr0 hV0 h hm hl
 go_enter Tryz.func36, Tryz.ntmps36
 go_wp2_with (rw [HV0.out])
 clear HV0
 go_loopg [4] 16 (fun g s4 wx => ∃ k : Nat, g = 16 - k ∧ s4 = .int .i64 (k : Int) ∧ k ≤ 16 ∧ ZmI p m (l ++ fNums (m.take k)) w wx)
 case atStart => exact ⟨0, rfl, rfl, by omega, by have := HI.out; simpa [fNums] using this⟩
 case round =>
  obtain ⟨k, rfl, rfl, hk, hi⟩ := hrel
  have HJ := Lib.hid hi
  clear hi HI
  have k0 : (0 : Int) ≤ (k : Int) := by omega
  by_cases hk16 : k < 16
  ·have t2 : (k : Int) < 16 := by omega
   obtain ⟨z, hz⟩ : ∃ z, m[k]? = some z := ⟨_, List.getElem?_eq_getElem (by rw [HM.out.1]; exact hk16)⟩
   obtain ⟨i, hi⟩ : ∃ i, k / 4 = i := ⟨_, rfl⟩
   obtain ⟨r, hr⟩ : ∃ r, k % 4 = r := ⟨_, rfl⟩
   have hir : i * 4 + r = k := by omega
   have i0 : (0 : Int) ≤ (i : Int) := by omega
   have i4 : (i : Int) < 4 := by omega
   have r0 : (0 : Int) ≤ (r : Int) := by omega
   have r4 : (r : Int) < 4 := by omega
   have e1 : (k : Int).tdiv 4 = (i : Int) := by rw [Int.tdiv_eq_ediv_of_nonneg (by omega)]; omega
   have e2 : (k : Int).tmod 4 = (r : Int) := by rw [Int.tmod_eq_emod_of_nonneg (by omega)]; omega
   have e3 : (k : Int) / 4 = (i : Int) := by omega
   have e4 : (k : Int) % 4 = (r : Int) := by omega
   have c0 : wr.cell? ⟨w.heap.size, i * 4 + r, none⟩ = some (.int .i64 z) := by
    have := HJ.out.box k (encI z) (by rw [List.getElem?_map, hz]; rfl)
    rw [Nat.zero_add, ← hir] at this
    exact this
   have hl9 : (l ++ fNums (m.take k)).length ≤ 100000000 := by
    have h1 := fNums_len (m.take k)
    have h2 : (m.take k).length ≤ 16 := by rw [List.length_take]; omega
    have := HL.out
    rw [List.length_append]
    omega
   have HC := Lib.hid (zi_any p z _ wr (HM.out.2 z (List.mem_of_getElem? hz)) hl9 HJ.out.wr)
   have HS : Hid (l ++ fNums (m.take (k + 1)) = l ++ fNums (m.take k) ++ fI z) := Lib.hid (by
    unfold fNums
    rw [List.take_add_one, hz, List.flatMap_append, List.append_assoc]
    simp)
   clear hz hi hr hir hl9
   go_wp2_with fail
   refine HC.out.mono ?_
   rintro e w2 hp2
   obtain rfl := hp2.1
   have HN : Hid (ZmI p m (l ++ fNums (m.take (k + 1))) w w2) := Lib.hid (by rw [HS.out]; exact HJ.out.step HP.out hp2)
   clear hp2 HC
   go_wp2_with fail
   go_roundg (16 - (k + 1))
   case measure => omega
   case rel => exact ⟨k + 1, rfl, by go_num, by omega, HN.out⟩
  ·obtain rfl : k = 16 := by omega
   have t2 : ¬ ((16 : Nat) : Int) < 16 := by omega
   have HE : Hid (ZPost p (l ++ fNums m) w (.returned undef) wr) := Lib.hid (by
    have := HJ.out.wr
    rw [List.take_of_length_le (by rw [HM.out.1]; omega)] at this
    exact ⟨rfl, this, HJ.out.gr⟩)
   clear HJ
   go_wp2_with fail
   exact bodyPost_ret (results_none rfl _ _ _) rfl HE.out
end Go.Proofs.YtbbhmhihpdmoiaaGreat.Fx

set_option linter.unusedVariables false
set_option linter.unusedSimpArgs false
namespace Go.Proofs.YtbbhmhihpdmoiaaGreat.Fx
open Go Go.RowKit
open Go.Proofs.YtbbhmhihpdmoiaaGreat.Pk (PR RdOk Bs By)
structure TxR where
 o : Option Addr
 c : Nat
 l : List Nat
structure TxEl (x : TxR) (W : World) : Prop where
 own : Pk.Own W 0 (.slice x.o x.l.length x.c) x.l
 lt : ∀ b off, x.o = some ⟨b, off, none⟩ → b < W.heap.size
theorem own_rows {W X : World} {B : Nat} {v : Value} {l : List Nat} (h : Pk.Own W B v l) (hr : Rows 5 W X) : Pk.Own X B v l := by
 obtain ⟨h1, h2⟩ := h
 refine ⟨h1, ?_⟩
 rcases h2 with h2 | ⟨g, cap, cur, e, hb, hg, h3⟩
 ·exact .inl h2
 ·exact .inr ⟨g, cap, cur, e, hb, hr g cur hg, h3⟩
theorem TxEl.rows {x : TxR} {W X : World} (h : TxEl x W) (hr : Rows 5 W X) : TxEl x X := by
 have h1 := own_rows h.own hr
 refine ⟨h1, fun b off e => ?_⟩
 obtain ⟨o, c, e2, _, _, _, _, hf⟩ := h1.open
 cases e2
 obtain ⟨g, e3, _, h4, _⟩ := hf _ e
 cases e3
 exact h4
theorem TxEl.bs {x : TxR} {W : World} (h : TxEl x W) : Bs W x.o x.l ∧ x.l.length ≤ x.c ∧ x.c ≤ 9223372036854775807 := by
 obtain ⟨o, c, e2, h1, h2, h3, _, _⟩ := h.own.open
 cases e2
 exact ⟨h1, h2, h3⟩
section
variable {t : TypeId} {n : Nat}
end
end Go.Proofs.YtbbhmhihpdmoiaaGreat.Fx

set_option linter.unusedVariables false
set_option linter.unusedSimpArgs false
namespace Go.Proofs.YtbbhmhihpdmoiaaGreat.Fx
open Go Go.RowKit
open Go.Proofs.YtbbhmhihpdmoiaaGreat.Pk (PR RdOk Bs)
end Go.Proofs.YtbbhmhihpdmoiaaGreat.Fx

set_option linter.unusedVariables false
set_option linter.unusedSimpArgs false
namespace Go.Proofs.YtbbhmhihpdmoiaaGreat.Cx
open Go Go.RowKit
def num : List Nat → Nat
 | [] => 0
 | c :: l => c + 256 * num l
theorem add_xor (a b i : Nat) (hb : b < 2 ^ i) : b + 2 ^ i * a = b ^^^ 2 ^ i * a := by
 apply Nat.eq_of_testBit_eq
 intro j
 rw [Nat.add_comm, Nat.testBit_two_pow_mul_add a hb, Nat.testBit_xor, Nat.testBit_two_pow_mul]
 by_cases h : j < i
 ·have : ¬ i ≤ j := by omega
  simp [h, this]
 ·have h2 : b.testBit j = false := Nat.testBit_lt_two_pow (Nat.lt_of_lt_of_le hb (Nat.pow_le_pow_right (by omega) (by omega)))
  have : i ≤ j := by omega
  simp [h, h2, this]
theorem mul_xor (i a b : Nat) : 2 ^ i * (a ^^^ b) = 2 ^ i * a ^^^ 2 ^ i * b := by
 apply Nat.eq_of_testBit_eq
 intro j
 rw [Nat.testBit_xor, Nat.testBit_two_pow_mul, Nat.testBit_two_pow_mul, Nat.testBit_two_pow_mul, Nat.testBit_xor]
 by_cases h : i ≤ j <;> simp [h]
theorem it_shift (k m : Nat) : it k (2 ^ k * m) = m := by
 induction k with
 | zero => simp [it]
 | succ k ih =>
  simp only [it]
  rw [show 2 ^ (k + 1) * m = 2 * (2 ^ k * m) by rw [Nat.pow_succ, Nat.mul_comm (2 ^ k) 2, Nat.mul_assoc], sh_double, ih]
theorem By.tail {c : Nat} {l : List Nat} (h : By (c :: l)) : By l := fun d hd => h d (List.mem_cons_of_mem _ hd)
theorem By.head {c : Nat} {l : List Nat} (h : By (c :: l)) : c < 256 := h c (List.mem_cons_self ..)
theorem num_cons {c : Nat} {l : List Nat} (h : c < 256) : num (c :: l) = c ^^^ 2 ^ 8 * num l := add_xor (num l) c 8 h
theorem reg_num {l : List Nat} (h : By l) (x : Nat) : reg l x = it (8 * l.length) (x ^^^ num l) := by
 induction l generalizing x with
 | nil => simp [reg, num, it]
 | cons c l ih =>
  rw [reg_cons, ih h.tail, num_cons h.head, List.length_cons, show 8 * (l.length + 1) = 8 + 8 * l.length by omega, it_add, ← Nat.xor_assoc, it_xor 8 (x ^^^ c) (2 ^ 8 * num l), it_shift]
theorem num_lt {l : List Nat} (h : By l) : num l < 2 ^ (8 * l.length) := by
 induction l with
 | nil => simp [num]
 | cons c l ih =>
  have a := ih h.tail
  have b := h.head
  rw [num, List.length_cons, show 8 * (l.length + 1) = 8 + 8 * l.length by omega, Nat.pow_add]
  generalize 2 ^ (8 * l.length) = P at *
  omega
theorem num_set {l : List Nat} (h : By l) (j b : Nat) (hj : j < l.length) (hb : b < 256) : num (l.set j (l.getD j 0 ^^^ b)) = num l ^^^ 2 ^ (8 * j) * b := by
 induction l generalizing j with
 | nil => simp at hj
 | cons c l ih =>
  have hc := h.head
  cases j with
  | zero =>
   have hx : c ^^^ b < 256 := Nat.xor_lt_two_pow (n := 8) hc hb
   show num ((c ^^^ b) :: l) = _
   rw [num_cons hx, num_cons hc, Nat.mul_zero, Nat.pow_zero, Nat.one_mul, Nat.xor_assoc, Nat.xor_comm b, ← Nat.xor_assoc]
  | succ j =>
   show num (c :: l.set j (l.getD j 0 ^^^ b)) = _
   rw [num_cons hc, num_cons hc, ih h.tail j (by simpa using hj), mul_xor, Nat.xor_assoc, ← Nat.mul_assoc, ← Nat.pow_add, show 8 + 8 * j = 8 * (j + 1) by omega]
theorem num_inj : ∀ {l m : List Nat}, By l → By m → l.length = m.length → num l = num m → l = m
 | [], [], _, _, _, _ => rfl
 | c :: l, d :: m, h1, h2, hl, hn => by
  have a := h1.head
  have b := h2.head
  simp only [num] at hn
  have e1 : c = d := by omega
  have e2 : num l = num m := by omega
  rw [e1, num_inj h1.tail h2.tail (by simpa using hl) e2]
 | [], _ :: _, _, _, h, _ => by simp at h
 | _ :: _, [], _, _, h, _ => by simp at h
theorem it_inj {k a b : Nat} (ha : a < 4294967296) (hb : b < 4294967296) (h : it k a = it k b) : a = b := by
 apply xor_eq_zero
 apply it_eq_zero k (xor_lt ha hb)
 rw [it_xor, h, Nat.xor_self]
theorem ones_lt : ones < 4294967296 := by rw [ones_eq]; omega
theorem more_ones (l : List Nat) : more 0 l = reg l ones ^^^ ones := by
 unfold more
 rw [show nt 0 = ones by decide]
 rfl
theorem num4 (c0 c1 c2 c3 : Nat) : num [c0, c1, c2, c3] = c0 + 256 * c1 + 65536 * c2 + 16777216 * c3 := by
 simp only [num]
 omega
theorem sealed_reg {t : List Nat} {c0 c1 c2 c3 : Nat} (h : By (t ++ [c0, c1, c2, c3])) : [c0, c1, c2, c3] = le4 (more 0 t) ↔ reg (t ++ [c0, c1, c2, c3]) ones = it 32 ones := by
 have ht : By t := fun c hc => h c (List.mem_append_left _ hc)
 have h4 : By [c0, c1, c2, c3] := fun c hc => h c (List.mem_append_right _ hc)
 have k0 := h4 c0 (by simp)
 have k1 := h4 c1 (by simp)
 have k2 := h4 c2 (by simp)
 have k3 := h4 c3 (by simp)
 have hr := reg_lt ht ones_lt
 rw [← le4_val k0 k1 k2 k3 (more_lt ht (by omega)), ← num4, reg_append, reg_num h4, more_ones]
 have hn : num [c0, c1, c2, c3] < 4294967296 := by have := num_lt h4; simpa using this
 generalize num [c0, c1, c2, c3] = z at *
 generalize reg t ones = r at *
 constructor
 ·intro e
  rw [e, xor_twice]
  rfl
 ·intro e
  have := it_inj (xor_lt hr hn) ones_lt e
  rw [← this, xor_twice]
def cut (mask frm i T : Nat) : Nat := mask % 2 ^ (min i (T - frm))
theorem cut_lt {mask : Nat} (frm i T : Nat) (h : mask < 4294967296) : cut mask frm i T < 4294967296 := Nat.lt_of_le_of_lt (Nat.mod_le _ _) h
theorem cut_past {mask frm i T : Nat} (h : T ≤ frm + i) : cut mask frm (i + 1) T = cut mask frm i T := by
 unfold cut
 rw [show min (i + 1) (T - frm) = min i (T - frm) by omega]
theorem cut_in {mask frm i T : Nat} (h : frm + i < T) : cut mask frm (i + 1) T = cut mask frm i T + (if mask / 2 ^ i % 2 = 1 then 2 ^ i else 0) := by
 unfold cut
 rw [show min (i + 1) (T - frm) = i + 1 by omega, show min i (T - frm) = i by omega, mod_bit_add]
theorem cut_off {mask frm i T : Nat} (h : ¬ mask / 2 ^ i % 2 = 1) : cut mask frm (i + 1) T = cut mask frm i T := by
 by_cases hT : frm + i < T
 ·rw [cut_in hT, if_neg h, Nat.add_zero]
 ·exact cut_past (by omega)
theorem cut_bit {mask frm i T : Nat} (h : frm + i < T) (hb : mask / 2 ^ i % 2 = 1) : cut mask frm (i + 1) T ≠ 0 ∧ 2 ^ frm * cut mask frm i T ^^^ 2 ^ (frm + i) = 2 ^ frm * cut mask frm (i + 1) T := by
 rw [cut_in h, if_pos hb]
 have hp : 0 < 2 ^ i := Nat.pow_pos (by omega)
 refine ⟨by omega, ?_⟩
 have hlt : cut mask frm i T < 2 ^ i := by
  unfold cut
  rw [show min i (T - frm) = i by omega]
  exact Nat.mod_lt _ hp
 have := add_xor 1 (cut mask frm i T) i hlt
 rw [Nat.mul_one] at this
 rw [this, mul_xor, Nat.pow_add]
theorem burst_open {b s' : List Nat} {m frm : Nat} (hb : By b) (hs : By s') (hl : s'.length = b.length + 4) (hf : frm ≤ 8 * (b.length + 4)) (hm : m < 4294967296)
  (hn : num s' = num (b ++ le4 (more 0 b)) ^^^ 2 ^ frm * m) : opened s' = if m = 0 then some b else none := by
 have hbs : By (b ++ le4 (more 0 b)) := hb.append (le4_by _)
 have hle : (b ++ le4 (more 0 b)).length = b.length + 4 := by rw [List.length_append]; rfl
 have r1 : reg (b ++ le4 (more 0 b)) ones = it 32 ones := (sealed_reg (t := b) hbs).1 rfl
 have r2 : reg s' ones = it 32 ones ^^^ it (8 * (b.length + 4) - frm) m := by
  rw [reg_num hs, hl, hn, ← Nat.xor_assoc, it_xor, ← hle, ← reg_num hbs, r1, hle]
  congr 1
  rw [show 8 * (b.length + 4) = frm + (8 * (b.length + 4) - frm) by omega, it_add, it_shift]
  congr 1
  omega
 have hf4 := four_of hl
 rw [opened_long hf4]
 have hs4 := hs
 rw [hf4] at hs4
 have key := sealed_reg hs4
 rw [← hf4, r2] at key
 by_cases h0 : m = 0
 ·rw [if_pos h0]
  subst h0
  rw [it_zero, Nat.xor_zero] at key
  rw [Nat.mul_zero, Nat.xor_zero] at hn
  have he := num_inj hs hbs (hl.trans hle.symm) hn
  rw [if_pos (by rw [key.2 rfl]; exact beq_self_eq_true _), he, List.take_left]
 ·rw [if_neg h0, if_neg]
  intro h
  have e := key.1 (by simpa using h)
  apply h0
  apply it_eq_zero (8 * (b.length + 4) - frm) hm
  have : it 32 ones ^^^ (it 32 ones ^^^ it (8 * (b.length + 4) - frm) m) = it 32 ones ^^^ it 32 ones := by rw [e]
  rwa [xor_twice, Nat.xor_self] at this
end Go.Proofs.YtbbhmhihpdmoiaaGreat.Cx
