import Derived.Laws.Rows
import Derived.Test.YtbbhmhihpdmoiaaGreatProg
import Derived.WalkKit
import Derived.Lib.Hide
import Derived.Outline
import Derived.Deep.LoopGhost
import Derived.Deep.QuietTactic
import Derived.BigQuiet
import Derived.Test.YtbbhmhihpdmoiaaGreatMv28
import Derived.Test.YtbbhmhihpdmoiaaGreatMv29
import Derived.Test.YtbbhmhihpdmoiaaGreatMv38
import Derived.Test.YtbbhmhihpdmoiaaGreatMv39
import Derived.Test.YtbbhmhihpdmoiaaGreatMv40
set_option linter.unusedVariables false
set_option linter.unusedSimpArgs false
namespace Go.Proofs.YtbbhmhihpdmoiaaGreat.Fx
open Go Go.RowKit Go.Lib
theorem ownG_empty {α : Type} (t : TypeId) (n : Nat) (f : α → List Value) (W : World) : OwnG t n f (W.alloc (.cells #[] t)) W.heap.size (.slice (some ⟨W.heap.size, 0, none⟩) 0 0) [] :=
 ⟨by simp, .inr ⟨W.heap.size, 0, #[], rfl, Nat.le_refl _, heap_alloc_new _ _, Nat.le_refl _, by unfold maxLen; omega, by simp, by simp⟩⟩
structure TwS (s : ScR) (v : Value) (l : List ObjR) (w W : World) : Prop where
 box : ScAt w.heap.size s W
 res : W.heap[w.heap.size + 1]? = some (.cells #[.int .i64 0, .int .i64 0, .int .i64 0, .int .i64 0, .int .i64 0, .int .i64 0, .int .i64 0, .int .i64 0, .int .i64 0, .int .i64 0, .int .i64 0, .int .i64 0, .int .i64 0, .int .i64 0, .int .i64 0, .int .i64 0, .int .i64 0, .int .i64 0, .slice none 0 0] 28 (0, 0))
 twin : W.heap[w.heap.size + 1 + 1]? = some (.cells (twL s v).toArray 28 (0, 0))
 own : OwnG 73 19 objL W (w.heap.size + 1 + 1 + 1) v l
 each : ∀ x ∈ l, FreshO (w.heap.size + 1 + 1 + 1) x W
 below : Below w.heap.size w W
theorem TwS.up {s : ScR} {v : Value} {l : List ObjR} {w W X : World} (h : Below W.heap.size W X) (i : TwS s v l w W) : TwS s v l w X :=
 ⟨i.box.below h, keep_row h i.res, keep_row h i.twin, i.own.below h, fun x hx => (i.each x hx).rows (Rows.of_below h) (Rows.of_below h), bnext i.below h⟩
theorem TwS.lt {s : ScR} {v : Value} {l : List ObjR} {w W : World} (i : TwS s v l w W) : w.heap.size + 1 + 1 < W.heap.size := (Array.getElem?_eq_some_iff.1 i.twin).1
theorem TwS.put {s : ScR} {v u : Value} {l : List ObjR} {w W : World} {b j : Nat} {c : Array Value} (i : TwS s v l w W) (hb : w.heap.size + 1 + 1 < b) (ho : v.ownBlock ≠ some b) (hr : W.heap[b]? = some (.cells c 73 (0, 0))) : TwS s v l w (W.setCell ⟨b, j, none⟩ u) := by
 have keep : ∀ {g : Nat} {o : Obj}, g < b → W.heap[g]? = some o → (W.setCell ⟨b, j, none⟩ u).heap[g]? = some o := fun hlt h => by
  rw [heap_setCell_other _ _ _ _ (by show _ ≠ b; omega)]
  exact h
 exact ⟨keep (by omega) i.box, keep (by omega) i.res, keep (by omega) i.twin, i.own.cellset ho,
  fun x hx => (i.each x hx).rows (Rows.of_set hr (by decide)) (Rows.of_set hr (by decide)), i.below.setCell (p := ⟨b, j, none⟩) (by show _ ≤ b; omega) _⟩
theorem TwS.step {s : ScR} {v v' : Value} {l l' : List ObjR} {w W X : World} (hs : ScWf s) (i : TwS s v l w W) (ho : OwnG 73 19 objL X (w.heap.size + 1 + 1 + 1) v' l') (hg : W.grownBy X v.ownBlock) (he : ∀ x ∈ l', FreshO (w.heap.size + 1 + 1 + 1) x W) :
  X.heap[w.heap.size + 1 + 1]? = some (.cells (twL s v).toArray 28 (0, 0)) ∧ TwS s v' l' w (X.setCell ⟨w.heap.size + 1 + 1, 18, none⟩ v') := by
 have hb := i.own.blk
 have keep : ∀ {g : Nat} {o : Obj}, g < w.heap.size + 1 + 1 + 1 → W.heap[g]? = some o → X.heap[g]? = some o := fun hlt h => by
  rw [hg.block _ (Array.getElem?_eq_some_iff.1 h).1 (fun e => by have := hb _ e.symm; omega)]
  exact h
 have k2 : ∀ {g : Nat} {o : Obj}, g ≠ w.heap.size + 1 + 1 → g < w.heap.size + 1 + 1 + 1 → W.heap[g]? = some o → (X.setCell ⟨w.heap.size + 1 + 1, 18, none⟩ v').heap[g]? = some o := fun hne hlt h => by
  rw [heap_setCell_other _ _ _ _ hne]
  exact keep hlt h
 have ht := keep (by omega) i.twin
 refine ⟨ht, k2 (by omega) (by omega) i.box, k2 (by omega) (by omega) i.res, ?_, ho.cellset (fun e => by have := ho.blk _ e; omega), fun x hx => ?_, ?_⟩
 ·rw [heap_setCell_same _ _ 18 _ _ v' ht, twL_set hs]
 ·have h1 : ∀ {t : TypeId}, t ≠ 73 → t ≠ 28 → Rows t W (X.setCell ⟨w.heap.size + 1 + 1, 18, none⟩ v') := fun n1 n2 => (Rows.of_grown hg (fun k hk => i.own.row k hk) n1).trans (Rows.of_set ht n2)
  exact (he x hx).rows (h1 (by decide) (by decide)) (h1 (by decide) (by decide))
 ·exact (below_grown2 (Nat.le_refl _) i.below hg (fun k hk => by have := hb k hk; omega)).setCell (p := ⟨w.heap.size + 1 + 1, 18, none⟩) (by show _ ≤ w.heap.size + 1 + 1; omega) _
def RetTw (s : ScR) (w : World) (e : Ending) (w' : World) : Prop := ∃ c : ScR, e = .returned (.agg (scC c)) ∧ keyS c = keyS s ∧ FreshS w.heap.size c w' ∧ Below w.heap.size w w'
set_option maxRecDepth 100000 in
set_option maxHeartbeats 16000000 in
theorem twin7_any (s : ScR) (w : World) (hs : ScWf s) (h : ObjsAt w s.oo s.os) (hf : s.os.length ≤ 1000) (hfe : ∀ x ∈ s.os, x.vs.length ≤ 1000 ∧ x.ts.length ≤ 1000) :
  Calls Tryz.prog 11 #[.agg (scC s)] w (RetTw s w) := by
 obtain ⟨A1, hA1⟩ : ∃ V, (w.alloc (.cells (scC s) 28)).alloc (.cells #[.int .i64 0, .int .i64 0, .int .i64 0, .int .i64 0, .int .i64 0, .int .i64 0, .int .i64 0, .int .i64 0, .int .i64 0, .int .i64 0, .int .i64 0, .int .i64 0, .int .i64 0, .int .i64 0, .int .i64 0, .int .i64 0, .int .i64 0, .int .i64 0, .slice none 0 0] 28) = V := ⟨_, rfl⟩
 obtain ⟨A2, hA2⟩ : ∃ V, A1.alloc (.cells #[.int .i64 0, .int .i64 0, .int .i64 0, .int .i64 0, .int .i64 0, .int .i64 0, .int .i64 0, .int .i64 0, .int .i64 0, .int .i64 0, .int .i64 0, .int .i64 0, .int .i64 0, .int .i64 0, .int .i64 0, .int .i64 0, .int .i64 0, .int .i64 0, .slice none 0 0] 28) = V := ⟨_, rfl⟩
 obtain ⟨A3, hA3⟩ : ∃ V, A2.setRow (w.heap.size + 1 + 1) (scC s) = V := ⟨_, rfl⟩
 obtain ⟨A4, hA4⟩ : ∃ V, A3.setCell ⟨w.heap.size + 1 + 1, 18, none⟩ (.slice none 0 0) = V := ⟨_, rfl⟩
 have z1 : A1.heap.size = w.heap.size + 1 + 1 := by rw [← hA1]; simp
 have z2 : A2.heap.size = w.heap.size + 1 + 1 + 1 := by rw [← hA2, World.size_alloc, z1]
 have b1 : Below w.heap.size w A1 := by rw [← hA1]; exact ((Below.refl _ w).alloc (Nat.le_refl _) _).alloc (by simp) _
 have r1 : ScAt w.heap.size s A1 := by rw [← hA1]; exact step_row (ScAt.new w s)
 have r2 : RowAt 28 (w.heap.size + 1) #[.int .i64 0, .int .i64 0, .int .i64 0, .int .i64 0, .int .i64 0, .int .i64 0, .int .i64 0, .int .i64 0, .int .i64 0, .int .i64 0, .int .i64 0, .int .i64 0, .int .i64 0, .int .i64 0, .int .i64 0, .int .i64 0, .int .i64 0, .int .i64 0, .slice none 0 0] A1 := by
  rw [← hA1]
  have := RowAt.new (w.alloc (.cells (scC s) 28)) 28 #[.int .i64 0, .int .i64 0, .int .i64 0, .int .i64 0, .int .i64 0, .int .i64 0, .int .i64 0, .int .i64 0, .int .i64 0, .int .i64 0, .int .i64 0, .int .i64 0, .int .i64 0, .int .i64 0, .int .i64 0, .int .i64 0, .int .i64 0, .int .i64 0, .slice none 0 0]
  rw [World.size_alloc] at this
  exact this
 have b2 : Below A1.heap.size A1 A2 := by rw [← hA2]; exact (Below.refl _ A1).alloc (Nat.le_refl _) _
 have r3 : RowAt 28 (w.heap.size + 1 + 1) #[.int .i64 0, .int .i64 0, .int .i64 0, .int .i64 0, .int .i64 0, .int .i64 0, .int .i64 0, .int .i64 0, .int .i64 0, .int .i64 0, .int .i64 0, .int .i64 0, .int .i64 0, .int .i64 0, .int .i64 0, .int .i64 0, .int .i64 0, .int .i64 0, .slice none 0 0] A2 := by
  rw [← hA2, ← z1]
  exact RowAt.new A1 _ _
 have b3 : Below A1.heap.size A1 A3 := by rw [← hA3]; exact Below.row b2 (by omega) _
 have r4 : RowAt 28 (w.heap.size + 1 + 1) (twL s (.slice s.oo s.os.length s.oc)).toArray A3 := by rw [← hA3]; exact r3.row _
 have b4 : Below A1.heap.size A1 A4 := by rw [← hA4]; exact b3.setCell (p := ⟨w.heap.size + 1 + 1, 18, none⟩) (by show _ ≤ w.heap.size + 1 + 1; omega) _
 have r5 : A4.heap[w.heap.size + 1 + 1]? = some (.cells (twL s (.slice none 0 0)).toArray 28 (0, 0)) := by
  rw [← hA4, heap_setCell_same _ _ 18 _ _ (.slice none 0 0) r4, twL_set hs]
 have q18 : A3.cell? ⟨w.heap.size + 1 + 1, 18, none⟩ = some (.slice s.oo s.os.length s.oc) := by rw [cell_of_row _ _ _ _ _ _ r4]; exact twL_at hs _
 have f18 : A3.frozen? ⟨w.heap.size + 1 + 1, 18, none⟩ = false := frozen_row r4
 have F0 : TwS s (.slice none 0 0) [] w A4 := ⟨r1.below b4, keep_row b4 r2, r5, OwnG.nil _ _ _ _ _, fun x hx => by simp at hx, bnext b1 b4⟩
 have HF0 := Lib.hid F0
 obtain ⟨n, hn⟩ : ∃ n, s.os.length = n := ⟨_, rfl⟩
 obtain ⟨oo, hoo⟩ : ∃ o, s.oo = o := ⟨_, rfl⟩
 have HOO := Lib.hid hoo
 have c18 : A4.cell? ⟨w.heap.size, 18, none⟩ = some (.slice oo n s.oc) := by rw [F0.box.c18 hs, hn, hoo]
 have hcap := hs.cap.1
 rw [hn] at hcap hf q18
 have HZ1 := Lib.hid z1
 have HA1 := Lib.hid hA1
 have HA2 := Lib.hid hA2
 have HA3 := Lib.hid hA3
 have HA4 := Lib.hid hA4
 have HOB := Lib.hid h
 have HSW := Lib.hid hs
 have HFE := Lib.hid hfe
 have HNN := Lib.hid hn
 have HXS := Lib.hid (show A1.rangeAt w.heap.size 0 (scL s) from fun j u hj => by rw [Nat.zero_add]; exact r1.at.trans hj)
 have HR3 := Lib.hid r3
 have hall := Lib.hid (sizeS hs)
 have hsz := Lib.hid (sizeZ s hs (.slice s.oo s.os.length s.oc))
 have hl19 := Lib.hid (show 19 = (scC s).size from (twL_len hs (.slice s.oo s.os.length s.oc)).symm)
 have hone := Lib.hid (show (scC s).all (·.oneCell') = true from twL_one s (.slice s.oo s.os.length s.oc) rfl)
 have n0 : (0 : Int) ≤ (n : Int) := by omega
 have n1 : (n : Int) ≤ 1000 := by omega
 clear F0 b4 b3 b2 b1 r1 r2 r3 r4 r5 z1 z2 hA1 hA2 hA3 hA4 h hs hfe hn hoo
 go_enter Tryz.func11, Tryz.ntmps11
 go_wp2_with (first | (rw [HA1.out]) | (rw [HZ1.out]) | (rw [HA2.out]) | (rw [HA3.out]) | (rw [HA4.out]) | (with_reducible refine stop_at (some 6) rfl ?_; refine Lib.hid ?_; refine wpList_load_mid rfl 28 (.tmp 1) rfl w.heap.size 0 rfl (scL s) _ HXS.out Tryz.underlying28 rfl hall.out ?_) | (refine wpList_store_big rfl 28 (.tmp 3) (.tmp 6) rfl (w.heap.size + 1 + 1) _ _ (scC s) rfl rfl HR3.out hsz.out hl19.out hone.out ?_))
 clear q18 f18 c18 HA1 HA2 HA3 HA4 HZ1 HXS HR3 hall hl19 hone
 go_loopg [11] n (fun g s11 wx => ∃ (k : Nat) (v : Value) (l : List ObjR), g = n - k ∧ s11 = .int .i64 (k : Int) ∧ k ≤ n ∧ TwS s v l w wx ∧ l.map keyO = (s.os.take k).map keyO)
 case atStart => exact ⟨0, _, [], rfl, rfl, by omega, HF0.out, rfl⟩
 case round =>
  obtain ⟨k, v, l, rfl, rfl, hk, hi, hkl⟩ := hrel
  have HI := Lib.hid hi
  have HKL := Lib.hid hkl
  clear hi hkl HF0
  have k0 : (0 : Int) ≤ (k : Int) := by omega
  by_cases hkn : k < n
  ·have t2 : (k : Int) < (n : Int) := by omega
   obtain ⟨x, hx⟩ : ∃ x, s.os[k]? = some x := ⟨_, List.getElem?_eq_getElem (by rw [HNN.out]; exact hkn)⟩
   have hxm := List.mem_of_getElem? hx
   obtain ⟨b, off, hoo, hat⟩ := (HOB.out.below HI.out.below) k x hx
   rw [HOO.out] at hoo
   subst hoo
   have HTV : Hid (∀ X, Below w.heap.size w X → VertsAt X x.vo x.vs ∧ TrisAt X x.tq x.ts) := Lib.hid (fun X hb => by
    obtain ⟨_, _, _, h⟩ := (HOB.out.below hb) k _ hx
    exact ⟨h.verts, h.tris⟩)
   have HWF := Lib.hid hat.wf
   have HOX := Lib.hid hat.cells
   have hwf := hat.wf
   obtain ⟨V1, hV1⟩ : ∃ V, wr.alloc (.cells #[.int .i64 0, .int .i64 0, .int .i64 0, .int .i64 0, .int .i64 0, .int .i64 0, .int .i64 0, .int .i64 0, .int .i64 0, .int .i64 0, .int .i64 0, .int .i64 0, .int .i64 0, .int .i64 0, .int .i64 0, .int .i64 0, .int .i64 0, .slice none 0 0, .slice none 0 0] 73) = V := ⟨_, rfl⟩
   obtain ⟨V2, hV2⟩ : ∃ V, V1.setRow wr.heap.size (objL x).toArray = V := ⟨_, rfl⟩
   obtain ⟨V3, hV3⟩ : ∃ V, V2.alloc (.cells #[] 85) = V := ⟨_, rfl⟩
   have r1 : RowAt 73 wr.heap.size #[.int .i64 0, .int .i64 0, .int .i64 0, .int .i64 0, .int .i64 0, .int .i64 0, .int .i64 0, .int .i64 0, .int .i64 0, .int .i64 0, .int .i64 0, .int .i64 0, .int .i64 0, .int .i64 0, .int .i64 0, .int .i64 0, .int .i64 0, .slice none 0 0, .slice none 0 0] V1 := by rw [← hV1]; exact RowAt.new _ _ _
   have r2 : RowAt 73 wr.heap.size (objL x).toArray V2 := by rw [← hV2]; exact r1.row _
   have b2 : Below wr.heap.size wr V2 := by rw [← hV2, ← hV1]; exact Below.row ((Below.refl _ _).alloc (Nat.le_refl _) _) (Nat.le_refl _) _
   have b3 : Below V2.heap.size V2 V3 := by rw [← hV3]; exact (Below.refl _ _).alloc (Nat.le_refl _) _
   have HI2 := Lib.hid (HI.out.up b2)
   have HI3 := Lib.hid ((HI.out.up b2).up b3)
   have H53 := Lib.hid (show RowAt 73 wr.heap.size (objL x).toArray V3 from keep_row b3 r2)
   have HNE := Lib.hid (show v.ownBlock ≠ some wr.heap.size from fun e => by have := HI.out.own.lt _ e; omega)
   have HLT := Lib.hid HI.out.lt
   have HOE := Lib.hid (show OwnG 85 3 (fun z : List Int => z.map encI) V3 V2.heap.size (.slice (some ⟨V2.heap.size, 0, none⟩) 0 0) [] by rw [← hV3]; exact ownG_empty _ _ _ _)
   have HB3 := Lib.hid b3
   have d17 : V3.cell? ⟨wr.heap.size, 17, none⟩ = some (.slice x.vo x.vs.length x.vc) := by
    rw [cell_of_row _ _ _ _ _ _ H53.out]
    exact (by simpa using objL_vs hwf)
   have hio := Lib.hid (show (Tryz.prog.info? 73).map (·.size) = some (objL x).length by rw [objL_len hwf]; kernel_rfl)
   have hio2 := Lib.hid (show (Tryz.prog.info? 73).map (·.size) = some (objL x).toArray.size by rw [List.size_toArray, objL_len hwf]; kernel_rfl)
   have hio3 := Lib.hid (show 19 = (objL x).toArray.size by rw [List.size_toArray, objL_len hwf])
   have hio4 : Hid ((objL x).toArray.all (·.oneCell') = true) := Lib.hid (by rw [List.all_toArray, List.all_eq_true]; exact fun u hu => obj_one1 x u hu)
   have hfx := HFE.out x hxm
   have HFX := Lib.hid hfx
   have HTK : Hid ((s.os.take (k + 1)).map keyO = l.map keyO ++ [keyO x]) := Lib.hid (by rw [List.take_add_one, hx, List.map_append, HKL.out]; rfl)
   have HLL : Hid (l.length ≤ 1000) := Lib.hid (by
    have := congrArg List.length HKL.out
    simp only [List.length_map, List.length_take] at this
    omega)
   have HVS := Lib.hid (HTV.out V3 HI3.out.below).1
   have HR1 := Lib.hid r1
   have HV1 := Lib.hid hV1
   have HV2 := Lib.hid hV2
   have HV3 := Lib.hid hV3
   have HSZ3 : Hid (V2.heap.size ≤ V3.heap.size) := Lib.hid b3.size
   have HSZ2 : Hid (wr.heap.size < V2.heap.size) := Lib.hid r2.lt
   clear hx hxm hat hwf r1 r2 b2 b3 hV1 hV2 hV3 hfx HI HKL
   go_wp2_with (first | (rw [HV1.out]) | (rw [HV2.out]) | (rw [HV3.out]) | (with_reducible refine stop_at (some 14) rfl ?_; refine Lib.hid ?_; refine wpList_load_mid rfl 73 (.tmp 13) rfl b (off + k * 19) rfl (objL x) _ HOX.out Tryz.underlying73 rfl hio.out ?_) | (refine wpList_store_big rfl 73 (.tmp 5) (.tmp 14) rfl wr.heap.size _ _ (objL x).toArray rfl rfl HR1.out hio2.out hio3.out hio4.out ?_) | (at_builtin; refine app_G infoGv rfl (.tmp 15) (.tmp 17) 70 rfl Tryz.underlying70 V2.heap.size (.slice (some ⟨V2.heap.size, 0, none⟩) 0 0) [] x.vs rfl HSZ3.out HOE.out x.vo x.vc rfl HWF.out.vcap.2 HVS.out.src (vert_len HVS.out.wf) (fun z _ => enc_one z) (by have := HFX.out.1; simp; omega) ?_))
   intro v2 X1 ho1 hg1
   try rw [List.nil_append] at ho1
   obtain ⟨o2, c2, rfl, hcap2, hl2⟩ := ho1.form (vert_len HVS.out.wf)
   refine Lib.hid ?_
   have hb1 : Below V2.heap.size V3 X1 := (Below.refl _ _).grown hg1 HSZ3.out (fun q hq => by cases hq; exact Nat.le_refl _)
   have keep1 : ∀ {g : Nat} {o : Obj}, g < V2.heap.size → V3.heap[g]? = some o → X1.heap[g]? = some o := fun hlt h => by rw [hb1.block _ hlt]; exact h
   have hb1' : Below V2.heap.size V2 X1 := HB3.out.grown hg1 HSZ3.out (fun q hq => by cases hq; exact Nat.le_refl _)
   have h51 : RowAt 73 wr.heap.size (objL x).toArray X1 := keep1 HSZ2.out H53.out
   have hsx : TwS s v l w X1 := HI2.out.up hb1'
   have e17 : X1.cell? ⟨wr.heap.size, 17, none⟩ = some (.slice x.vo x.vs.length x.vc) := by
    rw [cell_of_row _ _ _ _ _ _ h51]
    exact (by simpa using objL_vs HWF.out)
   have g17 : X1.frozen? ⟨wr.heap.size, 17, none⟩ = false := frozen_row h51
   obtain ⟨Y1, hY1⟩ : ∃ V, X1.setCell ⟨wr.heap.size, 17, none⟩ (.slice o2 x.vs.length c2) = V := ⟨_, rfl⟩
   obtain ⟨V4, hV4⟩ : ∃ V, Y1.alloc (.cells #[] 87) = V := ⟨_, rfl⟩
   have h5y : RowAt 73 wr.heap.size (objL { x with vo := o2, vc := c2 }).toArray Y1 := by
    have := heap_setCell_same _ _ 17 _ _ (.slice o2 x.vs.length c2) h51
    rw [objL_set17 HWF.out.len] at this
    rw [← hY1]
    exact this
   have hsy : TwS s v l w Y1 := by rw [← hY1]; exact hsx.put HLT.out HNE.out h51
   have hvy : LiesG 85 3 (fun z => z.map encI) Y1 V2.heap.size o2 x.vs := by rw [← hY1]; exact hl2.rows (Rows.of_set h51 (by decide))
   have b4 : Below Y1.heap.size Y1 V4 := by rw [← hV4]; exact (Below.refl _ _).alloc (Nat.le_refl _) _
   have HIY := Lib.hid hsy
   have HBY4 := Lib.hid b4
   have HLVY := Lib.hid hvy
   have HI4 := Lib.hid (hsy.up b4)
   have H54 := Lib.hid (show RowAt 73 wr.heap.size (objL { x with vo := o2, vc := c2 }).toArray V4 from keep_row b4 h5y)
   have HV4 := Lib.hid hV4
   have HY1 := Lib.hid hY1
   have HLV4 : Hid (LiesG 85 3 (fun z => z.map encI) V4 V2.heap.size o2 x.vs) := Lib.hid (hvy.rows (Rows.of_below b4))
   have HC2 := Lib.hid hcap2
   have HOE4 := Lib.hid (show OwnG 87 4 triL V4 Y1.heap.size (.slice (some ⟨Y1.heap.size, 0, none⟩) 0 0) [] by rw [← hV4]; exact ownG_empty _ _ _ _)
   have HTS := Lib.hid (HTV.out V4 HI4.out.below).2
   have HVW := Lib.hid HVS.out.wf
   have HSZ4 : Hid (Y1.heap.size ≤ V4.heap.size) := Lib.hid b4.size
   have HSZ5 : Hid (wr.heap.size < Y1.heap.size) := Lib.hid h5y.lt
   have d18 : V4.cell? ⟨wr.heap.size, 18, none⟩ = some (.slice x.tq x.ts.length x.tc) := by
    rw [cell_of_row _ _ _ _ _ _ H54.out]
    exact (by simpa using objL_ts (x := { x with vo := o2, vc := c2 }) ⟨HWF.out.id, HWF.out.len, HWF.out.num, hcap2, HWF.out.tcap⟩)
   clear d17 ho1 hg1 hl2 hb1 keep1 hb1' h51 hsx h5y hsy hvy b4 hY1 hV4 hcap2 HI3 H53 HOE HB3 HI2 HVS HV1 HV2 HV3 HR1 HOX hio hio2 hio3 hio4
   go_wp2_with (first | (rw [HY1.out]) | (rw [HV4.out]) | (at_builtin; refine app_G infoGt rfl (.tmp 20) (.tmp 22) 71 rfl Tryz.underlying71 Y1.heap.size (.slice (some ⟨Y1.heap.size, 0, none⟩) 0 0) [] x.ts rfl HSZ4.out HOE4.out x.tq x.tc rfl HWF.out.tcap.2 HTS.out.src (fun z _ => rfl) (fun z _ => tri_one z) (by have := HFX.out.2; simp; omega) ?_))
   clear e17 g17
   intro v3 X2 ho2 hg2
   try rw [List.nil_append] at ho2
   obtain ⟨o3, c3, rfl, hcap3, hl3⟩ := ho2.form (fun z _ => rfl)
   refine Lib.hid ?_
   have hb2 : Below Y1.heap.size V4 X2 := (Below.refl _ _).grown hg2 HSZ4.out (fun q hq => by cases hq; exact Nat.le_refl _)
   have hb2' : Below Y1.heap.size Y1 X2 := HBY4.out.grown hg2 HSZ4.out (fun q hq => by cases hq; exact Nat.le_refl _)
   have keep2 : ∀ {g : Nat} {o : Obj}, g < Y1.heap.size → V4.heap[g]? = some o → X2.heap[g]? = some o := fun hlt h => by rw [hb2.block _ hlt]; exact h
   have h52 : RowAt 73 wr.heap.size (objL { x with vo := o2, vc := c2 }).toArray X2 := keep2 HSZ5.out H54.out
   have hsx2 : TwS s v l w X2 := HIY.out.up hb2'
   have hvx2 : LiesG 85 3 (fun z => z.map encI) X2 V2.heap.size o2 x.vs := HLVY.out.rows (Rows.of_below hb2')
   have e18 : X2.cell? ⟨wr.heap.size, 18, none⟩ = some (.slice x.tq x.ts.length x.tc) := by
    rw [cell_of_row _ _ _ _ _ _ h52]
    exact (by simpa using objL_ts (x := { x with vo := o2, vc := c2 }) ⟨HWF.out.id, HWF.out.len, HWF.out.num, HC2.out, HWF.out.tcap⟩)
   have g18 : X2.frozen? ⟨wr.heap.size, 18, none⟩ = false := frozen_row h52
   obtain ⟨x2, hx2⟩ : ∃ y : ObjR, { x with vo := o2, vc := c2, tq := o3, tc := c3 } = y := ⟨_, rfl⟩
   obtain ⟨Y2, hY2⟩ : ∃ V, X2.setCell ⟨wr.heap.size, 18, none⟩ (.slice o3 x.ts.length c3) = V := ⟨_, rfl⟩
   have h5z : RowAt 73 wr.heap.size (objL x2).toArray Y2 := by
    have := heap_setCell_same _ _ 18 _ _ (.slice o3 x.ts.length c3) h52
    rw [objL_set18 (x := { x with vo := o2, vc := c2 }) HWF.out.len] at this
    rw [← hY2, ← hx2]
    exact this
   have hsz2 : TwS s v l w Y2 := by rw [← hY2]; exact hsx2.put HLT.out HNE.out h52
   have hfx2 : FreshO (w.heap.size + 1 + 1 + 1) x2 Y2 := by
    have q1 : LiesG 85 3 (fun z => z.map encI) Y2 V2.heap.size o2 x.vs := by rw [← hY2]; exact hvx2.rows (Rows.of_set h52 (by decide))
    have q2 : LiesG 87 4 triL Y2 Y1.heap.size o3 x.ts := by rw [← hY2]; exact hl3.rows (Rows.of_set h52 (by decide))
    rw [← hx2]
    exact ⟨⟨HWF.out.id, HWF.out.len, HWF.out.num, HC2.out, hcap3⟩, q1.base (by have := HLT.out; have := HSZ2.out; omega), q2.base (by have := HLT.out; have := HSZ5.out; omega), HVW.out, HTS.out.wf⟩
   obtain ⟨V5, hV5⟩ : ∃ V, Y2.alloc (.cells (objL x2).toArray 73) = V := ⟨_, rfl⟩
   have b5 : Below Y2.heap.size Y2 V5 := by rw [← hV5]; exact (Below.refl _ _).alloc (Nat.le_refl _) _
   have hw2 := hfx2.wf
   have HRX : Hid (Y2.rangeAt wr.heap.size 0 (objL x2)) := Lib.hid (fun j u hj => by rw [Nat.zero_add, cell_of_row _ _ _ _ _ _ h5z]; simpa using hj)
   have HI5 := Lib.hid (hsz2.up b5)
   have HF5 := Lib.hid (hfx2.rows (Rows.of_below b5) (Rows.of_below b5))
   have HRN := Lib.hid (show V5.heap[Y2.heap.size]? = some (.cells (objL x2).toArray 73 (0, 0)) by rw [← hV5]; exact heap_alloc_new _ _)
   have HL19 : Hid ((objL x2).toArray.size = 19) := Lib.hid (by rw [List.size_toArray, objL_len hw2])
   have hi2 := Lib.hid (show (Tryz.prog.info? 73).map (·.size) = some (objL x2).length by rw [objL_len hw2]; kernel_rfl)
   obtain ⟨ov, cv, hvv, _, _⟩ := hsz2.own.form (fun z hz => objL_len (hsz2.each z hz).wf)
   subst hvv
   have s18 : Y2.cell? ⟨w.heap.size + 1 + 1, 18, none⟩ = some (.slice ov l.length cv) := by rw [cell_of_row _ _ _ _ _ _ hsz2.twin]; exact twL_at HSW.out _
   have HKX : Hid (keyO x2 = keyO x) := Lib.hid (by rw [← hx2]; rfl)
   have HSZ6 : Hid (w.heap.size + 1 + 1 + 1 ≤ V5.heap.size) := Lib.hid (by have := HI5.out.lt; omega)
   have HY2 := Lib.hid hY2
   have HV5 := Lib.hid hV5
   clear d18 ho2 hg2 hl3 hb2 hb2' keep2 h52 hsx2 hvx2 hx2 h5z hsz2 hfx2 b5 hw2 hY2 hV5 hcap3 HI4 H54 HLV4 HOE4 HTS HV4 HY1 HIY HBY4 HLVY
   go_wp2_with (first | (rw [HY2.out]) | (rw [HV5.out]) | (with_reducible refine stop_at (some 27) rfl ?_; refine Lib.hid ?_; refine wpList_load_mid rfl 73 (.tmp 5) rfl wr.heap.size 0 rfl (objL x2) _ HRX.out Tryz.underlying73 rfl hi2.out ?_) | (with_reducible refine stop_at (some 28) rfl ?_; refine Lib.hid ?_; refine build_one infoGo (by omega) rfl (.tmp 27) 26 rfl Tryz.underlying26 (objL x2).toArray rfl HL19.out ?_) | (at_builtin; refine app_G infoGo rfl (.tmp 26) (.tmp 28) 26 rfl Tryz.underlying26 (w.heap.size + 1 + 1 + 1) (.slice ov l.length cv) l [x2] rfl HSZ6.out HI5.out.own (some ⟨Y2.heap.size, 0, none⟩) 1 rfl (fun h => by cases h) (one_src HRN.out) (fun z hz => by simp at hz; subst hz; have := HL19.out; rwa [List.size_toArray] at this) (fun z _ => obj_one1 z) (by have := HLL.out; simp; omega) ?_))
   clear e18 g18 s18
   intro v4 X3 ho3 hg3
   refine Lib.hid ?_
   obtain ⟨ht3, hs3⟩ := HI5.out.step HSW.out ho3 hg3 (fun z hz => by
    rcases List.mem_append.1 hz with hz | hz
    ·exact HI5.out.each z hz
    ·simp at hz
     subst hz
     exact HF5.out)
   obtain ⟨ow, cw, hvw, _, _⟩ := ho3.form (fun z hz => objL_len (hs3.each z hz).wf)
   subst hvw
   have s18 : X3.cell? ⟨w.heap.size + 1 + 1, 18, none⟩ = some (.slice ov l.length cv) := by rw [cell_of_row _ _ _ _ _ _ ht3]; exact twL_at HSW.out _
   have s19 : X3.frozen? ⟨w.heap.size + 1 + 1, 18, none⟩ = false := frozen_row ht3
   have HS3 := Lib.hid hs3
   have HK3 : Hid ((l ++ [x2]).map keyO = (s.os.take (k + 1)).map keyO) := Lib.hid (by rw [HTK.out, List.map_append]; simp [HKX.out])
   obtain ⟨ml, hml⟩ : ∃ ml, (l ++ [x2]).length = ml := ⟨_, rfl⟩
   rw [hml] at HS3 ⊢
   clear ho3 hg3 ht3 hs3 hml HI5 HF5 HRN HRX HV5 HY2
   go_wp2_with fail
   go_roundg (n - (k + 1))
   case measure => omega
   case rel => exact ⟨k + 1, _, l ++ [x2], rfl, by go_num, by omega, HS3.out, HK3.out⟩
  ·obtain rfl : k = n := by omega
   have t2 : ¬ (k : Int) < (k : Int) := by omega
   obtain ⟨ov, cv, hvv, hcv, hlv⟩ := HI.out.own.form (fun z hz => objL_len (HI.out.each z hz).wf)
   subst hvv
   obtain ⟨c, hc⟩ : ∃ c : ScR, ({ s with oo := ov, os := l, oc := cv } : ScR) = c := ⟨_, rfl⟩
   have hwc : ScWf c := by rw [← hc]; exact ⟨HSW.out.w, HSW.out.h, HSW.out.len, HSW.out.num, hcv⟩
   have hcL : twL s (.slice ov l.length cv) = scL c := by rw [← hc]; rfl
   have htw := HI.out.twin
   rw [hcL] at htw
   have HRX : Hid (wr.rangeAt (w.heap.size + 1 + 1) 0 (scL c)) := Lib.hid (fun j u hj => by rw [Nat.zero_add, cell_of_row _ _ _ _ _ _ htw]; simpa using hj)
   have hi1 := Lib.hid (info19 hwc)
   have hi2 := Lib.hid (sizeZ c hwc (.slice c.oo c.os.length c.oc))
   have hi3 := Lib.hid (show 19 = (scC c).size from (twL_len hwc (.slice c.oo c.os.length c.oc)).symm)
   have hi4 := Lib.hid (show (scC c).all (·.oneCell') = true from twL_one c (.slice c.oo c.os.length c.oc) rfl)
   have HR2 := Lib.hid (show RowAt 28 (w.heap.size + 1) #[.int .i64 0, .int .i64 0, .int .i64 0, .int .i64 0, .int .i64 0, .int .i64 0, .int .i64 0, .int .i64 0, .int .i64 0, .int .i64 0, .int .i64 0, .int .i64 0, .int .i64 0, .int .i64 0, .int .i64 0, .int .i64 0, .int .i64 0, .int .i64 0, .slice none 0 0] wr from HI.out.res)
   have hall := HKL.out
   rw [List.take_of_length_le (by rw [HNN.out]; omega)] at hall
   obtain ⟨Y, hY⟩ : ∃ V, wr.setRow (w.heap.size + 1) (scC c) = V := ⟨_, rfl⟩
   have hry : RowAt 28 (w.heap.size + 1) (scC c) Y := by rw [← hY]; exact HR2.out.row _
   have HRY := Lib.hid hry
   have hrw : ∀ {t : TypeId}, t ≠ 28 → Rows t wr Y := fun hne g cur hg => by
    rw [← hY, setRow_other _ _ _ _ (fun e => by
     subst e
     have := HR2.out
     unfold RowAt at this
     rw [this] at hg
     cases hg
     exact hne rfl)]
    exact hg
   have HE : Hid (RetTw s w (.returned (.agg (scC c))) Y) := Lib.hid ⟨c, rfl, by rw [← hc]; unfold keyS; rw [hall], ⟨hwc, by rw [← hc]; exact (hlv.rows (hrw (by decide))).base (by omega), fun z hz => by
    rw [← hc] at hz
    exact ((HI.out.each z hz).rows (hrw (by decide)) (hrw (by decide))).base (by omega)⟩, by rw [← hY]; exact Below.row HI.out.below (by omega) _⟩
   have HYY := Lib.hid hY
   clear htw hwc hcv hlv hcL hall hry hrw hY HI HKL hc
   go_wp2_with (first | (rw [HYY.out]) | (with_reducible refine stop_at (some 32) rfl ?_; refine Lib.hid ?_; refine wpList_load_mid rfl 28 (.tmp 3) rfl (w.heap.size + 1 + 1) 0 rfl (scL c) _ HRX.out Tryz.underlying28 rfl hi1.out ?_) | (refine wpList_store_big rfl 28 (.tmp 2) (.tmp 32) rfl (w.heap.size + 1) _ _ (scC c) rfl rfl HR2.out hi2.out hi3.out hi4.out ?_))
   refine bodyPost_ret (v := .agg (scC c)) (results_cell_row rfl _ _ (w.heap.size + 1) _ (scC c) _ _ rfl HRY.out Tryz.underlying28 rfl hi2.out) rfl ?_
   exact HE.out
end Go.Proofs.YtbbhmhihpdmoiaaGreat.Fx

set_option linter.unusedVariables false
set_option linter.unusedSimpArgs false
namespace Go.Proofs.YtbbhmhihpdmoiaaGreat.Fx
open Go Go.RowKit Go.Lib
open Go.Proofs.YtbbhmhihpdmoiaaGreat.Pk (Bs By cutA app_at own_empty)
structure SkI (s : ScR) (w W : World) : Prop where
 box : ScAt w.heap.size s W
 oa : ObjsAt W s.oo s.os
 bel : Below w.heap.size w W
theorem SkI.up {s : ScR} {w W X : World} (i : SkI s w W) (h : Below W.heap.size W X) : SkI s w X := ⟨i.box.below h, i.oa.below h, bnext i.bel h⟩
end Go.Proofs.YtbbhmhihpdmoiaaGreat.Fx
