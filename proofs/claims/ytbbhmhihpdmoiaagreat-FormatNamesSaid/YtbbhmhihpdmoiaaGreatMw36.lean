import Derived.Laws.Rows
import Derived.Test.YtbbhmhihpdmoiaaGreatProg
import Derived.Test.YtbbhmhihpdmoiaaGreatMw35
set_option linter.unusedVariables false
set_option linter.unusedSimpArgs false
namespace Go.Proofs.YtbbhmhihpdmoiaaGreat.Fx
open Go Go.RowKit
open Go.Proofs.YtbbhmhihpdmoiaaGreat.Pk (PR RdOk)
theorem setCells_row {t : TypeId} {b : Nat} : ∀ (vs A M B : List Value) (w : World), M.length = vs.length → w.heap[b]? = some (.cells (A ++ M ++ B).toArray t (0, 0)) → (w.setCells b A.length vs).heap[b]? = some (.cells (A ++ vs ++ B).toArray t (0, 0))
 | [], A, M, B, w, hl, h => by
  have : M = [] := List.length_eq_zero_iff.1 hl
  subst this
  exact h
 | v :: vs, A, M, B, w, hl, h => by
  cases M with
  | nil => simp at hl
  | cons m M =>
   rw [World.setCells]
   have h1 : (w.setCell ⟨b, A.length, none⟩ v).heap[b]? = some (.cells ((A ++ [v]) ++ M ++ B).toArray t (0, 0)) := by
    rw [heap_setCell_same _ _ A.length _ _ v h]
    simp [List.set_append]
   have := setCells_row vs (A ++ [v]) M B _ (by simpa using hl) h1
   rw [List.length_append] at this
   simpa using this
theorem setCells_other {b k : Nat} (hk : k ≠ b) : ∀ (vs : List Value) (o : Nat) (w : World), (w.setCells b o vs).heap[k]? = w.heap[k]?
 | [], _, _ => rfl
 | v :: vs, o, w => by rw [World.setCells, setCells_other hk vs (o + 1), heap_setCell_other _ _ _ _ (by exact hk)]
theorem PMG.use {α κ : Type} {key : α → κ} {t : TypeId} {n : Nat} {f : α → List Value} {El : α → World → Prop} {o : Option Addr} {c : Nat} {l : List Nat} {p : Nat} {r : Option (List κ × Nat)} {w : World} {e : Ending} {w' : World} (h : PMG key t n f El o c l p r w e w') :
  w.grownBy w' (some p) ∧ ∃ v zs b lo, e = .returned v ∧ OwnG t n f w' w.heap.size v zs ∧ (∀ z ∈ zs, El z w') ∧ PR o c l p b lo w' ∧ b ≤ l.length ∧ r = opt lo (zs.map key, b) := by
 refine ⟨h.grow, ?_⟩
 cases hr : r with
 | none =>
  obtain ⟨he, b, hb, hp⟩ := h.no hr
  exact ⟨_, [], b, true, he, OwnG.nil _ _ _ _ _, fun z hz => by simp at hz, hp, hb, rfl⟩
 | some q =>
  obtain ⟨ks, b⟩ := q
  obtain ⟨⟨v, zs, he, ho, hz, hk⟩, hb, hp⟩ := h.yes ks b hr
  exact ⟨v, zs, b, false, he, ho, hz, hp, hb, by rw [hk]; rfl⟩
def objV (id : Int) (m : List Int) (v1 v2 : Value) : List Value := .int .i64 id :: (m.map encI ++ [v1, v2])
structure TkS (o : Option Addr) (c : Nat) (l : List Nat) (p b : Nat) (lo : Bool) (id : Int) (m : List Int) (v1 v2 : Value) (w W : World) : Prop where
 res : W.heap[w.heap.size]? = some (.cells #[.int .i64 0, .int .i64 0, .int .i64 0, .int .i64 0, .int .i64 0, .int .i64 0, .int .i64 0, .int .i64 0, .int .i64 0, .int .i64 0, .int .i64 0, .int .i64 0, .int .i64 0, .int .i64 0, .int .i64 0, .int .i64 0, .int .i64 0, .slice none 0 0, .slice none 0 0] 73 (0, 0))
 box : W.heap[w.heap.size + 1]? = some (.cells (objV id m v1 v2).toArray 73 (0, 0))
 rd : PR o c l p b lo W
 le : b ≤ l.length
 grow : w.grownBy W (some p)
theorem TkS.step {o : Option Addr} {c : Nat} {l : List Nat} {p b b2 : Nat} {lo lo2 : Bool} {id : Int} {m : List Int} {v1 v2 : Value} {w W X : World} (hp : p < w.heap.size) (i : TkS o c l p b lo id m v1 v2 w W) (hg : W.grownBy X (some p)) (hr : PR o c l p b2 lo2 X) (hl : b2 ≤ l.length) : TkS o c l p b2 lo2 id m v1 v2 w X := by
 have keep : ∀ {g : Nat} {ob : Obj}, g ≠ p → W.heap[g]? = some ob → X.heap[g]? = some ob := fun hne h => by
  rw [hg.block _ (Array.getElem?_eq_some_iff.1 h).1 (fun e => hne (Option.some.inj e))]
  exact h
 exact ⟨keep (by omega) i.res, keep (by omega) i.box, hr, hl, i.grow.trans hg⟩
theorem TkS.put {o : Option Addr} {c : Nat} {l : List Nat} {p b : Nat} {lo : Bool} {id id2 : Int} {m m2 : List Int} {v1 v2 u1 u2 : Value} {w W X : World} (hp : p < w.heap.size) (hob : ∀ b off, o = some ⟨b, off, none⟩ → 0 < l.length → b < w.heap.size) (i : TkS o c l p b lo id m v1 v2 w W) (hb : Below w.heap.size W X)
  (hres : X.heap[w.heap.size]? = W.heap[w.heap.size]?) (hbox : X.heap[w.heap.size + 1]? = some (.cells (objV id2 m2 u1 u2).toArray 73 (0, 0))) : TkS o c l p b lo id2 m2 u1 u2 w X :=
 ⟨hres.trans i.res, hbox, PR_low i.rd hp hob hb, i.le, grown_low i.grow hb⟩
theorem TkS.cell {o : Option Addr} {c : Nat} {l : List Nat} {p b : Nat} {lo : Bool} {id : Int} {m : List Int} {v1 v2 : Value} {w W : World} (i : TkS o c l p b lo id m v1 v2 w W) {j : Nat} {u : Value} (h : (objV id m v1 v2)[j]? = some u) : W.cell? ⟨w.heap.size + 1, j, none⟩ = some u ∧ W.frozen? ⟨w.heap.size + 1, j, none⟩ = false :=
 ⟨by rw [cell_of_row _ _ _ _ _ _ i.box]; simpa using h, frozen_row i.box⟩
theorem TkS.set {o : Option Addr} {c : Nat} {l : List Nat} {p b : Nat} {lo : Bool} {id id2 : Int} {m m2 : List Int} {v1 v2 u1 u2 : Value} {w W : World} {j : Nat} {u : Value} (hp : p < w.heap.size) (hob : ∀ b off, o = some ⟨b, off, none⟩ → 0 < l.length → b < w.heap.size) (i : TkS o c l p b lo id m v1 v2 w W)
  (h : (objV id m v1 v2).toArray.setIfInBounds j u = (objV id2 m2 u1 u2).toArray) : TkS o c l p b lo id2 m2 u1 u2 w (W.setCell ⟨w.heap.size + 1, j, none⟩ u) := by
 have hb : Below w.heap.size W (W.setCell ⟨w.heap.size + 1, j, none⟩ u) := Below.setCell (p := ⟨w.heap.size + 1, j, none⟩) ⟨rfl, rfl, rfl, Nat.le_refl _, fun _ _ => rfl⟩ (by show _ ≤ w.heap.size + 1; omega) _
 refine i.put hp hob hb (heap_setCell_other _ _ _ _ (by show w.heap.size ≠ w.heap.size + 1; omega)) ?_
 rw [heap_setCell_same _ _ j _ _ u i.box, h]
def PObj (B p a : Nat) (lost : Bool) (o : Option Addr) (c : Nat) (l : List Nat) (w : World) : Ending → World → Prop := OneG pObj keyO (FreshO B) (fun x => .agg (objL x).toArray) o c l p a lost w
set_option maxRecDepth 100000 in
set_option maxHeartbeats 4000000 in
theorem takeo_any (B : Nat) (o : Option Addr) (c : Nat) (l : List Nat) (p a : Nat) (lost : Bool) (w : World) (hB : B ≤ w.heap.size) (k : RdOk l a) (h : PR o c l p a lost w) (hob : ∀ b off, o = some ⟨b, off, none⟩ → 0 < l.length → b < w.heap.size) :
  Calls Tryz.prog 43 #[.pointer (some ⟨p, 0, none⟩)] w (PObj B p a lost o c l w) := by
 obtain ⟨V0, hV0⟩ : ∃ V, (w.alloc (.cells #[.int .i64 0, .int .i64 0, .int .i64 0, .int .i64 0, .int .i64 0, .int .i64 0, .int .i64 0, .int .i64 0, .int .i64 0, .int .i64 0, .int .i64 0, .int .i64 0, .int .i64 0, .int .i64 0, .int .i64 0, .int .i64 0, .int .i64 0, .slice none 0 0, .slice none 0 0] 73)).alloc (.cells #[.int .i64 0, .int .i64 0, .int .i64 0, .int .i64 0, .int .i64 0, .int .i64 0, .int .i64 0, .int .i64 0, .int .i64 0, .int .i64 0, .int .i64 0, .int .i64 0, .int .i64 0, .int .i64 0, .int .i64 0, .int .i64 0, .int .i64 0, .slice none 0 0, .slice none 0 0] 73) = V := ⟨_, rfl⟩
 have hb0 : Below w.heap.size w V0 := by rw [← hV0]; exact ((Below.refl _ _).alloc (Nat.le_refl _) _).alloc (by simp) _
 have h0 : TkS o c l p a lost 0 zero16 (.slice none 0 0) (.slice none 0 0) w V0 := by
  refine ⟨?_, ?_, h.below hb0, k.at', Pk.below_grown hb0 (some p)⟩
  ·rw [← hV0]; exact step_row (heap_alloc_new _ _)
  ·rw [← hV0]
   have := heap_alloc_new (w.alloc (.cells #[.int .i64 0, .int .i64 0, .int .i64 0, .int .i64 0, .int .i64 0, .int .i64 0, .int .i64 0, .int .i64 0, .int .i64 0, .int .i64 0, .int .i64 0, .int .i64 0, .int .i64 0, .int .i64 0, .int .i64 0, .int .i64 0, .int .i64 0, .slice none 0 0, .slice none 0 0] 73)) (.cells #[.int .i64 0, .int .i64 0, .int .i64 0, .int .i64 0, .int .i64 0, .int .i64 0, .int .i64 0, .int .i64 0, .int .i64 0, .int .i64 0, .int .i64 0, .int .i64 0, .int .i64 0, .int .i64 0, .int .i64 0, .int .i64 0, .int .i64 0, .slice none 0 0, .slice none 0 0] 73)
   rw [World.size_alloc] at this
   exact this
 have H0 := Lib.hid h0
 have HK := Lib.hid k
 have HLT := Lib.hid h.lt
 have HOB := Lib.hid hob
 have HBB := Lib.hid hB
 have HV0 := Lib.hid hV0
 have HS1 := Lib.hid (rsmall_any 65535 (by omega) o c l p a lost V0 k h0.rd)
 clear h hb0 k hV0 hob h0 hB
 go_enter Tryz.func43, Tryz.ntmps43
 go_wp2_with (rw [HV0.out])
 refine HS1.out.mono ?_
 rintro e w1 h1
 obtain ⟨hg1, x1, a1, lo1, rfl, hn1, hp1, hl1, hr1⟩ := h1.use
 have ht1 := H0.out.step HLT.out hg1 hp1 hl1
 obtain ⟨q0, f0⟩ := ht1.cell (j := 0) rfl
 have ht2 := ht1.set (j := 0) (u := .int .i64 x1) (id2 := x1) (m2 := zero16) (u1 := .slice none 0 0) (u2 := .slice none 0 0) HLT.out HOB.out rfl
 obtain ⟨Y1, hY1⟩ : ∃ V, w1.setCell ⟨w.heap.size + 1, 0, none⟩ (.int .i64 x1) = V := ⟨_, rfl⟩
 rw [hY1] at ht2
 have H2 := Lib.hid ht2
 have HN1 := Lib.hid hn1
 have HR1 := Lib.hid hr1
 have HY1 := Lib.hid hY1
 have hob2 : ∀ b off, o = some ⟨b, off, none⟩ → 0 < l.length → b < Y1.heap.size := fun b off e hm => Nat.lt_of_lt_of_le (HOB.out b off e hm) ht2.grow.size
 have HM := Lib.hid (takem_any o c l p a1 lo1 Y1 (rd_ok HK.out hl1) ht2.rd hob2)
 clear h1 hg1 hn1 hp1 hl1 hr1 ht1 ht2 hY1 hob2 HS1 H0 HV0
 go_wp2_with (rw [HY1.out])
 clear HY1 q0 f0
 refine HM.out.mono ?_
 rintro e w2 h2
 obtain ⟨hg2, zs, a2, lo2, rfl, hn2, hp2, hl2, hr2⟩ := OneG.use h2
 have ht3 := H2.out.step HLT.out hg2 hp2 hl2
 have hthere : w2.there (w.heap.size + 1) 1 (mC zs).size := fun j hj => by
  rw [mC_size, hn2.1] at hj
  refine ⟨?_, frozen_row ht3.box⟩
  rw [cell_of_row _ _ _ _ _ _ ht3.box]
  simp [objV, zero16]
  omega
 obtain ⟨Y2, hY2⟩ : ∃ V, w2.setCells (w.heap.size + 1) 1 (mC zs).toList = V := ⟨_, rfl⟩
 have ht4 : TkS o c l p a2 lo2 x1 zs (.slice none 0 0) (.slice none 0 0) w Y2 := by
  have hbY : Below w.heap.size w2 Y2 := by rw [← hY2]; exact below_cells (by omega) _ _ ⟨rfl, rfl, rfl, Nat.le_refl _, fun _ _ => rfl⟩
  refine ht3.put HLT.out HOB.out hbY ?_ ?_
  ·rw [← hY2]
   exact setCells_other (by omega) _ _ _
  ·have := setCells_row (mC zs).toList [.int .i64 x1] (zero16.map encI) [.slice none 0 0, .slice none 0 0] w2 (by simp [mC, zero16, hn2.1]) (by exact ht3.box)
   rw [← hY2]
   rw [show ([Value.int .i64 x1] : List Value).length = 1 from rfl] at this
   rw [this]
   simp [objV, mC]
 have hi2 := Lib.hid (show (Tryz.prog.info? 25).map (·.size) = some (mC zs).size by rw [mC_size, hn2.1]; kernel_rfl)
 have HTH := Lib.hid hthere
 have H4 := Lib.hid ht4
 have HN2 := Lib.hid hn2
 have HR2 := Lib.hid hr2
 have HY2 := Lib.hid hY2
 have hob2 : ∀ b off, o = some ⟨b, off, none⟩ → 0 < l.length → b < Y2.heap.size := fun b off e hm => Nat.lt_of_lt_of_le (HOB.out b off e hm) ht4.grow.size
 have HMV := Lib.hid (pmany_v 0 o c l p a2 lo2 Y2 (Nat.zero_le _) (rd_ok HK.out hl2) ht4.rd hob2)
 clear h2 hg2 hn2 hp2 hl2 hr2 ht3 ht4 hthere hY2 hob2 HM H2
 go_wp2_with (first | (rw [HY2.out]) | (refine wpList_store_mid rfl 25 (.tmp 9) (.tmp 8) rfl (w.heap.size + 1) 1 (mC zs) rfl rfl HTH.out hi2.out (mC_one _) ?_))
 clear HY2 HTH
 refine HMV.out.mono ?_
 rintro e w3 h3
 obtain ⟨hg3, v3, vs, a3, lo3, rfl, ho3, he3, hp3, hl3, hr3⟩ := h3.use
 obtain ⟨o3, c3, rfl, hcap3, hlies3⟩ := ho3.form (fun z hz => by rw [List.length_map]; exact (he3 z hz).len)
 have ht5 := H4.out.step HLT.out hg3 hp3 hl3
 obtain ⟨q17, f17⟩ := ht5.cell (j := 17) (u := .slice none 0 0) (by simp [objV, HN2.out.1])
 have ht6 := ht5.set (j := 17) (u := .slice o3 vs.length c3) (id2 := x1) (m2 := zs) (u1 := .slice o3 vs.length c3) (u2 := .slice none 0 0) HLT.out HOB.out (by simp [objV, List.set_append, HN2.out.1])
 obtain ⟨Y3, hY3⟩ : ∃ V, w3.setCell ⟨w.heap.size + 1, 17, none⟩ (.slice o3 vs.length c3) = V := ⟨_, rfl⟩
 rw [hY3] at ht6
 have HLI3 := Lib.hid (show LiesG 85 3 (List.map encI) Y3 w.heap.size o3 vs by rw [← hY3]; exact (hlies3.rows (Rows.of_set ht5.box (by decide))).base (H4.out.grow.size))
 have H6 := Lib.hid ht6
 have HE3 := Lib.hid he3
 have HC3 := Lib.hid hcap3
 have HR3 := Lib.hid hr3
 have HY3 := Lib.hid hY3
 have hob2 : ∀ b off, o = some ⟨b, off, none⟩ → 0 < l.length → b < Y3.heap.size := fun b off e hm => Nat.lt_of_lt_of_le (HOB.out b off e hm) ht6.grow.size
 have HMT := Lib.hid (pmany_t 0 o c l p a3 lo3 Y3 (Nat.zero_le _) (rd_ok HK.out hl3) ht6.rd hob2)
 clear h3 hg3 ho3 he3 hp3 hl3 hr3 hcap3 hlies3 ht5 ht6 hY3 hob2 HMV H4
 go_wp2_with (rw [HY3.out])
 clear HY3 q17 f17
 refine HMT.out.mono ?_
 rintro e w4 h4
 obtain ⟨hg4, v4, ts, a4, lo4, rfl, ho4, he4, hp4, hl4, hr4⟩ := h4.use
 obtain ⟨o4, c4, rfl, hcap4, hlies4⟩ := ho4.form (fun z _ => rfl)
 have ht7 := H6.out.step HLT.out hg4 hp4 hl4
 obtain ⟨q18, f18⟩ := ht7.cell (j := 18) (u := .slice none 0 0) (by simp [objV, HN2.out.1])
 have ht8 := ht7.set (j := 18) (u := .slice o4 ts.length c4) (id2 := x1) (m2 := zs) (u1 := .slice o3 vs.length c3) (u2 := .slice o4 ts.length c4) HLT.out HOB.out (by simp [objV, List.set_append, HN2.out.1])
 obtain ⟨Y4, hY4⟩ : ∃ V, w4.setCell ⟨w.heap.size + 1, 18, none⟩ (.slice o4 ts.length c4) = V := ⟨_, rfl⟩
 rw [hY4] at ht8
 obtain ⟨x, hx⟩ : ∃ x : ObjR, (⟨x1, zs, o3, vs, c3, o4, ts, c4⟩ : ObjR) = x := ⟨_, rfl⟩
 have hxl : objV x1 zs (.slice o3 vs.length c3) (.slice o4 ts.length c4) = objL x := by rw [← hx]; rfl
 have hbox8 := ht8.box
 rw [hxl] at hbox8
 obtain ⟨Y5, hY5⟩ : ∃ V, Y4.setRow w.heap.size (objL x).toArray = V := ⟨_, rfl⟩
 have hfx : FreshO B x Y5 := by
  have r1 : ∀ {t : TypeId}, t ≠ 73 → t ≠ 144 → Rows t Y3 w4 := fun h1 h2 => Rows.of_grown hg4 (fun k hk => by cases hk; exact ⟨_, H6.out.rd.row⟩) h2
  have r2 : ∀ {t : TypeId}, t ≠ 73 → Rows t w4 Y4 := fun h1 => by rw [← hY4]; exact Rows.of_set ht7.box h1
  have r3 : ∀ {t : TypeId}, t ≠ 73 → Rows t Y4 Y5 := fun h1 g cur hg => by
   rw [← hY5, setRow_other _ _ _ _ (fun e => by
    subst e
    rw [ht8.res] at hg
    cases hg
    exact h1 rfl)]
   exact hg
  have hcp3 := HC3.out
  rw [← hx]
  refine ⟨⟨num_of (by omega) HN1.out, HN2.out.1, fun j => ?_, HC3.out, hcap4⟩, ?_, ?_, HE3.out, he4⟩
  ·show Num (zs.getD j 0)
   rw [List.getD_eq_getElem?_getD]
   cases hz : zs[j]? with
   | none => exact ⟨by simp, by simp⟩
   | some z => exact HN2.out.2 z (List.mem_of_getElem? hz)
  ·exact ((HLI3.out.rows (((r1 (by decide) (by decide)).trans (r2 (by decide))).trans (r3 (by decide)))).base HBB.out)
  ·exact ((hlies4.rows ((r2 (by decide)).trans (r3 (by decide)))).base (Nat.le_trans HBB.out H6.out.grow.size))
 have HE : Hid (PObj B p a lost o c l w (.returned (.agg (objL x).toArray)) Y5) := Lib.hid (by
  have hbY : Below w.heap.size Y4 Y5 := by rw [← hY5]; exact Below.row ⟨rfl, rfl, rfl, Nat.le_refl _, fun _ _ => rfl⟩ (Nat.le_refl _) _
  have hr := runP_seq HR1.out (runP_seq HR2.out (runP_seq HR3.out hr4))
  refine OneG.make (x := x) (grown_low ht8.grow hbY) hfx (PR_low ht8.rd HLT.out HOB.out hbY) hl4 ?_
  rw [← hx]
  unfold keyO pObj
  simpa using hr)
 have HR4 := Lib.hid ht8.res
 have HBX := Lib.hid (show Y4.rangeAt (w.heap.size + 1) 0 (objL x) from fun j u hj => by rw [cell_of_row _ _ _ _ _ _ hbox8, Nat.zero_add]; simpa using hj)
 have hwf := hfx.wf
 have hi3 := Lib.hid (sizeOx hwf)
 have hi4 := Lib.hid (show (Tryz.prog.info? 73).map (·.size) = some (objL x).toArray.size by rw [List.size_toArray]; exact sizeOx hwf)
 have hs4 := Lib.hid (show 19 = (objL x).toArray.size by rw [List.size_toArray]; exact (objL_len hwf).symm)
 have HY4 := Lib.hid hY4
 have HY5 := Lib.hid hY5
 clear h4 hg4 ho4 he4 hp4 hl4 hr4 hcap4 hlies4 ht7 ht8 hY4 hY5 hfx hx hxl hbox8 hwf HMT H6 HLI3 HE3 HC3 HR1 HR2 HR3 HN1 HN2
 go_wp2_with (first | (rw [HY4.out]) | (with_reducible refine stop_at (some 16) rfl ?_; refine Lib.hid ?_; refine wpList_load_mid rfl 73 (.tmp 3) rfl (w.heap.size + 1) 0 rfl (objL x) _ HBX.out Tryz.underlying73 rfl hi3.out ?_) | (refine wpList_store_big rfl 73 (.tmp 2) (.tmp 16) rfl w.heap.size _ _ (objL x).toArray rfl rfl HR4.out hi4.out hs4.out (objL_one' _) ?_))
 refine bodyPost_ret (v := .agg (objL x).toArray) (results_cell_row rfl _ _ w.heap.size _ (objL x).toArray _ _ rfl (setRow_heap _ _ _ _ _ _ HR4.out) Tryz.underlying73 rfl hi4.out) rfl ?_
 rw [HY5.out]
 exact HE.out
end Go.Proofs.YtbbhmhihpdmoiaaGreat.Fx

set_option linter.unusedVariables false
set_option linter.unusedSimpArgs false
namespace Go.Proofs.YtbbhmhihpdmoiaaGreat.Fx
open Go Go.RowKit
open Go.Proofs.YtbbhmhihpdmoiaaGreat.Pk (PR RdOk)
def frL (f : Int × Int × List Int) (v : Value) : List Value := .int .i64 f.1 :: .int .i64 f.2.1 :: (f.2.2.map encI ++ [v])
theorem frL_one (f : Int × Int × List Int) {v : Value} (h : v.oneCell' = true) : (frL f v).toArray.all (·.oneCell') = true := by
 rw [List.all_toArray, List.all_eq_true]
 intro u hu
 simp only [frL, List.mem_cons, List.mem_append, List.mem_map, List.not_mem_nil, or_false] at hu
 rcases hu with rfl | rfl | ⟨z, _, rfl⟩ | rfl
 ·rfl
 ·rfl
 ·rfl
 ·exact h
structure FkS (o : Option Addr) (c : Nat) (l : List Nat) (p b : Nat) (lo : Bool) (f : Int × Int × List Int) (w W : World) : Prop where
 res : W.heap[w.heap.size]? = some (.cells #[.int .i64 0, .int .i64 0, .int .i64 0, .int .i64 0, .int .i64 0, .int .i64 0, .int .i64 0, .int .i64 0, .int .i64 0, .int .i64 0, .int .i64 0, .int .i64 0, .int .i64 0, .int .i64 0, .int .i64 0, .int .i64 0, .int .i64 0, .int .i64 0, .slice none 0 0] 28 (0, 0))
 box : W.heap[w.heap.size + 1]? = some (.cells (frL f (.slice none 0 0)).toArray 28 (0, 0))
 rd : PR o c l p b lo W
 le : b ≤ l.length
 grow : w.grownBy W (some p)
section
variable {o : Option Addr} {c : Nat} {l : List Nat} {p b b2 : Nat} {lo lo2 : Bool} {f f2 : Int × Int × List Int} {w W X : World}
theorem FkS.step (hp : p < w.heap.size) (i : FkS o c l p b lo f w W) (hg : W.grownBy X (some p)) (hr : PR o c l p b2 lo2 X) (hl : b2 ≤ l.length) : FkS o c l p b2 lo2 f w X := by
 have keep : ∀ {g : Nat} {ob : Obj}, g ≠ p → W.heap[g]? = some ob → X.heap[g]? = some ob := fun hne h => by
  rw [hg.block _ (Array.getElem?_eq_some_iff.1 h).1 (fun e => hne (Option.some.inj e))]
  exact h
 exact ⟨keep (by omega) i.res, keep (by omega) i.box, hr, hl, i.grow.trans hg⟩
theorem FkS.put (hp : p < w.heap.size) (hob : ∀ b off, o = some ⟨b, off, none⟩ → 0 < l.length → b < w.heap.size) (i : FkS o c l p b lo f w W) (hb : Below w.heap.size W X)
  (hres : X.heap[w.heap.size]? = W.heap[w.heap.size]?) (hbox : X.heap[w.heap.size + 1]? = some (.cells (frL f2 (.slice none 0 0)).toArray 28 (0, 0))) : FkS o c l p b lo f2 w X :=
 ⟨hres.trans i.res, hbox, PR_low i.rd hp hob hb, i.le, grown_low i.grow hb⟩
theorem FkS.cell (i : FkS o c l p b lo f w W) {j : Nat} {u : Value} (h : (frL f (.slice none 0 0))[j]? = some u) : W.cell? ⟨w.heap.size + 1, j, none⟩ = some u ∧ W.frozen? ⟨w.heap.size + 1, j, none⟩ = false :=
 ⟨by rw [cell_of_row _ _ _ _ _ _ i.box]; simpa using h, frozen_row i.box⟩
theorem FkS.set {j : Nat} {u : Value} (hp : p < w.heap.size) (hob : ∀ b off, o = some ⟨b, off, none⟩ → 0 < l.length → b < w.heap.size) (i : FkS o c l p b lo f w W)
  (h : (frL f (.slice none 0 0)).toArray.setIfInBounds j u = (frL f2 (.slice none 0 0)).toArray) : FkS o c l p b lo f2 w (W.setCell ⟨w.heap.size + 1, j, none⟩ u) := by
 have hb : Below w.heap.size W (W.setCell ⟨w.heap.size + 1, j, none⟩ u) := Below.setCell (p := ⟨w.heap.size + 1, j, none⟩) ⟨rfl, rfl, rfl, Nat.le_refl _, fun _ _ => rfl⟩ (by show _ ≤ w.heap.size + 1; omega) _
 refine i.put hp hob hb (heap_setCell_other _ _ _ _ (by show w.heap.size ≠ w.heap.size + 1; omega)) ?_
 rw [heap_setCell_same _ _ j _ _ u i.box, h]
end
def dFrame (f : Int × Int × List Int) : Prop := (0 ≤ f.1 ∧ f.1 ≤ 64) ∧ (0 ≤ f.2.1 ∧ f.2.1 ≤ 64) ∧ dNums 16 f.2.2
def PFr (p a : Nat) (lost : Bool) (o : Option Addr) (c : Nat) (l : List Nat) (w : World) : Ending → World → Prop := OneG pFrame (fun f : Int × Int × List Int => f) (fun f _ => dFrame f) (fun f => .agg (frL f (.slice none 0 0)).toArray) o c l p a lost w
set_option maxRecDepth 100000 in
set_option maxHeartbeats 4000000 in
theorem takef_any (o : Option Addr) (c : Nat) (l : List Nat) (p a : Nat) (lost : Bool) (w : World) (k : RdOk l a) (h : PR o c l p a lost w) (hob : ∀ b off, o = some ⟨b, off, none⟩ → 0 < l.length → b < w.heap.size) :
  Calls Tryz.prog 41 #[.pointer (some ⟨p, 0, none⟩)] w (PFr p a lost o c l w) := by
 obtain ⟨V0, hV0⟩ : ∃ V, (w.alloc (.cells #[.int .i64 0, .int .i64 0, .int .i64 0, .int .i64 0, .int .i64 0, .int .i64 0, .int .i64 0, .int .i64 0, .int .i64 0, .int .i64 0, .int .i64 0, .int .i64 0, .int .i64 0, .int .i64 0, .int .i64 0, .int .i64 0, .int .i64 0, .int .i64 0, .slice none 0 0] 28)).alloc (.cells #[.int .i64 0, .int .i64 0, .int .i64 0, .int .i64 0, .int .i64 0, .int .i64 0, .int .i64 0, .int .i64 0, .int .i64 0, .int .i64 0, .int .i64 0, .int .i64 0, .int .i64 0, .int .i64 0, .int .i64 0, .int .i64 0, .int .i64 0, .int .i64 0, .slice none 0 0] 28) = V := ⟨_, rfl⟩
 have hb0 : Below w.heap.size w V0 := by rw [← hV0]; exact ((Below.refl _ _).alloc (Nat.le_refl _) _).alloc (by simp) _
 have h0 : FkS o c l p a lost (0, 0, zero16) w V0 := by
  refine ⟨?_, ?_, h.below hb0, k.at', Pk.below_grown hb0 (some p)⟩
  ·rw [← hV0]; exact step_row (heap_alloc_new _ _)
  ·rw [← hV0]
   have := heap_alloc_new (w.alloc (.cells #[.int .i64 0, .int .i64 0, .int .i64 0, .int .i64 0, .int .i64 0, .int .i64 0, .int .i64 0, .int .i64 0, .int .i64 0, .int .i64 0, .int .i64 0, .int .i64 0, .int .i64 0, .int .i64 0, .int .i64 0, .int .i64 0, .int .i64 0, .int .i64 0, .slice none 0 0] 28)) (.cells #[.int .i64 0, .int .i64 0, .int .i64 0, .int .i64 0, .int .i64 0, .int .i64 0, .int .i64 0, .int .i64 0, .int .i64 0, .int .i64 0, .int .i64 0, .int .i64 0, .int .i64 0, .int .i64 0, .int .i64 0, .int .i64 0, .int .i64 0, .int .i64 0, .slice none 0 0] 28)
   rw [World.size_alloc] at this
   exact this
 have H0 := Lib.hid h0
 have HK := Lib.hid k
 have HLT := Lib.hid h.lt
 have HOB := Lib.hid hob
 have HV0 := Lib.hid hV0
 have HS1 := Lib.hid (rsmall_any 64 (by omega) o c l p a lost V0 k h0.rd)
 clear h hb0 k hV0 hob h0
 go_enter Tryz.func41, Tryz.ntmps41
 go_wp2_with (rw [HV0.out])
 refine HS1.out.mono ?_
 rintro e w1 h1
 obtain ⟨hg1, x1, a1, lo1, rfl, hn1, hp1, hl1, hr1⟩ := h1.use
 have ht1 := H0.out.step HLT.out hg1 hp1 hl1
 obtain ⟨q0, f0⟩ := ht1.cell (j := 0) rfl
 have ht2 := ht1.set (j := 0) (u := .int .i64 x1) (f2 := (x1, 0, zero16)) HLT.out HOB.out rfl
 obtain ⟨Y1, hY1⟩ : ∃ V, w1.setCell ⟨w.heap.size + 1, 0, none⟩ (.int .i64 x1) = V := ⟨_, rfl⟩
 rw [hY1] at ht2
 have H2 := Lib.hid ht2
 have HN1 := Lib.hid hn1
 have HR1 := Lib.hid hr1
 have HY1 := Lib.hid hY1
 have HS2 := Lib.hid (rsmall_any 64 (by omega) o c l p a1 lo1 Y1 (rd_ok HK.out hl1) ht2.rd)
 clear h1 hg1 hn1 hp1 hl1 hr1 ht1 ht2 hY1 HS1 H0 HV0
 go_wp2_with (rw [HY1.out])
 clear HY1 q0 f0
 refine HS2.out.mono ?_
 rintro e w2 h2
 obtain ⟨hg2, x2, a2, lo2, rfl, hn2, hp2, hl2, hr2⟩ := h2.use
 have ht1 := H2.out.step HLT.out hg2 hp2 hl2
 obtain ⟨q0, f0⟩ := ht1.cell (j := 1) rfl
 have ht2 := ht1.set (j := 1) (u := .int .i64 x2) (f2 := (x1, x2, zero16)) HLT.out HOB.out rfl
 obtain ⟨Y2, hY2⟩ : ∃ V, w2.setCell ⟨w.heap.size + 1, 1, none⟩ (.int .i64 x2) = V := ⟨_, rfl⟩
 rw [hY2] at ht2
 have H3 := Lib.hid ht2
 have HN2 := Lib.hid hn2
 have HR2 := Lib.hid hr2
 have HY2 := Lib.hid hY2
 have hob2 : ∀ b off, o = some ⟨b, off, none⟩ → 0 < l.length → b < Y2.heap.size := fun b off e hm => Nat.lt_of_lt_of_le (HOB.out b off e hm) ht2.grow.size
 have HM := Lib.hid (takem_any o c l p a2 lo2 Y2 (rd_ok HK.out hl2) ht2.rd hob2)
 clear h2 hg2 hn2 hp2 hl2 hr2 ht1 ht2 hY2 hob2 HS2 H2
 go_wp2_with (rw [HY2.out])
 clear HY2 q0 f0
 refine HM.out.mono ?_
 rintro e w3 h3
 obtain ⟨hg3, zs, a3, lo3, rfl, hn3, hp3, hl3, hr3⟩ := OneG.use h3
 have ht3 := H3.out.step HLT.out hg3 hp3 hl3
 have hthere : w3.there (w.heap.size + 1) 2 (mC zs).size := fun j hj => by
  rw [mC_size, hn3.1] at hj
  refine ⟨?_, frozen_row ht3.box⟩
  rw [cell_of_row _ _ _ _ _ _ ht3.box]
  simp [frL, zero16]
  omega
 obtain ⟨Y3, hY3⟩ : ∃ V, w3.setCells (w.heap.size + 1) 2 (mC zs).toList = V := ⟨_, rfl⟩
 have ht4 : FkS o c l p a3 lo3 (x1, x2, zs) w Y3 := by
  have hbY : Below w.heap.size w3 Y3 := by rw [← hY3]; exact below_cells (by omega) _ _ ⟨rfl, rfl, rfl, Nat.le_refl _, fun _ _ => rfl⟩
  refine ht3.put HLT.out HOB.out hbY ?_ ?_
  ·rw [← hY3]
   exact setCells_other (by omega) _ _ _
  ·have := setCells_row (mC zs).toList [.int .i64 x1, .int .i64 x2] (zero16.map encI) [.slice none 0 0] w3 (by simp [mC, zero16, hn3.1]) (by exact ht3.box)
   rw [← hY3]
   rw [show ([Value.int .i64 x1, Value.int .i64 x2] : List Value).length = 2 from rfl] at this
   rw [this]
   simp [frL, mC]
 have hi2 := Lib.hid (show (Tryz.prog.info? 25).map (·.size) = some (mC zs).size by rw [mC_size, hn3.1]; kernel_rfl)
 obtain ⟨f, hf⟩ : ∃ f : Int × Int × List Int, (x1, x2, zs) = f := ⟨_, rfl⟩
 rw [hf] at ht4
 obtain ⟨Y4, hY4⟩ : ∃ V, Y3.setRow w.heap.size (frL f (.slice none 0 0)).toArray = V := ⟨_, rfl⟩
 have hfl : f.2.2.length = 16 := by rw [← hf]; exact hn3.1
 have HE : Hid (PFr p a lost o c l w (.returned (.agg (frL f (.slice none 0 0)).toArray)) Y4) := Lib.hid (by
  have hbY : Below w.heap.size Y3 Y4 := by rw [← hY4]; exact Below.row ⟨rfl, rfl, rfl, Nat.le_refl _, fun _ _ => rfl⟩ (Nat.le_refl _) _
  have hr := runP_seq HR1.out (runP_seq HR2.out hr3)
  refine OneG.make (x := f) (grown_low ht4.grow hbY) (by rw [← hf]; exact ⟨HN1.out, HN2.out, hn3⟩) (PR_low ht4.rd HLT.out HOB.out hbY) hl3 ?_
  rw [← hf]
  exact hr)
 have HTH := Lib.hid hthere
 have HR4 := Lib.hid ht4.res
 have HBX := Lib.hid (show Y3.rangeAt (w.heap.size + 1) 0 (frL f (.slice none 0 0)) from fun j u hj => by rw [cell_of_row _ _ _ _ _ _ ht4.box, Nat.zero_add]; simpa using hj)
 have hlen : (frL f (.slice none 0 0)).length = 19 := by simp [frL, hfl]
 have hi3 := Lib.hid (show (Tryz.prog.info? 28).map (·.size) = some (frL f (.slice none 0 0)).length by rw [hlen]; kernel_rfl)
 have hi4 := Lib.hid (show (Tryz.prog.info? 28).map (·.size) = some (frL f (.slice none 0 0)).toArray.size by rw [List.size_toArray, hlen]; kernel_rfl)
 have hs4 := Lib.hid (show 19 = (frL f (.slice none 0 0)).toArray.size by rw [List.size_toArray, hlen])
 have ho4 := Lib.hid (frL_one f (v := .slice none 0 0) rfl)
 have HY3 := Lib.hid hY3
 have HY4 := Lib.hid hY4
 clear h3 hg3 hn3 hp3 hl3 hr3 ht3 ht4 hthere hY3 hY4 hf hfl hlen HM H3 HR1 HR2 HN1 HN2
 go_wp2_with (first | (rw [HY3.out]) | (with_reducible refine stop_at (some 13) rfl ?_; refine Lib.hid ?_; refine wpList_load_mid rfl 28 (.tmp 3) rfl (w.heap.size + 1) 0 rfl (frL f (.slice none 0 0)) _ HBX.out Tryz.underlying28 rfl hi3.out ?_) | (refine wpList_store_mid rfl 25 (.tmp 12) (.tmp 11) rfl (w.heap.size + 1) 2 (mC zs) rfl rfl HTH.out hi2.out (mC_one _) ?_) | (refine wpList_store_big rfl 28 (.tmp 2) (.tmp 13) rfl w.heap.size _ _ (frL f (.slice none 0 0)).toArray rfl rfl HR4.out hi4.out hs4.out ho4.out ?_))
 refine bodyPost_ret (v := .agg (frL f (.slice none 0 0)).toArray) (results_cell_row rfl _ _ w.heap.size _ (frL f (.slice none 0 0)).toArray _ _ rfl (setRow_heap _ _ _ _ _ _ HR4.out) Tryz.underlying28 rfl hi4.out) rfl ?_
 rw [HY4.out]
 exact HE.out
end Go.Proofs.YtbbhmhihpdmoiaaGreat.Fx
