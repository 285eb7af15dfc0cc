import Derived.Laws.Rows
import Derived.Test.YtbbhmhihpdmoiaaGreatProg
import Derived.Laws.ResultCell
import Derived.Test.YtbbhmhihpdmoiaaGreatMw36
import Derived.Test.YtbbhmhihpdmoiaaGreatMw37
import Derived.Test.YtbbhmhihpdmoiaaGreatMw39
set_option linter.unusedVariables false
set_option linter.unusedSimpArgs false
namespace Go.Proofs.YtbbhmhihpdmoiaaGreat.Fx
open Go Go.RowKit
open Go.Proofs.YtbbhmhihpdmoiaaGreat.Pk (PR RdOk By Bs)
def canO (x : Int × List Int × List (List Int) × List TriR) : ObjR := ⟨x.1, x.2.1, none, x.2.2.1, 0, none, x.2.2.2, 0⟩
def canS (k : KeyS) : ScR := ⟨k.1, k.2.1, k.2.2.1, none, k.2.2.2.map canO, 0⟩
theorem key_can (k : KeyS) : keyS (canS k) = k := by
 unfold keyS canS
 simp only [List.map_map]
 have : (keyO ∘ canO) = id := by
  funext x
  rfl
 rw [this, List.map_id]
def okK (k : KeyS) : Bool := okZ (canS k)
theorem ok_key (s : ScR) : okZ s = okK (keyS s) := okZ_key (key_can (keyS s)).symm
def decK (l : List Nat) : Option KeyS × Int := match behind mark1 l with
 | none => (none, begE mark1 l)
 | some r => match pSc r 0 with
  | none => (none, 70)
  | some (k, b) => if b = r.length then (if okK k = true then (some k, 0) else (none, 60)) else (none, 70)
def zeroK : KeyS := (0, 0, zero16, [])
def zeroS : ScR := ⟨0, 0, zero16, none, [], 0⟩
theorem num0 : Num 0 := ⟨by omega, by omega⟩
theorem zeroS_wf : ScWf zeroS := ⟨num0, num0, rfl, fun j => by
 have : zeroS.cam.getD j 0 = 0 := by
  show zero16.getD j 0 = 0
  rw [List.getD_eq_getElem?_getD]
  cases h : zero16[j]? with
  | none => rfl
  | some z =>
   have := List.mem_of_getElem? h
   unfold zero16 at this
   simp at this
   exact this
 rw [this]
 exact num0, ⟨⟨by simp [zeroS], by simp [zeroS]⟩, fun _ => rfl⟩⟩
theorem zeroS_fresh (B : Nat) (W : World) : FreshS B zeroS W := ⟨zeroS_wf, ⟨fun k z hk => by simp [zeroS] at hk⟩, fun x hx => by simp [zeroS] at hx⟩
def RetDe (l : List Nat) (w : World) (e : Ending) (w' : World) : Prop := (∃ s : ScR, e = .returned (.tuple #[.agg (scC s), .int .i64 (decK l).2]) ∧ FreshS w.heap.size s w' ∧ keyS s = (decK l).1.getD zeroK) ∧ Below w.heap.size w w'
theorem cell_lt {W : World} {b j : Nat} {v : Value} (h : W.cell? ⟨b, j, none⟩ = some v) : b < W.heap.size := by
 unfold World.cell? at h
 cases hb : W.heap[b]? with
 | none => rw [hb] at h; simp at h
 | some o => exact (Array.getElem?_eq_some_iff.1 hb).1
theorem PR_hob {o : Option Addr} {c : Nat} {l : List Nat} {p a : Nat} {lost : Bool} {W : World} (h : PR o c l p a lost W) : ∀ b off, o = some ⟨b, off, none⟩ → 0 < l.length → b < W.heap.size := fun b off e hm => by
 obtain ⟨b', off', e', hc⟩ := h.bs 0 hm
 rw [e] at e'
 cases e'
 exact cell_lt hc
theorem end_dec {r : List Nat} {f : Int × Int × List Int} {ks : List (Int × List Int × List (List Int) × List TriR)} {a1 a2 : Nat} {lo1 lo2 : Bool} (h1 : runP false pFrame r 0 = opt lo1 (f, a1)) (h2 : runP lo1 (pMany 16 pObj) r a1 = opt lo2 (ks, a2)) (hl : a2 ≤ r.length) :
  (Pk.endV lo2 r.length a2 = 0 → lo2 = false ∧ pSc r 0 = some ((f.1, f.2.1, f.2.2, ks), r.length)) ∧ (Pk.endV lo2 r.length a2 ≠ 0 → ∀ k b, pSc r 0 = some (k, b) → b ≠ r.length) := by
 have hsc := pSc_eq r 0
 have e1 : runP false pFrame r 0 = pFrame r 0 := rfl
 rw [e1] at h1
 unfold Pk.endV
 cases lo1
 ·have e2 : runP false (pMany 16 pObj) r a1 = pMany 16 pObj r a1 := rfl
  rw [e2] at h2
  rw [h1] at hsc
  simp only [opt, Bool.false_eq_true, if_false] at hsc
  rw [h2] at hsc
  cases lo2
  ·simp only [opt, Bool.false_eq_true, if_false, false_or] at hsc ⊢
   refine ⟨fun h => ⟨trivial, ?_⟩, fun h k b hk => ?_⟩
   ·split at h
    ·cases h
    ·rw [hsc, show a2 = r.length by omega]
   ·split at h
    ·rw [hsc] at hk
     cases hk
     omega
    ·exact absurd rfl h
  ·simp only [opt, if_true, true_or] at hsc ⊢
   exact ⟨fun h => (by cases h), fun _ k b hk => by rw [hsc] at hk; cases hk⟩
 ·have e2 : runP true (pMany 16 pObj) r a1 = none := rfl
  rw [e2] at h2
  rw [h1] at hsc
  simp only [opt, if_true] at hsc
  cases lo2
  ·simp [opt] at h2
  ·simp only [if_true, true_or]
   exact ⟨fun h => (by cases h), fun _ k b hk => by rw [hsc] at hk; cases hk⟩
theorem results_two {fn : Func} {p u : Tmp} {ty : TypeId} (h : fn.results = #[.cell p ty, .tmp u]) (tmps : Array Value) (w : World) (g : Nat) (hp : tmps.getD p undef = .pointer (some ⟨g, 0, none⟩)) (v : Value) (hu : tmps.getD u undef = v) (t : TypeId) (cs : Array Value) (d : TypeDesc) (hr : w.heap[g]? = some (.cells cs t (0, 0))) (hd : Tryz.prog.underlying ty = some d) (hrow : (match d with | .struct _ | .array _ _ => true | _ => false) = true) (hi : (Tryz.prog.info? ty).map (·.size) = some cs.size) :
  (results fn tmps).run Tryz.prog w = .ok (.tuple #[.agg cs, v]) w := by
 rw [results_cell_tmp h, hp, hu]
 simp only [asAddr, Sem.run_pure, Result.andThen_ok]
 rw [run_loadVar_row w g t ty cs (0, 0) d hr hd (by cases d <;> first | rfl | exact hrow) hi]
 rfl
theorem FreshS.rows {B : Nat} {c : ScR} {W X : World} (s : FreshS B c W) (hO : Rows 73 W X) (h3 : Rows 85 W X) (h4 : Rows 87 W X) : FreshS B c X :=
 ⟨s.wf, s.objs.rows hO, fun x hx => (s.each x hx).rows h3 h4⟩
theorem dec_70 {l r : List Nat} (h : behind mark1 l = some r) (hn : ∀ k b, pSc r 0 = some (k, b) → b ≠ r.length) : decK l = (none, 70) := by
 unfold decK
 rw [h]
 dsimp only
 cases hp : pSc r 0 with
 | none => rfl
 | some q =>
  obtain ⟨k, b⟩ := q
  dsimp only
  rw [if_neg (hn k b hp)]
theorem dec_end {l r : List Nat} (h : behind mark1 l = some r) {k : KeyS} (hn : pSc r 0 = some (k, r.length)) : decK l = if okK k = true then (some k, 0) else (none, 60) := by
 unfold decK
 rw [h]
 dsimp only
 rw [hn]
 dsimp only
 rw [if_pos rfl]
theorem frL_set {f : Int × Int × List Int} (h : f.2.2.length = 16) (v u : Value) : (frL f v).toArray.setIfInBounds 18 u = (frL f u).toArray := by
 simp [frL, List.set_append, h]
theorem frL_len {f : Int × Int × List Int} (h : f.2.2.length = 16) (v : Value) : (frL f v).length = 19 := by simp [frL, h]
theorem frL_sc (f : Int × Int × List Int) (oo : Option Addr) (zs : List ObjR) (oc : Nat) : frL f (.slice oo zs.length oc) = scL ⟨f.1, f.2.1, f.2.2, oo, zs, oc⟩ := rfl
theorem frame_wf {f : Int × Int × List Int} (h : dFrame f) {oo : Option Addr} {zs : List ObjR} {oc : Nat} (hc : CapOk oo zs.length oc) : ScWf ⟨f.1, f.2.1, f.2.2, oo, zs, oc⟩ :=
 ⟨num_of (by omega) h.1, num_of (by omega) h.2.1, h.2.2.1, fun j => by
  show Num (f.2.2.getD j 0)
  rw [List.getD_eq_getElem?_getD]
  cases hz : f.2.2[j]? with
  | none => exact ⟨by simp, by simp⟩
  | some z => exact h.2.2.2 z (List.mem_of_getElem? hz), hc⟩
set_option maxRecDepth 100000 in
set_option maxHeartbeats 4000000 in
theorem pdecode_any (l : List Nat) (o : Option Addr) (c : Nat) (w : World) (hl : By l) (hlen : l.length ≤ 900000) (hc : l.length ≤ c) (hc2 : c ≤ 9223372036854775807) (hb : Bs w o l) :
  Calls Tryz.prog 16 #[.slice o l.length c] w (RetDe l w) := by
 obtain ⟨V0, hV0⟩ : ∃ V, w.alloc (.cells #[.int .i64 0, .int .i64 0, .int .i64 0, .int .i64 0, .int .i64 0, .int .i64 0, .int .i64 0, .int .i64 0, .int .i64 0, .int .i64 0, .int .i64 0, .int .i64 0, .int .i64 0, .int .i64 0, .int .i64 0, .int .i64 0, .int .i64 0, .int .i64 0, .slice none 0 0] 28) = V := ⟨_, rfl⟩
 have hb0 : Below w.heap.size w V0 := by rw [← hV0]; exact (Below.refl _ _).alloc (Nat.le_refl _) _
 have hr0 : RowAt 28 w.heap.size #[.int .i64 0, .int .i64 0, .int .i64 0, .int .i64 0, .int .i64 0, .int .i64 0, .int .i64 0, .int .i64 0, .int .i64 0, .int .i64 0, .int .i64 0, .int .i64 0, .int .i64 0, .int .i64 0, .int .i64 0, .int .i64 0, .int .i64 0, .int .i64 0, .slice none 0 0] V0 := by rw [← hV0]; exact RowAt.new _ _ _
 have hz0 : V0.heap.size = w.heap.size + 1 := by rw [← hV0]; simp
 have HO := Lib.hid (popened_any mark1 mark1_by (by decide) l o c V0 hl hlen hc hc2 (hb.below hb0))
 rw [show Pk.bstr mark1 = ⟨#[109, 117, 108, 49]⟩ from rfl] at HO
 have HB0 := Lib.hid hb0
 have HR0 := Lib.hid hr0
 have HZ0 := Lib.hid hz0
 have HV0 := Lib.hid hV0
 have HBY := Lib.hid (show ∀ r, behind mark1 l = some r → By r ∧ r.length ≤ 900000 from fun r hr => by
  unfold behind at hr
  cases ho : Cx.opened l with
  | none => rw [ho] at hr; cases hr
  | some m =>
   rw [ho] at hr
   dsimp only at hr
   split at hr
   ·cases hr
    obtain ⟨h1, h2⟩ := opened_by hl ho
    exact ⟨fun x hx => h1 x (List.mem_of_mem_drop hx), by rw [List.length_drop]; omega⟩
   ·cases hr)
 have hiz := Lib.hid (show (Tryz.prog.info? 28).map (·.size) = some (scC zeroS).size by kernel_rfl)
 have hsz := Lib.hid (show 19 = (scC zeroS).size from rfl)
 have hoz := Lib.hid (show (scC zeroS).all (·.oneCell') = true from twL_one zeroS (.slice none 0 0) rfl)
 clear hb0 hr0 hV0 hl hlen hc hc2 hb hz0
 have HFZ : Hid (∀ (ec : Int) (X : World), decK l = (none, ec) → Below w.heap.size w X → RetDe l w (.returned (.tuple #[.agg (scC zeroS), .int .i64 ec])) X) := Lib.hid (fun ec X hd hb => ⟨⟨zeroS, by rw [hd], zeroS_fresh _ _, by rw [hd]; rfl⟩, hb⟩)
 unfold RetOp at HO
 cases hbh : behind mark1 l with
 | none =>
  have HD : Hid (decK l = (none, begE mark1 l)) := Lib.hid (by unfold decK; rw [hbh])
  have HNZ : Hid (begE mark1 l ≠ 0) := Lib.hid (by
   unfold behind at hbh
   unfold begE
   cases ho : Cx.opened l with
   | none => simp
   | some m =>
    rw [ho] at hbh
    dsimp only at hbh ⊢
    split at hbh
    ·cases hbh
    ·rename_i hh
     rw [if_neg hh]
     decide)
  simp only [hbh] at HO
  have hnz := HNZ.out
  generalize begE mark1 l = ec at HO HD hnz
  clear hbh HNZ
  go_enter Tryz.func16, Tryz.ntmps16
  go_wp2_with (rw [HV0.out])
  refine HO.out.mono ?_
  rintro e w1 ⟨hb1, rfl⟩
  have HR1 := Lib.hid (HR0.out.below hb1)
  have HB1 := Lib.hid (bnext HB0.out hb1)
  clear hb1 HO HV0 HR0
  go_wp2_with (first | (with_reducible refine stop_at (some 15) rfl ?_; refine Lib.hid ?_; refine wpList_valX rfl (.agg (scC zeroS)) w1 (by kernel_rfl) ?_) | (refine wpList_store_big rfl 28 (.tmp 2) (.tmp 15) rfl w.heap.size _ _ (scC zeroS) rfl rfl HR1.out hiz.out hsz.out hoz.out ?_))
  refine bodyPost_ret (v := .tuple #[.agg (scC zeroS), .int .i64 ec]) (results_two rfl _ _ w.heap.size rfl (.int .i64 ec) rfl 28 (scC zeroS) _ (setRow_heap _ _ _ _ _ _ HR1.out) Tryz.underlying28 rfl hiz.out) rfl ?_
  exact HFZ.out ec _ HD.out (Below.row HB1.out (Nat.le_refl _) _)
 | some r =>
  have hbr := HBY.out r hbh
  simp only [hbh] at HO
  have hkb := Lib.hid hbr
  have HBH := Lib.hid hbh
  clear hbr HBY hbh
  go_enter Tryz.func16, Tryz.ntmps16
  go_wp2_with (rw [HV0.out])
  refine HO.out.mono ?_
  rintro e w1 ⟨hb1, p, o1, c1, rfl, hpr, hp, hob⟩
  rw [HZ0.out] at hp hob
  have hr1 := HR0.out.below hb1
  have hbw := bnext HB0.out hb1
  have hs1 := HZ0.out ▸ hb1.size
  have k0 : RdOk r 0 := ⟨hkb.out.1, by have := hkb.out.2; omega, by omega⟩
  have HF := Lib.hid (takef_any o1 c1 r p 0 false w1 k0 hpr (PR_hob hpr))
  have HK := Lib.hid k0
  have HOB := Lib.hid (show ∀ b off, o1 = some ⟨b, off, none⟩ → 0 < r.length → b < w1.heap.size from PR_hob hpr)
  have HPL := Lib.hid (show w.heap.size < p ∧ p < w1.heap.size from ⟨by omega, hpr.lt⟩)
  have HR1 := Lib.hid hr1
  have HB1 := Lib.hid hbw
  clear hb1 hpr hp hob hr1 hbw hs1 k0 HO HV0 HR0 HB0 HZ0
  go_wp2_with fail
  refine HF.out.mono ?_
  rintro e w2 h2
  obtain ⟨hg2, f, a1, lo1, rfl, hn2, hp2, hl2, hrun2⟩ := OneG.use h2
  obtain ⟨hp0, hp1⟩ := HPL.out
  have hs2 := hg2.size
  have hb2 : Below w.heap.size w w2 := below_grown2 (Nat.le_refl _) HB1.out hg2 (fun k e => by cases e; omega)
  have hr2 := row_grown HR1.out hg2 (by omega)
  have hrs : w.heap.size < w2.heap.size := by omega
  obtain ⟨V2, hV2⟩ : ∃ V, w2.alloc (.cells #[.int .i64 0, .int .i64 0, .int .i64 0, .int .i64 0, .int .i64 0, .int .i64 0, .int .i64 0, .int .i64 0, .int .i64 0, .int .i64 0, .int .i64 0, .int .i64 0, .int .i64 0, .int .i64 0, .int .i64 0, .int .i64 0, .int .i64 0, .int .i64 0, .slice none 0 0] 28) = V := ⟨_, rfl⟩
  obtain ⟨V3, hV3⟩ : ∃ V, V2.setRow w2.heap.size (frL f (.slice none 0 0)).toArray = V := ⟨_, rfl⟩
  have hx2 : V2.heap[w2.heap.size]? = some (.cells #[.int .i64 0, .int .i64 0, .int .i64 0, .int .i64 0, .int .i64 0, .int .i64 0, .int .i64 0, .int .i64 0, .int .i64 0, .int .i64 0, .int .i64 0, .int .i64 0, .int .i64 0, .int .i64 0, .int .i64 0, .int .i64 0, .int .i64 0, .int .i64 0, .slice none 0 0] 28 (0, 0)) := by rw [← hV2]; exact heap_alloc_new _ _
  have hx3 : V3.heap[w2.heap.size]? = some (.cells (frL f (.slice none 0 0)).toArray 28 (0, 0)) := by rw [← hV3]; exact setRow_heap _ _ _ _ _ _ hx2
  have hlow3 : Below w2.heap.size w2 V3 := by rw [← hV3, ← hV2]; exact Below.row ((Below.refl _ _).alloc (Nat.le_refl _) _) (Nat.le_refl _) _
  have hb3 : Below w.heap.size w V3 := bnext hb2 hlow3
  have hr3 : V3.heap[w.heap.size]? = some (.cells #[.int .i64 0, .int .i64 0, .int .i64 0, .int .i64 0, .int .i64 0, .int .i64 0, .int .i64 0, .int .i64 0, .int .i64 0, .int .i64 0, .int .i64 0, .int .i64 0, .int .i64 0, .int .i64 0, .int .i64 0, .int .i64 0, .int .i64 0, .int .i64 0, .slice none 0 0] 28 (0, 0)) := by rw [hlow3.block _ hrs]; exact hr2
  have hob2 : ∀ b off, o1 = some ⟨b, off, none⟩ → 0 < r.length → b < w2.heap.size := fun b off e hm => Nat.lt_of_lt_of_le (HOB.out b off e hm) hs2
  have hp3 := PR_low hp2 (by omega) hob2 hlow3
  have hs3 : w2.heap.size < V3.heap.size := (Array.getElem?_eq_some_iff.1 hx3).1
  have HM := Lib.hid (pmany_o w.heap.size o1 c1 r p a1 lo1 V3 (by omega) (rd_ok HK.out hl2) hp3 (fun b off e hm => Nat.lt_trans (hob2 b off e hm) hs3))
  have hfl := hn2.2.2.1
  have hi2 := Lib.hid (show (Tryz.prog.info? 28).map (·.size) = some (frL f (.slice none 0 0)).toArray.size by rw [List.size_toArray, frL_len hfl]; kernel_rfl)
  have hs2' := Lib.hid (show 19 = (frL f (.slice none 0 0)).toArray.size by rw [List.size_toArray, frL_len hfl])
  have ho2 := Lib.hid (frL_one f (v := .slice none 0 0) rfl)
  have HX2 := Lib.hid hx2
  have HX3 := Lib.hid hx3
  have HR3 := Lib.hid hr3
  have HB3 := Lib.hid hb3
  have HOB2 := Lib.hid hob2
  have HN := Lib.hid hn2
  have HRU := Lib.hid hrun2
  have HV2 := Lib.hid hV2
  have HV3 := Lib.hid hV3
  have HSZ := Lib.hid (show w.heap.size < w2.heap.size ∧ p < w2.heap.size ∧ w2.heap.size < V3.heap.size ∧ w.heap.size < p from ⟨hrs, by omega, hs3, hp0⟩)
  clear h2 hg2 hn2 hp2 hl2 hrun2 hp0 hp1 hs2 hb2 hr2 hrs hx2 hx3 hlow3 hb3 hr3 hob2 hp3 hs3 hfl hV2 hV3 HF HPL HR1 HB1 HOB
  go_wp2_with (first | (rw [HV2.out]) | (refine wpList_store_big rfl 28 (.tmp 6) (.tmp 18) rfl w2.heap.size _ _ (frL f (.slice none 0 0)).toArray rfl rfl HX2.out hi2.out hs2'.out ho2.out ?_) | (rw [HV3.out]))
  refine HM.out.mono ?_
  rintro e w4 h4
  obtain ⟨hg4, v4, zs, a2, lo2, rfl, ho4, he4, hp4, hl4, hrun4⟩ := h4.use
  obtain ⟨oo, oc, rfl, hcap, hlies⟩ := ho4.form (fun z hz => by simp [objL, (he4 z hz).wf.len])
  obtain ⟨q1, q2, q3, q4⟩ := HSZ.out
  have hx4 : w4.heap[w2.heap.size]? = some (.cells (frL f (.slice none 0 0)).toArray 28 (0, 0)) := row_grown HX3.out hg4 (by omega)
  have hr4 : w4.heap[w.heap.size]? = some (.cells #[.int .i64 0, .int .i64 0, .int .i64 0, .int .i64 0, .int .i64 0, .int .i64 0, .int .i64 0, .int .i64 0, .int .i64 0, .int .i64 0, .int .i64 0, .int .i64 0, .int .i64 0, .int .i64 0, .int .i64 0, .int .i64 0, .int .i64 0, .int .i64 0, .slice none 0 0] 28 (0, 0)) := row_grown HR3.out hg4 (by omega)
  have hb4 : Below w.heap.size w w4 := below_grown2 (Nat.le_refl _) HB3.out hg4 (fun k e => by cases e; omega)
  obtain ⟨s, hs⟩ : ∃ s : ScR, (⟨f.1, f.2.1, f.2.2, oo, zs, oc⟩ : ScR) = s := ⟨_, rfl⟩
  have hwf : ScWf s := by rw [← hs]; exact frame_wf HN.out hcap
  obtain ⟨Y4, hY4⟩ : ∃ V, w4.setCell ⟨w2.heap.size, 18, none⟩ (.slice oo zs.length oc) = V := ⟨_, rfl⟩
  have hx5 : Y4.heap[w2.heap.size]? = some (.cells (scL s).toArray 28 (0, 0)) := by
   rw [← hY4, heap_setCell_same _ _ 18 _ _ _ hx4, frL_set HN.out.2.2.1, frL_sc, hs]
  have hlow4 : Below w2.heap.size w4 Y4 := by rw [← hY4]; exact Below.setCell (p := ⟨w2.heap.size, 18, none⟩) ⟨rfl, rfl, rfl, Nat.le_refl _, fun _ _ => rfl⟩ (Nat.le_refl _) _
  have hr5 : Y4.heap[w.heap.size]? = some (.cells #[.int .i64 0, .int .i64 0, .int .i64 0, .int .i64 0, .int .i64 0, .int .i64 0, .int .i64 0, .int .i64 0, .int .i64 0, .int .i64 0, .int .i64 0, .int .i64 0, .int .i64 0, .int .i64 0, .int .i64 0, .int .i64 0, .int .i64 0, .int .i64 0, .slice none 0 0] 28 (0, 0)) := by rw [hlow4.block _ q1]; exact hr4
  have hb5 : Below w.heap.size w Y4 := by rw [← hY4]; exact hb4.setCell (p := ⟨w2.heap.size, 18, none⟩) (by show _ ≤ w2.heap.size; omega) _
  have hp5 := PR_low hp4 q2 HOB2.out hlow4
  have hfs : FreshS w.heap.size s Y4 := by
   have hrw : ∀ {t : TypeId}, t ≠ 28 → Rows t w4 Y4 := fun hne => by rw [← hY4]; exact Rows.of_set hx4 hne
   rw [← hs] at hwf ⊢
   exact ⟨hwf, (hlies.rows (hrw (by decide))).base (by omega), fun x hx => (he4 x hx).rows (hrw (by decide)) (hrw (by decide))⟩
  obtain ⟨c18, f18⟩ : w4.cell? ⟨w2.heap.size, 18, none⟩ = some (.slice none 0 0) ∧ w4.frozen? ⟨w2.heap.size, 18, none⟩ = false :=
   ⟨by rw [cell_of_row _ _ _ _ _ _ hx4]; simp [frL, HN.out.2.2.1], frozen_row hx4⟩
  have hkey : keyS s = (f.1, f.2.1, f.2.2, zs.map keyO) := by rw [← hs]; rfl
  have hend := end_dec HRU.out hrun4 hl4
  have HEN := Lib.hid (Pk.pend_any o1 c1 r p a2 lo2 Y4 (rd_ok HK.out hl4) hp5)
  have HY4 := Lib.hid hY4
  have HX5 := Lib.hid hx5
  have HR5 := Lib.hid hr5
  have HB5 := Lib.hid hb5
  have HFS := Lib.hid hfs
  have HKEY := Lib.hid hkey
  have HEND := Lib.hid hend
  clear h4 hg4 ho4 he4 hp4 hl4 hrun4 hcap hlies q1 q2 q3 q4 hx4 hr4 hb4 hs hwf hx5 hlow4 hr5 hb5 hp5 hfs hkey hend hY4 HM HX2 HX3 HR3 HB3 HOB2 HN HRU HV2 HV3 HSZ hi2 hs2' ho2 HK hkb
  generalize hec : Pk.endV lo2 r.length a2 = ec at HEN HEND
  clear hec
  by_cases hz : ec = 0
  ·subst hz
   obtain ⟨_, hps⟩ := HEND.out.1 rfl
   rw [← HKEY.out] at hps
   have HDK := Lib.hid (dec_end HBH.out hps)
   clear hps HEND HBH
   go_wp2_with (rw [HY4.out])
   clear c18 f18 HY4
   refine HEN.out.mono ?_
   rintro e w5 ⟨rfl, hb⟩
   have hx6 := keep_row hb HX5.out
   have hfs6 : FreshS w.heap.size s w5 := HFS.out.rows (Rows.of_below hb) (Rows.of_below hb) (Rows.of_below hb)
   have HX6 := Lib.hid (show w5.rangeAt w2.heap.size 0 (scL s) from fun j u hj => by rw [cell_of_row _ _ _ _ _ _ hx6, Nat.zero_add]; simpa using hj)
   have HR6 := Lib.hid (show RowAt 28 w.heap.size #[.int .i64 0, .int .i64 0, .int .i64 0, .int .i64 0, .int .i64 0, .int .i64 0, .int .i64 0, .int .i64 0, .int .i64 0, .int .i64 0, .int .i64 0, .int .i64 0, .int .i64 0, .int .i64 0, .int .i64 0, .int .i64 0, .int .i64 0, .int .i64 0, .slice none 0 0] w5 from keep_row hb HR5.out)
   have HB6 := Lib.hid (bnext HB5.out hb)
   have HC := Lib.hid (show Calls Tryz.prog 30 #[.agg (scL s).toArray] w5 (RetErr (okZ s) w5) from pcheck_any s w5 hfs6.wf hfs6.at)
   have HF6 := Lib.hid hfs6
   have hi6 := Lib.hid (show (Tryz.prog.info? 28).map (·.size) = some (scL s).length by simp only [scL, List.length_cons, List.length_append, List.length_map, hfs6.wf.len, List.length_nil]; kernel_rfl)
   have HI6 := Lib.hid (show (Tryz.prog.info? 28).map (·.size) = some (scL s).toArray.size by rw [List.size_toArray]; exact hi6.out)
   have HS6 := Lib.hid (show 19 = (scL s).toArray.size by simp [scL, hfs6.wf.len])
   have HO6 := Lib.hid (show (scL s).toArray.all (·.oneCell') = true from twL_one s (.slice s.oo s.os.length s.oc) rfl)
   clear hx6 hfs6 hb HEN HX5 HR5 HB5 HFS HKEY
   rw [← ok_key] at HDK
   unfold RetErr at HC
   cases hk : okZ s
   ·rw [hk] at HC HDK
    simp only [Bool.false_eq_true, if_false] at HC HDK
    go_wp2_with (with_reducible refine stop_at (some 26) rfl ?_; refine Lib.hid ?_; refine wpList_load_mid rfl 28 (.tmp 6) rfl w2.heap.size 0 rfl (scL s) _ HX6.out Tryz.underlying28 rfl hi6.out ?_)
    refine HC.out.mono ?_
    rintro e w6 ⟨rfl, hb⟩
    have HR7 := Lib.hid (show RowAt 28 w.heap.size #[.int .i64 0, .int .i64 0, .int .i64 0, .int .i64 0, .int .i64 0, .int .i64 0, .int .i64 0, .int .i64 0, .int .i64 0, .int .i64 0, .int .i64 0, .int .i64 0, .int .i64 0, .int .i64 0, .int .i64 0, .int .i64 0, .int .i64 0, .int .i64 0, .slice none 0 0] w6 from keep_row hb HR6.out)
    have HB7 := Lib.hid (bnext HB6.out hb)
    clear hb HC HR6 HB6
    go_wp2_with (first | (with_reducible refine stop_at (some 30) rfl ?_; refine Lib.hid ?_; refine wpList_valX rfl (.agg (scC zeroS)) w6 (by kernel_rfl) ?_) | (refine wpList_store_big rfl 28 (.tmp 2) (.tmp 30) rfl w.heap.size _ _ (scC zeroS) rfl rfl HR7.out hiz.out hsz.out hoz.out ?_))
    refine bodyPost_ret (v := .tuple #[.agg (scC zeroS), .int .i64 60]) (results_two rfl _ _ w.heap.size rfl (.int .i64 60) rfl 28 (scC zeroS) _ (setRow_heap _ _ _ _ _ _ HR7.out) Tryz.underlying28 rfl hiz.out) rfl ?_
    exact HFZ.out 60 _ HDK.out (Below.row HB7.out (Nat.le_refl _) _)
   ·rw [hk] at HC HDK
    simp only [if_true] at HC HDK
    go_wp2_with (with_reducible refine stop_at (some 26) rfl ?_; refine Lib.hid ?_; refine wpList_load_mid rfl 28 (.tmp 6) rfl w2.heap.size 0 rfl (scL s) _ HX6.out Tryz.underlying28 rfl hi6.out ?_)
    refine HC.out.mono ?_
    rintro e w6 ⟨rfl, hb⟩
    have HX7 := Lib.hid (show w6.rangeAt w2.heap.size 0 (scL s) from range_below hb HX6.out)
    have HR7 := Lib.hid (show RowAt 28 w.heap.size #[.int .i64 0, .int .i64 0, .int .i64 0, .int .i64 0, .int .i64 0, .int .i64 0, .int .i64 0, .int .i64 0, .int .i64 0, .int .i64 0, .int .i64 0, .int .i64 0, .int .i64 0, .int .i64 0, .int .i64 0, .int .i64 0, .int .i64 0, .int .i64 0, .slice none 0 0] w6 from keep_row hb HR6.out)
    have HB7 := Lib.hid (bnext HB6.out hb)
    have HF7 := Lib.hid (show FreshS w.heap.size s w6 from HF6.out.rows (Rows.of_below hb) (Rows.of_below hb) (Rows.of_below hb))
    clear hb HC HR6 HB6 HX6 HF6
    go_wp2_with (first | (with_reducible refine stop_at (some 32) rfl ?_; refine Lib.hid ?_; refine wpList_load_mid rfl 28 (.tmp 6) rfl w2.heap.size 0 rfl (scL s) _ HX7.out Tryz.underlying28 rfl hi6.out ?_) | (refine wpList_store_big rfl 28 (.tmp 2) (.tmp 32) rfl w.heap.size _ _ (scL s).toArray rfl rfl HR7.out HI6.out HS6.out HO6.out ?_))
    refine bodyPost_ret (v := .tuple #[.agg (scL s).toArray, .int .i64 0]) (results_two rfl _ _ w.heap.size rfl (.int .i64 0) rfl 28 (scL s).toArray _ (setRow_heap _ _ _ _ _ _ HR7.out) Tryz.underlying28 rfl HI6.out) rfl ?_
    refine ⟨⟨s, by rw [HDK.out]; rfl, ?_, by rw [HDK.out]; rfl⟩, Below.row HB7.out (Nat.le_refl _) _⟩
    have hrw : ∀ {t : TypeId}, t ≠ 28 → Rows t w6 (w6.setRow w.heap.size (scL s).toArray) := fun hne g cur hg => by
     rw [setRow_other _ _ _ _ (fun e => by
      subst e
      have := HR7.out
      unfold RowAt at this
      rw [this] at hg
      cases hg
      exact hne rfl)]
     exact hg
    exact HF7.out.rows (hrw (by decide)) (hrw (by decide)) (hrw (by decide))
  ·have HDK := Lib.hid (dec_70 HBH.out (HEND.out.2 hz))
   clear HEND HBH
   go_wp2_with (rw [HY4.out])
   clear c18 f18 HY4
   refine HEN.out.mono ?_
   rintro e w5 ⟨rfl, hb⟩
   have HR6 := Lib.hid (show RowAt 28 w.heap.size #[.int .i64 0, .int .i64 0, .int .i64 0, .int .i64 0, .int .i64 0, .int .i64 0, .int .i64 0, .int .i64 0, .int .i64 0, .int .i64 0, .int .i64 0, .int .i64 0, .int .i64 0, .int .i64 0, .int .i64 0, .int .i64 0, .int .i64 0, .int .i64 0, .slice none 0 0] w5 from keep_row hb HR5.out)
   have HB6 := Lib.hid (bnext HB5.out hb)
   clear hb HEN HR5 HB5
   go_wp2_with (first | (with_reducible refine stop_at (some 25) rfl ?_; refine Lib.hid ?_; refine wpList_valX rfl (.agg (scC zeroS)) w5 (by kernel_rfl) ?_) | (refine wpList_store_big rfl 28 (.tmp 2) (.tmp 25) rfl w.heap.size _ _ (scC zeroS) rfl rfl HR6.out hiz.out hsz.out hoz.out ?_))
   refine bodyPost_ret (v := .tuple #[.agg (scC zeroS), .int .i64 70]) (results_two rfl _ _ w.heap.size rfl (.int .i64 70) rfl 28 (scC zeroS) _ (setRow_heap _ _ _ _ _ _ HR6.out) Tryz.underlying28 rfl hiz.out) rfl ?_
   exact HFZ.out 70 _ HDK.out (Below.row HB6.out (Nat.le_refl _) _)
end Go.Proofs.YtbbhmhihpdmoiaaGreat.Fx
