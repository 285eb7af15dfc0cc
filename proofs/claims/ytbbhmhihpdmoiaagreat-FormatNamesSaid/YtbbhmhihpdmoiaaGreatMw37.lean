import Derived.Laws.Rows
import Derived.Test.YtbbhmhihpdmoiaaGreatProg
import Derived.Defers
import Derived.Recover
import Derived.Test.YtbbhmhihpdmoiaaGreatMw08
import Derived.Test.YtbbhmhihpdmoiaaGreatMw27
import Derived.Test.YtbbhmhihpdmoiaaGreatMw28
import Derived.Test.YtbbhmhihpdmoiaaGreatMw33
import Derived.Test.YtbbhmhihpdmoiaaGreatMw36
set_option linter.unusedVariables false
set_option linter.unusedSimpArgs false
namespace Go.Proofs.YtbbhmhihpdmoiaaGreat.Fx
open Go Go.RowKit
open Go.Proofs.YtbbhmhihpdmoiaaGreat.Pk (PR RdOk Bs)
theorem many_idle_o (a b : Addr) (w : World) :
  CallsD Tryz.prog 75 #[.pointer (some a), .pointer (some b)] .returning w fun e u' w' => e = .returned (.tuple #[]) ∧ u' = .returning ∧ w' = w := by
 refine callsD_of_wpS Tryz.func75 rfl fun c₀ cs hu => ?_
 apply wpS_seq
 apply wpS_region
 simp [wpOpsS, go_sem, recoverD, hu, Tryz.ntmps75, Exit.thenS]
 refine wpS_cond (t := false) (by simp [Act.eval, Array.replicate]) ?_
 simp only [Bool.false_eq_true, if_false]
 refine wpS_of_wp (wp_skip ?_)
 cases c₀
 simp_all [bodyPostS, results, Tryz.results75]
set_option maxRecDepth 100000 in
set_option maxHeartbeats 8000000 in
theorem pmany_o (B : Nat) (o : Option Addr) (c : Nat) (l : List Nat) (p at0 : Nat) (lost : Bool) (w : World) (hB : B ≤ w.heap.size) (k : RdOk l at0) (h : PR o c l p at0 lost w) (hob : ∀ b off, o = some ⟨b, off, none⟩ → 0 < l.length → b < w.heap.size) :
  Calls Tryz.prog 42 #[.pointer (some ⟨p, 0, none⟩), .int .i64 16, .func (.func 43) #[] #[]] w (PMG keyO 73 19 objL (FreshO B) o c l p (runP lost (pMany 16 pObj) l at0) w) := by
 have hel : ElOk 73 26 (FreshO B) := fun z W X h hR => h.rows (hR _ (by decide) (by decide) (by decide)) (hR _ (by decide) (by decide) (by decide))
 have HEL := Lib.hid hel
 have hmf : ∀ (fn : Fn) (first cap : Array Value) (w : World), (Instr.makeFunc fn first cap).run Tryz.prog w = .ok (.func fn first cap) w := fun _ _ _ _ => rfl
 have hp := h.lt
 obtain ⟨W1, hW1⟩ : ∃ W1, (w.alloc (.cells #[.pointer (some ⟨p, 0, none⟩)] 90)).alloc (.cells #[.slice none 0 0] 26) = W1 := ⟨_, rfl⟩
 have hb1 : Below w.heap.size w W1 := by rw [← hW1]; exact ((Below.refl _ w).alloc (Nat.le_refl _) _).alloc (by simp) _
 have hs := Pk.prsmall_any o c l p at0 16 lost W1 k (by omega) (h.below hb1)
 have hms : MSG 73 26 19 objL (FreshO B) o c l p at0 lost (.slice none 0 0) [] w W1 := by
  refine ⟨?_, ?_, h.below hb1, OwnG.nil _ _ _ _ _, fun z hz => by simp at hz, Pk.below_grown hb1 (some p)⟩
  ·rw [← hW1]; exact step_row (heap_alloc_new _ _)
  ·rw [← hW1]
   have := heap_alloc_new (w.alloc (.cells #[.pointer (some ⟨p, 0, none⟩)] 90)) (.cells #[.slice none 0 0] 26)
   rw [World.size_alloc] at this
   exact this
 have HS := Lib.hid hs
 have HMS := Lib.hid hms
 have HK := Lib.hid k
 have HP := Lib.hid hp
 have HOB := Lib.hid hob
 have HW1 := Lib.hid hW1
 have HB := Lib.hid hB
 clear hs hms h hob hb1 hW1 k hp hel hB
 have hse := small_eq (lost := lost) (most := 16) (l := l) (a := at0)
 obtain ⟨R, hR⟩ : ∃ R, Pk.rz lost (16 : Int) (l.drop at0) = R := ⟨_, rfl⟩
 have hR' : Pk.rz lost ((16 : Nat) : Int) (l.drop at0) = R := hR
 rw [hR] at HS
 rw [hR'] at hse
 obtain ⟨r, hr⟩ : ∃ r, runP lost (pMany 16 pObj) l at0 = r := ⟨_, rfl⟩
 have HMR : Hid (r = match R.map (fun q => ((q.1 : Int), at0 + q.2)) with | none => none | some (n, b) => pList pObj n.toNat l b) := Lib.hid (by
  rw [← hr, hse]
  unfold runP pMany
  cases lost <;> rfl)
 have HRL : Hid (∀ q, R = some q → q.1 ≤ 16 ∧ at0 + q.2 ≤ l.length) := Lib.hid (fun q hq => by
  rw [hq] at hse
  simp only [Option.map_some] at hse
  unfold runP at hse
  split at hse
  ·cases hse
  ·have := pU_le HK.out.at' hse.symm
   omega)
 rw [hr]
 clear hR hR' hse hr
 cases R with
 | none =>
  have hrn : r = none := HMR.out
  subst hrn
  go_enter_defers Tryz.func42, Tryz.ntmps42
  go_wp2_with fail
  rw [HW1.out]
  refine HS.out.mono ?_
  rintro e w1 ⟨rfl, hr1, hg1⟩
  simp only [Pk.upV, Pk.upA, Pk.upB, Option.isNone_none] at hr1 ⊢
  have hm1 := HMS.out.read HEL.out (by decide) HP.out hr1 hg1
  obtain ⟨c0, c1, f1⟩ := hm1.facts
  have HFIN := Lib.hid (hm1.strike HEL.out (by decide) HP.out HOB.out)
  have HPOST : Hid (PMG keyO 73 19 objL (FreshO B) o c l p none w (.returned (.slice none 0 0)) (w1.setCell ⟨w.heap.size + 1, 0, none⟩ (.slice none 0 0))) := Lib.hid ⟨HFIN.out.grow, fun _ => ⟨rfl, at0, HK.out.at', HFIN.out.rd⟩, fun zs a h => by cases h⟩
  clear hr1 hg1 hm1 HS HMS
  go_wp2_with fail
  go_loopg [12] 0 (fun g s12 wr => g = 0 ∧ s12 = .int .i64 0 ∧ wr = w1)
  case atStart => exact ⟨rfl, rfl, rfl⟩
  case round =>
   obtain ⟨_, rfl, rfl⟩ := hrel
   go_wp2_with fail
   refine leaves_cons (f := 75) (args := #[.pointer (some ⟨w.heap.size, 0, none⟩), .pointer (some ⟨w.heap.size + 1, 0, none⟩)]) (by simp) (by simp [go_sem]) ?_
   refine (many_idle_o ⟨w.heap.size, 0, none⟩ ⟨w.heap.size + 1, 0, none⟩ _).mono ?_
   rintro e u' w'' ⟨rfl, rfl, rfl⟩
   obtain ⟨_, dr, _⟩ := HFIN.out.facts
   simp only [Leaves, settle]
   refine ⟨_, (by simp [results, Tryz.results42, go_sem, dr]; rfl), ?_⟩
   exact HPOST.out
 | some q =>
  obtain ⟨n, j⟩ := q
  have hrm : r = pList pObj n l (at0 + j) := HMR.out
  obtain ⟨hnm, hal⟩ := HRL.out (n, j) rfl
  dsimp only at hnm hal
  obtain ⟨at1, hat1⟩ : ∃ at1, at0 + j = at1 := ⟨_, rfl⟩
  rw [hat1] at hrm hal
  have HRM := Lib.hid hrm
  have HAT := Lib.hid hat1
  have HNM := Lib.hid hnm
  have n0 : (0 : Int) ≤ (n : Int) := by omega
  have n9 : (n : Int) ≤ 16 := by omega
  clear HMR HRL hrm hnm hat1
  go_enter_defers Tryz.func42, Tryz.ntmps42
  go_wp2_with fail
  rw [HW1.out]
  refine HS.out.mono ?_
  rintro e w1 ⟨rfl, hr1, hg1⟩
  simp only [Pk.upV, Pk.upA, Pk.upB, Option.isNone_some] at hr1 ⊢
  rw [HAT.out] at hr1
  have HM1 := Lib.hid (HMS.out.read HEL.out (by decide) HP.out hr1 hg1)
  clear hr1 hg1 HS HMS
  go_wp2_with fail
  go_loopg [7, 12] n (fun g s7 s12 wr => ∃ (i a : Nat) (v : Value) (zs : List ObjR), g = n - i ∧ i ≤ n ∧ s12 = .int .i64 (i : Int) ∧ a ≤ l.length ∧ zs.length = i ∧ r = (pList pObj (n - i) l a).map (fun q => (zs.map keyO ++ q.1, q.2)) ∧ MSG 73 26 19 objL (FreshO B) o c l p a false v zs w wr)
  case atStart => exact ⟨0, at1, _, [], rfl, by omega, rfl, hal, rfl, by rw [HRM.out]; (cases pList pObj (n - 0) l at1 <;> rfl), HM1.out⟩
  case round =>
   clear HM1
   obtain ⟨i, a, v, zs, hgi, hi2, rfl, haa, hzs, hrr, hms⟩ := hrel
   subst hgi
   obtain ⟨c0, c1, f1⟩ := hms.facts
   have HMS := Lib.hid hms
   have HRR := Lib.hid hrr
   have HZS := Lib.hid hzs
   have HK1 : Hid (RdOk l a) := Lib.hid ⟨HK.out.by', HK.out.len, haa⟩
   have i00 : (0 : Int) ≤ (i : Int) := by omega
   clear hms hrr hzs
   by_cases hin : i < n
   ·have t1 : (i : Int) < (n : Int) := by omega
    have hone := takeo_any B o c l p a false wr (by have := HB.out; have := HMS.out.lt; omega) HK1.out HMS.out.rd (fun b off e h => by have := HOB.out b off e h; have := HMS.out.lt; omega)
    have hnk : n - i = (n - (i + 1)) + 1 := by omega
    have hr2 := HRR.out
    rw [hnk, pList_succ] at hr2
    unfold PObj OneG at hone
    have hrun : runP false pObj l a = pObj l a := rfl
    rw [hrun] at hone
    obtain ⟨R2, hR2⟩ : ∃ R2, pObj l a = R2 := ⟨_, rfl⟩
    rw [hR2] at hone hr2
    have HONE := Lib.hid hone
    have HR2 := Lib.hid hr2
    clear hone hnk hr2 hR2 HRR hrun
    go_wp2_with fail
    refine HONE.out.mono ?_
    rintro e w2 ⟨hg2, x, rfl, hex, hx2⟩
    clear HONE
    cases R2 with
    | none =>
     have HRN : Hid (r = none) := Lib.hid HR2.out
     obtain ⟨a2, ha2, hr2⟩ := hx2
     have hm1 := HMS.out.read HEL.out (by decide) HP.out hr2 hg2
     obtain ⟨V2, hV2⟩ : ∃ V, w2.alloc (.cells #[.int .i64 0, .int .i64 0, .int .i64 0, .int .i64 0, .int .i64 0, .int .i64 0, .int .i64 0, .int .i64 0, .int .i64 0, .int .i64 0, .int .i64 0, .int .i64 0, .int .i64 0, .int .i64 0, .int .i64 0, .int .i64 0, .int .i64 0, .slice none 0 0, .slice none 0 0] 73) = V := ⟨_, rfl⟩
     have r2 : RowAt 73 w2.heap.size #[.int .i64 0, .int .i64 0, .int .i64 0, .int .i64 0, .int .i64 0, .int .i64 0, .int .i64 0, .int .i64 0, .int .i64 0, .int .i64 0, .int .i64 0, .int .i64 0, .int .i64 0, .int .i64 0, .int .i64 0, .int .i64 0, .int .i64 0, .slice none 0 0, .slice none 0 0] V2 := by rw [← hV2]; exact RowAt.new _ _ _
     obtain ⟨Y2, hY2⟩ : ∃ V, V2.setRow w2.heap.size (objL x).toArray = V := ⟨_, rfl⟩
     have r3 : RowAt 73 w2.heap.size (objL x).toArray Y2 := by rw [← hY2]; exact r2.row _
     have hb2 : Below w2.heap.size w2 Y2 := by rw [← hY2, ← hV2]; exact Below.row ((Below.refl _ _).alloc (Nat.le_refl _) _) (Nat.le_refl _) _
     have hm2 := hm1.up HEL.out hb2
     have hex2 := HEL.out x _ _ hex (fun u _ _ _ => Rows.of_below hb2)
     have HV2 := Lib.hid hV2
     have HY2 := Lib.hid hY2
     have HR2b := Lib.hid r2
     have HRX3 := Lib.hid (show Y2.rangeAt w2.heap.size 0 (objL x) from fun j u hj => by rw [cell_of_row _ _ _ _ _ _ r3, Nat.zero_add]; simpa using hj)
     have hln : (objL x).length = 19 := (objL_len hex.wf)
     have hi1 := Lib.hid (show (Tryz.prog.info? 73).map (·.size) = some (objL x).toArray.size by rw [List.size_toArray, hln]; kernel_rfl)
     have hi2 := Lib.hid (show (Tryz.prog.info? 73).map (·.size) = some (objL x).length by rw [hln]; kernel_rfl)
     have hi3 := Lib.hid (show 19 = (objL x).toArray.size by rw [List.size_toArray, hln])
     have hi4 : Hid ((objL x).toArray.all (·.oneCell') = true) := Lib.hid (by rw [List.all_toArray, List.all_eq_true]; exact fun u hu => obj_one1 x u hu)
     clear hV2 hY2 r2 r3 hb2 hm1 hln
     obtain ⟨d0, d1, e1⟩ := hm2.facts
     obtain ⟨g0, g1, _⟩ := hm2.rd.facts
     have HF := Lib.hid (Pk.reader_fault p true true Y2 g0 g1)
     have HFIN := Lib.hid (hm2.strike HEL.out (by decide) HP.out HOB.out)
     have HPOST : Hid (PMG keyO 73 19 objL (FreshO B) o c l p r w (.returned (.slice none 0 0)) (Y2.setCell ⟨w.heap.size + 1, 0, none⟩ (.slice none 0 0))) := Lib.hid ⟨HFIN.out.grow, fun _ => ⟨rfl, a2, ha2, HFIN.out.rd⟩, fun zs a h => by rw [HRN.out] at h; cases h⟩
     clear hr2 hg2 hm2 HMS HR2 HRN c0 c1 f1 g0 g1
     go_wp2_with (first | (rw [HV2.out]) | (rw [HY2.out]) | (refine wpList_store_big rfl 73 (.tmp 7) (.tmp 16) rfl w2.heap.size _ _ (objL x).toArray rfl rfl HR2b.out hi1.out hi3.out hi4.out ?_))
     refine HF.out.mono ?_
     rintro e w3 ⟨rfl, rfl⟩
     simp only [Pk.fl, if_true]
     go_wp2_with fail
     refine leaves_cons (f := 75) (args := #[.pointer (some ⟨w.heap.size, 0, none⟩), .pointer (some ⟨w.heap.size + 1, 0, none⟩)]) (by simp) (by simp [go_sem]) ?_
     refine (many_idle_o ⟨w.heap.size, 0, none⟩ ⟨w.heap.size + 1, 0, none⟩ _).mono ?_
     rintro e u' w'' ⟨rfl, rfl, rfl⟩
     obtain ⟨_, dr, _⟩ := HFIN.out.facts
     simp only [Leaves, settle]
     refine ⟨_, (by simp [results, Tryz.results42, go_sem, dr]; rfl), ?_⟩
     exact HPOST.out
    | some q2 =>
     obtain ⟨kx, jj⟩ := q2
     obtain ⟨hkx, hjl, hr2⟩ := hx2
     have hm1 := HMS.out.read HEL.out (by decide) HP.out hr2 hg2
     obtain ⟨V2, hV2⟩ : ∃ V, w2.alloc (.cells #[.int .i64 0, .int .i64 0, .int .i64 0, .int .i64 0, .int .i64 0, .int .i64 0, .int .i64 0, .int .i64 0, .int .i64 0, .int .i64 0, .int .i64 0, .int .i64 0, .int .i64 0, .int .i64 0, .int .i64 0, .int .i64 0, .int .i64 0, .slice none 0 0, .slice none 0 0] 73) = V := ⟨_, rfl⟩
     have r2 : RowAt 73 w2.heap.size #[.int .i64 0, .int .i64 0, .int .i64 0, .int .i64 0, .int .i64 0, .int .i64 0, .int .i64 0, .int .i64 0, .int .i64 0, .int .i64 0, .int .i64 0, .int .i64 0, .int .i64 0, .int .i64 0, .int .i64 0, .int .i64 0, .int .i64 0, .slice none 0 0, .slice none 0 0] V2 := by rw [← hV2]; exact RowAt.new _ _ _
     obtain ⟨Y2, hY2⟩ : ∃ V, V2.setRow w2.heap.size (objL x).toArray = V := ⟨_, rfl⟩
     have r3 : RowAt 73 w2.heap.size (objL x).toArray Y2 := by rw [← hY2]; exact r2.row _
     have hb2 : Below w2.heap.size w2 Y2 := by rw [← hY2, ← hV2]; exact Below.row ((Below.refl _ _).alloc (Nat.le_refl _) _) (Nat.le_refl _) _
     have hm2 := hm1.up HEL.out hb2
     have hex2 := HEL.out x _ _ hex (fun u _ _ _ => Rows.of_below hb2)
     have HV2 := Lib.hid hV2
     have HY2 := Lib.hid hY2
     have HR2b := Lib.hid r2
     have HRX3 := Lib.hid (show Y2.rangeAt w2.heap.size 0 (objL x) from fun j u hj => by rw [cell_of_row _ _ _ _ _ _ r3, Nat.zero_add]; simpa using hj)
     have hln : (objL x).length = 19 := (objL_len hex.wf)
     have hi1 := Lib.hid (show (Tryz.prog.info? 73).map (·.size) = some (objL x).toArray.size by rw [List.size_toArray, hln]; kernel_rfl)
     have hi2 := Lib.hid (show (Tryz.prog.info? 73).map (·.size) = some (objL x).length by rw [hln]; kernel_rfl)
     have hi3 := Lib.hid (show 19 = (objL x).toArray.size by rw [List.size_toArray, hln])
     have hi4 : Hid ((objL x).toArray.all (·.oneCell') = true) := Lib.hid (by rw [List.all_toArray, List.all_eq_true]; exact fun u hu => obj_one1 x u hu)
     clear hV2 hY2 r2 r3 hb2 hm1 hln
     obtain ⟨g0, g1, _⟩ := hm2.rd.facts
     have HF := Lib.hid (Pk.reader_fault p true false Y2 g0 g1)
     obtain ⟨ov, cv, hvv, _, _⟩ := hm2.own.form (fun z hz => objL_len (hm2.el z hz).wf)
     subst hvv
     obtain ⟨d0, d1, e1⟩ := hm2.facts
     have HM2 := Lib.hid hm2
     have HEX := Lib.hid hex2
     have HKX := Lib.hid hkx
     have HJL := Lib.hid hjl
     obtain ⟨V3, hV3⟩ : ∃ V, Y2.alloc (.cells (objL x).toArray 73) = V := ⟨_, rfl⟩
     have hb3 : Below Y2.heap.size Y2 V3 := by rw [← hV3]; exact (Below.refl _ _).alloc (Nat.le_refl _) _
     have HMA := Lib.hid (hm2.up HEL.out hb3)
     have HEA := Lib.hid (HEL.out x _ _ hex2 (fun u _ _ _ => Rows.of_below hb3))
     have HRN := Lib.hid (show V3.heap[Y2.heap.size]? = some (.cells (objL x).toArray 73 (0, 0)) by rw [← hV3]; exact heap_alloc_new _ _)
     have HLX : Hid ((objL x).toArray.size = 19) := Lib.hid (by rw [List.size_toArray]; exact (objL_len hex2.wf))
     have HV3 := Lib.hid hV3
     have HSZ : Hid (w.heap.size + 2 ≤ V3.heap.size) := Lib.hid HMA.out.lt
     clear hr2 hg2 hm2 HMS c0 c1 f1 g0 g1 hex hex2 hkx hjl hV3 hb3
     go_wp2_with (first | (rw [HV2.out]) | (rw [HY2.out]) | (refine wpList_store_big rfl 73 (.tmp 7) (.tmp 16) rfl w2.heap.size _ _ (objL x).toArray rfl rfl HR2b.out hi1.out hi3.out hi4.out ?_))
     refine HF.out.mono ?_
     rintro e w3 ⟨rfl, rfl⟩
     simp only [Pk.fl, if_true, Bool.false_eq_true, if_false]
     clear HF
     go_wp2_with (first | (rw [HV3.out]) | (with_reducible refine stop_at (some 21) rfl ?_; refine Lib.hid ?_; refine wpList_load_mid rfl 73 (.tmp 7) rfl w2.heap.size 0 rfl (objL x) _ HRX3.out Tryz.underlying73 rfl hi2.out ?_) | (with_reducible refine stop_at (some 22) rfl ?_; refine Lib.hid ?_; refine build_one infoGo (by omega) rfl (.tmp 21) 26 rfl Tryz.underlying26 (objL x).toArray rfl HLX.out ?_) | (at_builtin; refine app_G infoGo rfl (.tmp 20) (.tmp 22) 26 rfl Tryz.underlying26 (w.heap.size + 2) (.slice ov zs.length cv) zs [x] rfl HSZ.out HMA.out.own (some ⟨Y2.heap.size, 0, none⟩) 1 rfl (fun h => by cases h) (one_src HRN.out) (fun z hz => by simp at hz; subst hz; have := HLX.out; rwa [List.size_toArray] at this) (fun z _ => obj_one1 z) (by have := HZS.out; have := HNM.out; simp; omega) ?_))
     intro v' w4 ho4 hg4
     refine Lib.hid ?_
     obtain ⟨hres4, hm4⟩ := HMA.out.app HEL.out (by decide) HP.out HOB.out ho4 hg4 (fun z hz => by
      rcases List.mem_append.1 hz with hz | hz
      ·exact HMA.out.el z hz
      ·simp at hz
       subst hz
       exact HEA.out)
     have s0 : w4.cell? ⟨w.heap.size + 1, 0, none⟩ = some (.slice ov zs.length cv) := (cell_of_row _ _ 0 _ _ _ hres4).trans rfl
     have s1 : w4.frozen? ⟨w.heap.size + 1, 0, none⟩ = false := frozen_row hres4
     obtain ⟨ow, cw, hvw, _, _⟩ := ho4.form (fun z hz => objL_len (hm4.el z hz).wf)
     subst hvw
     have HM4 := Lib.hid hm4
     clear ho4 hg4 hres4 hm4 d0 d1 e1
     obtain ⟨ml, hml⟩ : ∃ ml, (zs ++ [x]).length = ml := ⟨_, rfl⟩
     rw [hml] at HM4 ⊢
     have HML := Lib.hid hml
     clear hml
     go_wp2_with fail
     go_roundg (n - (i + 1))
     case measure => omega
     case rel =>
      refine ⟨i + 1, jj, _, zs ++ [x], rfl, by omega, by go_num, HJL.out, by simp [HZS.out], ?_, HM4.out⟩
      rw [HR2.out]
      (try dsimp only)
      rw [← HKX.out]
      cases pList pObj (n - (i + 1)) l jj with
      | none => rfl
      | some q => simp
   ·have t1 : ¬ (i : Int) < (n : Int) := by omega
    have HRX : Hid (r = some (zs.map keyO, a)) := Lib.hid (by
     have := HRR.out
     rw [show n - i = 0 by omega] at this
     rw [this]
     simp [pList])
    obtain ⟨ov, cv, hvv, _, _⟩ := HMS.out.own.form (fun z hz => objL_len (HMS.out.el z hz).wf)
    subst hvv
    have hfin := (HMS.out.app HEL.out (by decide) HP.out HOB.out HMS.out.own (World.grownBy.refl _ _) HMS.out.el).2
    have HFIN := Lib.hid hfin
    have HPOST : Hid (PMG keyO 73 19 objL (FreshO B) o c l p r w (.returned (.slice ov zs.length cv)) (wr.setCell ⟨w.heap.size + 1, 0, none⟩ (.slice ov zs.length cv))) := Lib.hid ⟨hfin.grow, (fun h => by rw [HRX.out] at h; cases h), fun ks' a' h => by rw [HRX.out] at h; cases h; exact ⟨⟨_, zs, rfl, hfin.own.base (by omega), hfin.el, rfl⟩, haa, hfin.rd⟩⟩
    clear HRR HMS hfin HRX
    go_wp2_with fail
    refine leaves_cons (f := 75) (args := #[.pointer (some ⟨w.heap.size, 0, none⟩), .pointer (some ⟨w.heap.size + 1, 0, none⟩)]) (by simp) (by simp [go_sem]) ?_
    refine (many_idle_o ⟨w.heap.size, 0, none⟩ ⟨w.heap.size + 1, 0, none⟩ _).mono ?_
    rintro e u' w'' ⟨rfl, rfl, rfl⟩
    obtain ⟨_, dr, _⟩ := HFIN.out.facts
    simp only [Leaves, settle]
    refine ⟨_, (by simp [results, Tryz.results42, go_sem, dr]; rfl), ?_⟩
    exact HPOST.out
end Go.Proofs.YtbbhmhihpdmoiaaGreat.Fx

set_option linter.unusedVariables false
set_option linter.unusedSimpArgs false
namespace Go.Proofs.YtbbhmhihpdmoiaaGreat.Fx
open Go Go.RowKit Go.Lib
open Go.Proofs.YtbbhmhihpdmoiaaGreat.Pk (Bs By PR)
theorem bstr_inj {a b : List Nat} (ha : By a) (hb : By b) (h : Pk.bstr a = Pk.bstr b) : a = b := by
 unfold Pk.bstr at h
 have h1 : a.map UInt8.ofNat = b.map UInt8.ofNat := by
  have := congrArg (fun x : ByteArray => x.data.toList) h
  simpa using this
 have h2 := congrArg (List.map UInt8.toNat) h1
 rw [List.map_map, List.map_map] at h2
 have e : ∀ l : List Nat, By l → l.map (UInt8.toNat ∘ UInt8.ofNat) = l := fun l hl => by
  conv => rhs; rw [← List.map_id l]
  refine List.map_congr_left fun c hc => ?_
  have := hl c hc
  simp
  omega
 rw [e a ha, e b hb] at h2
 exact h2
theorem toList_inj {a b : ByteArray} (h : a.toList = b.toList) : a = b := by
 have h1 : a.data.toList = b.data.toList := by
  simpa [ByteArray.toList_eq] using h
 cases a
 cases b
 congr 1
 exact Array.toList_inj.1 h1
theorem eqs_bstr {a b : List Nat} (ha : By a) (hb : By b) : ((Pk.bstr a).toList == (Pk.bstr b).toList) = decide (a = b) := by
 by_cases e : a = b
 ·subst e
  simp
 ·rw [decide_eq_false e, beq_eq_false_iff_ne]
  exact fun h => e (bstr_inj ha hb (toList_inj h))
theorem equal_any (a b : List Nat) (oa ob : Option Addr) (ca cb : Nat) (w : World) (ha : By a) (hb : By b) (h1 : Bs w oa a) (h2 : Bs w ob b) :
  Calls Tryz.prog 136 #[.slice oa a.length ca, .slice ob b.length cb] w (RetBool (decide (a = b)) w) := by
 have q1 := Pk.conv_bs (W := w) ca rfl h1
 have q2 := Pk.conv_bs (W := w) cb rfl h2
 have q3 := eqs_bstr ha hb
 generalize a.length = na at q1 ⊢
 generalize b.length = nb at q2 ⊢
 generalize decide (a = b) = r at q3 ⊢
 generalize Pk.bstr a = sa at q1 q3
 generalize Pk.bstr b = sb at q2 q3
 clear ha hb h1 h2
 go_enter Tryz.func136, Tryz.ntmps136
 go_wp2_with fail
 go_ret
 exact ⟨by rw [← q3]; rfl, Below.refl _ _⟩
end Go.Proofs.YtbbhmhihpdmoiaaGreat.Fx

set_option linter.unusedVariables false
set_option linter.unusedSimpArgs false
namespace Go.Proofs.YtbbhmhihpdmoiaaGreat.Fx
open Go Go.RowKit Go.Lib
open Go.Proofs.YtbbhmhihpdmoiaaGreat.Pk (Bs By PR cutA)
theorem wpList_valX {ops : Array Oper} {rest : List Oper} {o : Oper} {a : Act} {Q : Exit → Act → World → Prop} {W : World} (hgd : o.guard = none) (v : Value) (X : World) (hrun : (execOp a.eval o).run Tryz.prog W = .ok (.value v) X)
  (h : wpList Tryz.prog ops Q rest (a.put o.dst v) X) : wpList Tryz.prog ops Q (o :: rest) a W := by
 refine wpList_plain hgd fun K hK' => ?_
 unfold Oper.wp
 rw [hrun]
 exact hK' _ _ h
set_option maxRecDepth 100000 in
set_option maxHeartbeats 1000000 in
theorem hasp_any (l m : List Nat) (o q : Option Addr) (c d : Nat) (w : World) (hl : By l) (hm : By m) (hb : Bs w o l) (hq : Bs w q m) (hc : l.length ≤ c ∧ c ≤ 9223372036854775807) (hd : m.length ≤ d ∧ d ≤ 9223372036854775807) :
  Calls Tryz.prog 107 #[.slice o l.length c, .slice q m.length d] w (RetBool (decide (l.take m.length = m)) w) := by
 by_cases hlt : l.length < m.length
 ·have e : decide (l.take m.length = m) = false := decide_eq_false (fun h => by have := congrArg List.length h; rw [List.length_take] at this; omega)
  rw [e]
  have t1 : ¬ (m.length : Int) ≤ (l.length : Int) := by omega
  clear e hl hm hb hq hlt
  generalize l.length = n at *
  generalize m.length = k at *
  go_enter Tryz.func107, Tryz.ntmps107
  go_wp2_with fail
  go_ret
  exact ⟨rfl, Below.refl _ _⟩
 ·have t1 : (m.length : Int) ≤ (l.length : Int) := by omega
  have hlen : (l.take m.length).length = m.length := by rw [List.length_take]; omega
  have he := equal_any (l.take m.length) m o q c d w (fun x hx => hl x (List.mem_of_mem_take hx)) hm (hb.take _) hq
  rw [hlen] at he
  have HE := Lib.hid he
  have t2 : (m.length : Int) ≤ (c : Int) := by omega
  have t3 : (0 : Int) ≤ (m.length : Int) := by omega
  have t4 : (c : Int) ≤ 9223372036854775807 := by omega
  have t5 : m.length ≤ c := by omega
  generalize decide (l.take m.length = m) = r at HE ⊢
  clear he hlen hlt hl hm hb hq hc hd
  generalize l.length = n at *
  generalize m.length = k at *
  go_enter Tryz.func107, Tryz.ntmps107
  go_wp2_with fail
  refine HE.out.mono ?_
  rintro e w1 ⟨rfl, hb1⟩
  have HB := Lib.hid hb1
  clear hb1 HE
  go_wp2_with fail
  go_ret
  exact ⟨rfl, HB.out⟩
end Go.Proofs.YtbbhmhihpdmoiaaGreat.Fx

set_option linter.unusedVariables false
set_option linter.unusedSimpArgs false
namespace Go.Proofs.YtbbhmhihpdmoiaaGreat.Fx
open Go Go.RowKit Go.Lib
open Go.Proofs.YtbbhmhihpdmoiaaGreat.Pk (Bs By PR cutA)
def RetCut (l m : List Nat) (o : Option Addr) (c : Nat) (w : World) (e : Ending) (w' : World) : Prop :=
 e = .returned (if l.take m.length = m then .tuple #[.slice (cutA o c m.length) (l.length - m.length) (c - m.length), .bool true] else .tuple #[.slice o l.length c, .bool false]) ∧ Below w.heap.size w w'
set_option maxRecDepth 100000 in
set_option maxHeartbeats 1000000 in
theorem cutp_any (l m : List Nat) (o q : Option Addr) (c d : Nat) (w : World) (hl : By l) (hm : By m) (hb : Bs w o l) (hq : Bs w q m) (hc : l.length ≤ c ∧ c ≤ 9223372036854775807) (hd : m.length ≤ d ∧ d ≤ 9223372036854775807) (hn : o = none → c = 0) (hs : 0 < c → ∀ a, o = some a → a.spot = none) :
  Calls Tryz.prog 72 #[.slice o l.length c, .slice q m.length d] w (RetCut l m o c w) := by
 have HH := Lib.hid (hasp_any l m o q c d w hl hm hb hq hc hd)
 have HC := Lib.hid hc
 have HN := Lib.hid hn
 have HS := Lib.hid hs
 by_cases h : l.take m.length = m
 ·have hle : m.length ≤ l.length := by
   have := congrArg List.length h
   rw [List.length_take] at this
   omega
  have HLE := Lib.hid hle
  have HR : Hid (∀ w', Below w.heap.size w w' → RetCut l m o c w (.returned (.tuple #[.slice (cutA o c m.length) (l.length - m.length) (c - m.length), .bool true])) w') := Lib.hid (fun w' hb => ⟨by rw [if_pos h], hb⟩)
  rw [decide_eq_true h] at HH
  clear h hl hm hb hq hc hd hn hs hle
  generalize l.length = n at *
  generalize m.length = k at *
  go_enter Tryz.func72, Tryz.ntmps72
  go_wp2_with fail
  refine HH.out.mono ?_
  rintro e w1 ⟨rfl, hb1⟩
  have HB := Lib.hid hb1
  clear hb1 HH
  go_wp2_with (with_reducible refine stop_at (some 14) rfl ?_; refine Lib.hid ?_; refine wpList_valX rfl (.slice (cutA o c k) (n - k) (c - k)) w1 (Pk.exec_low (.tmp 11) (.tmp 13) rfl o n c k (k : Int) rfl rfl rfl HLE.out HC.out.1 HN.out HS.out) ?_)
  go_ret2
  exact HR.out _ HB.out
 ·have HR : Hid (∀ w', Below w.heap.size w w' → RetCut l m o c w (.returned (.tuple #[.slice o l.length c, .bool false])) w') := Lib.hid (fun w' hb => ⟨by rw [if_neg h], hb⟩)
  rw [decide_eq_false h] at HH
  clear h hl hm hb hq hc hd hn hs
  generalize l.length = n at *
  generalize m.length = k at *
  go_enter Tryz.func72, Tryz.ntmps72
  go_wp2_with fail
  refine HH.out.mono ?_
  rintro e w1 ⟨rfl, hb1⟩
  have HB := Lib.hid hb1
  clear hb1 HH
  go_wp2_with fail
  go_ret2
  exact HR.out _ HB.out
def behind (mk l : List Nat) : Option (List Nat) := match Cx.opened l with
 | none => none
 | some m => if m.take mk.length = mk then some (m.drop mk.length) else none
def begE (mk l : List Nat) : Int := match Cx.opened l with
 | none => 40
 | some m => if m.take mk.length = mk then 0 else 70
def RetOp (mk l : List Nat) (w : World) (e : Ending) (w' : World) : Prop := Below w.heap.size w w' ∧ match behind mk l with
 | none => e = .returned (.tuple #[.pointer none, .int .i64 (begE mk l)])
 | some r => ∃ p o c, e = .returned (.tuple #[.pointer (some ⟨p, 0, none⟩), .int .i64 0]) ∧ PR o c r p 0 false w' ∧ w.heap.size ≤ p ∧ (∀ b off, o = some ⟨b, off, none⟩ → w.heap.size ≤ b)
theorem opened_by {l m : List Nat} (hl : By l) (h : Cx.opened l = some m) : By m ∧ m.length + 4 = l.length := by
 unfold Cx.opened at h
 split at h
 ·rename_i hc
  cases h
  exact ⟨fun x hx => hl x (List.mem_of_mem_take hx), by rw [List.length_take]; omega⟩
 ·cases h
set_option maxRecDepth 100000 in
set_option maxHeartbeats 2000000 in
theorem popened_any (mk : List Nat) (hmk : By mk) (hml : mk.length ≤ 100) (l : List Nat) (o : Option Addr) (c : Nat) (w : World) (hl : By l) (hlen : l.length ≤ 900000) (hc : l.length ≤ c) (hc2 : c ≤ 9223372036854775807) (hb : Bs w o l) :
  Calls Tryz.prog 40 #[.string (Pk.bstr mk), .slice o l.length c] w (RetOp mk l w) := by
 have HO := Lib.hid (Cx.open_all l l.length rfl o c w (by_px hl) hlen hc hc2 (bs_px hb))
 have HMK := Lib.hid hmk
 have HML := Lib.hid hml
 have HBY := Lib.hid (fun m (h : Cx.opened l = some m) => opened_by hl h)
 have HLN := Lib.hid hlen
 obtain ⟨R, hR⟩ : ∃ R, Cx.opened l = R := ⟨_, rfl⟩
 have HR0 : Hid (Cx.opened l = R) := Lib.hid hR
 rw [hR] at HO
 clear hmk hml hl hlen hc hc2 hb hR
 cases R with
 | none =>
  have HE : Hid (∀ w', Below w.heap.size w w' → RetOp mk l w (.returned (.tuple #[.pointer none, .int .i64 40])) w') := Lib.hid (fun w' hb => ⟨hb, by
   have e : behind mk l = none := by unfold behind; rw [HR0.out]
   have e2 : begE mk l = 40 := by unfold begE; rw [HR0.out]
   rw [e, e2]⟩)
  go_enter Tryz.func40, Tryz.ntmps40
  go_wp2_with fail
  refine HO.out.mono ?_
  rintro e w1 ⟨⟨v1, rfl, ho⟩, hb1⟩
  have HB := Lib.hid hb1
  rw [show Cx.erO none = 40 from rfl]
  clear hb1 ho HO
  go_wp2_with fail
  go_ret2
  exact HE.out _ HB.out
 | some m =>
  obtain ⟨hby, hml⟩ := HBY.out m HR0.out
  go_enter Tryz.func40, Tryz.ntmps40
  go_wp2_with fail
  refine HO.out.mono ?_
  rintro e w1 ⟨⟨v1, rfl, ho⟩, hb1⟩
  rw [show Cx.erO (some m) = 0 from rfl]
  have ho' : Pk.Own w1 w.heap.size v1 m := own_xp ho
  obtain ⟨o1, c1, rfl, hbs, hc1, hc2, hn1, hsp⟩ := ho'.open
  have hcv : (convert 9 31 (.string (Pk.bstr mk))).run Tryz.prog w1 = .ok (.slice (some ⟨w1.heap.size, 0, none⟩) (Pk.bstr mk).size (grownCap w1 (Pk.bstr mk).size 0 5)) (bytesWorld w1 5 (Pk.bstr mk)) := Go.Lib.run_convert_string_bytes w1 _ _ _ _ Tryz.underlying9 Tryz.underlying31 Tryz.underlying5
  rw [bstr_size] at hcv
  have hge : mk.length ≤ grownCap w1 mk.length 0 5 := grownCap_ge w1 mk.length 0 5
  have hgm : grownCap w1 mk.length 0 5 ≤ 9223372036854775807 := by
   have := grownCap_le_maxLen w1 mk.length 0 5 (by unfold maxLen; have := HML.out; omega)
   unfold maxLen at this
   omega
  have hbw := bytesWorld_below w1 5 (Pk.bstr mk)
  have hmb : Bs (bytesWorld w1 5 (Pk.bstr mk)) (some ⟨w1.heap.size, 0, none⟩) mk := fun j hj => ⟨_, _, rfl, by rw [Nat.zero_add, bytesWorld_cell _ _ _ _ (by rw [bstr_size]; exact hj), bstr_at HMK.out hj]⟩
  have hbs2 := hbs.below hbw
  obtain ⟨cp, hcp⟩ : ∃ c, grownCap w1 mk.length 0 5 = c := ⟨_, rfl⟩
  obtain ⟨W4, hW4⟩ : ∃ W, bytesWorld w1 5 (Pk.bstr mk) = W := ⟨_, rfl⟩
  rw [hcp, hW4] at hcv
  rw [hcp] at hge hgm
  rw [hW4] at hmb hbs2 hbw
  have hspot : 0 < c1 → ∀ a, o1 = some a → a.spot = none := fun _ a ha => by
   obtain ⟨g, hg, _⟩ := hsp a ha
   rw [hg]
  have HCP := Lib.hid (cutp_any m mk o1 (some ⟨w1.heap.size, 0, none⟩) c1 cp W4 hby HMK.out hbs2 hmb ⟨hc1, hc2⟩ ⟨hge, hgm⟩ hn1 hspot)
  have HB4 := Lib.hid (bnext hb1 hbw)
  have HCV := Lib.hid hcv
  have HBS2 := Lib.hid hbs2
  have HC1 := Lib.hid hc1
  have HN1 := Lib.hid hn1
  clear ho ho' hbs hc2 hsp hcv hge hgm hbw hmb hbs2 hcp hW4 hspot hc1 hn1 hb1 HO
  unfold RetCut at HCP
  by_cases h : m.take mk.length = mk
  ·simp only [if_pos h] at HCP
   have HBH : Hid (behind mk l = some (m.drop mk.length)) := Lib.hid (by unfold behind; rw [HR0.out]; dsimp only; rw [if_pos h])
   have hle : mk.length ≤ m.length := by
    have := congrArg List.length h
    rw [List.length_take] at this
    omega
   have hdl : (m.drop mk.length).length = m.length - mk.length := by simp
   have hcut : Bs W4 (cutA o1 c1 mk.length) (m.drop mk.length) := by
    have := HBS2.out.cut (h := m.length) hle (Nat.le_refl _) HC1.out
    rwa [List.take_of_length_le (by rw [hdl]; omega)] at this
   have HNR := Lib.hid (fun (X : World) (hb : Below W4.heap.size W4 X) => Pk.new_reader (cutA o1 c1 mk.length) (c1 - mk.length) (m.drop mk.length) X (fun e => by
    have : o1 = none := by
     unfold Pk.cutA at e
     simpa using e
    have := HN1.out this
    omega) (by rw [hdl]; have := HLN.out; omega) (hcut.below hb))
   rw [hdl] at HNR
   clear h hle hdl hcut HBS2 HC1 HN1 hby hml
   generalize cutA o1 c1 mk.length = oc at HCP HNR
   generalize c1 - mk.length = cc at HCP HNR
   generalize m.length - mk.length = nn at HCP HNR
   have HMM : Hid (m.length = m.length) := Lib.hid rfl
   go_wp2_with (with_reducible refine stop_at (some 21) rfl ?_; refine Lib.hid ?_; refine wpList_cvX rfl (.tmp 20) 9 31 rfl (.string (Pk.bstr mk)) (.slice (some ⟨w1.heap.size, 0, none⟩) mk.length cp) W4 rfl HCV.out ?_)
   refine HCP.out.mono ?_
   rintro e w5 ⟨rfl, hb5⟩
   have HB5 := Lib.hid (bnext HB4.out hb5)
   have HN5 := Lib.hid (HNR.out w5 hb5)
   clear hb5 HCP HNR HCV
   go_wp2_with fail
   refine HN5.out.mono ?_
   rintro e w6 ⟨p, o2, c2, rfl, hpr, hp, ho2, hb6⟩
   have HE : Hid (RetOp mk l w (.returned (.tuple #[.pointer (some ⟨p, 0, none⟩), .int .i64 0])) w6) := Lib.hid ⟨bnext HB5.out hb6, by
    rw [HBH.out]
    exact ⟨p, o2, c2, rfl, hpr, Nat.le_trans HB5.out.size hp, fun b off e => Nat.le_trans HB5.out.size (ho2 b off e)⟩⟩
   clear hpr hp ho2 hb6 HN5
   go_wp2_with fail
   go_ret2
   exact HE.out
  ·simp only [if_neg h] at HCP
   have HE : Hid (∀ w', Below w.heap.size w w' → RetOp mk l w (.returned (.tuple #[.pointer none, .int .i64 70])) w') := Lib.hid (fun w' hb => ⟨hb, by
    have e : behind mk l = none := by unfold behind; rw [HR0.out]; dsimp only; rw [if_neg h]
    have e2 : begE mk l = 70 := by unfold begE; rw [HR0.out]; dsimp only; rw [if_neg h]
    rw [e, e2]⟩)
   clear h HBS2 HC1 HN1 hby hml
   go_wp2_with (with_reducible refine stop_at (some 21) rfl ?_; refine Lib.hid ?_; refine wpList_cvX rfl (.tmp 20) 9 31 rfl (.string (Pk.bstr mk)) (.slice (some ⟨w1.heap.size, 0, none⟩) mk.length cp) W4 rfl HCV.out ?_)
   refine HCP.out.mono ?_
   rintro e w5 ⟨rfl, hb5⟩
   have HB5 := Lib.hid (bnext HB4.out hb5)
   clear hb5 HCP HCV
   go_wp2_with fail
   go_ret2
   exact HE.out _ HB5.out
end Go.Proofs.YtbbhmhihpdmoiaaGreat.Fx
