import Derived.Laws.Rows
import Derived.Test.YtbbhmhihpdmoiaaGreatProg
import Derived.Defers
import Derived.Recover
import Derived.Test.YtbbhmhihpdmoiaaGreatMw27
import Derived.Test.YtbbhmhihpdmoiaaGreatMw34
set_option linter.unusedVariables false
set_option linter.unusedSimpArgs false
namespace Go.Proofs.YtbbhmhihpdmoiaaGreat.Fx
open Go Go.RowKit
open Go.Proofs.YtbbhmhihpdmoiaaGreat.Pk (PR RdOk Bs)
theorem many_idle_v (a b : Addr) (w : World) :
  CallsD Tryz.prog 109 #[.pointer (some a), .pointer (some b)] .returning w fun e u' w' => e = .returned (.tuple #[]) ∧ u' = .returning ∧ w' = w := by
 refine callsD_of_wpS Tryz.func109 rfl fun c₀ cs hu => ?_
 apply wpS_seq
 apply wpS_region
 simp [wpOpsS, go_sem, recoverD, hu, Tryz.ntmps109, Exit.thenS]
 refine wpS_cond (t := false) (by simp [Act.eval, Array.replicate]) ?_
 simp only [Bool.false_eq_true, if_false]
 refine wpS_of_wp (wp_skip ?_)
 cases c₀
 simp_all [bodyPostS, results, Tryz.results109]
set_option maxRecDepth 100000 in
set_option maxHeartbeats 8000000 in
theorem pmany_v (B : Nat) (o : Option Addr) (c : Nat) (l : List Nat) (p at0 : Nat) (lost : Bool) (w : World) (hB : B ≤ w.heap.size) (k : RdOk l at0) (h : PR o c l p at0 lost w) (hob : ∀ b off, o = some ⟨b, off, none⟩ → 0 < l.length → b < w.heap.size) :
  Calls Tryz.prog 78 #[.pointer (some ⟨p, 0, none⟩), .int .i64 64, .func (.func 79) #[] #[]] w (PMG (fun z : List Int => z) 85 3 (List.map encI) (fun (z : List Int) (_ : World) => VertWf z) o c l p (runP lost (pMany 64 pVert) l at0) w) := by
 have hel : ElOk 85 70 (fun (z : List Int) (_ : World) => VertWf z) := fun z W X h _ => h
 have HEL := Lib.hid hel
 have hmf : ∀ (fn : Fn) (first cap : Array Value) (w : World), (Instr.makeFunc fn first cap).run Tryz.prog w = .ok (.func fn first cap) w := fun _ _ _ _ => rfl
 have hp := h.lt
 obtain ⟨W1, hW1⟩ : ∃ W1, (w.alloc (.cells #[.pointer (some ⟨p, 0, none⟩)] 90)).alloc (.cells #[.slice none 0 0] 70) = W1 := ⟨_, rfl⟩
 have hb1 : Below w.heap.size w W1 := by rw [← hW1]; exact ((Below.refl _ w).alloc (Nat.le_refl _) _).alloc (by simp) _
 have hs := Pk.prsmall_any o c l p at0 64 lost W1 k (by omega) (h.below hb1)
 have hms : MSG 85 70 3 (List.map encI) (fun (z : List Int) (_ : World) => VertWf z) o c l p at0 lost (.slice none 0 0) [] w W1 := by
  refine ⟨?_, ?_, h.below hb1, OwnG.nil _ _ _ _ _, fun z hz => by simp at hz, Pk.below_grown hb1 (some p)⟩
  ·rw [← hW1]; exact step_row (heap_alloc_new _ _)
  ·rw [← hW1]
   have := heap_alloc_new (w.alloc (.cells #[.pointer (some ⟨p, 0, none⟩)] 90)) (.cells #[.slice none 0 0] 70)
   rw [World.size_alloc] at this
   exact this
 have HS := Lib.hid hs
 have HMS := Lib.hid hms
 have HK := Lib.hid k
 have HP := Lib.hid hp
 have HOB := Lib.hid hob
 have HW1 := Lib.hid hW1
 have HB := Lib.hid hB
 clear hs hms h hob hb1 hW1 k hp hel hB
 have hse := small_eq (lost := lost) (most := 64) (l := l) (a := at0)
 obtain ⟨R, hR⟩ : ∃ R, Pk.rz lost (64 : Int) (l.drop at0) = R := ⟨_, rfl⟩
 have hR' : Pk.rz lost ((64 : Nat) : Int) (l.drop at0) = R := hR
 rw [hR] at HS
 rw [hR'] at hse
 obtain ⟨r, hr⟩ : ∃ r, runP lost (pMany 64 pVert) l at0 = r := ⟨_, rfl⟩
 have HMR : Hid (r = match R.map (fun q => ((q.1 : Int), at0 + q.2)) with | none => none | some (n, b) => pList pVert n.toNat l b) := Lib.hid (by
  rw [← hr, hse]
  unfold runP pMany
  cases lost <;> rfl)
 have HRL : Hid (∀ q, R = some q → q.1 ≤ 64 ∧ at0 + q.2 ≤ l.length) := Lib.hid (fun q hq => by
  rw [hq] at hse
  simp only [Option.map_some] at hse
  unfold runP at hse
  split at hse
  ·cases hse
  ·have := pU_le HK.out.at' hse.symm
   omega)
 rw [hr]
 clear hR hR' hse hr
 cases R with
 | none =>
  have hrn : r = none := HMR.out
  subst hrn
  go_enter_defers Tryz.func78, Tryz.ntmps78
  go_wp2_with fail
  rw [HW1.out]
  refine HS.out.mono ?_
  rintro e w1 ⟨rfl, hr1, hg1⟩
  simp only [Pk.upV, Pk.upA, Pk.upB, Option.isNone_none] at hr1 ⊢
  have hm1 := HMS.out.read HEL.out (by decide) HP.out hr1 hg1
  obtain ⟨c0, c1, f1⟩ := hm1.facts
  have HFIN := Lib.hid (hm1.strike HEL.out (by decide) HP.out HOB.out)
  have HPOST : Hid (PMG (fun z : List Int => z) 85 3 (List.map encI) (fun (z : List Int) (_ : World) => VertWf z) o c l p none w (.returned (.slice none 0 0)) (w1.setCell ⟨w.heap.size + 1, 0, none⟩ (.slice none 0 0))) := Lib.hid ⟨HFIN.out.grow, fun _ => ⟨rfl, at0, HK.out.at', HFIN.out.rd⟩, fun zs a h => by cases h⟩
  clear hr1 hg1 hm1 HS HMS
  go_wp2_with fail
  go_loopg [12] 0 (fun g s12 wr => g = 0 ∧ s12 = .int .i64 0 ∧ wr = w1)
  case atStart => exact ⟨rfl, rfl, rfl⟩
  case round =>
   obtain ⟨_, rfl, rfl⟩ := hrel
   go_wp2_with fail
   refine leaves_cons (f := 109) (args := #[.pointer (some ⟨w.heap.size, 0, none⟩), .pointer (some ⟨w.heap.size + 1, 0, none⟩)]) (by simp) (by simp [go_sem]) ?_
   refine (many_idle_v ⟨w.heap.size, 0, none⟩ ⟨w.heap.size + 1, 0, none⟩ _).mono ?_
   rintro e u' w'' ⟨rfl, rfl, rfl⟩
   obtain ⟨_, dr, _⟩ := HFIN.out.facts
   simp only [Leaves, settle]
   refine ⟨_, (by simp [results, Tryz.results78, go_sem, dr]; rfl), ?_⟩
   exact HPOST.out
 | some q =>
  obtain ⟨n, j⟩ := q
  have hrm : r = pList pVert n l (at0 + j) := HMR.out
  obtain ⟨hnm, hal⟩ := HRL.out (n, j) rfl
  dsimp only at hnm hal
  obtain ⟨at1, hat1⟩ : ∃ at1, at0 + j = at1 := ⟨_, rfl⟩
  rw [hat1] at hrm hal
  have HRM := Lib.hid hrm
  have HAT := Lib.hid hat1
  have HNM := Lib.hid hnm
  have n0 : (0 : Int) ≤ (n : Int) := by omega
  have n9 : (n : Int) ≤ 64 := by omega
  clear HMR HRL hrm hnm hat1
  go_enter_defers Tryz.func78, Tryz.ntmps78
  go_wp2_with fail
  rw [HW1.out]
  refine HS.out.mono ?_
  rintro e w1 ⟨rfl, hr1, hg1⟩
  simp only [Pk.upV, Pk.upA, Pk.upB, Option.isNone_some] at hr1 ⊢
  rw [HAT.out] at hr1
  have HM1 := Lib.hid (HMS.out.read HEL.out (by decide) HP.out hr1 hg1)
  clear hr1 hg1 HS HMS
  go_wp2_with fail
  go_loopg [7, 12] n (fun g s7 s12 wr => ∃ (i a : Nat) (v : Value) (zs : List (List Int)), g = n - i ∧ i ≤ n ∧ s12 = .int .i64 (i : Int) ∧ a ≤ l.length ∧ zs.length = i ∧ r = (pList pVert (n - i) l a).map (fun q => (zs.map (fun z : List Int => z) ++ q.1, q.2)) ∧ MSG 85 70 3 (List.map encI) (fun (z : List Int) (_ : World) => VertWf z) o c l p a false v zs w wr)
  case atStart => exact ⟨0, at1, _, [], rfl, by omega, rfl, hal, rfl, by rw [HRM.out]; (cases pList pVert (n - 0) l at1 <;> rfl), HM1.out⟩
  case round =>
   clear HM1
   obtain ⟨i, a, v, zs, hgi, hi2, rfl, haa, hzs, hrr, hms⟩ := hrel
   subst hgi
   obtain ⟨c0, c1, f1⟩ := hms.facts
   have HMS := Lib.hid hms
   have HRR := Lib.hid hrr
   have HZS := Lib.hid hzs
   have HK1 : Hid (RdOk l a) := Lib.hid ⟨HK.out.by', HK.out.len, haa⟩
   have i00 : (0 : Int) ≤ (i : Int) := by omega
   clear hms hrr hzs
   by_cases hin : i < n
   ·have t1 : (i : Int) < (n : Int) := by omega
    have hone := takev_any o c l p a false wr HK1.out HMS.out.rd (fun b off e h => by have := HOB.out b off e h; have := HMS.out.lt; omega)
    have hnk : n - i = (n - (i + 1)) + 1 := by omega
    have hr2 := HRR.out
    rw [hnk, pList_succ] at hr2
    unfold PVal OneG at hone
    have hrun : runP false pVert l a = pVert l a := rfl
    rw [hrun] at hone
    obtain ⟨R2, hR2⟩ : ∃ R2, pVert l a = R2 := ⟨_, rfl⟩
    rw [hR2] at hone hr2
    have HONE := Lib.hid hone
    have HR2 := Lib.hid hr2
    clear hone hnk hr2 hR2 HRR hrun
    go_wp2_with fail
    refine HONE.out.mono ?_
    rintro e w2 ⟨hg2, x, rfl, hex, hx2⟩
    clear HONE
    cases R2 with
    | none =>
     have HRN : Hid (r = none) := Lib.hid HR2.out
     obtain ⟨a2, ha2, hr2⟩ := hx2
     have hm1 := HMS.out.read HEL.out (by decide) HP.out hr2 hg2
     obtain ⟨V2, hV2⟩ : ∃ V, w2.alloc (.cells #[.int .i64 0, .int .i64 0, .int .i64 0] 85) = V := ⟨_, rfl⟩
     have r2 : RowAt 85 w2.heap.size #[.int .i64 0, .int .i64 0, .int .i64 0] V2 := by rw [← hV2]; exact RowAt.new _ _ _
     obtain ⟨Y2, hY2⟩ : ∃ V, V2.setRow w2.heap.size ((List.map encI) x).toArray = V := ⟨_, rfl⟩
     have r3 : RowAt 85 w2.heap.size ((List.map encI) x).toArray Y2 := by rw [← hY2]; exact r2.row _
     have hb2 : Below w2.heap.size w2 Y2 := by rw [← hY2, ← hV2]; exact Below.row ((Below.refl _ _).alloc (Nat.le_refl _) _) (Nat.le_refl _) _
     have hm2 := hm1.up HEL.out hb2
     have hex2 := HEL.out x _ _ hex (fun u _ _ _ => Rows.of_below hb2)
     have HV2 := Lib.hid hV2
     have HY2 := Lib.hid hY2
     have HR2b := Lib.hid r2
     have HRX3 := Lib.hid (show Y2.rangeAt w2.heap.size 0 ((List.map encI) x) from fun j u hj => by rw [cell_of_row _ _ _ _ _ _ r3, Nat.zero_add]; simpa using hj)
     have hln : ((List.map encI) x).length = 3 := (by rw [List.length_map]; exact hex.len)
     have hi1 := Lib.hid (show (Tryz.prog.info? 85).map (·.size) = some ((List.map encI) x).toArray.size by rw [List.size_toArray, hln]; kernel_rfl)
     have hi2 := Lib.hid (show (Tryz.prog.info? 85).map (·.size) = some ((List.map encI) x).length by rw [hln]; kernel_rfl)
     have hi3 := Lib.hid (show 3 = ((List.map encI) x).toArray.size by rw [List.size_toArray, hln])
     have hi4 : Hid (((List.map encI) x).toArray.all (·.oneCell') = true) := Lib.hid (by rw [List.all_toArray, List.all_eq_true]; exact fun u hu => enc_one x u hu)
     clear hV2 hY2 r2 r3 hb2 hm1 hln
     obtain ⟨d0, d1, e1⟩ := hm2.facts
     obtain ⟨g0, g1, _⟩ := hm2.rd.facts
     have HF := Lib.hid (Pk.reader_fault p true true Y2 g0 g1)
     have HFIN := Lib.hid (hm2.strike HEL.out (by decide) HP.out HOB.out)
     have HPOST : Hid (PMG (fun z : List Int => z) 85 3 (List.map encI) (fun (z : List Int) (_ : World) => VertWf z) o c l p r w (.returned (.slice none 0 0)) (Y2.setCell ⟨w.heap.size + 1, 0, none⟩ (.slice none 0 0))) := Lib.hid ⟨HFIN.out.grow, fun _ => ⟨rfl, a2, ha2, HFIN.out.rd⟩, fun zs a h => by rw [HRN.out] at h; cases h⟩
     clear hr2 hg2 hm2 HMS HR2 HRN c0 c1 f1 g0 g1
     go_wp2_with (first | (rw [HV2.out]) | (rw [HY2.out]) | (refine wpList_store_big rfl 85 (.tmp 7) (.tmp 16) rfl w2.heap.size _ _ ((List.map encI) x).toArray rfl rfl HR2b.out hi1.out hi3.out hi4.out ?_))
     refine HF.out.mono ?_
     rintro e w3 ⟨rfl, rfl⟩
     simp only [Pk.fl, if_true]
     go_wp2_with fail
     refine leaves_cons (f := 109) (args := #[.pointer (some ⟨w.heap.size, 0, none⟩), .pointer (some ⟨w.heap.size + 1, 0, none⟩)]) (by simp) (by simp [go_sem]) ?_
     refine (many_idle_v ⟨w.heap.size, 0, none⟩ ⟨w.heap.size + 1, 0, none⟩ _).mono ?_
     rintro e u' w'' ⟨rfl, rfl, rfl⟩
     obtain ⟨_, dr, _⟩ := HFIN.out.facts
     simp only [Leaves, settle]
     refine ⟨_, (by simp [results, Tryz.results78, go_sem, dr]; rfl), ?_⟩
     exact HPOST.out
    | some q2 =>
     obtain ⟨kx, jj⟩ := q2
     obtain ⟨hkx, hjl, hr2⟩ := hx2
     have hm1 := HMS.out.read HEL.out (by decide) HP.out hr2 hg2
     obtain ⟨V2, hV2⟩ : ∃ V, w2.alloc (.cells #[.int .i64 0, .int .i64 0, .int .i64 0] 85) = V := ⟨_, rfl⟩
     have r2 : RowAt 85 w2.heap.size #[.int .i64 0, .int .i64 0, .int .i64 0] V2 := by rw [← hV2]; exact RowAt.new _ _ _
     obtain ⟨Y2, hY2⟩ : ∃ V, V2.setRow w2.heap.size ((List.map encI) x).toArray = V := ⟨_, rfl⟩
     have r3 : RowAt 85 w2.heap.size ((List.map encI) x).toArray Y2 := by rw [← hY2]; exact r2.row _
     have hb2 : Below w2.heap.size w2 Y2 := by rw [← hY2, ← hV2]; exact Below.row ((Below.refl _ _).alloc (Nat.le_refl _) _) (Nat.le_refl _) _
     have hm2 := hm1.up HEL.out hb2
     have hex2 := HEL.out x _ _ hex (fun u _ _ _ => Rows.of_below hb2)
     have HV2 := Lib.hid hV2
     have HY2 := Lib.hid hY2
     have HR2b := Lib.hid r2
     have HRX3 := Lib.hid (show Y2.rangeAt w2.heap.size 0 ((List.map encI) x) from fun j u hj => by rw [cell_of_row _ _ _ _ _ _ r3, Nat.zero_add]; simpa using hj)
     have hln : ((List.map encI) x).length = 3 := (by rw [List.length_map]; exact hex.len)
     have hi1 := Lib.hid (show (Tryz.prog.info? 85).map (·.size) = some ((List.map encI) x).toArray.size by rw [List.size_toArray, hln]; kernel_rfl)
     have hi2 := Lib.hid (show (Tryz.prog.info? 85).map (·.size) = some ((List.map encI) x).length by rw [hln]; kernel_rfl)
     have hi3 := Lib.hid (show 3 = ((List.map encI) x).toArray.size by rw [List.size_toArray, hln])
     have hi4 : Hid (((List.map encI) x).toArray.all (·.oneCell') = true) := Lib.hid (by rw [List.all_toArray, List.all_eq_true]; exact fun u hu => enc_one x u hu)
     clear hV2 hY2 r2 r3 hb2 hm1 hln
     obtain ⟨g0, g1, _⟩ := hm2.rd.facts
     have HF := Lib.hid (Pk.reader_fault p true false Y2 g0 g1)
     obtain ⟨ov, cv, hvv, _, _⟩ := hm2.own.form (fun z hz => by rw [List.length_map]; exact (hm2.el z hz).len)
     subst hvv
     obtain ⟨d0, d1, e1⟩ := hm2.facts
     have HM2 := Lib.hid hm2
     have HEX := Lib.hid hex2
     have HKX := Lib.hid hkx
     have HJL := Lib.hid hjl
     obtain ⟨V3, hV3⟩ : ∃ V, Y2.alloc (.cells ((List.map encI) x).toArray 85) = V := ⟨_, rfl⟩
     have hb3 : Below Y2.heap.size Y2 V3 := by rw [← hV3]; exact (Below.refl _ _).alloc (Nat.le_refl _) _
     have HMA := Lib.hid (hm2.up HEL.out hb3)
     have HEA := Lib.hid (HEL.out x _ _ hex2 (fun u _ _ _ => Rows.of_below hb3))
     have HRN := Lib.hid (show V3.heap[Y2.heap.size]? = some (.cells ((List.map encI) x).toArray 85 (0, 0)) by rw [← hV3]; exact heap_alloc_new _ _)
     have HLX : Hid (((List.map encI) x).toArray.size = 3) := Lib.hid (by rw [List.size_toArray]; exact (by rw [List.length_map]; exact hex.len))
     have HV3 := Lib.hid hV3
     have HSZ : Hid (w.heap.size + 2 ≤ V3.heap.size) := Lib.hid HMA.out.lt
     clear hr2 hg2 hm2 HMS c0 c1 f1 g0 g1 hex hex2 hkx hjl hV3 hb3
     go_wp2_with (first | (rw [HV2.out]) | (rw [HY2.out]) | (refine wpList_store_big rfl 85 (.tmp 7) (.tmp 16) rfl w2.heap.size _ _ ((List.map encI) x).toArray rfl rfl HR2b.out hi1.out hi3.out hi4.out ?_))
     refine HF.out.mono ?_
     rintro e w3 ⟨rfl, rfl⟩
     simp only [Pk.fl, if_true, Bool.false_eq_true, if_false]
     clear HF
     go_wp2_with (first | (rw [HV3.out]) | (with_reducible refine stop_at (some 21) rfl ?_; refine Lib.hid ?_; refine wpList_load_mid rfl 85 (.tmp 7) rfl w2.heap.size 0 rfl ((List.map encI) x) _ HRX3.out Tryz.underlying85 rfl hi2.out ?_) | (with_reducible refine stop_at (some 22) rfl ?_; refine Lib.hid ?_; refine build_one infoGv (by omega) rfl (.tmp 21) 70 rfl Tryz.underlying70 ((List.map encI) x).toArray rfl HLX.out ?_) | (at_builtin; refine app_G infoGv rfl (.tmp 20) (.tmp 22) 70 rfl Tryz.underlying70 (w.heap.size + 2) (.slice ov zs.length cv) zs [x] rfl HSZ.out HMA.out.own (some ⟨Y2.heap.size, 0, none⟩) 1 rfl (fun h => by cases h) (one_src HRN.out) (fun z hz => by simp at hz; subst hz; have := HLX.out; rwa [List.size_toArray] at this) (fun z _ => enc_one z) (by have := HZS.out; have := HNM.out; simp; omega) ?_))
     intro v' w4 ho4 hg4
     refine Lib.hid ?_
     obtain ⟨hres4, hm4⟩ := HMA.out.app HEL.out (by decide) HP.out HOB.out ho4 hg4 (fun z hz => by
      rcases List.mem_append.1 hz with hz | hz
      ·exact HMA.out.el z hz
      ·simp at hz
       subst hz
       exact HEA.out)
     have s0 : w4.cell? ⟨w.heap.size + 1, 0, none⟩ = some (.slice ov zs.length cv) := (cell_of_row _ _ 0 _ _ _ hres4).trans rfl
     have s1 : w4.frozen? ⟨w.heap.size + 1, 0, none⟩ = false := frozen_row hres4
     obtain ⟨ow, cw, hvw, _, _⟩ := ho4.form (fun z hz => by rw [List.length_map]; exact (hm4.el z hz).len)
     subst hvw
     have HM4 := Lib.hid hm4
     clear ho4 hg4 hres4 hm4 d0 d1 e1
     obtain ⟨ml, hml⟩ : ∃ ml, (zs ++ [x]).length = ml := ⟨_, rfl⟩
     rw [hml] at HM4 ⊢
     have HML := Lib.hid hml
     clear hml
     go_wp2_with fail
     go_roundg (n - (i + 1))
     case measure => omega
     case rel =>
      refine ⟨i + 1, jj, _, zs ++ [x], rfl, by omega, by go_num, HJL.out, by simp [HZS.out], ?_, HM4.out⟩
      rw [HR2.out]
      (try dsimp only)
      rw [← HKX.out]
      cases pList pVert (n - (i + 1)) l jj with
      | none => rfl
      | some q => simp
   ·have t1 : ¬ (i : Int) < (n : Int) := by omega
    have HRX : Hid (r = some (zs.map (fun z : List Int => z), a)) := Lib.hid (by
     have := HRR.out
     rw [show n - i = 0 by omega] at this
     rw [this]
     simp [pList])
    obtain ⟨ov, cv, hvv, _, _⟩ := HMS.out.own.form (fun z hz => by rw [List.length_map]; exact (HMS.out.el z hz).len)
    subst hvv
    have hfin := (HMS.out.app HEL.out (by decide) HP.out HOB.out HMS.out.own (World.grownBy.refl _ _) HMS.out.el).2
    have HFIN := Lib.hid hfin
    have HPOST : Hid (PMG (fun z : List Int => z) 85 3 (List.map encI) (fun (z : List Int) (_ : World) => VertWf z) o c l p r w (.returned (.slice ov zs.length cv)) (wr.setCell ⟨w.heap.size + 1, 0, none⟩ (.slice ov zs.length cv))) := Lib.hid ⟨hfin.grow, (fun h => by rw [HRX.out] at h; cases h), fun ks' a' h => by rw [HRX.out] at h; cases h; exact ⟨⟨_, zs, rfl, hfin.own.base (by omega), hfin.el, rfl⟩, haa, hfin.rd⟩⟩
    clear HRR HMS hfin HRX
    go_wp2_with fail
    refine leaves_cons (f := 109) (args := #[.pointer (some ⟨w.heap.size, 0, none⟩), .pointer (some ⟨w.heap.size + 1, 0, none⟩)]) (by simp) (by simp [go_sem]) ?_
    refine (many_idle_v ⟨w.heap.size, 0, none⟩ ⟨w.heap.size + 1, 0, none⟩ _).mono ?_
    rintro e u' w'' ⟨rfl, rfl, rfl⟩
    obtain ⟨_, dr, _⟩ := HFIN.out.facts
    simp only [Leaves, settle]
    refine ⟨_, (by simp [results, Tryz.results78, go_sem, dr]; rfl), ?_⟩
    exact HPOST.out
theorem many_idle_t (a b : Addr) (w : World) :
  CallsD Tryz.prog 112 #[.pointer (some a), .pointer (some b)] .returning w fun e u' w' => e = .returned (.tuple #[]) ∧ u' = .returning ∧ w' = w := by
 refine callsD_of_wpS Tryz.func112 rfl fun c₀ cs hu => ?_
 apply wpS_seq
 apply wpS_region
 simp [wpOpsS, go_sem, recoverD, hu, Tryz.ntmps112, Exit.thenS]
 refine wpS_cond (t := false) (by simp [Act.eval, Array.replicate]) ?_
 simp only [Bool.false_eq_true, if_false]
 refine wpS_of_wp (wp_skip ?_)
 cases c₀
 simp_all [bodyPostS, results, Tryz.results112]
set_option maxRecDepth 100000 in
set_option maxHeartbeats 8000000 in
theorem pmany_t (B : Nat) (o : Option Addr) (c : Nat) (l : List Nat) (p at0 : Nat) (lost : Bool) (w : World) (hB : B ≤ w.heap.size) (k : RdOk l at0) (h : PR o c l p at0 lost w) (hob : ∀ b off, o = some ⟨b, off, none⟩ → 0 < l.length → b < w.heap.size) :
  Calls Tryz.prog 81 #[.pointer (some ⟨p, 0, none⟩), .int .i64 64, .func (.func 82) #[] #[]] w (PMG (fun z : TriR => z) 87 4 triL (fun (z : TriR) (_ : World) => TriWf z) o c l p (runP lost (pMany 64 pTri) l at0) w) := by
 have hel : ElOk 87 71 (fun (z : TriR) (_ : World) => TriWf z) := fun z W X h _ => h
 have HEL := Lib.hid hel
 have hmf : ∀ (fn : Fn) (first cap : Array Value) (w : World), (Instr.makeFunc fn first cap).run Tryz.prog w = .ok (.func fn first cap) w := fun _ _ _ _ => rfl
 have hp := h.lt
 obtain ⟨W1, hW1⟩ : ∃ W1, (w.alloc (.cells #[.pointer (some ⟨p, 0, none⟩)] 90)).alloc (.cells #[.slice none 0 0] 71) = W1 := ⟨_, rfl⟩
 have hb1 : Below w.heap.size w W1 := by rw [← hW1]; exact ((Below.refl _ w).alloc (Nat.le_refl _) _).alloc (by simp) _
 have hs := Pk.prsmall_any o c l p at0 64 lost W1 k (by omega) (h.below hb1)
 have hms : MSG 87 71 4 triL (fun (z : TriR) (_ : World) => TriWf z) o c l p at0 lost (.slice none 0 0) [] w W1 := by
  refine ⟨?_, ?_, h.below hb1, OwnG.nil _ _ _ _ _, fun z hz => by simp at hz, Pk.below_grown hb1 (some p)⟩
  ·rw [← hW1]; exact step_row (heap_alloc_new _ _)
  ·rw [← hW1]
   have := heap_alloc_new (w.alloc (.cells #[.pointer (some ⟨p, 0, none⟩)] 90)) (.cells #[.slice none 0 0] 71)
   rw [World.size_alloc] at this
   exact this
 have HS := Lib.hid hs
 have HMS := Lib.hid hms
 have HK := Lib.hid k
 have HP := Lib.hid hp
 have HOB := Lib.hid hob
 have HW1 := Lib.hid hW1
 have HB := Lib.hid hB
 clear hs hms h hob hb1 hW1 k hp hel hB
 have hse := small_eq (lost := lost) (most := 64) (l := l) (a := at0)
 obtain ⟨R, hR⟩ : ∃ R, Pk.rz lost (64 : Int) (l.drop at0) = R := ⟨_, rfl⟩
 have hR' : Pk.rz lost ((64 : Nat) : Int) (l.drop at0) = R := hR
 rw [hR] at HS
 rw [hR'] at hse
 obtain ⟨r, hr⟩ : ∃ r, runP lost (pMany 64 pTri) l at0 = r := ⟨_, rfl⟩
 have HMR : Hid (r = match R.map (fun q => ((q.1 : Int), at0 + q.2)) with | none => none | some (n, b) => pList pTri n.toNat l b) := Lib.hid (by
  rw [← hr, hse]
  unfold runP pMany
  cases lost <;> rfl)
 have HRL : Hid (∀ q, R = some q → q.1 ≤ 64 ∧ at0 + q.2 ≤ l.length) := Lib.hid (fun q hq => by
  rw [hq] at hse
  simp only [Option.map_some] at hse
  unfold runP at hse
  split at hse
  ·cases hse
  ·have := pU_le HK.out.at' hse.symm
   omega)
 rw [hr]
 clear hR hR' hse hr
 cases R with
 | none =>
  have hrn : r = none := HMR.out
  subst hrn
  go_enter_defers Tryz.func81, Tryz.ntmps81
  go_wp2_with fail
  rw [HW1.out]
  refine HS.out.mono ?_
  rintro e w1 ⟨rfl, hr1, hg1⟩
  simp only [Pk.upV, Pk.upA, Pk.upB, Option.isNone_none] at hr1 ⊢
  have hm1 := HMS.out.read HEL.out (by decide) HP.out hr1 hg1
  obtain ⟨c0, c1, f1⟩ := hm1.facts
  have HFIN := Lib.hid (hm1.strike HEL.out (by decide) HP.out HOB.out)
  have HPOST : Hid (PMG (fun z : TriR => z) 87 4 triL (fun (z : TriR) (_ : World) => TriWf z) o c l p none w (.returned (.slice none 0 0)) (w1.setCell ⟨w.heap.size + 1, 0, none⟩ (.slice none 0 0))) := Lib.hid ⟨HFIN.out.grow, fun _ => ⟨rfl, at0, HK.out.at', HFIN.out.rd⟩, fun zs a h => by cases h⟩
  clear hr1 hg1 hm1 HS HMS
  go_wp2_with fail
  go_loopg [12] 0 (fun g s12 wr => g = 0 ∧ s12 = .int .i64 0 ∧ wr = w1)
  case atStart => exact ⟨rfl, rfl, rfl⟩
  case round =>
   obtain ⟨_, rfl, rfl⟩ := hrel
   go_wp2_with fail
   refine leaves_cons (f := 112) (args := #[.pointer (some ⟨w.heap.size, 0, none⟩), .pointer (some ⟨w.heap.size + 1, 0, none⟩)]) (by simp) (by simp [go_sem]) ?_
   refine (many_idle_t ⟨w.heap.size, 0, none⟩ ⟨w.heap.size + 1, 0, none⟩ _).mono ?_
   rintro e u' w'' ⟨rfl, rfl, rfl⟩
   obtain ⟨_, dr, _⟩ := HFIN.out.facts
   simp only [Leaves, settle]
   refine ⟨_, (by simp [results, Tryz.results81, go_sem, dr]; rfl), ?_⟩
   exact HPOST.out
 | some q =>
  obtain ⟨n, j⟩ := q
  have hrm : r = pList pTri n l (at0 + j) := HMR.out
  obtain ⟨hnm, hal⟩ := HRL.out (n, j) rfl
  dsimp only at hnm hal
  obtain ⟨at1, hat1⟩ : ∃ at1, at0 + j = at1 := ⟨_, rfl⟩
  rw [hat1] at hrm hal
  have HRM := Lib.hid hrm
  have HAT := Lib.hid hat1
  have HNM := Lib.hid hnm
  have n0 : (0 : Int) ≤ (n : Int) := by omega
  have n9 : (n : Int) ≤ 64 := by omega
  clear HMR HRL hrm hnm hat1
  go_enter_defers Tryz.func81, Tryz.ntmps81
  go_wp2_with fail
  rw [HW1.out]
  refine HS.out.mono ?_
  rintro e w1 ⟨rfl, hr1, hg1⟩
  simp only [Pk.upV, Pk.upA, Pk.upB, Option.isNone_some] at hr1 ⊢
  rw [HAT.out] at hr1
  have HM1 := Lib.hid (HMS.out.read HEL.out (by decide) HP.out hr1 hg1)
  clear hr1 hg1 HS HMS
  go_wp2_with fail
  go_loopg [7, 12] n (fun g s7 s12 wr => ∃ (i a : Nat) (v : Value) (zs : List TriR), g = n - i ∧ i ≤ n ∧ s12 = .int .i64 (i : Int) ∧ a ≤ l.length ∧ zs.length = i ∧ r = (pList pTri (n - i) l a).map (fun q => (zs.map (fun z : TriR => z) ++ q.1, q.2)) ∧ MSG 87 71 4 triL (fun (z : TriR) (_ : World) => TriWf z) o c l p a false v zs w wr)
  case atStart => exact ⟨0, at1, _, [], rfl, by omega, rfl, hal, rfl, by rw [HRM.out]; (cases pList pTri (n - 0) l at1 <;> rfl), HM1.out⟩
  case round =>
   clear HM1
   obtain ⟨i, a, v, zs, hgi, hi2, rfl, haa, hzs, hrr, hms⟩ := hrel
   subst hgi
   obtain ⟨c0, c1, f1⟩ := hms.facts
   have HMS := Lib.hid hms
   have HRR := Lib.hid hrr
   have HZS := Lib.hid hzs
   have HK1 : Hid (RdOk l a) := Lib.hid ⟨HK.out.by', HK.out.len, haa⟩
   have i00 : (0 : Int) ≤ (i : Int) := by omega
   clear hms hrr hzs
   by_cases hin : i < n
   ·have t1 : (i : Int) < (n : Int) := by omega
    have hone := taket_any o c l p a false wr HK1.out HMS.out.rd (fun b off e h => by have := HOB.out b off e h; have := HMS.out.lt; omega)
    have hnk : n - i = (n - (i + 1)) + 1 := by omega
    have hr2 := HRR.out
    rw [hnk, pList_succ] at hr2
    unfold PTri OneG at hone
    have hrun : runP false pTri l a = pTri l a := rfl
    rw [hrun] at hone
    obtain ⟨R2, hR2⟩ : ∃ R2, pTri l a = R2 := ⟨_, rfl⟩
    rw [hR2] at hone hr2
    have HONE := Lib.hid hone
    have HR2 := Lib.hid hr2
    clear hone hnk hr2 hR2 HRR hrun
    go_wp2_with fail
    refine HONE.out.mono ?_
    rintro e w2 ⟨hg2, x, rfl, hex, hx2⟩
    clear HONE
    cases R2 with
    | none =>
     have HRN : Hid (r = none) := Lib.hid HR2.out
     obtain ⟨a2, ha2, hr2⟩ := hx2
     have hm1 := HMS.out.read HEL.out (by decide) HP.out hr2 hg2
     obtain ⟨V2, hV2⟩ : ∃ V, w2.alloc (.cells #[.int .i64 0, .int .i64 0, .int .i64 0, .int .u32 0] 87) = V := ⟨_, rfl⟩
     have r2 : RowAt 87 w2.heap.size #[.int .i64 0, .int .i64 0, .int .i64 0, .int .u32 0] V2 := by rw [← hV2]; exact RowAt.new _ _ _
     obtain ⟨Y2, hY2⟩ : ∃ V, V2.setRow w2.heap.size (triL x).toArray = V := ⟨_, rfl⟩
     have r3 : RowAt 87 w2.heap.size (triL x).toArray Y2 := by rw [← hY2]; exact r2.row _
     have hb2 : Below w2.heap.size w2 Y2 := by rw [← hY2, ← hV2]; exact Below.row ((Below.refl _ _).alloc (Nat.le_refl _) _) (Nat.le_refl _) _
     have hm2 := hm1.up HEL.out hb2
     have hex2 := HEL.out x _ _ hex (fun u _ _ _ => Rows.of_below hb2)
     have HV2 := Lib.hid hV2
     have HY2 := Lib.hid hY2
     have HR2b := Lib.hid r2
     have HRX3 := Lib.hid (show Y2.rangeAt w2.heap.size 0 (triL x) from fun j u hj => by rw [cell_of_row _ _ _ _ _ _ r3, Nat.zero_add]; simpa using hj)
     have hln : (triL x).length = 4 := (by rfl)
     have hi1 := Lib.hid (show (Tryz.prog.info? 87).map (·.size) = some (triL x).toArray.size by rw [List.size_toArray, hln]; kernel_rfl)
     have hi2 := Lib.hid (show (Tryz.prog.info? 87).map (·.size) = some (triL x).length by rw [hln]; kernel_rfl)
     have hi3 := Lib.hid (show 4 = (triL x).toArray.size by rw [List.size_toArray, hln])
     have hi4 : Hid ((triL x).toArray.all (·.oneCell') = true) := Lib.hid (by rw [List.all_toArray, List.all_eq_true]; exact fun u hu => tri_one x u hu)
     clear hV2 hY2 r2 r3 hb2 hm1 hln
     obtain ⟨d0, d1, e1⟩ := hm2.facts
     obtain ⟨g0, g1, _⟩ := hm2.rd.facts
     have HF := Lib.hid (Pk.reader_fault p true true Y2 g0 g1)
     have HFIN := Lib.hid (hm2.strike HEL.out (by decide) HP.out HOB.out)
     have HPOST : Hid (PMG (fun z : TriR => z) 87 4 triL (fun (z : TriR) (_ : World) => TriWf z) o c l p r w (.returned (.slice none 0 0)) (Y2.setCell ⟨w.heap.size + 1, 0, none⟩ (.slice none 0 0))) := Lib.hid ⟨HFIN.out.grow, fun _ => ⟨rfl, a2, ha2, HFIN.out.rd⟩, fun zs a h => by rw [HRN.out] at h; cases h⟩
     clear hr2 hg2 hm2 HMS HR2 HRN c0 c1 f1 g0 g1
     go_wp2_with (first | (rw [HV2.out]) | (rw [HY2.out]) | (refine wpList_store_big rfl 87 (.tmp 7) (.tmp 16) rfl w2.heap.size _ _ (triL x).toArray rfl rfl HR2b.out hi1.out hi3.out hi4.out ?_))
     refine HF.out.mono ?_
     rintro e w3 ⟨rfl, rfl⟩
     simp only [Pk.fl, if_true]
     go_wp2_with fail
     refine leaves_cons (f := 112) (args := #[.pointer (some ⟨w.heap.size, 0, none⟩), .pointer (some ⟨w.heap.size + 1, 0, none⟩)]) (by simp) (by simp [go_sem]) ?_
     refine (many_idle_t ⟨w.heap.size, 0, none⟩ ⟨w.heap.size + 1, 0, none⟩ _).mono ?_
     rintro e u' w'' ⟨rfl, rfl, rfl⟩
     obtain ⟨_, dr, _⟩ := HFIN.out.facts
     simp only [Leaves, settle]
     refine ⟨_, (by simp [results, Tryz.results81, go_sem, dr]; rfl), ?_⟩
     exact HPOST.out
    | some q2 =>
     obtain ⟨kx, jj⟩ := q2
     obtain ⟨hkx, hjl, hr2⟩ := hx2
     have hm1 := HMS.out.read HEL.out (by decide) HP.out hr2 hg2
     obtain ⟨V2, hV2⟩ : ∃ V, w2.alloc (.cells #[.int .i64 0, .int .i64 0, .int .i64 0, .int .u32 0] 87) = V := ⟨_, rfl⟩
     have r2 : RowAt 87 w2.heap.size #[.int .i64 0, .int .i64 0, .int .i64 0, .int .u32 0] V2 := by rw [← hV2]; exact RowAt.new _ _ _
     obtain ⟨Y2, hY2⟩ : ∃ V, V2.setRow w2.heap.size (triL x).toArray = V := ⟨_, rfl⟩
     have r3 : RowAt 87 w2.heap.size (triL x).toArray Y2 := by rw [← hY2]; exact r2.row _
     have hb2 : Below w2.heap.size w2 Y2 := by rw [← hY2, ← hV2]; exact Below.row ((Below.refl _ _).alloc (Nat.le_refl _) _) (Nat.le_refl _) _
     have hm2 := hm1.up HEL.out hb2
     have hex2 := HEL.out x _ _ hex (fun u _ _ _ => Rows.of_below hb2)
     have HV2 := Lib.hid hV2
     have HY2 := Lib.hid hY2
     have HR2b := Lib.hid r2
     have HRX3 := Lib.hid (show Y2.rangeAt w2.heap.size 0 (triL x) from fun j u hj => by rw [cell_of_row _ _ _ _ _ _ r3, Nat.zero_add]; simpa using hj)
     have hln : (triL x).length = 4 := (by rfl)
     have hi1 := Lib.hid (show (Tryz.prog.info? 87).map (·.size) = some (triL x).toArray.size by rw [List.size_toArray, hln]; kernel_rfl)
     have hi2 := Lib.hid (show (Tryz.prog.info? 87).map (·.size) = some (triL x).length by rw [hln]; kernel_rfl)
     have hi3 := Lib.hid (show 4 = (triL x).toArray.size by rw [List.size_toArray, hln])
     have hi4 : Hid ((triL x).toArray.all (·.oneCell') = true) := Lib.hid (by rw [List.all_toArray, List.all_eq_true]; exact fun u hu => tri_one x u hu)
     clear hV2 hY2 r2 r3 hb2 hm1 hln
     obtain ⟨g0, g1, _⟩ := hm2.rd.facts
     have HF := Lib.hid (Pk.reader_fault p true false Y2 g0 g1)
     obtain ⟨ov, cv, hvv, _, _⟩ := hm2.own.form (fun z _ => rfl)
     subst hvv
     obtain ⟨d0, d1, e1⟩ := hm2.facts
     have HM2 := Lib.hid hm2
     have HEX := Lib.hid hex2
     have HKX := Lib.hid hkx
     have HJL := Lib.hid hjl
     obtain ⟨V3, hV3⟩ : ∃ V, Y2.alloc (.cells (triL x).toArray 87) = V := ⟨_, rfl⟩
     have hb3 : Below Y2.heap.size Y2 V3 := by rw [← hV3]; exact (Below.refl _ _).alloc (Nat.le_refl _) _
     have HMA := Lib.hid (hm2.up HEL.out hb3)
     have HEA := Lib.hid (HEL.out x _ _ hex2 (fun u _ _ _ => Rows.of_below hb3))
     have HRN := Lib.hid (show V3.heap[Y2.heap.size]? = some (.cells (triL x).toArray 87 (0, 0)) by rw [← hV3]; exact heap_alloc_new _ _)
     have HLX : Hid ((triL x).toArray.size = 4) := Lib.hid (by rw [List.size_toArray]; exact (by rfl))
     have HV3 := Lib.hid hV3
     have HSZ : Hid (w.heap.size + 2 ≤ V3.heap.size) := Lib.hid HMA.out.lt
     clear hr2 hg2 hm2 HMS c0 c1 f1 g0 g1 hex hex2 hkx hjl hV3 hb3
     go_wp2_with (first | (rw [HV2.out]) | (rw [HY2.out]) | (refine wpList_store_big rfl 87 (.tmp 7) (.tmp 16) rfl w2.heap.size _ _ (triL x).toArray rfl rfl HR2b.out hi1.out hi3.out hi4.out ?_))
     refine HF.out.mono ?_
     rintro e w3 ⟨rfl, rfl⟩
     simp only [Pk.fl, if_true, Bool.false_eq_true, if_false]
     clear HF
     go_wp2_with (first | (rw [HV3.out]) | (with_reducible refine stop_at (some 21) rfl ?_; refine Lib.hid ?_; refine wpList_load_mid rfl 87 (.tmp 7) rfl w2.heap.size 0 rfl (triL x) _ HRX3.out Tryz.underlying87 rfl hi2.out ?_) | (with_reducible refine stop_at (some 22) rfl ?_; refine Lib.hid ?_; refine build_one infoGt (by omega) rfl (.tmp 21) 71 rfl Tryz.underlying71 (triL x).toArray rfl HLX.out ?_) | (at_builtin; refine app_G infoGt rfl (.tmp 20) (.tmp 22) 71 rfl Tryz.underlying71 (w.heap.size + 2) (.slice ov zs.length cv) zs [x] rfl HSZ.out HMA.out.own (some ⟨Y2.heap.size, 0, none⟩) 1 rfl (fun h => by cases h) (one_src HRN.out) (fun z hz => by simp at hz; subst hz; have := HLX.out; rwa [List.size_toArray] at this) (fun z _ => tri_one z) (by have := HZS.out; have := HNM.out; simp; omega) ?_))
     intro v' w4 ho4 hg4
     refine Lib.hid ?_
     obtain ⟨hres4, hm4⟩ := HMA.out.app HEL.out (by decide) HP.out HOB.out ho4 hg4 (fun z hz => by
      rcases List.mem_append.1 hz with hz | hz
      ·exact HMA.out.el z hz
      ·simp at hz
       subst hz
       exact HEA.out)
     have s0 : w4.cell? ⟨w.heap.size + 1, 0, none⟩ = some (.slice ov zs.length cv) := (cell_of_row _ _ 0 _ _ _ hres4).trans rfl
     have s1 : w4.frozen? ⟨w.heap.size + 1, 0, none⟩ = false := frozen_row hres4
     obtain ⟨ow, cw, hvw, _, _⟩ := ho4.form (fun z _ => rfl)
     subst hvw
     have HM4 := Lib.hid hm4
     clear ho4 hg4 hres4 hm4 d0 d1 e1
     obtain ⟨ml, hml⟩ : ∃ ml, (zs ++ [x]).length = ml := ⟨_, rfl⟩
     rw [hml] at HM4 ⊢
     have HML := Lib.hid hml
     clear hml
     go_wp2_with fail
     go_roundg (n - (i + 1))
     case measure => omega
     case rel =>
      refine ⟨i + 1, jj, _, zs ++ [x], rfl, by omega, by go_num, HJL.out, by simp [HZS.out], ?_, HM4.out⟩
      rw [HR2.out]
      (try dsimp only)
      rw [← HKX.out]
      cases pList pTri (n - (i + 1)) l jj with
      | none => rfl
      | some q => simp
   ·have t1 : ¬ (i : Int) < (n : Int) := by omega
    have HRX : Hid (r = some (zs.map (fun z : TriR => z), a)) := Lib.hid (by
     have := HRR.out
     rw [show n - i = 0 by omega] at this
     rw [this]
     simp [pList])
    obtain ⟨ov, cv, hvv, _, _⟩ := HMS.out.own.form (fun z _ => rfl)
    subst hvv
    have hfin := (HMS.out.app HEL.out (by decide) HP.out HOB.out HMS.out.own (World.grownBy.refl _ _) HMS.out.el).2
    have HFIN := Lib.hid hfin
    have HPOST : Hid (PMG (fun z : TriR => z) 87 4 triL (fun (z : TriR) (_ : World) => TriWf z) o c l p r w (.returned (.slice ov zs.length cv)) (wr.setCell ⟨w.heap.size + 1, 0, none⟩ (.slice ov zs.length cv))) := Lib.hid ⟨hfin.grow, (fun h => by rw [HRX.out] at h; cases h), fun ks' a' h => by rw [HRX.out] at h; cases h; exact ⟨⟨_, zs, rfl, hfin.own.base (by omega), hfin.el, rfl⟩, haa, hfin.rd⟩⟩
    clear HRR HMS hfin HRX
    go_wp2_with fail
    refine leaves_cons (f := 112) (args := #[.pointer (some ⟨w.heap.size, 0, none⟩), .pointer (some ⟨w.heap.size + 1, 0, none⟩)]) (by simp) (by simp [go_sem]) ?_
    refine (many_idle_t ⟨w.heap.size, 0, none⟩ ⟨w.heap.size + 1, 0, none⟩ _).mono ?_
    rintro e u' w'' ⟨rfl, rfl, rfl⟩
    obtain ⟨_, dr, _⟩ := HFIN.out.facts
    simp only [Leaves, settle]
    refine ⟨_, (by simp [results, Tryz.results81, go_sem, dr]; rfl), ?_⟩
    exact HPOST.out
end Go.Proofs.YtbbhmhihpdmoiaaGreat.Fx
