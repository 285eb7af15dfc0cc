import Derived.Laws.Rows
import Derived.Test.YtbbhmhihpdmoiaaGreatProg
import Derived.Defers
import Derived.Recover
import Derived.Laws.ResultCell
import Derived.WalkMore
import Derived.Test.YtbbhmhihpdmoiaaGreatMw27
import Derived.Test.YtbbhmhihpdmoiaaGreatMw33
import Derived.Test.YtbbhmhihpdmoiaaGreatMw41
import Derived.Test.YtbbhmhihpdmoiaaGreatMw43
set_option linter.unusedVariables false
set_option linter.unusedSimpArgs false
namespace Go.Proofs.YtbbhmhihpdmoiaaGreat.Fx
open Go Go.RowKit
open Go.Proofs.YtbbhmhihpdmoiaaGreat.Pk (PR RdOk Bs)
theorem many_idle_x (a b : Addr) (w : World) :
  CallsD Tryz.prog 94 #[.pointer (some a), .pointer (some b)] .returning w fun e u' w' => e = .returned (.tuple #[]) ∧ u' = .returning ∧ w' = w := by
 refine callsD_of_wpS Tryz.func94 rfl fun c₀ cs hu => ?_
 apply wpS_seq
 apply wpS_region
 simp [wpOpsS, go_sem, recoverD, hu, Tryz.ntmps94, Exit.thenS]
 refine wpS_cond (t := false) (by simp [Act.eval, Array.replicate]) ?_
 simp only [Bool.false_eq_true, if_false]
 refine wpS_of_wp (wp_skip ?_)
 cases c₀
 simp_all [bodyPostS, results, Tryz.results94]
set_option maxRecDepth 100000 in
set_option maxHeartbeats 8000000 in
theorem pmany_x (B : Nat) (o : Option Addr) (c : Nat) (l : List Nat) (p at0 : Nat) (lost : Bool) (w : World) (hB : B ≤ w.heap.size) (k : RdOk l at0) (h : PR o c l p at0 lost w) (hob : ∀ b off, o = some ⟨b, off, none⟩ → 0 < l.length → b < w.heap.size) :
  Calls Tryz.prog 55 #[.pointer (some ⟨p, 0, none⟩), .int .i64 100, .func (.func 56) #[] #[]] w (PMG TxR.l 31 1 txL TxEl o c l p (runP lost (pMany 100 pText) l at0) w) := by
 have hel : ElOk 31 108 TxEl := txEl_ok
 have HEL := Lib.hid hel
 have hmf : ∀ (fn : Fn) (first cap : Array Value) (w : World), (Instr.makeFunc fn first cap).run Tryz.prog w = .ok (.func fn first cap) w := fun _ _ _ _ => rfl
 have hp := h.lt
 obtain ⟨W1, hW1⟩ : ∃ W1, (w.alloc (.cells #[.pointer (some ⟨p, 0, none⟩)] 90)).alloc (.cells #[.slice none 0 0] 108) = W1 := ⟨_, rfl⟩
 have hb1 : Below w.heap.size w W1 := by rw [← hW1]; exact ((Below.refl _ w).alloc (Nat.le_refl _) _).alloc (by simp) _
 have hs := Pk.prsmall_any o c l p at0 100 lost W1 k (by omega) (h.below hb1)
 have hms : MSG 31 108 1 txL TxEl o c l p at0 lost (.slice none 0 0) [] w W1 := by
  refine ⟨?_, ?_, h.below hb1, OwnG.nil _ _ _ _ _, fun z hz => by simp at hz, Pk.below_grown hb1 (some p)⟩
  ·rw [← hW1]; exact step_row (heap_alloc_new _ _)
  ·rw [← hW1]
   have := heap_alloc_new (w.alloc (.cells #[.pointer (some ⟨p, 0, none⟩)] 90)) (.cells #[.slice none 0 0] 108)
   rw [World.size_alloc] at this
   exact this
 have HS := Lib.hid hs
 have HMS := Lib.hid hms
 have HK := Lib.hid k
 have HP := Lib.hid hp
 have HOB := Lib.hid hob
 have HW1 := Lib.hid hW1
 have HB := Lib.hid hB
 clear hs hms h hob hb1 hW1 k hp hel hB
 have hse := small_eq (lost := lost) (most := 100) (l := l) (a := at0)
 obtain ⟨R, hR⟩ : ∃ R, Pk.rz lost (100 : Int) (l.drop at0) = R := ⟨_, rfl⟩
 have hR' : Pk.rz lost ((100 : Nat) : Int) (l.drop at0) = R := hR
 rw [hR] at HS
 rw [hR'] at hse
 obtain ⟨r, hr⟩ : ∃ r, runP lost (pMany 100 pText) l at0 = r := ⟨_, rfl⟩
 have HMR : Hid (r = match R.map (fun q => ((q.1 : Int), at0 + q.2)) with | none => none | some (n, b) => pList pText n.toNat l b) := Lib.hid (by
  rw [← hr, hse]
  unfold runP pMany
  cases lost <;> rfl)
 have HRL : Hid (∀ q, R = some q → q.1 ≤ 100 ∧ at0 + q.2 ≤ l.length) := Lib.hid (fun q hq => by
  rw [hq] at hse
  simp only [Option.map_some] at hse
  unfold runP at hse
  split at hse
  ·cases hse
  ·have := pU_le HK.out.at' hse.symm
   omega)
 rw [hr]
 clear hR hR' hse hr
 cases R with
 | none =>
  have hrn : r = none := HMR.out
  subst hrn
  go_enter_defers Tryz.func55, Tryz.ntmps55
  go_wp2_with fail
  rw [HW1.out]
  refine HS.out.mono ?_
  rintro e w1 ⟨rfl, hr1, hg1⟩
  simp only [Pk.upV, Pk.upA, Pk.upB, Option.isNone_none] at hr1 ⊢
  have hm1 := HMS.out.read HEL.out (by decide) HP.out hr1 hg1
  obtain ⟨c0, c1, f1⟩ := hm1.facts
  have HFIN := Lib.hid (hm1.strike HEL.out (by decide) HP.out HOB.out)
  have HPOST : Hid (PMG TxR.l 31 1 txL TxEl o c l p none w (.returned (.slice none 0 0)) (w1.setCell ⟨w.heap.size + 1, 0, none⟩ (.slice none 0 0))) := Lib.hid ⟨HFIN.out.grow, fun _ => ⟨rfl, at0, HK.out.at', HFIN.out.rd⟩, fun zs a h => by cases h⟩
  clear hr1 hg1 hm1 HS HMS
  go_wp2_with fail
  go_loopg [12] 0 (fun g s12 wr => g = 0 ∧ s12 = .int .i64 0 ∧ wr = w1)
  case atStart => exact ⟨rfl, rfl, rfl⟩
  case round =>
   obtain ⟨_, rfl, rfl⟩ := hrel
   go_wp2_with fail
   refine leaves_cons (f := 94) (args := #[.pointer (some ⟨w.heap.size, 0, none⟩), .pointer (some ⟨w.heap.size + 1, 0, none⟩)]) (by simp) (by simp [go_sem]) ?_
   refine (many_idle_x ⟨w.heap.size, 0, none⟩ ⟨w.heap.size + 1, 0, none⟩ _).mono ?_
   rintro e u' w'' ⟨rfl, rfl, rfl⟩
   obtain ⟨_, dr, _⟩ := HFIN.out.facts
   simp only [Leaves, settle]
   refine ⟨_, (by simp [results, Tryz.results55, go_sem, dr]; rfl), ?_⟩
   exact HPOST.out
 | some q =>
  obtain ⟨n, j⟩ := q
  have hrm : r = pList pText n l (at0 + j) := HMR.out
  obtain ⟨hnm, hal⟩ := HRL.out (n, j) rfl
  dsimp only at hnm hal
  obtain ⟨at1, hat1⟩ : ∃ at1, at0 + j = at1 := ⟨_, rfl⟩
  rw [hat1] at hrm hal
  have HRM := Lib.hid hrm
  have HAT := Lib.hid hat1
  have HNM := Lib.hid hnm
  have n0 : (0 : Int) ≤ (n : Int) := by omega
  have n9 : (n : Int) ≤ 100 := by omega
  clear HMR HRL hrm hnm hat1
  go_enter_defers Tryz.func55, Tryz.ntmps55
  go_wp2_with fail
  rw [HW1.out]
  refine HS.out.mono ?_
  rintro e w1 ⟨rfl, hr1, hg1⟩
  simp only [Pk.upV, Pk.upA, Pk.upB, Option.isNone_some] at hr1 ⊢
  rw [HAT.out] at hr1
  have HM1 := Lib.hid (HMS.out.read HEL.out (by decide) HP.out hr1 hg1)
  clear hr1 hg1 HS HMS
  go_wp2_with fail
  go_loopg [7, 12] n (fun g s7 s12 wr => ∃ (i a : Nat) (v : Value) (zs : List TxR), g = n - i ∧ i ≤ n ∧ s12 = .int .i64 (i : Int) ∧ a ≤ l.length ∧ zs.length = i ∧ r = (pList pText (n - i) l a).map (fun q => (zs.map TxR.l ++ q.1, q.2)) ∧ MSG 31 108 1 txL TxEl o c l p a false v zs w wr)
  case atStart => exact ⟨0, at1, _, [], rfl, by omega, rfl, hal, rfl, by rw [HRM.out]; (cases pList pText (n - 0) l at1 <;> rfl), HM1.out⟩
  case round =>
   clear HM1
   obtain ⟨i, a, v, zs, hgi, hi2, rfl, haa, hzs, hrr, hms⟩ := hrel
   subst hgi
   obtain ⟨c0, c1, f1⟩ := hms.facts
   have HMS := Lib.hid hms
   have HRR := Lib.hid hrr
   have HZS := Lib.hid hzs
   have HK1 : Hid (RdOk l a) := Lib.hid ⟨HK.out.by', HK.out.len, haa⟩
   have i00 : (0 : Int) ≤ (i : Int) := by omega
   clear hms hrr hzs
   by_cases hin : i < n
   ·have t1 : (i : Int) < (n : Int) := by omega
    have hone := takex_any o c l p a false wr HK1.out HMS.out.rd
    have hnk : n - i = (n - (i + 1)) + 1 := by omega
    have hr2 := HRR.out
    rw [hnk, pList_succ] at hr2
    unfold PTx OneG at hone
    have hrun : runP false pText l a = pText l a := rfl
    rw [hrun] at hone
    obtain ⟨R2, hR2⟩ : ∃ R2, pText l a = R2 := ⟨_, rfl⟩
    rw [hR2] at hone hr2
    have HONE := Lib.hid hone
    have HR2 := Lib.hid hr2
    clear hone hnk hr2 hR2 HRR hrun
    go_wp2_with fail
    refine HONE.out.mono ?_
    rintro e w2 ⟨hg2, x, rfl, hex, hx2⟩
    clear HONE
    cases R2 with
    | none =>
     have HRN : Hid (r = none) := Lib.hid HR2.out
     obtain ⟨a2, ha2, hr2⟩ := hx2
     have hm2 := HMS.out.read HEL.out (by decide) HP.out hr2 hg2
     have hex2 := hex
     obtain ⟨d0, d1, e1⟩ := hm2.facts
     obtain ⟨g0, g1, _⟩ := hm2.rd.facts
     have HF := Lib.hid (Pk.reader_fault p true true w2 g0 g1)
     have HFIN := Lib.hid (hm2.strike HEL.out (by decide) HP.out HOB.out)
     have HPOST : Hid (PMG TxR.l 31 1 txL TxEl o c l p r w (.returned (.slice none 0 0)) (w2.setCell ⟨w.heap.size + 1, 0, none⟩ (.slice none 0 0))) := Lib.hid ⟨HFIN.out.grow, fun _ => ⟨rfl, a2, ha2, HFIN.out.rd⟩, fun zs a h => by rw [HRN.out] at h; cases h⟩
     clear hr2 hg2 hm2 HMS HR2 HRN c0 c1 f1 g0 g1
     go_wp2_with fail
     refine HF.out.mono ?_
     rintro e w3 ⟨rfl, rfl⟩
     simp only [Pk.fl, if_true]
     go_wp2_with fail
     refine leaves_cons (f := 94) (args := #[.pointer (some ⟨w.heap.size, 0, none⟩), .pointer (some ⟨w.heap.size + 1, 0, none⟩)]) (by simp) (by simp [go_sem]) ?_
     refine (many_idle_x ⟨w.heap.size, 0, none⟩ ⟨w.heap.size + 1, 0, none⟩ _).mono ?_
     rintro e u' w'' ⟨rfl, rfl, rfl⟩
     obtain ⟨_, dr, _⟩ := HFIN.out.facts
     simp only [Leaves, settle]
     refine ⟨_, (by simp [results, Tryz.results55, go_sem, dr]; rfl), ?_⟩
     exact HPOST.out
    | some q2 =>
     obtain ⟨kx, jj⟩ := q2
     obtain ⟨hkx, hjl, hr2⟩ := hx2
     have hm2 := HMS.out.read HEL.out (by decide) HP.out hr2 hg2
     have hex2 := hex
     obtain ⟨g0, g1, _⟩ := hm2.rd.facts
     have HF := Lib.hid (Pk.reader_fault p true false w2 g0 g1)
     obtain ⟨ov, cv, hvv, _, _⟩ := hm2.own.form (fun z _ => rfl)
     subst hvv
     obtain ⟨d0, d1, e1⟩ := hm2.facts
     have HM2 := Lib.hid hm2
     have HEX := Lib.hid hex2
     have HKX := Lib.hid hkx
     have HJL := Lib.hid hjl
     obtain ⟨V3, hV3⟩ : ∃ V, w2.alloc (.cells (txL x).toArray 31) = V := ⟨_, rfl⟩
     have hb3 : Below w2.heap.size w2 V3 := by rw [← hV3]; exact (Below.refl _ _).alloc (Nat.le_refl _) _
     have HMA := Lib.hid (hm2.up HEL.out hb3)
     have HEA := Lib.hid (HEL.out x _ _ hex2 (fun u _ _ _ => Rows.of_below hb3))
     have HRN := Lib.hid (show V3.heap[w2.heap.size]? = some (.cells (txL x).toArray 31 (0, 0)) by rw [← hV3]; exact heap_alloc_new _ _)
     have HLX : Hid ((txL x).toArray.size = 1) := Lib.hid (by rw [List.size_toArray]; exact (by rfl))
     have HV3 := Lib.hid hV3
     have HSZ : Hid (w.heap.size + 2 ≤ V3.heap.size) := Lib.hid HMA.out.lt
     clear hr2 hg2 hm2 HMS c0 c1 f1 g0 g1 hex hex2 hkx hjl hV3 hb3
     go_wp2_with fail
     refine HF.out.mono ?_
     rintro e w3 ⟨rfl, rfl⟩
     simp only [Pk.fl, if_true, Bool.false_eq_true, if_false]
     clear HF
     go_wp2_with (first | (rw [HV3.out]) | (with_reducible refine stop_at (some 22) rfl ?_; refine Lib.hid ?_; refine build_oneV infoGx (by omega) rfl (.tmp 21) 108 rfl Tryz.underlying108 (.slice x.o x.l.length x.c) rfl (txL x).toArray rfl rfl ?_) | (at_builtin; refine app_G infoGx rfl (.tmp 20) (.tmp 22) 108 rfl Tryz.underlying108 (w.heap.size + 2) (.slice ov zs.length cv) zs [x] rfl HSZ.out HMA.out.own (some ⟨w2.heap.size, 0, none⟩) 1 rfl (fun h => by cases h) (one_src HRN.out) (fun z hz => by simp at hz; subst hz; have := HLX.out; rwa [List.size_toArray] at this) (fun z _ => tx_one z) (by have := HZS.out; have := HNM.out; simp; omega) ?_))
     intro v' w4 ho4 hg4
     refine Lib.hid ?_
     obtain ⟨hres4, hm4⟩ := HMA.out.app HEL.out (by decide) HP.out HOB.out ho4 hg4 (fun z hz => by
      rcases List.mem_append.1 hz with hz | hz
      ·exact HMA.out.el z hz
      ·simp at hz
       subst hz
       exact HEA.out)
     have s0 : w4.cell? ⟨w.heap.size + 1, 0, none⟩ = some (.slice ov zs.length cv) := (cell_of_row _ _ 0 _ _ _ hres4).trans rfl
     have s1 : w4.frozen? ⟨w.heap.size + 1, 0, none⟩ = false := frozen_row hres4
     obtain ⟨ow, cw, hvw, _, _⟩ := ho4.form (fun z _ => rfl)
     subst hvw
     have HM4 := Lib.hid hm4
     clear ho4 hg4 hres4 hm4 d0 d1 e1
     obtain ⟨ml, hml⟩ : ∃ ml, (zs ++ [x]).length = ml := ⟨_, rfl⟩
     rw [hml] at HM4 ⊢
     have HML := Lib.hid hml
     clear hml
     go_wp2_with fail
     go_roundg (n - (i + 1))
     case measure => omega
     case rel =>
      refine ⟨i + 1, jj, _, zs ++ [x], rfl, by omega, by go_num, HJL.out, by simp [HZS.out], ?_, HM4.out⟩
      rw [HR2.out]
      (try dsimp only)
      rw [← HKX.out]
      cases pList pText (n - (i + 1)) l jj with
      | none => rfl
      | some q => simp
   ·have t1 : ¬ (i : Int) < (n : Int) := by omega
    have HRX : Hid (r = some (zs.map TxR.l, a)) := Lib.hid (by
     have := HRR.out
     rw [show n - i = 0 by omega] at this
     rw [this]
     simp [pList])
    obtain ⟨ov, cv, hvv, _, _⟩ := HMS.out.own.form (fun z _ => rfl)
    subst hvv
    have hfin := (HMS.out.app HEL.out (by decide) HP.out HOB.out HMS.out.own (World.grownBy.refl _ _) HMS.out.el).2
    have HFIN := Lib.hid hfin
    have HPOST : Hid (PMG TxR.l 31 1 txL TxEl o c l p r w (.returned (.slice ov zs.length cv)) (wr.setCell ⟨w.heap.size + 1, 0, none⟩ (.slice ov zs.length cv))) := Lib.hid ⟨hfin.grow, (fun h => by rw [HRX.out] at h; cases h), fun ks' a' h => by rw [HRX.out] at h; cases h; exact ⟨⟨_, zs, rfl, hfin.own.base (by omega), hfin.el, rfl⟩, haa, hfin.rd⟩⟩
    clear HRR HMS hfin HRX
    go_wp2_with fail
    refine leaves_cons (f := 94) (args := #[.pointer (some ⟨w.heap.size, 0, none⟩), .pointer (some ⟨w.heap.size + 1, 0, none⟩)]) (by simp) (by simp [go_sem]) ?_
    refine (many_idle_x ⟨w.heap.size, 0, none⟩ ⟨w.heap.size + 1, 0, none⟩ _).mono ?_
    rintro e u' w'' ⟨rfl, rfl, rfl⟩
    obtain ⟨_, dr, _⟩ := HFIN.out.facts
    simp only [Leaves, settle]
    refine ⟨_, (by simp [results, Tryz.results55, go_sem, dr]; rfl), ?_⟩
    exact HPOST.out
end Go.Proofs.YtbbhmhihpdmoiaaGreat.Fx

set_option linter.unusedVariables false
set_option linter.unusedSimpArgs false
namespace Go.Proofs.YtbbhmhihpdmoiaaGreat.Cx
open Go Go.RowKit
def num : List Nat → Nat
 | [] => 0
 | c :: l => c + 256 * num l
theorem add_xor (a b i : Nat) (hb : b < 2 ^ i) : b + 2 ^ i * a = b ^^^ 2 ^ i * a := by
 apply Nat.eq_of_testBit_eq
 intro j
 rw [Nat.add_comm, Nat.testBit_two_pow_mul_add a hb, Nat.testBit_xor, Nat.testBit_two_pow_mul]
 by_cases h : j < i
 ·have : ¬ i ≤ j := by omega
  simp [h, this]
 ·have h2 : b.testBit j = false := Nat.testBit_lt_two_pow (Nat.lt_of_lt_of_le hb (Nat.pow_le_pow_right (by omega) (by omega)))
  have : i ≤ j := by omega
  simp [h, h2, this]
theorem mul_xor (i a b : Nat) : 2 ^ i * (a ^^^ b) = 2 ^ i * a ^^^ 2 ^ i * b := by
 apply Nat.eq_of_testBit_eq
 intro j
 rw [Nat.testBit_xor, Nat.testBit_two_pow_mul, Nat.testBit_two_pow_mul, Nat.testBit_two_pow_mul, Nat.testBit_xor]
 by_cases h : i ≤ j <;> simp [h]
theorem it_shift (k m : Nat) : it k (2 ^ k * m) = m := by
 induction k with
 | zero => simp [it]
 | succ k ih =>
  simp only [it]
  rw [show 2 ^ (k + 1) * m = 2 * (2 ^ k * m) by rw [Nat.pow_succ, Nat.mul_comm (2 ^ k) 2, Nat.mul_assoc], sh_double, ih]
theorem By.tail {c : Nat} {l : List Nat} (h : By (c :: l)) : By l := fun d hd => h d (List.mem_cons_of_mem _ hd)
theorem By.head {c : Nat} {l : List Nat} (h : By (c :: l)) : c < 256 := h c (List.mem_cons_self ..)
theorem num_cons {c : Nat} {l : List Nat} (h : c < 256) : num (c :: l) = c ^^^ 2 ^ 8 * num l := add_xor (num l) c 8 h
theorem reg_num {l : List Nat} (h : By l) (x : Nat) : reg l x = it (8 * l.length) (x ^^^ num l) := by
 induction l generalizing x with
 | nil => simp [reg, num, it]
 | cons c l ih =>
  rw [reg_cons, ih h.tail, num_cons h.head, List.length_cons, show 8 * (l.length + 1) = 8 + 8 * l.length by omega, it_add, ← Nat.xor_assoc, it_xor 8 (x ^^^ c) (2 ^ 8 * num l), it_shift]
theorem num_lt {l : List Nat} (h : By l) : num l < 2 ^ (8 * l.length) := by
 induction l with
 | nil => simp [num]
 | cons c l ih =>
  have a := ih h.tail
  have b := h.head
  rw [num, List.length_cons, show 8 * (l.length + 1) = 8 + 8 * l.length by omega, Nat.pow_add]
  generalize 2 ^ (8 * l.length) = P at *
  omega
theorem num_set {l : List Nat} (h : By l) (j b : Nat) (hj : j < l.length) (hb : b < 256) : num (l.set j (l.getD j 0 ^^^ b)) = num l ^^^ 2 ^ (8 * j) * b := by
 induction l generalizing j with
 | nil => simp at hj
 | cons c l ih =>
  have hc := h.head
  cases j with
  | zero =>
   have hx : c ^^^ b < 256 := Nat.xor_lt_two_pow (n := 8) hc hb
   show num ((c ^^^ b) :: l) = _
   rw [num_cons hx, num_cons hc, Nat.mul_zero, Nat.pow_zero, Nat.one_mul, Nat.xor_assoc, Nat.xor_comm b, ← Nat.xor_assoc]
  | succ j =>
   show num (c :: l.set j (l.getD j 0 ^^^ b)) = _
   rw [num_cons hc, num_cons hc, ih h.tail j (by simpa using hj), mul_xor, Nat.xor_assoc, ← Nat.mul_assoc, ← Nat.pow_add, show 8 + 8 * j = 8 * (j + 1) by omega]
theorem num_inj : ∀ {l m : List Nat}, By l → By m → l.length = m.length → num l = num m → l = m
 | [], [], _, _, _, _ => rfl
 | c :: l, d :: m, h1, h2, hl, hn => by
  have a := h1.head
  have b := h2.head
  simp only [num] at hn
  have e1 : c = d := by omega
  have e2 : num l = num m := by omega
  rw [e1, num_inj h1.tail h2.tail (by simpa using hl) e2]
 | [], _ :: _, _, _, h, _ => by simp at h
 | _ :: _, [], _, _, h, _ => by simp at h
theorem it_inj {k a b : Nat} (ha : a < 4294967296) (hb : b < 4294967296) (h : it k a = it k b) : a = b := by
 apply xor_eq_zero
 apply it_eq_zero k (xor_lt ha hb)
 rw [it_xor, h, Nat.xor_self]
theorem ones_lt : ones < 4294967296 := by rw [ones_eq]; omega
theorem more_ones (l : List Nat) : more 0 l = reg l ones ^^^ ones := by
 unfold more
 rw [show nt 0 = ones by decide]
 rfl
theorem num4 (c0 c1 c2 c3 : Nat) : num [c0, c1, c2, c3] = c0 + 256 * c1 + 65536 * c2 + 16777216 * c3 := by
 simp only [num]
 omega
theorem sealed_reg {t : List Nat} {c0 c1 c2 c3 : Nat} (h : By (t ++ [c0, c1, c2, c3])) : [c0, c1, c2, c3] = le4 (more 0 t) ↔ reg (t ++ [c0, c1, c2, c3]) ones = it 32 ones := by
 have ht : By t := fun c hc => h c (List.mem_append_left _ hc)
 have h4 : By [c0, c1, c2, c3] := fun c hc => h c (List.mem_append_right _ hc)
 have k0 := h4 c0 (by simp)
 have k1 := h4 c1 (by simp)
 have k2 := h4 c2 (by simp)
 have k3 := h4 c3 (by simp)
 have hr := reg_lt ht ones_lt
 rw [← le4_val k0 k1 k2 k3 (more_lt ht (by omega)), ← num4, reg_append, reg_num h4, more_ones]
 have hn : num [c0, c1, c2, c3] < 4294967296 := by have := num_lt h4; simpa using this
 generalize num [c0, c1, c2, c3] = z at *
 generalize reg t ones = r at *
 constructor
 ·intro e
  rw [e, xor_twice]
  rfl
 ·intro e
  have := it_inj (xor_lt hr hn) ones_lt e
  rw [← this, xor_twice]
def cut (mask frm i T : Nat) : Nat := mask % 2 ^ (min i (T - frm))
theorem cut_lt {mask : Nat} (frm i T : Nat) (h : mask < 4294967296) : cut mask frm i T < 4294967296 := Nat.lt_of_le_of_lt (Nat.mod_le _ _) h
theorem cut_past {mask frm i T : Nat} (h : T ≤ frm + i) : cut mask frm (i + 1) T = cut mask frm i T := by
 unfold cut
 rw [show min (i + 1) (T - frm) = min i (T - frm) by omega]
theorem cut_in {mask frm i T : Nat} (h : frm + i < T) : cut mask frm (i + 1) T = cut mask frm i T + (if mask / 2 ^ i % 2 = 1 then 2 ^ i else 0) := by
 unfold cut
 rw [show min (i + 1) (T - frm) = i + 1 by omega, show min i (T - frm) = i by omega, mod_bit_add]
theorem cut_off {mask frm i T : Nat} (h : ¬ mask / 2 ^ i % 2 = 1) : cut mask frm (i + 1) T = cut mask frm i T := by
 by_cases hT : frm + i < T
 ·rw [cut_in hT, if_neg h, Nat.add_zero]
 ·exact cut_past (by omega)
theorem cut_bit {mask frm i T : Nat} (h : frm + i < T) (hb : mask / 2 ^ i % 2 = 1) : cut mask frm (i + 1) T ≠ 0 ∧ 2 ^ frm * cut mask frm i T ^^^ 2 ^ (frm + i) = 2 ^ frm * cut mask frm (i + 1) T := by
 rw [cut_in h, if_pos hb]
 have hp : 0 < 2 ^ i := Nat.pow_pos (by omega)
 refine ⟨by omega, ?_⟩
 have hlt : cut mask frm i T < 2 ^ i := by
  unfold cut
  rw [show min i (T - frm) = i by omega]
  exact Nat.mod_lt _ hp
 have := add_xor 1 (cut mask frm i T) i hlt
 rw [Nat.mul_one] at this
 rw [this, mul_xor, Nat.pow_add]
theorem burst_open {b s' : List Nat} {m frm : Nat} (hb : By b) (hs : By s') (hl : s'.length = b.length + 4) (hf : frm ≤ 8 * (b.length + 4)) (hm : m < 4294967296)
  (hn : num s' = num (b ++ le4 (more 0 b)) ^^^ 2 ^ frm * m) : opened s' = if m = 0 then some b else none := by
 have hbs : By (b ++ le4 (more 0 b)) := hb.append (le4_by _)
 have hle : (b ++ le4 (more 0 b)).length = b.length + 4 := by rw [List.length_append]; rfl
 have r1 : reg (b ++ le4 (more 0 b)) ones = it 32 ones := (sealed_reg (t := b) hbs).1 rfl
 have r2 : reg s' ones = it 32 ones ^^^ it (8 * (b.length + 4) - frm) m := by
  rw [reg_num hs, hl, hn, ← Nat.xor_assoc, it_xor, ← hle, ← reg_num hbs, r1, hle]
  congr 1
  rw [show 8 * (b.length + 4) = frm + (8 * (b.length + 4) - frm) by omega, it_add, it_shift]
  congr 1
  omega
 have hf4 := four_of hl
 rw [opened_long hf4]
 have hs4 := hs
 rw [hf4] at hs4
 have key := sealed_reg hs4
 rw [← hf4, r2] at key
 by_cases h0 : m = 0
 ·rw [if_pos h0]
  subst h0
  rw [it_zero, Nat.xor_zero] at key
  rw [Nat.mul_zero, Nat.xor_zero] at hn
  have he := num_inj hs hbs (hl.trans hle.symm) hn
  rw [if_pos (by rw [key.2 rfl]; exact beq_self_eq_true _), he, List.take_left]
 ·rw [if_neg h0, if_neg]
  intro h
  have e := key.1 (by simpa using h)
  apply h0
  apply it_eq_zero (8 * (b.length + 4) - frm) hm
  have : it 32 ones ^^^ (it 32 ones ^^^ it (8 * (b.length + 4) - frm) m) = it 32 ones ^^^ it 32 ones := by rw [e]
  rwa [xor_twice, Nat.xor_self] at this
end Go.Proofs.YtbbhmhihpdmoiaaGreat.Cx

set_option linter.unusedVariables false
set_option linter.unusedSimpArgs false
namespace Go.Proofs.YtbbhmhihpdmoiaaGreat.Fx
open Go Go.RowKit Go.Lib
open Go.Proofs.YtbbhmhihpdmoiaaGreat.Pk (Bs By cutA)
structure TB (W0 : World) (B n gs cs mask frm Q i : Nat) (wx : World) : Prop where
 rows : ∃ ls, ls.length = n ∧ By ls ∧ Cx.Own wx B (.slice (some ⟨gs, 0, none⟩) n cs) ls ∧ Cx.num ls = Q ^^^ 2 ^ frm * Cx.cut mask frm i (8 * n)
 grown : W0.grownBy wx (some gs)
theorem TB.past {W0 wx : World} {B n gs cs mask frm Q i : Nat} (h : TB W0 B n gs cs mask frm Q i wx) (hT : 8 * n ≤ frm + i) : ∀ k, TB W0 B n gs cs mask frm Q (i + k) wx
 | 0 => h
 | k + 1 => by
  obtain ⟨a, d⟩ := h.past hT k
  refine ⟨?_, d⟩
  rw [← Nat.add_assoc, Cx.cut_past (by omega)]
  exact a
theorem TB.off {W0 wx : World} {B n gs cs mask frm Q i : Nat} (h : TB W0 B n gs cs mask frm Q i wx) (hb : ¬ mask / 2 ^ i % 2 = 1) : TB W0 B n gs cs mask frm Q (i + 1) wx := by
 obtain ⟨a, d⟩ := h
 refine ⟨?_, d⟩
 rw [Cx.cut_off hb]
 exact a
theorem TB.on {W0 wx : World} {B n gs cs mask frm Q i j r : Nat} (h : TB W0 B n gs cs mask frm Q i wx) (hT : frm + i < 8 * n) (hb : mask / 2 ^ i % 2 = 1) (hj : 8 * j + r = frm + i) (hr : r < 8) :
  ∃ c, c < 256 ∧ wx.cell? ⟨gs, j, none⟩ = some (.int .u8 ((c : Nat) : Int)) ∧ wx.frozen? ⟨gs, j, none⟩ = false ∧
   TB W0 B n gs cs mask frm Q (i + 1) (wx.setCell ⟨gs, j, none⟩ (.int .u8 ((c ^^^ 2 ^ r : Nat) : Int))) := by
 obtain ⟨⟨ls, hl, hby, hown, hnum⟩, hg⟩ := h
 obtain ⟨_, _, e, hbs, _, _, _, hfr⟩ := hown.open
 rw [hl] at e
 cases e
 have hjl : j < ls.length := by omega
 have hc := Cx.bs_at hbs hjl
 rw [Nat.zero_add] at hc
 obtain ⟨g2, e2, _, _, hf⟩ := hfr _ rfl
 cases e2
 have h2r : 2 ^ r < 256 := by
  have : 2 ^ r < 2 ^ 8 := Nat.pow_lt_pow_right (by omega) hr
  simpa using this
 have hown' := hown
 rw [← hl] at hown'
 have hbm := Cx.bump (k := j) hown' (ls.getD j 0 ^^^ 2 ^ r)
 rw [hl] at hbm
 have hcb := Cx.cut_bit (mask := mask) (frm := frm) (i := i) hT hb
 refine ⟨ls.getD j 0, Cx.By.get hby j, hc, hf j, ⟨ls.set j (ls.getD j 0 ^^^ 2 ^ r), by simpa using hl, ?_, hbm.1, ?_⟩, Cx.grown_trans hg hbm.2⟩
 ·intro c hc2
  rcases List.mem_or_eq_of_mem_set hc2 with h | rfl
  ·exact hby c h
  ·exact Nat.xor_lt_two_pow (n := 8) (Cx.By.get hby j) h2r
 ·rw [Cx.num_set hby j (2 ^ r) hjl h2r, hnum, ← Nat.pow_add, hj, Nat.xor_assoc, hcb.2]
theorem TB.last {W0 wx : World} {B n gs cs mask frm i : Nat} {m : List Nat} (hm : By m) (hn : m.length + 4 = n) (hk : mask < 4294967296) (hf : frm ≤ 8 * n) (h : TB W0 B n gs cs mask frm (Cx.num (sealL m)) i wx) (hi : i = 32 ∨ 8 * n ≤ frm + i ∧ i ≤ 32) :
  ∃ ls, ls.length = n ∧ By ls ∧ Cx.Own wx B (.slice (some ⟨gs, 0, none⟩) n cs) ls ∧ W0.grownBy wx (some gs) ∧ (ls = sealL m ∨ ls ≠ sealL m ∧ Cx.opened ls = none) := by
 have h32 : TB W0 B n gs cs mask frm (Cx.num (sealL m)) 32 wx := by
  rcases hi with rfl | ⟨h1, h2⟩
  ·exact h
  ·have := h.past h1 (32 - i)
   rwa [show i + (32 - i) = 32 by omega] at this
 obtain ⟨⟨ls, hl, hby, hown, hnum⟩, hg⟩ := h32
 refine ⟨ls, hl, hby, hown, hg, ?_⟩
 have hb := Cx.burst_open (b := m) (s' := ls) (frm := frm) hm hby (by omega) (by omega) (Cx.cut_lt frm 32 (8 * n) hk) hnum
 by_cases h0 : Cx.cut mask frm 32 (8 * n) = 0
 ·rw [if_pos h0] at hb
  exact Or.inl (seal_opened hb).symm
 ·rw [if_neg h0] at hb
  exact Or.inr ⟨fun e => (by rw [e, opened_seal] at hb; cases hb), hb⟩
theorem begE_ne {mk l : List Nat} (h : behind mk l = none) : begE mk l ≠ 0 := by
 unfold behind at h
 unfold begE
 cases ho : Cx.opened l with
 | none => simp
 | some m =>
  rw [ho] at h
  dsimp only at h ⊢
  split at h
  ·cases h
  ·rename_i hh
   rw [if_neg hh]
   decide
end Go.Proofs.YtbbhmhihpdmoiaaGreat.Fx
