import Derived.Laws.Rows
import Derived.Test.YtbbhmhihpdmoiaaGreatProg
import Derived.Lib.SlBytesRow
import Derived.Test.YtbbhmhihpdmoiaaGreatMw02
import Derived.Test.YtbbhmhihpdmoiaaGreatMw03
set_option linter.unusedVariables false
set_option linter.unusedSimpArgs false
namespace Go.Proofs.YtbbhmhihpdmoiaaGreat.Pk
open Go Go.RowKit
set_option maxRecDepth 100000 in
set_option maxHeartbeats 2000000 in
theorem psmall_any (B p : Nat) (n most : Int) (v : Value) (l : List Nat) (lost : Bool) (w : World) (hB : B ≤ w.heap.size) (h0 : -9223372036854775808 ≤ n) (h1 : n ≤ 9223372036854775807) (hlen : l.length ≤ 100000000) (hw : PW B p v l lost w) :
  Calls Tryz.prog 52 #[.pointer (some ⟨p, 0, none⟩), .int .i64 n, .int .i64 most] w (PCall B p v (putL l (form n.toNat) lost (mayB n most)) (putB lost (mayB n most)) w) := by
 obtain ⟨c0, c1, _, f1, _⟩ := hw.cells
 have HF := Lib.hid (writer_fault p true lost w c0 c1)
 obtain ⟨N, hN⟩ : ∃ N : Nat, IntKind.u64.wrap n = (N : Int) := ⟨(n % 18446744073709551616).toNat, by rw [IntKind.wrap_u64]; omega⟩
 have hN64 : N < 18446744073709551616 := by rw [IntKind.wrap_u64] at hN; omega
 have hNn : 0 ≤ n → N = n.toNat := fun h => by rw [IntKind.wrap_u64] at hN; omega
 cases lost with
 | true =>
  have HP := Lib.hid (puint_any B p N v l true w hB hN64 hlen hw)
  have e1 : putL l (form n.toNat) true (mayB n most) = l := by unfold putL; simp
  have e2 : putB true (mayB n most) = true := rfl
  have e3 : putL l (form N) true true = l := by unfold putL; simp
  have e4 : putB true true = true := rfl
  rw [e1, e2]
  rw [e3, e4] at HP
  clear hw hN64 hNn e1 e2 e3 e4
  go_enter Tryz.func52, Tryz.ntmps52
  go_wp2_with fail
  refine HF.out.mono ?_
  rintro e w0 ⟨rfl, rfl⟩
  simp only [fl, if_true]
  go_wp2_with fail
  refine HP.out.mono ?_
  rintro e w2 ⟨rfl, hz⟩
  have HE := Lib.hid hz
  clear hz HP
  go_wp2_with fail
  exact bodyPost_ret (results_none rfl _ _ _) rfl ⟨rfl, HE.out⟩
 | false =>
  have HG := Lib.hid hw
  by_cases g : 0 ≤ n ∧ n ≤ most
  ·have hm : mayB n most = true := decide_eq_true g
   have HP := Lib.hid (puint_any B p N v l false w hB hN64 hlen hw)
   rw [hm, ← hNn g.1]
   obtain ⟨g0, g1⟩ := g
   have d0 : ¬ n < 0 := by omega
   have d1 : ¬ most < n := by omega
   clear hw hN64 hNn hm HG
   go_enter Tryz.func52, Tryz.ntmps52
   go_wp2_with fail
   refine HF.out.mono ?_
   rintro e w0 ⟨rfl, rfl⟩
   simp only [fl, if_true, Bool.false_eq_true, if_false]
   go_wp2_with fail
   refine HP.out.mono ?_
   rintro e w2 ⟨rfl, hz⟩
   have HE := Lib.hid hz
   clear hz HP
   go_wp2_with fail
   exact bodyPost_ret (results_none rfl _ _ _) rfl ⟨rfl, HE.out⟩
  ·have hm : mayB n most = false := decide_eq_false g
   have hs := hw.spoil
   have HP := Lib.hid (puint_any B p N v l true _ (by simpa using hB) hN64 hlen hs)
   have e3 : putL l (form N) true true = l := by unfold putL; simp
   have e4 : putB true true = true := rfl
   have e5 : putL l (form n.toNat) false false = l := by unfold putL; simp
   have e6 : putB false false = true := rfl
   rw [hm, e5, e6]
   rw [e3, e4] at HP
   have HT := Lib.hid (Turn.set p 1 v (.bool true) w)
   clear hw hN64 hNn hm hs e3 e4 e5 e6
   by_cases g0 : n < 0
   ·clear g
    go_enter Tryz.func52, Tryz.ntmps52
    go_wp2_with fail
    refine HF.out.mono ?_
    rintro e w0 ⟨rfl, rfl⟩
    simp only [fl, if_true, Bool.false_eq_true, if_false]
    go_wp2_with fail
    refine HP.out.mono ?_
    rintro e w2 ⟨rfl, v2, h2, t2⟩
    have HE : Hid (∃ v', PW B p v' l true w2 ∧ Turn p v v' w w2) := Lib.hid ⟨v2, h2, HT.out.trans t2⟩
    clear h2 t2 HP HT
    go_wp2_with fail
    exact bodyPost_ret (results_none rfl _ _ _) rfl ⟨rfl, HE.out⟩
   ·have d1 : most < n := by omega
    clear g
    go_enter Tryz.func52, Tryz.ntmps52
    go_wp2_with fail
    refine HF.out.mono ?_
    rintro e w0 ⟨rfl, rfl⟩
    simp only [fl, if_true, Bool.false_eq_true, if_false]
    go_wp2_with fail
    refine HP.out.mono ?_
    rintro e w2 ⟨rfl, v2, h2, t2⟩
    have HE : Hid (∃ v', PW B p v' l true w2 ∧ Turn p v v' w w2) := Lib.hid ⟨v2, h2, HT.out.trans t2⟩
    clear h2 t2 HP HT
    go_wp2_with fail
    exact bodyPost_ret (results_none rfl _ _ _) rfl ⟨rfl, HE.out⟩
theorem own_empty (w : World) : Own (w.alloc (.cells #[] 5)) w.heap.size (.slice (some ⟨w.heap.size, 0, none⟩) 0 0) [] :=
 ⟨rfl, .inr ⟨w.heap.size, 0, #[], rfl, Nat.le_refl _, heap_alloc_new _ _, Nat.le_refl _, by unfold maxLen; omega, rfl, rfl⟩⟩
set_option maxRecDepth 100000 in
set_option maxHeartbeats 2000000 in
theorem clone_any (o : Option Addr) (c : Nat) (m : List Nat) (w : World) (hc : o = none → c = 0) (hlen : m.length ≤ 1000000000) (hb : Bs w o m) :
  Calls Tryz.prog 96 #[.slice o m.length c] w fun e w' => (∃ v, e = .returned v ∧ Own w' w.heap.size v m) ∧ Below w.heap.size w w' := by
 cases o with
 | none =>
  obtain rfl := nil_of hb
  obtain rfl := hc rfl
  clear hb hc
  have ee : ∀ w, (binOp .eql 31 (.slice none 0 0) (.slice none 0 0)).run Tryz.prog w = .ok (.bool true) w := fun w => run_eql_nil w 31 5 none 0 0 Tryz.underlying31
  simp only [List.length_nil]
  go_enter Tryz.func96, Tryz.ntmps96
  go_wp2_with fail
  go_ret
  exact ⟨⟨_, rfl, World.ownsRow_nil _ _ _ _⟩, Below.refl _ _⟩
 | some a =>
  have HB := Lib.hid hb
  have HL := Lib.hid hlen
  clear hb hc hlen
  have ee : ∀ w, (binOp .eql 31 (.slice (some a) m.length c) (.slice none 0 0)).run Tryz.prog w = .ok (.bool false) w := fun w => run_eql_nil w 31 5 (some a) m.length c Tryz.underlying31
  go_enter Tryz.func96, Tryz.ntmps96
  have HO := Lib.hid (own_empty w)
  have HB2 := Lib.hid (HB.out.below ((Below.refl _ w).alloc (Nat.le_refl _) (.cells #[] 5)))
  have HN := Lib.hid ((Below.refl w.heap.size w).alloc (Nat.le_refl _) (.cells #[] 5))
  go_wp2_with (at_builtin; refine app_at rfl (.tmp 5) (.tmp 6) rfl w.heap.size _ [] rfl HO.out (some a) m c rfl (fun h => by cases h) HB2.out (by have := HL.out; simp; omega) (by simp) ?_; intro v1 w1 ho1 hg1 _)
  have HE : Hid (Own w1 w.heap.size v1 m ∧ Below w.heap.size w w1) := Lib.hid ⟨ho1, HN.out.grown hg1 (by simp) (fun k hk => by cases hk; exact Nat.le_refl _)⟩
  clear ho1 hg1 HO HB HB2 HN HL
  go_ret
  exact ⟨⟨v1, rfl, HE.out.1⟩, HE.out.2⟩
def BytesPost (p : Nat) (l : List Nat) (lost : Bool) (w : World) (e : Ending) (w' : World) : Prop :=
 (∃ v, e = .returned (.tuple #[v, .int .i64 (fl true lost)]) ∧ Own w' w.heap.size v (if lost then [] else l)) ∧ Below w.heap.size w w'
set_option maxRecDepth 100000 in
set_option maxHeartbeats 2000000 in
theorem pbytes_any (B p : Nat) (v : Value) (l : List Nat) (lost : Bool) (w : World) (hlen : l.length ≤ 100000000) (hw : PW B p v l lost w) :
  Calls Tryz.prog 64 #[.pointer (some ⟨p, 0, none⟩)] w (BytesPost p l lost w) := by
 obtain ⟨c0, c1, c2, _, _⟩ := hw.cells
 have HF := Lib.hid (writer_fault p true lost w c0 c1)
 cases lost with
 | true =>
  clear hw
  go_enter Tryz.func64, Tryz.ntmps64
  go_wp2_with fail
  refine HF.out.mono ?_
  rintro e w0 ⟨rfl, rfl⟩
  simp only [fl, if_true]
  go_wp2_with fail
  exact bodyPost_ret (results_tmp2 rfl _ _ _) rfl ⟨⟨_, rfl, World.ownsRow_nil _ _ _ _⟩, Below.refl _ _⟩
 | false =>
  obtain ⟨o, cap, rfl, hbs, _, _, hn0, _⟩ := hw.own.open
  have HC := Lib.hid (clone_any o cap l w hn0 (by omega) hbs)
  clear hw hbs hn0
  go_enter Tryz.func64, Tryz.ntmps64
  go_wp2_with fail
  refine HF.out.mono ?_
  rintro e w0 ⟨rfl, rfl⟩
  simp only [fl, if_true, Bool.false_eq_true, if_false]
  go_wp2_with fail
  refine HC.out.mono ?_
  rintro e w1 ⟨⟨v1, rfl, ho⟩, hb⟩
  have HE : Hid (Own w1 w.heap.size v1 l ∧ Below w.heap.size w w1) := Lib.hid ⟨ho, hb⟩
  clear ho hb HC
  go_wp2_with fail
  exact bodyPost_ret (results_tmp2 rfl _ _ _) rfl ⟨⟨v1, rfl, HE.out.1⟩, HE.out.2⟩
theorem Bs.turn {W X : World} {o : Option Addr} {m : List Nat} {p : Nat} {v v' : Value} (hb : Bs W o m) (t : Turn p v v' W X) (h : ∀ b off, o = some ⟨b, off, none⟩ → 0 < m.length → b ≠ p ∧ v.ownBlock ≠ some b) : Bs X o m := fun i hi => by
 obtain ⟨b, off, e, hc⟩ := hb i hi
 refine ⟨b, off, e, ?_⟩
 obtain ⟨h1, h2⟩ := h b off e (by omega)
 rw [World.cell?_of_block (t.block b (block_lt_of_cell hc) h1 h2)]
 exact hc
theorem mayB_len (m : List Nat) (most : Int) : ((m.length : Int)).toNat = m.length := by omega
set_option maxRecDepth 100000 in
set_option maxHeartbeats 2000000 in
theorem ptext_any (B p : Nat) (o : Option Addr) (c : Nat) (m : List Nat) (most : Int) (v : Value) (l : List Nat) (lost : Bool) (w : World) (hB : B ≤ w.heap.size) (hlen : l.length ≤ 90000000) (hm : m.length ≤ 1000000) (hc : o = none → c = 0) (hb : Bs w o m)
  (hap : ∀ b off, o = some ⟨b, off, none⟩ → 0 < m.length → b ≠ p ∧ v.ownBlock ≠ some b ∧ b < w.heap.size) (hw : PW B p v l lost w) :
  Calls Tryz.prog 53 #[.pointer (some ⟨p, 0, none⟩), .slice o m.length c, .int .i64 most] w (PCall B p v (putL l (form m.length ++ m) lost (mayB (m.length : Int) most)) (putB lost (mayB (m.length : Int) most)) w) := by
 have hs := psmall_any B p (m.length : Int) most v l lost w hB (by omega) (by omega) (by omega) hw
 rw [mayB_len m most] at hs
 have HS := Lib.hid hs
 obtain ⟨may, hmay⟩ : ∃ b, mayB (m.length : Int) most = b := ⟨_, rfl⟩
 rw [hmay] at HS ⊢
 have HFL := Lib.hid (form_len m.length).2
 clear hs hw hmay
 have HBB := Lib.hid hb
 have HAP := Lib.hid hap
 have HC := Lib.hid hc
 have HM := Lib.hid hm
 have HLEN := Lib.hid hlen
 clear hb hap hc hm hlen
 by_cases g : lost = true ∨ may = false
 ·have hx : putB lost may = true := by unfold putB; rcases g with rfl | rfl <;> simp
  have hx2 : ∀ q, putL l q lost may = l := fun q => by unfold putL; rcases g with rfl | rfl <;> simp
  rw [hx, hx2] at HS ⊢
  clear hx hx2 g
  go_enter Tryz.func53, Tryz.ntmps53
  go_wp2_with fail
  refine HS.out.mono ?_
  rintro e w1 ⟨rfl, v1, h1, t1⟩
  obtain ⟨c0, c1, c2, _, f2⟩ := h1.cells
  have HF := Lib.hid (writer_fault p true _ w1 c0 c1)
  have T1 := Lib.hid t1
  have HE := Lib.hid h1
  clear h1 t1 HS
  go_wp2_with fail
  refine HF.out.mono ?_
  rintro e w0 ⟨rfl, rfl⟩
  simp only [fl, if_true]
  go_wp2_with fail
  go_end0
  exact ⟨rfl, v1, HE.out, T1.out⟩
 ·obtain rfl : lost = false := by cases lost <;> simp_all
  obtain rfl : may = true := by cases may <;> simp_all
  have hx : putB false true = false := rfl
  have hx2 : ∀ q, putL l q false true = l ++ q := fun q => rfl
  rw [hx, hx2] at HS ⊢
  clear hx hx2 g
  have HL2 : Hid ((l ++ form m.length).length ≤ 90000011) := Lib.hid (by have := HLEN.out; have := HFL.out; simp; omega)
  obtain ⟨q, hq⟩ : ∃ q, l ++ form m.length = q := ⟨_, rfl⟩
  have HQ : Hid (l ++ (form m.length ++ m) = q ++ m) := Lib.hid (by rw [← hq, List.append_assoc])
  rw [HQ.out]
  rw [hq] at HS HL2
  clear hq HQ
  obtain ⟨r, hr⟩ : ∃ r, q ++ m = r := ⟨_, rfl⟩
  have HR := Lib.hid hr
  rw [hr]
  clear hr
  go_enter Tryz.func53, Tryz.ntmps53
  go_wp2_with fail
  refine HS.out.mono ?_
  rintro e w1 ⟨rfl, v1, h1, t1⟩
  obtain ⟨c0, c1, c2, _, f2⟩ := h1.cells
  have HF := Lib.hid (writer_fault p true _ w1 c0 c1)
  have T1 := Lib.hid t1
  have HB1 := Lib.hid (HBB.out.turn t1 (fun b off e h => ⟨(HAP.out b off e h).1, (HAP.out b off e h).2.1⟩))
  have HBS : Hid (B ≤ w1.heap.size) := Lib.hid (Nat.le_trans hB t1.size)
  have HE := Lib.hid h1
  clear h1 t1 HS
  obtain ⟨o1, cap1, rfl, _, _, _, _, _⟩ := HE.out.own.open
  go_wp2_with fail
  refine HF.out.mono ?_
  rintro e w0 ⟨rfl, rfl⟩
  simp only [fl, if_true, Bool.false_eq_true, if_false]
  go_wp2_with (at_builtin; refine app_at rfl (.tmp 19) (.tmp 20) rfl B (.slice o1 q.length cap1) q rfl HE.out.own o m c rfl HC.out HB1.out (by have := HL2.out; have := HM.out; omega) HBS.out ?_; intro v2 w2 ho2 hg2 hn2; rw [HR.out] at ho2; obtain ⟨o2, cap2, rfl, _, _, _, _, _⟩ := ho2.open; have R2 : w2.heap[p]? = some (.cells #[.bool true, .bool false, .slice o1 q.length cap1] 120 (0, 0)) := (hg2.block p HE.out.lt (fun e => HE.out.own.apart HE.out.row (by decide) p e.symm rfl)).trans HE.out.row; have d2 : w2.cell? ⟨p, 2, none⟩ = some (.slice o1 q.length cap1) := (cell_of_row _ _ _ _ _ _ R2).trans rfl; have e2 : w2.frozen? ⟨p, 2, none⟩ = false := frozen_row R2; have T2 := Lib.hid (Turn.of_grown (p := p) hg2 hn2); have HO2 := Lib.hid ho2; have HR2 := Lib.hid R2; clear ho2 hg2 hn2 R2)
  have R3 := heap_setCell_same _ _ 2 _ _ (.slice o2 r.length cap2) HR2.out
  have O3 : Own (w2.setCell ⟨p, 2, none⟩ (.slice o2 r.length cap2)) B (.slice o2 r.length cap2) r := HO2.out.grown (grown_cell _ _ _ _) (fun k hk e => HO2.out.apart HR2.out (by decide) k hk (Option.some.inj e))
  go_end0
  exact ⟨rfl, _, ⟨R3, O3⟩, (T1.out.trans T2.out).trans (Turn.set p 2 _ _ w2)⟩
end Go.Proofs.YtbbhmhihpdmoiaaGreat.Pk

set_option linter.unusedVariables false
set_option linter.unusedSimpArgs false
namespace Go.Proofs.YtbbhmhihpdmoiaaGreat.Pk
open Go Go.RowKit
end Go.Proofs.YtbbhmhihpdmoiaaGreat.Pk

set_option linter.unusedVariables false
set_option linter.unusedSimpArgs false
namespace Go.Proofs.YtbbhmhihpdmoiaaGreat.Pk
open Go.Proofs.YtbbhmhihpdmoiaaGreat.Fx (below_mono give_done give_pure give_region)
open Go Go.RowKit
def rdG (most : Nat) : Nat → Nat → List Nat → Option (Nat × Nat)
 | _, _, [] => none
 | k, n, c :: s => if k = 9 ∧ 1 < c then none else if 128 ≤ c then rdG most (k + 1) (n + c % 128 * 128 ^ k) s else if (0 < k ∧ c = 0) ∨ most < n + c % 128 * 128 ^ k then none else some (n + c % 128 * 128 ^ k, k + 1)
def rd (most : Nat) (s : List Nat) : Option (Nat × Nat) := rdG most 0 0 s
def upV (r : Option (Nat × Nat)) : Nat := match r with | some (n, _) => n | none => 0
def upA (r : Option (Nat × Nat)) (at0 : Nat) : Nat := match r with | some (_, j) => at0 + j | none => at0
def upB (r : Option (Nat × Nat)) : Bool := r.isNone
structure ZR (o : Option Addr) (c : Nat) (l : List Nat) (p at0 : Nat) (lost : Bool) (W : World) : Prop where
 row : W.heap[p]? = some (.cells #[.slice o l.length c, .int .i64 (at0 : Int), .bool lost] 106 (0, 0))
 bs : Bs W o l
theorem ZR.below {o : Option Addr} {c : Nat} {l : List Nat} {p at0 : Nat} {lost : Bool} {W X : World} (h : ZR o c l p at0 lost W) (hb : Below W.heap.size W X) : ZR o c l p at0 lost X := ⟨keep_row hb h.row, h.bs.below hb⟩
theorem ZR.facts {o : Option Addr} {c : Nat} {l : List Nat} {p at0 : Nat} {lost : Bool} {W : World} (h : ZR o c l p at0 lost W) :
  W.cell? ⟨p, 0, none⟩ = some (.slice o l.length c) ∧ W.cell? ⟨p, 1, none⟩ = some (.int .i64 (at0 : Int)) ∧ W.cell? ⟨p, 2, none⟩ = some (.bool lost) ∧ W.frozen? ⟨p, 1, none⟩ = false ∧ W.frozen? ⟨p, 2, none⟩ = false :=
 ⟨by rw [cell_of_row _ _ _ _ _ _ h.row]; rfl, by rw [cell_of_row _ _ _ _ _ _ h.row]; rfl, by rw [cell_of_row _ _ _ _ _ _ h.row]; rfl, frozen_row h.row, frozen_row h.row⟩
theorem ZR.lt {o : Option Addr} {c : Nat} {l : List Nat} {p at0 : Nat} {lost : Bool} {W : World} (h : ZR o c l p at0 lost W) : p < W.heap.size := (Array.getElem?_eq_some_iff.1 h.row).1
theorem ZR.apart {o : Option Addr} {c : Nat} {l : List Nat} {p at0 : Nat} {lost : Bool} {W : World} (h : ZR o c l p at0 lost W) : ∀ b off, o = some ⟨b, off, none⟩ → 0 < l.length → b ≠ p := by
 rintro b off e hm rfl
 obtain ⟨b', off', e', hc⟩ := h.bs 0 hm
 rw [e] at e'
 cases e'
 rw [cell_of_row _ _ _ _ _ _ h.row] at hc
 obtain h0 | h0 | h0 | h0 : off + 0 = 0 ∨ off + 0 = 1 ∨ off + 0 = 2 ∨ 3 ≤ off + 0 := by omega
 ·rw [h0] at hc
  simp at hc
 ·rw [h0] at hc
  simp at hc
 ·rw [h0] at hc
  simp at hc
 ·rw [Array.getElem?_eq_none (by simpa using h0)] at hc
  cases hc
theorem ZR.put1 {o : Option Addr} {c : Nat} {l : List Nat} {p at0 : Nat} {lost : Bool} {W : World} (h : ZR o c l p at0 lost W) (a : Nat) : ZR o c l p a lost (W.setCell ⟨p, 1, none⟩ (.int .i64 (a : Int))) :=
 ⟨heap_setCell_same _ _ 1 _ _ (.int .i64 (a : Int)) h.row, h.bs.set _ h.apart⟩
theorem ZR.put2 {o : Option Addr} {c : Nat} {l : List Nat} {p at0 : Nat} {lost : Bool} {W : World} (h : ZR o c l p at0 lost W) (b : Bool) : ZR o c l p at0 b (W.setCell ⟨p, 2, none⟩ (.bool b)) :=
 ⟨heap_setCell_same _ _ 2 _ _ (.bool b) h.row, h.bs.set _ h.apart⟩
theorem p9 : (128 : Nat) ^ 9 = 9223372036854775808 := by decide
end Go.Proofs.YtbbhmhihpdmoiaaGreat.Pk

set_option linter.unusedVariables false
set_option linter.unusedSimpArgs false
namespace Go.Proofs.YtbbhmhihpdmoiaaGreat.Pk
open Go Go.RowKit
theorem rdG_le {most : Nat} : ∀ {s : List Nat} {k n a j : Nat}, rdG most k n s = some (a, j) → a ≤ most ∧ k < j ∧ j ≤ k + s.length
 | [], _, _, _, _, h => by simp [rdG] at h
 | c :: s, k, n, a, j, h => by
  rw [rdG] at h
  split at h
  ·cases h
  ·split at h
   ·have := rdG_le h
    simp
    omega
   ·split at h
    ·cases h
    ·cases h
     simp
     omega
theorem rd_le {most : Nat} {s : List Nat} {a j : Nat} (h : rd most s = some (a, j)) : a ≤ most ∧ 0 < j ∧ j ≤ s.length := by
 have := rdG_le h
 omega
def rq (lost : Bool) (most : Nat) (s : List Nat) : Option (Nat × Nat) := if lost = true then none else rd most s
def rz (lost : Bool) (most : Int) (s : List Nat) : Option (Nat × Nat) := if lost = true ∨ most < 0 then none else rd most.toNat s
theorem rq_le {lost : Bool} {most : Nat} {s : List Nat} : upV (rq lost most s) ≤ most := by
 unfold rq
 split
 ·exact Nat.zero_le _
 ·cases h : rd most s with
  | none => exact Nat.zero_le _
  | some r => obtain ⟨a, j⟩ := r; exact (rd_le h).1
structure RdOk (l : List Nat) (at0 : Nat) : Prop where
 by' : By l
 len : l.length ≤ 1000000000
 at' : at0 ≤ l.length
def unf (n : Nat) : Int := if n % 2 = 0 then ((n / 2 : Nat) : Int) else -((n / 2 : Nat) : Int) - 1
end Go.Proofs.YtbbhmhihpdmoiaaGreat.Pk

set_option linter.unusedVariables false
set_option linter.unusedSimpArgs false
namespace Go.Proofs.YtbbhmhihpdmoiaaGreat.Pk
open Go.Proofs.YtbbhmhihpdmoiaaGreat.Fx (below_mono give_done give_no give_pure give_region)
open Go Go.RowKit
def endV (lost : Bool) (n at0 : Nat) : Int := if lost = true ∨ at0 < n then 50 else 0
end Go.Proofs.YtbbhmhihpdmoiaaGreat.Pk

set_option linter.unusedVariables false
set_option linter.unusedSimpArgs false
namespace Go.Proofs.YtbbhmhihpdmoiaaGreat.Pk
open Go Go.RowKit
def cutA (o : Option Addr) (c l : Nat) : Option Addr := o.map fun a => if c = l then a else ⟨a.block, a.off + l, none⟩
theorem Bs.cut {W : World} {o : Option Addr} {m : List Nat} {c l h : Nat} (hb : Bs W o m) (hl : l ≤ h) (hh : h ≤ m.length) (hc : m.length ≤ c) : Bs W (cutA o c l) ((m.drop l).take (h - l)) := fun j hj => by
 have hj1 : j < h - l := by simp at hj; omega
 obtain ⟨b, off, e, hcell⟩ := hb (l + j) (by omega)
 subst e
 refine ⟨b, off + l, ?_, ?_⟩
 ·unfold cutA
  simp only [Option.map_some]
  rw [if_neg (by omega)]
 ·rw [show off + l + j = off + (l + j) by omega, hcell]
  congr 3
  simp [List.getD, List.getElem?_take, List.getElem?_drop, hj1]
theorem run_cut (W : World) (o : Option Addr) (n c l h : Nat) (hl : l ≤ h) (hh : h ≤ c) (ho : o = none → c = 0) (hs : 0 < c → ∀ a, o = some a → a.spot = none) :
  (Instr.slice 31 (.slice o n c) (some (.int .i64 (l : Int))) (some (.int .i64 (h : Int))) none).run Tryz.prog W = .ok (.slice (cutA o c l) (h - l) (c - l)) W := by
 have ht : Tryz.prog.underlying 31 = some (.slice 5) := Tryz.underlying31
 have hz : ∀ w, (Go.sizeOf 5).run Tryz.prog w = .ok 1 w := fun _ => by kernel_rfl
 have ht' : Tryz.prog.underlying 31 = some (.slice (Tryz.prog.elem 31)) := by simp [Program.elem, ht]
 have he : Tryz.prog.elem 31 = 5 := by simp [Program.elem, ht]
 rw [run_slice_lh W 31 _ _ _ ht' .i64 .i64 _ _ (by omega) (by omega) (by omega), he, hz]
 cases o with
 | none =>
  obtain rfl := ho rfl
  obtain rfl : h = 0 := by omega
  obtain rfl : l = 0 := by omega
  simp [Result.andThen, sliced, cutA]
 | some a =>
  obtain ⟨b, off, spot⟩ := a
  by_cases hcl : c = l
  ·subst hcl
   simp [Result.andThen, sliced, Addr.add, cutA]
  ·obtain rfl : spot = none := hs (by omega) _ rfl
   by_cases h0 : l = 0
   ·subst h0
    simp [Result.andThen, sliced, Addr.add, cutA, hcl]
   ·simp [Result.andThen, sliced, Addr.add, cutA, hcl, h0]
theorem exec_cut {o : Oper} {a : Act} {W : World} (x y z : Operand) (ho : o.op = .slice 31 x (some y) (some z) none) (oa : Option Addr) (n c l h : Nat) (i j : Int) (hi : i = (l : Int)) (hj : j = (h : Int)) (hx : a.eval x = .slice oa n c) (hy : a.eval y = .int .i64 i) (hz : a.eval z = .int .i64 j)
  (hl : l ≤ h) (hh : h ≤ c) (hn : oa = none → c = 0) (hs : 0 < c → ∀ a, oa = some a → a.spot = none) :
  (execOp a.eval o).run Tryz.prog W = .ok (.value (.slice (cutA oa c l) (h - l) (c - l))) W := by
 subst hi hj
 have ht' : Tryz.prog.underlying 31 = some (.slice (Tryz.prog.elem 31)) := by simp [Program.elem, Tryz.underlying31]
 unfold execOp
 simp only [ho, hx, hy, hz, Option.map_some, Option.map_none, Sem.run_bind, run_sliceAt_slice W 31 _ _ _ _ ht', run_cut W oa n c l h hl hh hn hs, Result.andThen_ok, Sem.run_pure]
def txR (lost : Bool) (most : Int) (l : List Nat) (at0 : Nat) : Option (List Nat × Nat) :=
 match rz lost most (l.drop at0) with
 | none => none
 | some (n, j) => if n ≤ l.length - (at0 + j) then some ((l.drop (at0 + j)).take n, j + n) else none
def txA (r : Option (List Nat × Nat)) (at0 : Nat) : Nat := match r with | some (_, d) => at0 + d | none => at0
end Go.Proofs.YtbbhmhihpdmoiaaGreat.Pk

set_option linter.unusedVariables false
namespace Go.Proofs.YtbbhmhihpdmoiaaGreat.Pk
open Go Go.RowKit
theorem pow_k {k : Nat} (h : k ≤ 8) : (2 : Nat) ^ (64 - 7 * k) = 128 * 2 ^ (64 - 7 * (k + 1)) := pow_cut k (by omega)
theorem rdG_form : ∀ (f m most k a : Nat) (t : List Nat), m < 128 ^ f → m < 2 ^ (64 - 7 * k) → k ≤ 9 → (k = 0 ∨ m ≠ 0) → a + m * 128 ^ k ≤ most → rdG most k a (form m ++ t) = some (a + m * 128 ^ k, k + (form m).length)
 | 0, m, most, k, a, t, hf, hm, hk, h0, hle => by
  have hm0 : m = 0 := by simpa using hf
  subst hm0
  have hk0 : k = 0 := by rcases h0 with h | h; · exact h
                         ·exact absurd rfl h
  subst hk0
  rw [form_small (by omega)]
  simp [rdG]
  simpa using hle
 | f + 1, m, most, k, a, t, hf, hm, hk, h0, hle => by
  by_cases h128 : m < 128
  ·rw [form_small h128]
   have h9 : ¬ (k = 9 ∧ 1 < m) := by
    rintro ⟨rfl, h1⟩
    simp at hm
    omega
   have hmod : m % 128 = m := Nat.mod_eq_of_lt h128
   simp only [List.cons_append, List.nil_append, rdG]
   rw [if_neg h9, if_neg (by omega), if_neg (by rw [hmod]; rintro (⟨h1, h2⟩ | h1) <;> omega), hmod]
   simp
  ·have hk8 : k ≤ 8 := by
    rcases Nat.lt_or_ge k 9 with h | h
    ·omega
    ·have e : k = 9 := by omega
     subst e
     simp at hm
     omega
   have hm64 : m < 18446744073709551616 := by
    have h1 : (2 : Nat) ^ (64 - 7 * k) ≤ 2 ^ 64 := Nat.pow_le_pow_right (by omega) (by omega)
    have h2 : (2 : Nat) ^ 64 = 18446744073709551616 := by decide
    omega
   rw [form_big h128 hm64]
   have hc : (128 + m % 128) % 128 = m % 128 := by omega
   have hsum : a + m % 128 * 128 ^ k + m / 128 * 128 ^ (k + 1) = a + m * 128 ^ k := by
    rw [Nat.pow_succ]
    have e : m = m % 128 + 128 * (m / 128) := by omega
    have : m * 128 ^ k = (m % 128 + 128 * (m / 128)) * 128 ^ k := by rw [← e]
    rw [this, Nat.add_mul, Nat.add_assoc]
    congr 2
    rw [Nat.mul_comm (128 ^ k) 128, ← Nat.mul_assoc, Nat.mul_comm (m / 128) 128]
   simp only [List.cons_append, rdG]
   rw [if_neg (by omega), if_pos (by omega), hc, rdG_form f (m / 128) most (k + 1) _ t (by rw [Nat.pow_succ] at hf; omega) (by rw [pow_k hk8] at hm; exact Nat.div_lt_of_lt_mul hm) (by omega) (Or.inr (by omega)) (by rw [hsum]; exact hle), hsum]
   simp
   omega
theorem rd_form (n most : Nat) (t : List Nat) (hn : n < 18446744073709551616) (hm : n ≤ most) : rd most (form n ++ t) = some (n, (form n).length) := by
 have h1 : (128 : Nat) ^ 10 = 1180591620717411303424 := by decide
 have h2 : (2 : Nat) ^ (64 - 7 * 0) = 18446744073709551616 := by decide
 have := rdG_form 10 n most 0 0 t (by rw [h1]; omega) (by rw [h2]; exact hn) (by omega) (Or.inl rfl) (by simpa using hm)
 unfold rd
 rw [this]
 simp
theorem rdG_has : ∀ {s : List Nat} {most k a v j : Nat}, By s → k ≤ 9 → rdG most k a s = some (v, j) → ∃ m, v = a + m * 128 ^ k ∧ s.take (j - k) = form m ∧ m < 2 ^ (64 - 7 * k) ∧ (k = 0 ∨ m ≠ 0) ∧ k < j
 | [], _, _, _, _, _, _, _, h => by simp [rdG] at h
 | c :: s, most, k, a, v, j, hb, hk, h => by
  have hc : c < 256 := hb c (by simp)
  rw [rdG] at h
  split at h
  ·cases h
  ·rename_i h9
   split at h
   ·rename_i h128
    have hk8 : k ≤ 8 := by omega
    obtain ⟨m, hv, ht, hm, h0, hlt⟩ := rdG_has (fun x hx => hb x (by simp [hx])) (by omega) h
    have hm0 : m ≠ 0 := by rcases h0 with h | h; · omega
                           ·exact h
    have hm1 : c % 128 + 128 * m < 2 ^ (64 - 7 * k) := by rw [pow_k hk8]; omega
    refine ⟨c % 128 + 128 * m, ?_, ?_, hm1, Or.inr (by omega), by omega⟩
    ·rw [hv, Nat.pow_succ, Nat.add_mul, Nat.add_assoc]
     congr 2
     rw [Nat.mul_comm (128 ^ k) 128, ← Nat.mul_assoc, Nat.mul_comm m 128]
    ·have hm64 : c % 128 + 128 * m < 18446744073709551616 := by
      have h1 : (2 : Nat) ^ (64 - 7 * k) ≤ 2 ^ 64 := Nat.pow_le_pow_right (by omega) (by omega)
      have h2 : (2 : Nat) ^ 64 = 18446744073709551616 := by decide
      omega
     rw [form_big (by omega) hm64, show j - k = (j - (k + 1)) + 1 by omega, List.take_succ_cons, ht]
     congr 1
     ·omega
     ·congr 1
      omega
   ·rename_i h128
    split at h
    ·cases h
    ·rename_i hz
     cases h
     refine ⟨c, by rw [Nat.mod_eq_of_lt (by omega)], ?_, ?_, by omega, by omega⟩
     ·rw [show k + 1 - k = 1 by omega, form_small (by omega)]
      simp
     ·rcases Nat.lt_or_ge k 9 with h | h
      ·have : (2 : Nat) ^ 8 ≤ 2 ^ (64 - 7 * k) := Nat.pow_le_pow_right (by omega) (by omega)
       omega
      ·have e : k = 9 := by omega
       subst e
       simp
       omega
theorem rd_has {s : List Nat} {most n j : Nat} (hb : By s) (h : rd most s = some (n, j)) : s.take j = form n ∧ n < 18446744073709551616 ∧ j = (form n).length := by
 obtain ⟨m, hv, ht, hm, _, hj⟩ := rdG_has hb (by omega) h
 have e : n = m := by simpa using hv
 subst e
 have h2 : (2 : Nat) ^ (64 - 7 * 0) = 18446744073709551616 := by decide
 have hl := (rd_le h).2.2
 have ht' : s.take j = form n := by simpa using ht
 refine ⟨ht', by rw [h2] at hm; exact hm, ?_⟩
 rw [← ht', List.length_take]
 omega
theorem unf_fold {z : Int} (h0 : -9223372036854775808 ≤ z) (h1 : z ≤ 9223372036854775807) : unf (fold z) = z := by
 unfold unf fold
 split <;> split <;> omega
theorem fold_unf {n : Nat} (h : n < 18446744073709551616) : fold (unf n) = n := by
 unfold unf fold
 split <;> split <;> omega
end Go.Proofs.YtbbhmhihpdmoiaaGreat.Pk

set_option linter.unusedVariables false
set_option linter.unusedSimpArgs false
namespace Go.Proofs.YtbbhmhihpdmoiaaGreat.Pk
open Go Go.RowKit
def encI (x : Int) : Value := .int .i64 x
def OwnI (W : World) (B : Nat) (v : Value) (l : List Int) : Prop := W.ownsRow B 2 1 v l.length (l.map encI)
theorem OwnI.below {w W : World} {B : Nat} {v : Value} {l : List Int} (h : Below w.heap.size w W) (s : OwnI w B v l) : OwnI W B v l := by
 obtain ⟨h1, h2⟩ := s
 refine ⟨h1, ?_⟩
 rcases h2 with h2 | ⟨g, cap, cur, e, hb, hg, h3⟩
 ·exact Or.inl h2
 ·exact Or.inr ⟨g, cap, cur, e, hb, keep_row h hg, h3⟩
theorem OwnI.alloc {w : World} {B : Nat} {v : Value} {l : List Int} (s : OwnI w B v l) (o : Obj) : OwnI (w.alloc o) B v l := by
 obtain ⟨h1, h2⟩ := s
 refine ⟨h1, ?_⟩
 rcases h2 with h2 | ⟨g, cap, cur, e, hb, hg, h3⟩
 ·exact Or.inl h2
 ·exact Or.inr ⟨g, cap, cur, e, hb, step_row hg, h3⟩
theorem OwnI.blk {w : World} {B : Nat} {v : Value} {l : List Int} (s : OwnI w B v l) : ∀ k, v.ownBlock = some k → B ≤ k := by
 intro k hk
 obtain ⟨h1, h2⟩ := s
 rcases h2 with ⟨rfl, _⟩ | ⟨g, cap, cur, rfl, hb, _⟩
 ·cases hk
 ·cases hk
  exact hb
theorem OwnI.apart {W : World} {B p : Nat} {v : Value} {l : List Int} {cs : Array Value} {t : TypeId} {fr : Nat × Nat} (s : OwnI W B v l) (h : W.heap[p]? = some (.cells cs t fr)) (ht : t ≠ 2) : ∀ k, v.ownBlock = some k → k ≠ p := by
 intro k hk e
 subst e
 obtain ⟨h1, h2⟩ := s
 rcases h2 with ⟨rfl, _⟩ | ⟨g, cap, cur, rfl, hb, hg, _⟩
 ·cases hk
 ·cases hk
  rw [h] at hg
  injection hg with hg
  injection hg with _ hg
  exact ht hg
theorem OwnI.grown {W X : World} {B : Nat} {v : Value} {l : List Int} {row : Option Nat} (s : OwnI W B v l) (hg : W.grownBy X row) (hr : ∀ k, v.ownBlock = some k → some k ≠ row) : OwnI X B v l := by
 obtain ⟨h1, h2⟩ := s
 refine ⟨h1, ?_⟩
 rcases h2 with h2 | ⟨g, cap, cur, rfl, hb, hgg, h3⟩
 ·exact Or.inl h2
 ·exact Or.inr ⟨g, cap, cur, rfl, hb, by rw [hg.block g (Array.getElem?_eq_some_iff.1 hgg).1 (hr g rfl)]; exact hgg, h3⟩
theorem ZR.grown {o : Option Addr} {c : Nat} {l : List Nat} {p at0 : Nat} {lost : Bool} {W X : World} {row : Option Nat} (h : ZR o c l p at0 lost W) (hg : W.grownBy X row) (hp : some p ≠ row) (hr : ∀ b off, o = some ⟨b, off, none⟩ → 0 < l.length → some b ≠ row) : ZR o c l p at0 lost X :=
 ⟨by rw [hg.block p h.lt hp]; exact h.row, h.bs.grown hg hr⟩
def M64 : Nat := 18446744073709551615
end Go.Proofs.YtbbhmhihpdmoiaaGreat.Pk
