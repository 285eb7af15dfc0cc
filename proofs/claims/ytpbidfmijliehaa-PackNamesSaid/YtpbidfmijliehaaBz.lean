/- The other calls of pack's writer that have limits; bytes copied. -/
import Derived.Test.YtpbidfmijliehaaProg
import Derived.Test.YtpbidfmijliehaaBy
set_option linter.unusedVariables false
set_option linter.unusedSimpArgs false
namespace Go.Proofs.Ytpbidfmijliehaa.Fx
open Go Go.RowKit
set_option maxRecDepth 100000 in
set_option maxHeartbeats 2000000 in
theorem psmall_any (B p : Nat) (n most : Int) (v : Value) (l : List Nat) (lost : Bool) (w : World) (hB : B ≤ w.heap.size) (h0 : -9223372036854775808 ≤ n) (h1 : n ≤ 9223372036854775807) (hlen : l.length ≤ 100000000) (hw : PW B p v l lost w) :
    Calls Try.prog 14 #[.pointer (some ⟨p, 0, none⟩), .int .i64 n, .int .i64 most] w (PCall B p v (putL l (form n.toNat) lost (mayB n most)) (putB lost (mayB n most)) w) := by
  obtain ⟨c0, c1, _, f1, _⟩ := hw.cells
  have HF := Lib.hid (writer_fault p true lost w c0 c1)
  obtain ⟨N, hN⟩ : ∃ N : Nat, IntKind.u64.wrap n = (N : Int) := ⟨(n % 18446744073709551616).toNat, by rw [IntKind.wrap_u64]; omega⟩
  have hN64 : N < 18446744073709551616 := by rw [IntKind.wrap_u64] at hN; omega
  have hNn : 0 ≤ n → N = n.toNat := fun h => by rw [IntKind.wrap_u64] at hN; omega
  cases lost with
  | true =>
    have HP := Lib.hid (puint_any B p N v l true w hB hN64 hlen hw)
    have e1 : putL l (form n.toNat) true (mayB n most) = l := by unfold putL; simp
    have e2 : putB true (mayB n most) = true := rfl
    have e3 : putL l (form N) true true = l := by unfold putL; simp
    have e4 : putB true true = true := rfl
    rw [e1, e2]
    rw [e3, e4] at HP
    clear hw hN64 hNn e1 e2 e3 e4
    go_enter Try.func14, Try.ntmps14
    go_wp2_with fail
    refine HF.out.mono ?_
    rintro e w0 ⟨rfl, rfl⟩
    simp only [fl, if_true]
    go_wp2_with fail
    refine HP.out.mono ?_
    rintro e w2 ⟨rfl, hz⟩
    have HE := Lib.hid hz
    clear hz HP
    go_wp2_with fail
    exact bodyPost_ret (results_none rfl _ _ _) rfl ⟨rfl, HE.out⟩
  | false =>
    have HG := Lib.hid hw
    by_cases g : 0 ≤ n ∧ n ≤ most
    · have hm : mayB n most = true := decide_eq_true g
      have HP := Lib.hid (puint_any B p N v l false w hB hN64 hlen hw)
      rw [hm, ← hNn g.1]
      obtain ⟨g0, g1⟩ := g
      have d0 : ¬ n < 0 := by omega
      have d1 : ¬ most < n := by omega
      clear hw hN64 hNn hm HG
      go_enter Try.func14, Try.ntmps14
      go_wp2_with fail
      refine HF.out.mono ?_
      rintro e w0 ⟨rfl, rfl⟩
      simp only [fl, if_true, Bool.false_eq_true, if_false]
      go_wp2_with fail
      refine HP.out.mono ?_
      rintro e w2 ⟨rfl, hz⟩
      have HE := Lib.hid hz
      clear hz HP
      go_wp2_with fail
      exact bodyPost_ret (results_none rfl _ _ _) rfl ⟨rfl, HE.out⟩
    · have hm : mayB n most = false := decide_eq_false g
      have hs := hw.spoil
      have HP := Lib.hid (puint_any B p N v l true _ (by simpa using hB) hN64 hlen hs)
      have e3 : putL l (form N) true true = l := by unfold putL; simp
      have e4 : putB true true = true := rfl
      have e5 : putL l (form n.toNat) false false = l := by unfold putL; simp
      have e6 : putB false false = true := rfl
      rw [hm, e5, e6]
      rw [e3, e4] at HP
      have HT := Lib.hid (Turn.set p 1 v (.bool true) w)
      clear hw hN64 hNn hm hs e3 e4 e5 e6
      by_cases g0 : n < 0
      · clear g
        go_enter Try.func14, Try.ntmps14
        go_wp2_with fail
        refine HF.out.mono ?_
        rintro e w0 ⟨rfl, rfl⟩
        simp only [fl, if_true, Bool.false_eq_true, if_false]
        go_wp2_with fail
        refine HP.out.mono ?_
        rintro e w2 ⟨rfl, v2, h2, t2⟩
        have HE : Hid (∃ v', PW B p v' l true w2 ∧ Turn p v v' w w2) := Lib.hid ⟨v2, h2, HT.out.trans t2⟩
        clear h2 t2 HP HT
        go_wp2_with fail
        exact bodyPost_ret (results_none rfl _ _ _) rfl ⟨rfl, HE.out⟩
      · have d1 : most < n := by omega
        clear g
        go_enter Try.func14, Try.ntmps14
        go_wp2_with fail
        refine HF.out.mono ?_
        rintro e w0 ⟨rfl, rfl⟩
        simp only [fl, if_true, Bool.false_eq_true, if_false]
        go_wp2_with fail
        refine HP.out.mono ?_
        rintro e w2 ⟨rfl, v2, h2, t2⟩
        have HE : Hid (∃ v', PW B p v' l true w2 ∧ Turn p v v' w w2) := Lib.hid ⟨v2, h2, HT.out.trans t2⟩
        clear h2 t2 HP HT
        go_wp2_with fail
        exact bodyPost_ret (results_none rfl _ _ _) rfl ⟨rfl, HE.out⟩
theorem own_empty (w : World) : Own (w.alloc (.cells #[] 5)) w.heap.size (.slice (some ⟨w.heap.size, 0, none⟩) 0 0) [] :=
  ⟨rfl, .inr ⟨w.heap.size, 0, #[], rfl, Nat.le_refl _, heap_alloc_new _ _, Nat.le_refl _, by unfold maxLen; omega, rfl, rfl⟩⟩
set_option maxRecDepth 100000 in
set_option maxHeartbeats 2000000 in
/-- bytes copied: nil for none, else a row of one's own -/
theorem clone_any (o : Option Addr) (c : Nat) (m : List Nat) (w : World) (hc : o = none → c = 0) (hlen : m.length ≤ 1000000000) (hb : Bs w o m) :
    Calls Try.prog 49 #[.slice o m.length c] w fun e w' => (∃ v, e = .returned v ∧ Own w' w.heap.size v m) ∧ Below w.heap.size w w' := by
  cases o with
  | none =>
    obtain rfl := nil_of hb
    obtain rfl := hc rfl
    clear hb hc
    have ee : ∀ w, (binOp .eql 27 (.slice none 0 0) (.slice none 0 0)).run Try.prog w = .ok (.bool true) w := fun w => run_eql_nil w 27 5 none 0 0 Try.underlying27
    simp only [List.length_nil]
    go_enter Try.func49, Try.ntmps49
    go_wp2_with fail
    go_ret
    exact ⟨⟨_, rfl, World.ownsRow_nil _ _ _ _⟩, Below.refl _ _⟩
  | some a =>
    have HB := Lib.hid hb
    have HL := Lib.hid hlen
    clear hb hc hlen
    have ee : ∀ w, (binOp .eql 27 (.slice (some a) m.length c) (.slice none 0 0)).run Try.prog w = .ok (.bool false) w := fun w => run_eql_nil w 27 5 (some a) m.length c Try.underlying27
    go_enter Try.func49, Try.ntmps49
    have HO := Lib.hid (own_empty w)
    have HB2 := Lib.hid (HB.out.below ((Below.refl _ w).alloc (Nat.le_refl _) (.cells #[] 5)))
    have HN := Lib.hid ((Below.refl w.heap.size w).alloc (Nat.le_refl _) (.cells #[] 5))
    go_wp2_with (at_builtin; refine app_at rfl (.tmp 5) (.tmp 6) rfl w.heap.size _ [] rfl HO.out (some a) m c rfl (fun h => by cases h) HB2.out (by have := HL.out; simp; omega) (by simp) ?_; intro v1 w1 ho1 hg1 _)
    have HE : Hid (Own w1 w.heap.size v1 m ∧ Below w.heap.size w w1) := Lib.hid ⟨ho1, HN.out.grown hg1 (by simp) (fun k hk => by cases hk; exact Nat.le_refl _)⟩
    clear ho1 hg1 HO HB HB2 HN HL
    go_ret
    exact ⟨⟨v1, rfl, HE.out.1⟩, HE.out.2⟩
/-- what a writer says at the end -/
def BytesPost (p : Nat) (l : List Nat) (lost : Bool) (w : World) (e : Ending) (w' : World) : Prop :=
  (∃ v, e = .returned (.tuple #[v, .int .i64 (fl true lost)]) ∧ Own w' w.heap.size v (if lost then [] else l)) ∧ Below w.heap.size w w'
set_option maxRecDepth 100000 in
set_option maxHeartbeats 2000000 in
theorem pbytes_any (B p : Nat) (v : Value) (l : List Nat) (lost : Bool) (w : World) (hlen : l.length ≤ 100000000) (hw : PW B p v l lost w) :
    Calls Try.prog 20 #[.pointer (some ⟨p, 0, none⟩)] w (BytesPost p l lost w) := by
  obtain ⟨c0, c1, c2, _, _⟩ := hw.cells
  have HF := Lib.hid (writer_fault p true lost w c0 c1)
  cases lost with
  | true =>
    clear hw
    go_enter Try.func20, Try.ntmps20
    go_wp2_with fail
    refine HF.out.mono ?_
    rintro e w0 ⟨rfl, rfl⟩
    simp only [fl, if_true]
    go_wp2_with fail
    exact bodyPost_ret (results_tmp2 rfl _ _ _) rfl ⟨⟨_, rfl, World.ownsRow_nil _ _ _ _⟩, Below.refl _ _⟩
  | false =>
    obtain ⟨o, cap, rfl, hbs, _, _, hn0, _⟩ := hw.own.open
    have HC := Lib.hid (clone_any o cap l w hn0 (by omega) hbs)
    clear hw hbs hn0
    go_enter Try.func20, Try.ntmps20
    go_wp2_with fail
    refine HF.out.mono ?_
    rintro e w0 ⟨rfl, rfl⟩
    simp only [fl, if_true, Bool.false_eq_true, if_false]
    go_wp2_with fail
    refine HC.out.mono ?_
    rintro e w1 ⟨⟨v1, rfl, ho⟩, hb⟩
    have HE : Hid (Own w1 w.heap.size v1 l ∧ Below w.heap.size w w1) := Lib.hid ⟨ho, hb⟩
    clear ho hb HC
    go_wp2_with fail
    exact bodyPost_ret (results_tmp2 rfl _ _ _) rfl ⟨⟨v1, rfl, HE.out.1⟩, HE.out.2⟩
theorem Bs.turn {W X : World} {o : Option Addr} {m : List Nat} {p : Nat} {v v' : Value} (hb : Bs W o m) (t : Turn p v v' W X) (h : ∀ b off, o = some ⟨b, off, none⟩ → 0 < m.length → b ≠ p ∧ v.ownBlock ≠ some b) : Bs X o m := fun i hi => by
  obtain ⟨b, off, e, hc⟩ := hb i hi
  refine ⟨b, off, e, ?_⟩
  obtain ⟨h1, h2⟩ := h b off e (by omega)
  rw [World.cell?_of_block (t.block b (block_lt_of_cell hc) h1 h2)]
  exact hc
theorem mayB_len (m : List Nat) (most : Int) : ((m.length : Int)).toNat = m.length := by omega
set_option maxRecDepth 100000 in
set_option maxHeartbeats 2000000 in
theorem ptext_any (B p : Nat) (o : Option Addr) (c : Nat) (m : List Nat) (most : Int) (v : Value) (l : List Nat) (lost : Bool) (w : World) (hB : B ≤ w.heap.size) (hlen : l.length ≤ 90000000) (hm : m.length ≤ 1000000) (hc : o = none → c = 0) (hb : Bs w o m)
    (hap : ∀ b off, o = some ⟨b, off, none⟩ → 0 < m.length → b ≠ p ∧ v.ownBlock ≠ some b ∧ b < w.heap.size) (hw : PW B p v l lost w) :
    Calls Try.prog 18 #[.pointer (some ⟨p, 0, none⟩), .slice o m.length c, .int .i64 most] w (PCall B p v (putL l (form m.length ++ m) lost (mayB (m.length : Int) most)) (putB lost (mayB (m.length : Int) most)) w) := by
  have hs := psmall_any B p (m.length : Int) most v l lost w hB (by omega) (by omega) (by omega) hw
  rw [mayB_len m most] at hs
  have HS := Lib.hid hs
  obtain ⟨may, hmay⟩ : ∃ b, mayB (m.length : Int) most = b := ⟨_, rfl⟩
  rw [hmay] at HS ⊢
  have HFL := Lib.hid (form_len m.length).2
  clear hs hw hmay
  have HBB := Lib.hid hb
  have HAP := Lib.hid hap
  have HC := Lib.hid hc
  have HM := Lib.hid hm
  have HLEN := Lib.hid hlen
  clear hb hap hc hm hlen
  by_cases g : lost = true ∨ may = false
  · have hx : putB lost may = true := by unfold putB; rcases g with rfl | rfl <;> simp
    have hx2 : ∀ q, putL l q lost may = l := fun q => by unfold putL; rcases g with rfl | rfl <;> simp
    rw [hx, hx2] at HS ⊢
    clear hx hx2 g
    go_enter Try.func18, Try.ntmps18
    go_wp2_with fail
    refine HS.out.mono ?_
    rintro e w1 ⟨rfl, v1, h1, t1⟩
    obtain ⟨c0, c1, c2, _, f2⟩ := h1.cells
    have HF := Lib.hid (writer_fault p true _ w1 c0 c1)
    have T1 := Lib.hid t1
    have HE := Lib.hid h1
    clear h1 t1 HS
    go_wp2_with fail
    refine HF.out.mono ?_
    rintro e w0 ⟨rfl, rfl⟩
    simp only [fl, if_true]
    go_wp2_with fail
    go_end0
    exact ⟨rfl, v1, HE.out, T1.out⟩
  · obtain rfl : lost = false := by cases lost <;> simp_all
    obtain rfl : may = true := by cases may <;> simp_all
    have hx : putB false true = false := rfl
    have hx2 : ∀ q, putL l q false true = l ++ q := fun q => rfl
    rw [hx, hx2] at HS ⊢
    clear hx hx2 g
    have HL2 : Hid ((l ++ form m.length).length ≤ 90000011) := Lib.hid (by have := HLEN.out; have := HFL.out; simp; omega)
    obtain ⟨q, hq⟩ : ∃ q, l ++ form m.length = q := ⟨_, rfl⟩
    have HQ : Hid (l ++ (form m.length ++ m) = q ++ m) := Lib.hid (by rw [← hq, List.append_assoc])
    rw [HQ.out]
    rw [hq] at HS HL2
    clear hq HQ
    obtain ⟨r, hr⟩ : ∃ r, q ++ m = r := ⟨_, rfl⟩
    have HR := Lib.hid hr
    rw [hr]
    clear hr
    go_enter Try.func18, Try.ntmps18
    go_wp2_with fail
    refine HS.out.mono ?_
    rintro e w1 ⟨rfl, v1, h1, t1⟩
    obtain ⟨c0, c1, c2, _, f2⟩ := h1.cells
    have HF := Lib.hid (writer_fault p true _ w1 c0 c1)
    have T1 := Lib.hid t1
    have HB1 := Lib.hid (HBB.out.turn t1 (fun b off e h => ⟨(HAP.out b off e h).1, (HAP.out b off e h).2.1⟩))
    have HBS : Hid (B ≤ w1.heap.size) := Lib.hid (Nat.le_trans hB t1.size)
    have HE := Lib.hid h1
    clear h1 t1 HS
    obtain ⟨o1, cap1, rfl, _, _, _, _, _⟩ := HE.out.own.open
    go_wp2_with fail
    refine HF.out.mono ?_
    rintro e w0 ⟨rfl, rfl⟩
    simp only [fl, if_true, Bool.false_eq_true, if_false]
    go_wp2_with (at_builtin; refine app_at rfl (.tmp 19) (.tmp 20) rfl B (.slice o1 q.length cap1) q rfl HE.out.own o m c rfl HC.out HB1.out (by have := HL2.out; have := HM.out; omega) HBS.out ?_; intro v2 w2 ho2 hg2 hn2; rw [HR.out] at ho2; obtain ⟨o2, cap2, rfl, _, _, _, _, _⟩ := ho2.open; have R2 : w2.heap[p]? = some (.cells #[.bool true, .bool false, .slice o1 q.length cap1] 65 (0, 0)) := (hg2.block p HE.out.lt (fun e => HE.out.own.apart HE.out.row (by decide) p e.symm rfl)).trans HE.out.row; have d2 : w2.cell? ⟨p, 2, none⟩ = some (.slice o1 q.length cap1) := (cell_of_row _ _ _ _ _ _ R2).trans rfl; have e2 : w2.frozen? ⟨p, 2, none⟩ = false := frozen_row R2; have T2 := Lib.hid (Turn.of_grown (p := p) hg2 hn2); have HO2 := Lib.hid ho2; have HR2 := Lib.hid R2; clear ho2 hg2 hn2 R2)
    have R3 := heap_setCell_same _ _ 2 _ _ (.slice o2 r.length cap2) HR2.out
    have O3 : Own (w2.setCell ⟨p, 2, none⟩ (.slice o2 r.length cap2)) B (.slice o2 r.length cap2) r := HO2.out.grown (grown_cell _ _ _ _) (fun k hk e => HO2.out.apart HR2.out (by decide) k hk (Option.some.inj e))
    go_end0
    exact ⟨rfl, _, ⟨R3, O3⟩, (T1.out.trans T2.out).trans (Turn.set p 2 _ _ w2)⟩
end Go.Proofs.Ytpbidfmijliehaa.Fx
