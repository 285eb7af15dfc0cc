/- pack.Many of numbers with signs, walked. -/
import Derived.Test.YtpbidfmijliehaaProg
import Derived.Test.YtpbidfmijliehaaDe
import Derived.Test.YtpbidfmijliehaaAm
import Derived.Defers
import Derived.Recover
set_option linter.unusedVariables false
set_option linter.unusedSimpArgs false
namespace Go.Proofs.Ytpbidfmijliehaa.Fx
open Go Go.RowKit
/-- what is deferred finds no panic -/
theorem many_idle (a b : Addr) (w : World) :
    CallsD Try.prog 64 #[.pointer (some a), .pointer (some b)] .returning w fun e u' w' => e = .returned (.tuple #[]) ∧ u' = .returning ∧ w' = w := by
  refine callsD_of_wpS Try.func64 rfl fun c₀ cs hu => ?_
  apply wpS_seq
  apply wpS_region
  simp [wpOpsS, go_sem, recoverD, hu, Try.ntmps64, Exit.thenS]
  refine wpS_cond (t := false) (by simp [Act.eval, Array.replicate]) ?_
  simp only [Bool.false_eq_true, if_false]
  refine wpS_of_wp (wp_skip ?_)
  cases c₀
  simp_all [bodyPostS, results, Try.results64]
theorem OwnI.open {W : World} {B : Nat} {v : Value} {l : List Int} (s : OwnI W B v l) : ∃ o cap, v = .slice o l.length cap := by
  obtain ⟨h1, h2⟩ := s
  rcases h2 with ⟨rfl, h0⟩ | ⟨g, cap, cur, rfl, hb, hg, hc, hm, hs, ht⟩
  · exact ⟨none, 0, by rw [h0]⟩
  · exact ⟨_, cap, rfl⟩
/-- in pack.Many: the boxes of the reader and the list, the reader, the list -/
structure MS (o : Option Addr) (c : Nat) (l : List Nat) (p a : Nat) (lost : Bool) (v : Value) (zs : List Int) (w W : World) : Prop where
  box : W.heap[w.heap.size]? = some (.cells #[.pointer (some ⟨p, 0, none⟩)] 41 (0, 0))
  res : W.heap[w.heap.size + 1]? = some (.cells #[v] 58 (0, 0))
  rd : PR o c l p a lost W
  own : OwnI W (w.heap.size + 2) v zs
  grow : w.grownBy W (some p)
theorem MS.facts {o : Option Addr} {c : Nat} {l : List Nat} {p a : Nat} {lost : Bool} {v : Value} {zs : List Int} {w W : World} (s : MS o c l p a lost v zs w W) :
    W.cell? ⟨w.heap.size, 0, none⟩ = some (.pointer (some ⟨p, 0, none⟩)) ∧ W.cell? ⟨w.heap.size + 1, 0, none⟩ = some v ∧ W.frozen? ⟨w.heap.size + 1, 0, none⟩ = false :=
  ⟨(cell_of_row _ _ 0 _ _ _ s.box).trans rfl, (cell_of_row _ _ 0 _ _ _ s.res).trans rfl, frozen_row s.res⟩
/-- a number was read -/
theorem MS.read {o : Option Addr} {c : Nat} {l : List Nat} {p a a2 : Nat} {lost lost2 : Bool} {v : Value} {zs : List Int} {w W X : World} (s : MS o c l p a lost v zs w W) (hp : p < w.heap.size) (hr : PR o c l p a2 lost2 X) (hg : W.grownBy X (some p)) : MS o c l p a2 lost2 v zs w X := by
  refine ⟨?_, ?_, hr, s.own.grown hg (fun k hk e => s.own.apart s.rd.row (by decide) k hk (Option.some.inj e)), s.grow.trans hg⟩
  · rw [hg.block _ (Array.getElem?_eq_some_iff.1 s.box).1 (fun e => by have := Option.some.inj e; omega)]
    exact s.box
  · rw [hg.block _ (Array.getElem?_eq_some_iff.1 s.res).1 (fun e => by have := Option.some.inj e; omega)]
    exact s.res
theorem MS.alloc {o : Option Addr} {c : Nat} {l : List Nat} {p a : Nat} {lost : Bool} {v : Value} {zs : List Int} {w W : World} (s : MS o c l p a lost v zs w W) (ob : Obj) : MS o c l p a lost v zs w (W.alloc ob) :=
  ⟨step_row s.box, step_row s.res, s.rd.below ((Below.refl _ _).alloc (Nat.le_refl _) _), s.own.alloc _, s.grow.trans (below_grown ((Below.refl _ _).alloc (Nat.le_refl _) _) (some p))⟩
/-- a number was put behind -/
theorem MS.app {o : Option Addr} {c : Nat} {l : List Nat} {p a : Nat} {lost : Bool} {v v' : Value} {zs zs' : List Int} {w W X : World} (s : MS o c l p a lost v zs w W) (hp : p < w.heap.size) (hob : ∀ b off, o = some ⟨b, off, none⟩ → 0 < l.length → b < w.heap.size) (ho : OwnI X (w.heap.size + 2) v' zs') (hg : W.grownBy X v.ownBlock) :
    X.heap[w.heap.size + 1]? = some (.cells #[v] 58 (0, 0)) ∧ MS o c l p a lost v' zs' w (X.setCell ⟨w.heap.size + 1, 0, none⟩ v') := by
  have hv := s.own.blk
  have hres : X.heap[w.heap.size + 1]? = some (.cells #[v] 58 (0, 0)) := by
    rw [hg.block _ (Array.getElem?_eq_some_iff.1 s.res).1 (fun e => by have := hv _ e.symm; omega)]
    exact s.res
  have hbox : X.heap[w.heap.size]? = some (.cells #[.pointer (some ⟨p, 0, none⟩)] 41 (0, 0)) := by
    rw [hg.block _ (Array.getElem?_eq_some_iff.1 s.box).1 (fun e => by have := hv _ e.symm; omega)]
    exact s.box
  have hrd : PR o c l p a lost X := s.rd.grown hg (fun e => by have := hv _ e.symm; omega) (fun b off e hm h => by have := hv b h.symm; have := hob b off e hm; omega)
  have hgx : w.grownBy X (some p) := ⟨hg.os.trans s.grow.os, hg.tape.trans s.grow.tape, hg.output.trans s.grow.output, Nat.le_trans s.grow.size hg.size, fun q hq hqp => by
    rw [hg.block q (Nat.lt_of_lt_of_le hq s.grow.size) (fun e => by have := hv q e.symm; omega)]
    exact s.grow.block q hq hqp⟩
  have hc := grown_cell X (w.heap.size + 1) 0 v'
  refine ⟨hres, by rw [heap_setCell_other _ _ _ _ (by show _ ≠ w.heap.size + 1; omega)]; exact hbox, heap_setCell_same _ _ 0 _ _ v' hres, hrd.grown hc (fun e => by have := Option.some.inj e; omega) (fun b off e hm h => by have := Option.some.inj h; have := hob b off e hm; omega),
    ho.grown hc (fun k hk e => by have := ho.blk k hk; have := Option.some.inj e; omega), ?_⟩
  exact ⟨hc.os.trans hgx.os, hc.tape.trans hgx.tape, hc.output.trans hgx.output, Nat.le_trans hgx.size hc.size, fun q hq hqp => by
    rw [hc.block q (Nat.lt_of_lt_of_le hq hgx.size) (fun e => by have := Option.some.inj e; omega)]
    exact hgx.block q hq hqp⟩
/-- the list is struck -/
theorem MS.strike {o : Option Addr} {c : Nat} {l : List Nat} {p a : Nat} {lost : Bool} {v : Value} {zs : List Int} {w W : World} (s : MS o c l p a lost v zs w W) (hp : p < w.heap.size) (hob : ∀ b off, o = some ⟨b, off, none⟩ → 0 < l.length → b < w.heap.size) : MS o c l p a lost (.slice none 0 0) [] w (W.setCell ⟨w.heap.size + 1, 0, none⟩ (.slice none 0 0)) :=
  (s.app (v' := .slice none 0 0) (zs' := []) hp hob (World.ownsRow_nil _ _ _ _) (World.grownBy.refl _ _)).2
def mnR (l : List Nat) (at0 : Nat) : Option (Nat × Nat) → Option (List Int × Nat)
  | none => none
  | some (n, j) => mnF l n (at0 + j)
theorem manyR_eq (lost : Bool) (most : Int) (l : List Nat) (at0 : Nat) : manyR lost most l at0 = mnR l at0 (rz lost most (l.drop at0)) := by
  unfold manyR
  cases rz lost most (l.drop at0) with
  | none => rfl
  | some q => rfl
structure PMany (o : Option Addr) (c : Nat) (l : List Nat) (p : Nat) (r : Option (List Int × Nat)) (w : World) (e : Ending) (w' : World) : Prop where
  grow : w.grownBy w' (some p)
  no : r = none → e = .returned (.slice none 0 0) ∧ ∃ a, a ≤ l.length ∧ PR o c l p a true w'
  yes : ∀ zs a, r = some (zs, a) → (∃ v, e = .returned v ∧ OwnI w' w.heap.size v zs) ∧ a ≤ l.length ∧ PR o c l p a false w'
theorem OwnI.mono {W : World} {B C : Nat} {v : Value} {l : List Int} (hB : B ≤ C) (s : OwnI W C v l) : OwnI W B v l := by
  obtain ⟨h1, h2⟩ := s
  refine ⟨h1, ?_⟩
  rcases h2 with h2 | ⟨g, cap, cur, e, hb, h3⟩
  · exact Or.inl h2
  · exact Or.inr ⟨g, cap, cur, e, Nat.le_trans hB hb, h3⟩
set_option maxHeartbeats 1000000 in
theorem read1_any (o : Option Addr) (c : Nat) (l : List Nat) (p at0 : Nat) (lost : Bool) (w : World) (k : RdOk l at0) (h : PR o c l p at0 lost w) :
    Calls Try.prog 56 #[.pointer (some ⟨p, 0, none⟩)] w (PNum o c l p at0 (rq lost 18446744073709551615 (l.drop at0)) (.int .i64 (unf (upV (rq lost 18446744073709551615 (l.drop at0))))) w) := by
  have HU := Lib.hid (print_any o c l p at0 lost w k h)
  clear k h
  generalize rq lost 18446744073709551615 (l.drop at0) = r at *
  obtain ⟨z, hz⟩ : ∃ z, unf (upV r) = z := ⟨_, rfl⟩
  rw [hz] at HU ⊢
  clear hz
  go_enter Try.func56, Try.ntmps56
  go_wp2_with fail
  refine HU.out.mono ?_
  rintro e w1 ⟨rfl, hz, hg⟩
  have HZ := Lib.hid hz
  have HG := Lib.hid hg
  clear hz hg HU
  go_wp2_with fail
  go_ret
  exact ⟨rfl, HZ.out, HG.out⟩
set_option maxRecDepth 100000 in
set_option maxHeartbeats 8000000 in
theorem pmany_r (o : Option Addr) (c : Nat) (l : List Nat) (p at0 : Nat) (most : Int) (lost : Bool) (w : World) (k : RdOk l at0) (h1 : most ≤ 9223372036854775807) (h : PR o c l p at0 lost w) (hob : ∀ b off, o = some ⟨b, off, none⟩ → 0 < l.length → b < w.heap.size) :
    Calls Try.prog 37 #[.pointer (some ⟨p, 0, none⟩), .int .i64 most, .func (.func 56) #[] #[]] w (PMany o c l p (manyR lost most l at0) w) := by
  obtain ⟨i0, hi, hz0, hz1, hz2⟩ := info_parts infoI
  have hmf : ∀ (fn : Fn) (first cap : Array Value) (w : World), (Instr.makeFunc fn first cap).run Try.prog w = .ok (.func fn first cap) w := fun _ _ _ _ => rfl
  have hp := h.lt
  obtain ⟨W1, hW1⟩ : ∃ W1, (w.alloc (.cells #[.pointer (some ⟨p, 0, none⟩)] 41)).alloc (.cells #[.slice none 0 0] 58) = W1 := ⟨_, rfl⟩
  have hb1 : Below w.heap.size w W1 := by rw [← hW1]; exact ((Below.refl _ w).alloc (Nat.le_refl _) _).alloc (by simp) _
  have hs := prsmall_any o c l p at0 most lost W1 k h1 (h.below hb1)
  have hms : MS o c l p at0 lost (.slice none 0 0) [] w W1 := by
    refine ⟨?_, ?_, h.below hb1, World.ownsRow_nil _ _ _ _, below_grown hb1 (some p)⟩
    · rw [← hW1]; exact step_row (heap_alloc_new _ _)
    · rw [← hW1]
      have := heap_alloc_new (w.alloc (.cells #[.pointer (some ⟨p, 0, none⟩)] 41)) (.cells #[.slice none 0 0] 58)
      rw [World.size_alloc] at this
      exact this
  have HS := Lib.hid hs
  have HMS := Lib.hid hms
  have HK := Lib.hid k
  have HP := Lib.hid hp
  have HOB := Lib.hid hob
  have HW1 := Lib.hid hW1
  clear hs hms h hob hb1 hW1 k hp
  have hrl : ∀ q, rz lost most (l.drop at0) = some q → q.1 ≤ most.toNat ∧ at0 + q.2 ≤ l.length := fun q hr => by
    have hdl : (l.drop at0).length = l.length - at0 := by simp
    have := HK.out.at'
    unfold rz at hr
    split at hr
    · cases hr
    · have := rd_le hr
      omega
  obtain ⟨R, hR⟩ : ∃ R, rz lost most (l.drop at0) = R := ⟨_, rfl⟩
  have HMR := Lib.hid (manyR_eq lost most l at0)
  rw [hR] at HS hrl HMR
  have HRL := Lib.hid hrl
  obtain ⟨r, hr⟩ : ∃ r, manyR lost most l at0 = r := ⟨_, rfl⟩
  rw [hr] at HMR ⊢
  clear hR hrl hr
  cases R with
  | none =>
    have hrn : r = none := HMR.out
    subst hrn
    go_enter_defers Try.func37, Try.ntmps37
    go_wp2_with fail
    rw [HW1.out]
    refine HS.out.mono ?_
    rintro e w1 ⟨rfl, hr1, hg1⟩
    simp only [upV, upA, upB, Option.isNone_none] at hr1 ⊢
    have hm1 := HMS.out.read HP.out hr1 hg1
    obtain ⟨c0, c1, f1⟩ := hm1.facts
    have HFIN := Lib.hid (hm1.strike HP.out HOB.out)
    have HPOST : Hid (PMany o c l p none w (.returned (.slice none 0 0)) (w1.setCell ⟨w.heap.size + 1, 0, none⟩ (.slice none 0 0))) := Lib.hid ⟨HFIN.out.grow, fun _ => ⟨rfl, at0, HK.out.at', HFIN.out.rd⟩, fun zs a h => by cases h⟩
    clear hr1 hg1 hm1 HS HMS
    go_wp2_with fail
    go_loopg [12] 0 (fun g s12 wr => g = 0 ∧ s12 = .int .i64 0 ∧ wr = w1)
    case atStart => exact ⟨rfl, rfl, rfl⟩
    case round =>
      obtain ⟨_, rfl, rfl⟩ := hrel
      go_wp2_with fail
      refine leaves_cons (f := 64) (args := #[.pointer (some ⟨w.heap.size, 0, none⟩), .pointer (some ⟨w.heap.size + 1, 0, none⟩)]) (by simp) (by simp [go_sem]) ?_
      refine (many_idle ⟨w.heap.size, 0, none⟩ ⟨w.heap.size + 1, 0, none⟩ _).mono ?_
      rintro e u' w'' ⟨rfl, rfl, rfl⟩
      obtain ⟨_, dr, _⟩ := HFIN.out.facts
      simp only [Leaves, settle]
      refine ⟨_, (by simp [results, Try.results37, go_sem, dr]; rfl), ?_⟩
      exact HPOST.out
  | some q =>
    obtain ⟨n, j⟩ := q
    have hrm : r = mnF l n (at0 + j) := HMR.out
    obtain ⟨hnm, hal⟩ := HRL.out (n, j) rfl
    dsimp only at hnm hal
    obtain ⟨at1, hat1⟩ : ∃ at1, at0 + j = at1 := ⟨_, rfl⟩
    rw [hat1] at hrm hal
    have HRM := Lib.hid hrm
    have HAT := Lib.hid hat1
    have n0 : (0 : Int) ≤ (n : Int) := by omega
    have n9 : (n : Int) ≤ 9223372036854775807 := by omega
    clear HMR HRL hrm hnm hat1
    go_enter_defers Try.func37, Try.ntmps37
    go_wp2_with fail
    rw [HW1.out]
    refine HS.out.mono ?_
    rintro e w1 ⟨rfl, hr1, hg1⟩
    simp only [upV, upA, upB, Option.isNone_some] at hr1 ⊢
    rw [HAT.out] at hr1
    have HM1 := Lib.hid (HMS.out.read HP.out hr1 hg1)
    clear hr1 hg1 HS HMS
    go_wp2_with fail
    go_loopg [12] n (fun g s12 wr => ∃ (i a : Nat) (v : Value) (zs : List Int), g = n - i ∧ i ≤ n ∧ s12 = .int .i64 (i : Int) ∧ a ≤ l.length ∧ zs.length = i ∧ at1 + i ≤ a ∧ r = (mnF l (n - i) a).map (fun q => (zs ++ q.1, q.2)) ∧ MS o c l p a false v zs w wr)
    case atStart => exact ⟨0, at1, _, [], rfl, by omega, rfl, hal, rfl, by omega, by rw [HRM.out]; (cases mnF l (n - 0) at1 <;> rfl), HM1.out⟩
    case round =>
      clear HM1
      obtain ⟨i, a, v, zs, hgi, hi2, rfl, haa, hzs, hia, hrr, hms⟩ := hrel
      subst hgi
      obtain ⟨c0, c1, f1⟩ := hms.facts
      have HMS := Lib.hid hms
      have HRR := Lib.hid hrr
      have HZS := Lib.hid hzs
      have HK1 : Hid (RdOk l a) := Lib.hid ⟨HK.out.by', HK.out.len, haa⟩
      have i00 : (0 : Int) ≤ (i : Int) := by omega
      clear hms hrr hzs
      by_cases hin : i < n
      · have t1 : (i : Int) < (n : Int) := by omega
        have hone := read1_any o c l p a false wr HK1.out HMS.out.rd
        have hnk : n - i = (n - (i + 1)) + 1 := by omega
        have hr2 := HRR.out
        rw [hnk, mnF] at hr2
        obtain ⟨R2, hR2⟩ : ∃ R2, rq false 18446744073709551615 (l.drop a) = R2 := ⟨_, rfl⟩
        have hR3 : rd M64 (l.drop a) = R2 := hR2
        rw [hR2] at hone
        rw [hR3] at hr2
        have HONE := Lib.hid hone
        have HR2 := Lib.hid hr2
        have HR3 := Lib.hid hR3
        clear hone hnk hr2 hR2 hR3 HRR
        cases R2 with
        | none =>
          have HRN : Hid (r = none) := Lib.hid HR2.out
          go_wp2_with fail
          refine HONE.out.mono ?_
          rintro e w2 ⟨rfl, hr2, hg2⟩
          simp only [upA, upB, Option.isNone_none] at hr2
          have hm2 := HMS.out.read HP.out hr2 hg2
          obtain ⟨d0, d1, e1⟩ := hm2.facts
          obtain ⟨g0, g1, _⟩ := hm2.rd.facts
          have HF := Lib.hid (reader_fault p true true w2 g0 g1)
          have HFIN := Lib.hid (hm2.strike HP.out HOB.out)
          have HPOST : Hid (PMany o c l p r w (.returned (.slice none 0 0)) (w2.setCell ⟨w.heap.size + 1, 0, none⟩ (.slice none 0 0))) := Lib.hid ⟨HFIN.out.grow, fun _ => ⟨rfl, a, haa, HFIN.out.rd⟩, fun zs a h => by rw [HRN.out] at h; cases h⟩
          clear hr2 hg2 hm2 HONE HMS HR2 HRN c0 c1 f1 g0 g1
          obtain ⟨z, hz⟩ : ∃ z, unf (upV none) = z := ⟨_, rfl⟩
          (try rw [hz])
          clear hz
          go_wp2_with fail
          refine HF.out.mono ?_
          rintro e w3 ⟨rfl, rfl⟩
          simp only [fl, if_true]
          go_wp2_with fail
          refine leaves_cons (f := 64) (args := #[.pointer (some ⟨w.heap.size, 0, none⟩), .pointer (some ⟨w.heap.size + 1, 0, none⟩)]) (by simp) (by simp [go_sem]) ?_
          refine (many_idle ⟨w.heap.size, 0, none⟩ ⟨w.heap.size + 1, 0, none⟩ _).mono ?_
          rintro e u' w'' ⟨rfl, rfl, rfl⟩
          obtain ⟨_, dr, _⟩ := HFIN.out.facts
          simp only [Leaves, settle]
          refine ⟨_, (by simp [results, Try.results37, go_sem, dr]; rfl), ?_⟩
          exact HPOST.out
        | some q2 =>
          obtain ⟨x, jj⟩ := q2
          obtain ⟨z, hz⟩ : ∃ z, unf x = z := ⟨_, rfl⟩
          have hle := rd_le HR3.out
          have hdl : (l.drop a).length = l.length - a := by simp
          have HZ := Lib.hid hz
          have hone2 := HONE.out
          unfold PNum at hone2
          simp only [upV, upA, upB, Option.isNone_some, hz] at hone2
          have HONE2 := Lib.hid hone2
          have HLE : Hid (a + jj ≤ l.length ∧ 0 < jj) := Lib.hid (by omega)
          clear hone2 hle hdl HONE hz
          go_wp2_with fail
          refine HONE2.out.mono ?_
          rintro e w2 ⟨rfl, hr2, hg2⟩
          have hm2 := HMS.out.read HP.out hr2 hg2
          obtain ⟨g0, g1, _⟩ := hm2.rd.facts
          have HF := Lib.hid (reader_fault p true false w2 g0 g1)
          obtain ⟨ov, cv, rfl⟩ := hm2.own.open
          obtain ⟨d0, d1, e1⟩ := hm2.facts
          have HM2 := Lib.hid hm2
          have HMA := Lib.hid (hm2.alloc (.cells #[.int .i64 z] 2))
          have HSZ : Hid (w.heap.size + 2 ≤ w2.heap.size) := Lib.hid (by have := (Array.getElem?_eq_some_iff.1 hm2.res).1; omega)
          clear hr2 hg2 hm2 HONE2 HMS c0 c1 f1 g0 g1
          go_wp2_with fail
          refine HF.out.mono ?_
          rintro e w3 ⟨rfl, rfl⟩
          simp only [fl, if_true, Bool.false_eq_true, if_false]
          clear HF
          go_wp2_with (at_builtin; refine wpList_append_own _ rfl _ _ 58 rfl (w.heap.size + 2) 2 i0 (.int .i64 0) 1 8 Try.underlying58 hi hz0 hz1 hz2 rfl (by decide) (.slice ov zs.length cv) zs.length (zs.map encI) rfl HMA.out.own ⟨w2.heap.size, 0, none⟩ 1 1 [.int .i64 z] rfl rfl (cell_one_newI _ _ _) (by simp [Value.oneCell']) (by have := HZS.out; have := HK.out.len; unfold maxLen; omega) (by have := HZS.out; have := HK.out.len; omega) (by have := HSZ.out; simp; omega) ?_; intro v' w4 hown hgrow _; have ho4 : OwnI w4 (w.heap.size + 2) v' (zs ++ [z]) := (by unfold OwnI; rw [List.length_append, List.map_append]; exact hown); obtain ⟨hres4, hm4⟩ := HMA.out.app HP.out HOB.out ho4 hgrow; obtain ⟨o4, cap4, rfl⟩ := ho4.open; have q1 : w4.cell? ⟨w.heap.size + 1, 0, none⟩ = some (.slice ov zs.length cv) := (cell_of_row _ _ 0 _ _ _ hres4).trans rfl; have q2 : w4.frozen? ⟨w.heap.size + 1, 0, none⟩ = false := frozen_row hres4; have HM4 := Lib.hid hm4; clear hown hgrow ho4 hres4 hm4 HMA HM2)
          go_roundg (n - (i + 1))
          case measure => omega
          case rel =>
            have e5 : (zs ++ [z]).length = zs.length + 1 := by simp
            have hm5 := HM4.out
            rw [e5] at hm5
            refine ⟨i + 1, a + jj, _, zs ++ [z], rfl, by omega, by go_num, HLE.out.1, by simp [HZS.out], by have := HLE.out.2; omega, ?_, hm5⟩
            rw [HR2.out]
            rw [← HZ.out]
            (try dsimp only)
            cases mnF l (n - (i + 1)) (a + jj) with
            | none => rfl
            | some q => simp
      · have t1 : ¬ (i : Int) < (n : Int) := by omega
        have HRX : Hid (r = some (zs, a)) := Lib.hid (by
          have := HRR.out
          rw [show n - i = 0 by omega] at this
          rw [this]
          simp [mnF])
        obtain ⟨ov, cv, rfl⟩ := HMS.out.own.open
        have hfin := (HMS.out.app HP.out HOB.out HMS.out.own (World.grownBy.refl _ _)).2
        have HFIN := Lib.hid hfin
        have HPOST : Hid (PMany o c l p r w (.returned (.slice ov zs.length cv)) (wr.setCell ⟨w.heap.size + 1, 0, none⟩ (.slice ov zs.length cv))) := Lib.hid ⟨hfin.grow, (fun h => by rw [HRX.out] at h; cases h), fun zs' a' h => by rw [HRX.out] at h; cases h; exact ⟨⟨_, rfl, hfin.own.mono (by omega)⟩, haa, hfin.rd⟩⟩
        clear HRR HMS hfin HRX
        go_wp2_with fail
        refine leaves_cons (f := 64) (args := #[.pointer (some ⟨w.heap.size, 0, none⟩), .pointer (some ⟨w.heap.size + 1, 0, none⟩)]) (by simp) (by simp [go_sem]) ?_
        refine (many_idle ⟨w.heap.size, 0, none⟩ ⟨w.heap.size + 1, 0, none⟩ _).mono ?_
        rintro e u' w'' ⟨rfl, rfl, rfl⟩
        obtain ⟨_, dr, _⟩ := HFIN.out.facts
        simp only [Leaves, settle]
        refine ⟨_, (by simp [results, Try.results37, go_sem, dr]; rfl), ?_⟩
        exact HPOST.out
end Go.Proofs.Ytpbidfmijliehaa.Fx
