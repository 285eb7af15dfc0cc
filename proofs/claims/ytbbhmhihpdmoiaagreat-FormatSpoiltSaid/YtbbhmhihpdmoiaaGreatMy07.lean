import Derived.Laws.Rows
import Derived.Test.YtbbhmhihpdmoiaaGreatProg
import Derived.WalkKit
import Derived.ProofKit
import Derived.OpenShut
import Derived.Carry
import Derived.Deep.Slices
import Derived.Lib.SmallJoins
import Derived.Defers
import Derived.Recover
import Derived.Test.YtbbhmhihpdmoiaaGreatMy00
import Derived.Test.YtbbhmhihpdmoiaaGreatMy03
import Derived.Test.YtbbhmhihpdmoiaaGreatMy04
import Derived.Test.YtbbhmhihpdmoiaaGreatMy06
/- The calls of pack's reader that take numbers, walked; a new one. -/
set_option linter.unusedVariables false
set_option linter.unusedSimpArgs false
namespace Go.Proofs.YtbbhmhihpdmoiaaGreat.Pk
open Go Go.RowKit
/-- what a number's call answers and does -/
def PNum (o : Option Addr) (c : Nat) (l : List Nat) (p at0 : Nat) (r : Option (Nat × Nat)) (v : Value) (w : World) (e : Ending) (w' : World) : Prop :=
  e = .returned v ∧ PR o c l p (upA r at0) (upB r) w' ∧ w.grownBy w' (some p)
theorem ask_u (n left : Nat) (w : World) : Calls Tryz.prog 137 #[.int .u64 (n : Int), .int .i64 (left : Int)] w fun e w' => e = .returned (.bool true) ∧ w = w' := by
  go_enter Tryz.func137, Tryz.ntmps137
  go_wp2_with fail
  go_ret
  exact ⟨rfl, rfl⟩
theorem tk_u (lost : Bool) (l : List Nat) (at0 : Nat) : tkR lost (fun _ _ => true) l at0 = rq lost 18446744073709551615 (l.drop at0) := by
  unfold tkR rq
  cases lost
  · show (match rd M64 (l.drop at0) with | none => none | some (n, j) => if true = true then some (n, j) else none) = rd M64 (l.drop at0)
    cases rd M64 (l.drop at0) with
    | none => rfl
    | some r => rfl
  · rfl
set_option maxHeartbeats 1000000 in
theorem pruint_any (o : Option Addr) (c : Nat) (l : List Nat) (p at0 : Nat) (lost : Bool) (w : World) (k : RdOk l at0) (h : PR o c l p at0 lost w) :
    Calls Tryz.prog 111 #[.pointer (some ⟨p, 0, none⟩)] w (PNum o c l p at0 (rq lost 18446744073709551615 (l.drop at0)) (.int .u64 ((upV (rq lost 18446744073709551615 (l.drop at0)) : Nat) : Int)) w) := by
  have HU := take_u o c l p at0 lost w k h (fun _ _ => true) (Lib.hid (fun n left W _ _ _ => ask_u n left W))
  rw [tk_u] at HU
  have HU := Lib.hid HU
  clear k h
  generalize rq lost 18446744073709551615 (l.drop at0) = r at *
  obtain ⟨a, ha⟩ : ∃ a, upV r = a := ⟨_, rfl⟩
  have HA := Lib.hid ha
  rw [ha]
  clear ha
  go_enter Tryz.func111, Tryz.ntmps111
  go_wp2_with fail
  refine HU.out.mono ?_
  rintro e w1 ⟨rfl, hz, hg⟩
  rw [HA.out]
  have HZ := Lib.hid hz
  have HG := Lib.hid hg
  clear hz hg HU
  go_wp2_with fail
  go_ret
  exact ⟨rfl, HZ.out, HG.out⟩
theorem signed_any (n : Nat) (hn : n < 18446744073709551616) (w : World) :
    Calls Tryz.prog 110 #[.int .u64 (n : Int)] w fun e w' => e = .returned (.int .i64 (unf n)) ∧ w = w' := by
  obtain ⟨m, hm⟩ : ∃ m, n / 2 = m := ⟨_, rfl⟩
  have e1 : ((n : Int) / 2) = (m : Int) := by omega
  have m0 : (0 : Int) ≤ (m : Int) := by omega
  have m1 : (m : Int) ≤ 9223372036854775807 := by omega
  have hw : IntKind.i64.wrap (m : Int) = (m : Int) := by rw [IntKind.wrap_i64]; omega
  have HM := Lib.hid hm
  by_cases h : n % 2 = 0
  · have hu : unf n = (m : Int) := by unfold unf; rw [if_pos h, hm]
    have t1 : ¬ (n : Int) % 2 = 1 := by omega
    rw [hu]
    clear hm hn h hu
    go_enter Tryz.func110, Tryz.ntmps110
    go_wp2_with fail
    go_ret
    exact ⟨rfl, rfl⟩
  · have hu : unf n = -(m : Int) - 1 := by unfold unf; rw [if_neg h, hm]
    have t1 : (n : Int) % 2 = 1 := by omega
    have hw1 : IntKind.i64.wrap (-(m : Int)) = -(m : Int) := by rw [IntKind.wrap_i64]; omega
    have hw2 : IntKind.i64.wrap (-(m : Int) - 1) = -(m : Int) - 1 := by rw [IntKind.wrap_i64]; omega
    rw [hu]
    clear hm hn h hu
    go_enter Tryz.func110, Tryz.ntmps110
    go_wp2_with fail
    go_ret
    exact ⟨rfl, rfl⟩
set_option maxHeartbeats 1000000 in
theorem print_any (o : Option Addr) (c : Nat) (l : List Nat) (p at0 : Nat) (lost : Bool) (w : World) (k : RdOk l at0) (h : PR o c l p at0 lost w) :
    Calls Tryz.prog 80 #[.pointer (some ⟨p, 0, none⟩)] w (PNum o c l p at0 (rq lost 18446744073709551615 (l.drop at0)) (.int .i64 (unf (upV (rq lost 18446744073709551615 (l.drop at0))))) w) := by
  have HU := Lib.hid (pruint_any o c l p at0 lost w k h)
  have hle : upV (rq lost 18446744073709551615 (l.drop at0)) ≤ 18446744073709551615 := rq_le
  clear k h
  generalize rq lost 18446744073709551615 (l.drop at0) = r at *
  have HN := Lib.hid (fun w => signed_any (upV r) (by omega) w)
  clear hle
  obtain ⟨a, ha⟩ : ∃ a, upV r = a := ⟨_, rfl⟩
  have HA := Lib.hid ha
  rw [ha] at HU HN ⊢
  clear ha
  go_enter Tryz.func80, Tryz.ntmps80
  go_wp2_with fail
  refine HU.out.mono ?_
  rintro e w1 ⟨rfl, hz, hg⟩
  have HZ := Lib.hid hz
  have HG := Lib.hid hg
  clear hz hg HU
  go_wp2_with fail
  refine (HN.out _).mono ?_
  rintro e w2 ⟨rfl, rfl⟩
  go_wp2_with fail
  go_ret
  exact ⟨rfl, HZ.out, HG.out⟩
/-- a number and its limit -/
def upT (most : Int) (n : Nat) : Bool := decide (0 ≤ most ∧ (n : Int) ≤ most)
theorem upTo_any (most : Int) (n : Nat) (w : World) (hn : n < 18446744073709551616) (h1 : most ≤ 9223372036854775807) :
    Calls Tryz.prog 91 #[.int .u64 (n : Int), .int .i64 most] w fun e w' => e = .returned (.bool (upT most n)) ∧ w = w' := by
  by_cases h0 : 0 ≤ most
  · have hw : IntKind.u64.wrap most = most := by rw [IntKind.wrap_u64]; omega
    by_cases hle : (n : Int) ≤ most
    · rw [show upT most n = true from decide_eq_true ⟨h0, hle⟩]
      go_enter Tryz.func91, Tryz.ntmps91
      go_wp2_with fail
      go_ret
      exact ⟨rfl, rfl⟩
    · rw [show upT most n = false from decide_eq_false (by omega)]
      have d1 : decide ((n : Int) ≤ most) = false := decide_eq_false hle
      go_enter Tryz.func91, Tryz.ntmps91
      go_wp2_with fail
      go_ret
      exact ⟨rfl, rfl⟩
  · rw [show upT most n = false from decide_eq_false (by omega)]
    have d0 : decide (0 ≤ most) = false := decide_eq_false h0
    go_enter Tryz.func91, Tryz.ntmps91
    go_wp2_with fail
    go_ret
    exact ⟨rfl, rfl⟩
theorem ask_s (most : Int) (q n left : Nat) (w : World) (hn : n < 18446744073709551616) (h1 : most ≤ 9223372036854775807) (hc : w.cell? ⟨q, 0, none⟩ = some (.int .i64 most)) :
    Calls Tryz.prog 90 #[.int .u64 (n : Int), .int .i64 (left : Int), .pointer (some ⟨q, 0, none⟩)] w fun e w' => e = .returned (.bool (upT most n)) ∧ w = w' := by
  have HU := Lib.hid (upTo_any most n w hn h1)
  clear hn h1
  generalize upT most n = b at *
  go_enter Tryz.func90, Tryz.ntmps90
  go_wp2_with fail
  refine HU.out.mono ?_
  rintro e w1 ⟨rfl, rfl⟩
  go_wp2_with fail
  go_ret
  exact ⟨rfl, rfl⟩
theorem tk_s (lost : Bool) (most : Int) (l : List Nat) (at0 : Nat) (h1 : most ≤ 9223372036854775807) : tkR lost (fun n _ => upT most n) l at0 = rz lost most (l.drop at0) := by
  unfold tkR rz
  cases lost
  · by_cases h0 : most < 0
    · rw [if_neg (by simp), if_pos (Or.inr h0)]
      have hu : ∀ n, upT most n = false := fun n => decide_eq_false (by omega)
      cases rd M64 (l.drop at0) with
      | none => rfl
      | some r => simp [hu]
    · rw [if_neg (by simp), if_neg (by simp; omega), rd_most _ (show most.toNat ≤ M64 by unfold M64; omega)]
      cases rd M64 (l.drop at0) with
      | none => rfl
      | some r =>
        obtain ⟨n, j⟩ := r
        dsimp only
        by_cases hle : n ≤ most.toNat
        · rw [if_pos hle, if_pos (show upT most n = true from decide_eq_true (by omega))]
        · rw [if_neg hle, if_neg (by rw [show upT most n = false from decide_eq_false (by omega)]; simp)]
  · rw [if_pos rfl, if_pos (Or.inl rfl)]
theorem rz_le {lost : Bool} {most : Int} {s : List Nat} : upV (rz lost most s) ≤ most.toNat := by
  unfold rz
  split
  · exact Nat.zero_le _
  · cases h : rd most.toNat s with
    | none => exact Nat.zero_le _
    | some r => obtain ⟨a, j⟩ := r; exact (rd_le h).1
set_option maxRecDepth 100000 in
set_option maxHeartbeats 1000000 in
theorem prsmall_any (o : Option Addr) (c : Nat) (l : List Nat) (p at0 : Nat) (most : Int) (lost : Bool) (w : World) (k : RdOk l at0) (h1 : most ≤ 9223372036854775807) (h : PR o c l p at0 lost w) :
    Calls Tryz.prog 50 #[.pointer (some ⟨p, 0, none⟩), .int .i64 most] w (PNum o c l p at0 (rz lost most (l.drop at0)) (.int .i64 ((upV (rz lost most (l.drop at0)) : Nat) : Int)) w) := by
  obtain ⟨W1, hW1⟩ : ∃ W1, w.alloc (.cells #[.int .i64 most] 3) = W1 := ⟨_, rfl⟩
  have hb : Below w.heap.size w W1 := by rw [← hW1]; exact (Below.refl _ w).alloc (Nat.le_refl _) _
  have hq : W1.cell? ⟨w.heap.size, 0, none⟩ = some (.int .i64 most) := by rw [← hW1, cell_of_row _ _ _ _ _ _ (heap_alloc_new _ _)]; rfl
  have HU := take_s o c l p at0 lost W1 k (h.below hb) w.heap.size (fun n _ => upT most n) (Lib.hid (fun n left W hB hn _ => ask_s most w.heap.size n left W hn h1 (keep_cell hB hq)))
  rw [tk_s lost most l at0 h1] at HU
  have HU := Lib.hid HU
  have hle : upV (rz lost most (l.drop at0)) ≤ most.toNat := rz_le
  have HB := Lib.hid hb
  have HW1 := Lib.hid hW1
  clear k h hb hW1 hq
  generalize rz lost most (l.drop at0) = r at *
  obtain ⟨a, ha⟩ : ∃ a, upV r = a := ⟨_, rfl⟩
  have HA := Lib.hid ha
  rw [ha] at hle ⊢
  have hw2 : IntKind.i64.wrap (a : Int) = (a : Int) := by rw [IntKind.wrap_i64]; omega
  clear ha hle h1
  go_enter Tryz.func50, Tryz.ntmps50
  go_wp2_with fail
  rw [HW1.out]
  refine HU.out.mono ?_
  rintro e w1 ⟨rfl, hz, hg⟩
  rw [HA.out]
  have HZ := Lib.hid hz
  have HG := Lib.hid ((below_grown HB.out (some p)).trans hg)
  clear hz hg HU HB
  go_wp2_with fail
  go_ret
  exact ⟨rfl, HZ.out, HG.out⟩
set_option maxRecDepth 100000 in
set_option maxHeartbeats 1000000 in
theorem pend_any (o : Option Addr) (c : Nat) (l : List Nat) (p at0 : Nat) (lost : Bool) (w : World) (k : RdOk l at0) (h : PR o c l p at0 lost w) :
    Calls Tryz.prog 44 #[.pointer (some ⟨p, 0, none⟩)] w fun e w' => e = .returned (.int .i64 (endV lost l.length at0)) ∧ Below w.heap.size w w' := by
  have HL := Lib.hid (pleft_any o c l p at0 lost w k h)
  have HH := Lib.hid h
  have k2 := k.at'
  have HV : Hid (endV lost l.length at0 = if 0 < lfV lost l at0 then 50 else fl true lost) := Lib.hid (by
    unfold endV lfV fl
    cases lost
    · simp
      split <;> split <;> first | rfl | omega
    · simp)
  rw [HV.out]
  clear h k HV
  by_cases g : 0 < lfV lost l at0
  · rw [if_pos g]
    have g2 : (0 : Int) < ((lfV lost l at0 : Nat) : Int) := by omega
    generalize lfV lost l at0 = z at *
    go_enter Tryz.func44, Tryz.ntmps44
    go_wp2_with fail
    refine HL.out.mono ?_
    rintro e w1 ⟨rfl, hb⟩
    have HB := Lib.hid hb
    clear hb HL
    go_wp2_with fail
    go_ret
    exact ⟨rfl, HB.out⟩
  · rw [if_neg g]
    have g2 : ¬ (0 : Int) < ((lfV lost l at0 : Nat) : Int) := by omega
    generalize lfV lost l at0 = z at *
    generalize hfl : fl true lost = y at *
    have HFL := Lib.hid hfl
    clear hfl
    go_enter Tryz.func44, Tryz.ntmps44
    go_wp2_with fail
    refine HL.out.mono ?_
    rintro e w1 ⟨rfl, hb⟩
    obtain ⟨c0, c1, _, _, _, _⟩ := (HH.out.below hb).facts
    have HF := reader_fault p true lost w1 c0 c1
    rw [HFL.out] at HF
    have HF := Lib.hid HF
    have HB := Lib.hid hb
    clear hb HL c0 c1
    go_wp2_with fail
    refine HF.out.mono ?_
    rintro e w2 ⟨rfl, rfl⟩
    go_wp2_with fail
    go_ret
    exact ⟨rfl, HB.out⟩
set_option maxRecDepth 100000 in
set_option maxHeartbeats 1000000 in
theorem new_reader (o : Option Addr) (c : Nat) (l : List Nat) (w : World) (hc : o = none → c = 0) (hlen : l.length ≤ 1000000000) (hb : Bs w o l) :
    Calls Tryz.prog 73 #[.slice o l.length c] w fun e w' => ∃ p o2 c2, e = .returned (.pointer (some ⟨p, 0, none⟩)) ∧ PR o2 c2 l p 0 false w' ∧ w.heap.size ≤ p ∧ (∀ b off, o2 = some ⟨b, off, none⟩ → w.heap.size ≤ b) ∧ Below w.heap.size w w' := by
  have HC := Lib.hid (clone_any o c l w hc hlen hb)
  clear hc hlen hb
  go_enter Tryz.func73, Tryz.ntmps73
  go_wp2_with fail
  refine HC.out.mono ?_
  rintro e w1 ⟨⟨v, rfl, ho⟩, hb⟩
  obtain ⟨o2, c2, rfl, hbs, hle, hup, hn0, hblk⟩ := ho.open
  have HOK : Hid (Sok o2 c2 l ∧ (∀ b off, o2 = some ⟨b, off, none⟩ → w.heap.size ≤ b)) := Lib.hid ⟨⟨hle, hup, hn0, fun a ha => by obtain ⟨g, rfl, _⟩ := hblk a ha; rfl⟩, fun b off hx => by obtain ⟨g, e, h1, _⟩ := hblk _ hx; cases e; exact h1⟩
  have HB := Lib.hid hb
  have HBS := Lib.hid hbs
  clear hb hbs hle hup hn0 hblk ho HC
  go_wp2_with fail
  go_ret
  refine ⟨w1.heap.size, o2, c2, rfl, ⟨heap_alloc_new _ _, HBS.out.below ((Below.refl _ _).alloc (Nat.le_refl _) _), HOK.out.1⟩, HB.out.size, HOK.out.2, HB.out.alloc HB.out.size _⟩
end Go.Proofs.YtbbhmhihpdmoiaaGreat.Pk


/- The document's reader's Text, walked. -/
set_option linter.unusedVariables false
set_option linter.unusedSimpArgs false
namespace Go.Proofs.YtbbhmhihpdmoiaaGreat.Pk
open Go.Proofs.YtbbhmhihpdmoiaaGreat.Fx (below_mono give_done give_no give_pure give_region give_step)
open Go Go.RowKit
end Go.Proofs.YtbbhmhihpdmoiaaGreat.Pk


/- pack's reader's Text, walked. -/
set_option linter.unusedVariables false
set_option linter.unusedSimpArgs false
namespace Go.Proofs.YtbbhmhihpdmoiaaGreat.Pk
open Go.Proofs.YtbbhmhihpdmoiaaGreat.Fx (below_mono give_done give_pure give_region give_step)
open Go Go.RowKit
end Go.Proofs.YtbbhmhihpdmoiaaGreat.Pk


/- The statements' helpers, walked: what calls write; the first examples. -/
set_option linter.unusedVariables false
set_option linter.unusedSimpArgs false
namespace Go.Proofs.YtbbhmhihpdmoiaaGreat.Pk
open Go Go.RowKit
end Go.Proofs.YtbbhmhihpdmoiaaGreat.Pk


/- Calls as a parameter: a slice of structs with bytes in them, opened. -/
set_option linter.unusedVariables false
namespace Go.Proofs.YtbbhmhihpdmoiaaGreat.Pk
open Go Go.RowKit Go.ChangeShapes Go.WideShapes
/-- a call -/
structure OpR where
  kind : Int
  u : Int
  i : Int
  n : Int
  most : Int
  is : Bool
  bo : Option Addr
  bl : List Nat
  bc : Nat
/-- a call lies at a place -/
structure OpAt (W : World) (b j : Nat) (x : OpR) : Prop where
  c0 : W.cell? ⟨b, j, none⟩ = some (.int .i64 x.kind)
  c1 : W.cell? ⟨b, j + 1, none⟩ = some (.int .u64 x.u)
  c2 : W.cell? ⟨b, j + 2, none⟩ = some (.int .i64 x.i)
  c3 : W.cell? ⟨b, j + 3, none⟩ = some (.int .i64 x.n)
  c4 : W.cell? ⟨b, j + 4, none⟩ = some (.int .i64 x.most)
  c5 : W.cell? ⟨b, j + 5, none⟩ = some (.bool x.is)
  c6 : W.cell? ⟨b, j + 6, none⟩ = some (.slice x.bo x.bl.length x.bc)
  bs : Bs W x.bo x.bl
structure OpWf (x : OpR) : Prop where
  kind : -9223372036854775808 ≤ x.kind ∧ x.kind ≤ 9223372036854775807
  u : 0 ≤ x.u ∧ x.u < 18446744073709551616
  i : -9223372036854775808 ≤ x.i ∧ x.i ≤ 9223372036854775807
  n : -9223372036854775808 ≤ x.n ∧ x.n ≤ 9223372036854775807
  most : -9223372036854775808 ≤ x.most ∧ x.most ≤ 9223372036854775807
  by' : By x.bl
  len : x.bl.length ≤ x.bc ∧ x.bc ≤ 9223372036854775807
  none' : x.bo = none → x.bc = 0
  spot : 0 < x.bc → ∀ a, x.bo = some a → a.spot = none
def OpsAt (W : World) (o : Option Addr) (xs : List OpR) : Prop := ∀ k x, xs[k]? = some x → ∃ b off, o = some ⟨b, off, none⟩ ∧ OpAt W b (off + k * 7) x ∧ OpWf x
theorem OpAt.below {w W : World} {b j : Nat} {x : OpR} (hb : Below w.heap.size w W) (h : OpAt w b j x) : OpAt W b j x :=
  ⟨keep_cell hb h.c0, keep_cell hb h.c1, keep_cell hb h.c2, keep_cell hb h.c3, keep_cell hb h.c4, keep_cell hb h.c5, keep_cell hb h.c6, h.bs.below hb⟩
theorem OpsAt.below {w W : World} {o : Option Addr} {xs : List OpR} (hb : Below w.heap.size w W) (h : OpsAt w o xs) : OpsAt W o xs := fun k x hk => by
  obtain ⟨b, off, e, ha, hw⟩ := h k x hk
  exact ⟨b, off, e, ha.below hb, hw⟩
theorem laidOut : laidOutB Tryz.prog = true := by kernel_rfl
section
variable {H : Type} {enc : TypeId × Value → H} {w : World} {base : Nat} {held : Bool}
end
end Go.Proofs.YtbbhmhihpdmoiaaGreat.Pk


/- Are calls more than statements go through: walked. -/
set_option linter.unusedVariables false
set_option linter.unusedSimpArgs false
namespace Go.Proofs.YtbbhmhihpdmoiaaGreat.Pk
open Go Go.RowKit
end Go.Proofs.YtbbhmhihpdmoiaaGreat.Pk


/- What PackBack writes, plain; and reads. -/
set_option linter.unusedVariables false
set_option linter.unusedSimpArgs false
namespace Go.Proofs.YtbbhmhihpdmoiaaGreat.Pk
open Go Go.RowKit
theorem Turn.below {p : Nat} {v v' : Value} {l : List Nat} {lost : Bool} {w W X : World} (t : Turn p v v' W X) (hb : Below w.heap.size w W) (hp : w.heap.size ≤ p) (hw : PW w.heap.size p v l lost W) : Below w.heap.size w X :=
  ⟨t.os.trans hb.os, t.tape.trans hb.tape, t.output.trans hb.output, Nat.le_trans hb.size t.size, fun k hk => (t.block k (Nat.lt_of_lt_of_le hk hb.size) (by omega) (fun h => by have := hw.own.blk k h; omega)).trans (hb.block k hk)⟩
theorem PW.mono {B C p : Nat} {v : Value} {l : List Nat} {lost : Bool} {W : World} (hB : B ≤ C) (h : PW C p v l lost W) : PW B p v l lost W := ⟨h.row, h.own.mono hB⟩
end Go.Proofs.YtbbhmhihpdmoiaaGreat.Pk


/- PackAgain, walked. -/
set_option linter.unusedVariables false
set_option linter.unusedSimpArgs false
namespace Go.Proofs.YtbbhmhihpdmoiaaGreat.Pk
open Go.Proofs.YtbbhmhihpdmoiaaGreat.Fx (below_mono give_done give_pure give_region)
open Go Go.RowKit
theorem PW.grown {B p : Nat} {v : Value} {l : List Nat} {lost : Bool} {W X : World} {row : Option Nat} (h : PW B p v l lost W) (hg : W.grownBy X row) (hp : some p ≠ row) (hr : ∀ k, v.ownBlock = some k → some k ≠ row) : PW B p v l lost X :=
  ⟨by rw [hg.block p h.lt hp]; exact h.row, h.own.grown hg hr⟩
theorem PR.turn {o : Option Addr} {c : Nat} {l : List Nat} {pr at0 p : Nat} {lost : Bool} {v v' : Value} {W X : World} (h : PR o c l pr at0 lost W) (t : Turn p v v' W X) (hp : pr ≠ p) (hv : v.ownBlock ≠ some pr) (hb : ∀ b off, o = some ⟨b, off, none⟩ → 0 < l.length → b ≠ p ∧ v.ownBlock ≠ some b) : PR o c l pr at0 lost X :=
  ⟨by rw [t.block pr h.lt hp hv]; exact h.row, h.bs.turn t hb, h.ok⟩
/-- the writer, and that its bytes are not the reader's -/
def AW (o2 : Option Addr) (n p : Nat) (l : List Nat) (B : Nat) (W : World) : Prop := ∃ v, PW B p v l false W ∧ ∀ b off, o2 = some ⟨b, off, none⟩ → 0 < n → v.ownBlock ≠ some b
theorem AW.below {o2 : Option Addr} {n p B : Nat} {l : List Nat} {W X : World} (h : AW o2 n p l B W) (hb : Below W.heap.size W X) : AW o2 n p l B X := by
  obtain ⟨v, h1, h2⟩ := h
  exact ⟨v, h1.below hb, h2⟩
theorem AW.read {o2 : Option Addr} {c2 n p B pr at0 : Nat} {l a0 : List Nat} {lost : Bool} {W X : World} (h : AW o2 n p l B W) (hr : PR o2 c2 a0 pr at0 lost W) (hg : W.grownBy X (some pr)) (hne : pr ≠ p) : AW o2 n p l B X := by
  obtain ⟨v, h1, h2⟩ := h
  exact ⟨v, h1.grown hg (fun e => hne (Option.some.inj e).symm) (fun k hk e => h1.own.apart hr.row (by decide) k hk (Option.some.inj e)), h2⟩
end Go.Proofs.YtbbhmhihpdmoiaaGreat.Pk


/- The calls of the document's writer once more: its bytes stay, or are new behind all. -/
set_option linter.unusedVariables false
set_option linter.unusedSimpArgs false
namespace Go.Proofs.YtbbhmhihpdmoiaaGreat.Pk
open Go Go.RowKit
def ZNew (p : Nat) (w w' : World) : Prop := ∀ v x, w.heap[p]? = some (.cells #[v, x] 81 (0, 0)) → ∃ v' x', w'.heap[p]? = some (.cells #[v', x'] 81 (0, 0)) ∧ (v' = v ∨ ∀ k, v'.ownBlock = some k → w.heap.size ≤ k)
theorem ZNew.below {p : Nat} {w w1 w2 : World} (h : ZNew p w1 w2) (hb : Below w.heap.size w w1) (hp : p < w.heap.size) : ZNew p w w2 := fun v x hx => by
  obtain ⟨v', x', h1, h2⟩ := h v x (keep_row hb hx)
  exact ⟨v', x', h1, h2.imp id (fun g k hk => Nat.le_trans hb.size (g k hk))⟩
def ZCallN (B p : Nat) (l : List Nat) (lost : Bool) (w : World) (e : Ending) (w' : World) : Prop := e = .returned undef ∧ ZW B p l lost w' ∧ w.grownBy w' (some p) ∧ ZNew p w w'
end Go.Proofs.YtbbhmhihpdmoiaaGreat.Pk


/- Two writers beside one another, and bytes of the statement's own. -/
set_option linter.unusedVariables false
set_option linter.unusedSimpArgs false
namespace Go.Proofs.YtbbhmhihpdmoiaaGreat.Pk
open Go Go.RowKit
theorem Own.lt {W : World} {B : Nat} {v : Value} {l : List Nat} (s : Own W B v l) : ∀ k, v.ownBlock = some k → k < W.heap.size := by
  intro k hk
  obtain ⟨_, h2⟩ := s
  rcases h2 with ⟨rfl, _⟩ | ⟨g, cap, cur, rfl, hb, hg, _⟩
  · cases hk
  · cases hk
    exact (Array.getElem?_eq_some_iff.1 hg).1
theorem Own.turn {W X : World} {B p : Nat} {u v v' : Value} {l : List Nat} (s : Own W B u l) (t : Turn p v v' W X) (hp : ∀ k, u.ownBlock = some k → k ≠ p ∧ v.ownBlock ≠ some k) : Own X B u l := by
  obtain ⟨h1, h2⟩ := s
  refine ⟨h1, ?_⟩
  rcases h2 with h2 | ⟨g, cap, cur, rfl, hb, hg, h3⟩
  · exact .inl h2
  · obtain ⟨a, b⟩ := hp g rfl
    exact .inr ⟨g, cap, cur, rfl, hb, by rw [t.block g (Array.getElem?_eq_some_iff.1 hg).1 a b]; exact hg, h3⟩
/-- the program's writer, the document's, and bytes vo: none of them is where another one is -/
structure TW (B p z : Nat) (v vz vo : Value) (l l2 m : List Nat) (lost lost2 : Bool) (W : World) : Prop where
  pw : PW B p v l lost W
  zrow : W.heap[z]? = some (.cells #[vz, .bool lost2] 81 (0, 0))
  zown : Own W B vz l2
  own : Own W B vo m
  d1 : ∀ k, v.ownBlock = some k → vz.ownBlock ≠ some k
  d2 : ∀ k, vo.ownBlock = some k → v.ownBlock ≠ some k ∧ vz.ownBlock ≠ some k
  ne : p ≠ z
def WI (B p z : Nat) (vo : Value) (l m : List Nat) (lost : Bool) (W : World) : Prop := ∃ v vz, TW B p z v vz vo l l m lost lost W
def WM (B p z : Nat) (vo : Value) (l l2 m : List Nat) (lost lost2 : Bool) (W : World) : Prop := ∃ v vz, TW B p z v vz vo l l2 m lost lost2 W
theorem TW.below {B p z : Nat} {v vz vo : Value} {l l2 m : List Nat} {lost lost2 : Bool} {W X : World} (s : TW B p z v vz vo l l2 m lost lost2 W) (h : Below W.heap.size W X) : TW B p z v vz vo l l2 m lost lost2 X :=
  ⟨s.pw.below h, keep_row h s.zrow, s.zown.below h, s.own.below h, s.d1, s.d2, s.ne⟩
theorem WI.below {B p z : Nat} {vo : Value} {l m : List Nat} {lost : Bool} {W X : World} (s : WI B p z vo l m lost W) (h : Below W.heap.size W X) : WI B p z vo l m lost X := by
  obtain ⟨v, vz, s⟩ := s
  exact ⟨v, vz, s.below h⟩
/-- behind a call of the program's writer -/
theorem TW.one {B p z : Nat} {v vz vo : Value} {l l2 l3 m : List Nat} {lost lost2 lost3 : Bool} {W X : World} {e : Ending} (s : TW B p z v vz vo l l2 m lost lost2 W) (h : PCall B p v l3 lost3 W e X) : WM B p z vo l3 l2 m lost3 lost2 X := by
  obtain ⟨_, v', hp, t⟩ := h
  have a1 := s.zown.apart s.pw.row (by decide)
  have hown := s.own
  have a2 := hown.apart s.pw.row (by decide)
  have a3 := s.pw.own.apart s.zrow (by decide)
  refine ⟨v', vz, hp, ?_, s.zown.turn t (fun k hk => ⟨a1 k hk, fun h => s.d1 k h hk⟩), hown.turn t (fun k hk => ⟨a2 k hk, (s.d2 k hk).1⟩), fun k hk => ?_, fun k hk => ⟨fun h => ?_, (s.d2 k hk).2⟩, s.ne⟩
  · rw [t.block z (Array.getElem?_eq_some_iff.1 s.zrow).1 (Ne.symm s.ne) (fun h => a3 z h rfl)]
    exact s.zrow
  · rcases t.own k hk with h | h
    · exact s.d1 k h
    · intro h2
      have := s.zown.lt k h2
      omega
  · rcases t.own k h with h | h
    · exact (s.d2 k hk).1 h
    · have := hown.lt k hk
      omega
/-- behind a call of the document's writer -/
theorem TW.two {B p z : Nat} {v vz vo : Value} {l l2 l3 m : List Nat} {lost lost2 lost3 : Bool} {W X : World} {e : Ending} (s : TW B p z v vz vo l l2 m lost lost2 W) (h : ZCallN B z l3 lost3 W e X) : WM B p z vo l l3 m lost lost3 X := by
  obtain ⟨_, ⟨v1, hr, ho⟩, hg, hn⟩ := h
  obtain ⟨v2, x2, hr2, hv⟩ := hn _ _ s.zrow
  rw [hr] at hr2
  obtain rfl : v1 = v2 := by
    simp at hr2
    exact hr2.1
  have a1 := s.pw.own.apart s.zrow (by decide)
  have hown := s.own
  have a2 := hown.apart s.zrow (by decide)
  refine ⟨v, v1, s.pw.grown hg (fun e => s.ne (Option.some.inj e)) (fun k hk e => a1 k hk (Option.some.inj e)), hr, ho, hown.grown hg (fun k hk e => a2 k hk (Option.some.inj e)), fun k hk => ?_, fun k hk => ⟨(s.d2 k hk).1, ?_⟩, s.ne⟩
  · rcases hv with rfl | hv
    · exact s.d1 k hk
    · intro h
      have h1 := hv k h
      have h2 := s.pw.own.lt k hk
      omega
  · rcases hv with rfl | hv
    · exact (s.d2 k hk).2
    · intro h
      have h1 := hv k h
      have h2 := hown.lt k hk
      omega
/-- a call of both -/
theorem WI.both {B p z : Nat} {vo : Value} {l l3 m : List Nat} {lost lost3 : Bool} {w W : World} {f g : FuncId} {xs ys : Array Value} (s : WI B p z vo l m lost W) (hb : Below w.heap.size w W) (hB : B = w.heap.size) (hp : w.heap.size ≤ p) (hz : w.heap.size ≤ z)
    (h1 : ∀ v, PW B p v l lost W → (∀ k, vo.ownBlock = some k → k ≠ p ∧ v.ownBlock ≠ some k) → Own W B vo m → Calls Tryz.prog f xs W (PCall B p v l3 lost3 W))
    (h2 : ∀ X, Below w.heap.size w X → ZW B z l lost X → Calls Tryz.prog g ys X (ZCallN B z l3 lost3 X)) :
    Calls Tryz.prog f xs W fun e X => e = .returned undef ∧ Below w.heap.size w X ∧ (∀ q cs t fr, W.heap[q]? = some (.cells cs t fr) → t ≠ 5 → q ≠ p → X.heap[q]? = some (.cells cs t fr)) ∧
      Calls Tryz.prog g ys X fun e Y => e = .returned undef ∧ WI B p z vo l3 m lost3 Y ∧ Below w.heap.size w Y ∧ (∀ q cs t fr, W.heap[q]? = some (.cells cs t fr) → t ≠ 5 → q ≠ p → q ≠ z → Y.heap[q]? = some (.cells cs t fr)) := by
  obtain ⟨v, vz, s⟩ := s
  have hown := s.own
  have a2 := hown.apart s.pw.row (by decide)
  refine (h1 v s.pw (fun k hk => ⟨a2 k hk, (s.d2 k hk).1⟩) s.own).mono ?_
  intro e X hX
  have s2 := s.one hX
  obtain ⟨he, v', hp', t⟩ := hX
  have hbX : Below w.heap.size w X := t.below hb hp (hB ▸ s.pw)
  obtain ⟨v2, vz2, s2⟩ := s2
  have kx : ∀ q cs t fr, W.heap[q]? = some (.cells cs t fr) → t ≠ 5 → q ≠ p → X.heap[q]? = some (.cells cs t fr) := fun q cs ty fr hq ht hqp => by
    rw [t.block q (Array.getElem?_eq_some_iff.1 hq).1 hqp (fun h => s.pw.own.apart hq ht q h rfl)]
    exact hq
  refine ⟨he, hbX, kx, (h2 X hbX ⟨vz2, s2.zrow, s2.zown⟩).mono ?_⟩
  intro e Y hY
  have s3 := s2.two hY
  obtain ⟨he, _, hg, _⟩ := hY
  refine ⟨he, s3, hbX.grown hg hbX.size (fun k hk => by cases hk; exact hz), fun q cs ty fr hq ht hqp hqz => ?_⟩
  have hx := kx q cs ty fr hq ht hqp
  rw [hg.block q (Array.getElem?_eq_some_iff.1 hx).1 (fun e => hqz (Option.some.inj e))]
  exact hx
/-- bytes that may be written -/
def Row8 (W : World) (o : Option Addr) (n : Nat) : Prop := ∀ i, i < n → ∃ g, o = some ⟨g, 0, none⟩ ∧ (∃ y : Int, W.cell? ⟨g, i, none⟩ = some (.int .u8 y)) ∧ W.frozen? ⟨g, i, none⟩ = false
theorem Row8.set {W : World} {g n j : Nat} (y : Int) (h : Row8 W (some ⟨g, 0, none⟩) n) : Row8 (W.setCell ⟨g, j, none⟩ (.int .u8 y)) (some ⟨g, 0, none⟩) n := by
  intro i hi
  obtain ⟨g2, e, ⟨x, hx⟩, hf⟩ := h i hi
  cases e
  refine ⟨g, rfl, ?_, by rw [World.frozen?_setCell]; exact hf⟩
  by_cases hij : i = j
  · subst hij
    exact ⟨y, World.cell?_setCell_same' _ _ _ (by rw [hx]; rfl)⟩
  · refine ⟨x, ?_⟩
    rw [World.cell?_setCell_other]
    · exact hx
    · intro e
      cases e
      exact hij rfl
/-- bytes made meanwhile -/
theorem TW.take {B p z : Nat} {v vz vo : Value} {l m : List Nat} {lost : Bool} {W X : World} (s : TW B p z v vz (.slice none 0 0) l l [] lost lost W) (hB : B ≤ W.heap.size) (hb : Below W.heap.size W X) (ho : Own X W.heap.size vo m) : TW B p z v vz vo l l m lost lost X :=
  ⟨s.pw.below hb, keep_row hb s.zrow, s.zown.below hb, ho.mono hB, s.d1, fun k hk => ⟨fun h => by have h1 := s.pw.own.lt k h; have h2 := ho.blk k hk; omega, fun h => by have h1 := s.zown.lt k h; have h2 := ho.blk k hk; omega⟩, s.ne⟩
theorem Row8.grown {W X : World} {o : Option Addr} {n : Nat} {row : Option Nat} (h : Row8 W o n) (hg : W.grownBy X row) (hr : ∀ g, o = some ⟨g, 0, none⟩ → 0 < n → some g ≠ row) : Row8 X o n := by
  intro i hi
  obtain ⟨g, e, ⟨y, hy⟩, hf⟩ := h i hi
  have hne := hr g e (by omega)
  refine ⟨g, e, ⟨y, hg.cell hy hne⟩, ?_⟩
  have hlt := block_lt_of_cell hy
  have hb := hg.block g hlt hne
  simp only [World.frozen?, hb] at hf ⊢
  exact hf
theorem Row8.below {W X : World} {o : Option Addr} {n : Nat} (h : Row8 W o n) (hb : Below W.heap.size W X) : Row8 X o n := h.grown (below_grown hb none) (fun g _ _ h => by cases h)
theorem grown_trans {w w1 w2 : World} {g : Option Nat} (h : w.grownBy w1 g) (k : w1.grownBy w2 g) : w.grownBy w2 g := h.trans k
end Go.Proofs.YtbbhmhihpdmoiaaGreat.Pk


/- pack.Many of numbers with signs, walked. -/
set_option linter.unusedVariables false
set_option linter.unusedSimpArgs false
namespace Go.Proofs.YtbbhmhihpdmoiaaGreat.Pk
open Go Go.RowKit
theorem OwnI.open {W : World} {B : Nat} {v : Value} {l : List Int} (s : OwnI W B v l) : ∃ o cap, v = .slice o l.length cap := by
  obtain ⟨h1, h2⟩ := s
  rcases h2 with ⟨rfl, h0⟩ | ⟨g, cap, cur, rfl, hb, hg, hc, hm, hs, ht⟩
  · exact ⟨none, 0, by rw [h0]⟩
  · exact ⟨_, cap, rfl⟩
/-- in pack.Many: the boxes of the reader and the list, the reader, the list -/
structure MS (o : Option Addr) (c : Nat) (l : List Nat) (p a : Nat) (lost : Bool) (v : Value) (zs : List Int) (w W : World) : Prop where
  box : W.heap[w.heap.size]? = some (.cells #[.pointer (some ⟨p, 0, none⟩)] 90 (0, 0))
  res : W.heap[w.heap.size + 1]? = some (.cells #[v] 196 (0, 0))
  rd : PR o c l p a lost W
  own : OwnI W (w.heap.size + 2) v zs
  grow : w.grownBy W (some p)
theorem MS.facts {o : Option Addr} {c : Nat} {l : List Nat} {p a : Nat} {lost : Bool} {v : Value} {zs : List Int} {w W : World} (s : MS o c l p a lost v zs w W) :
    W.cell? ⟨w.heap.size, 0, none⟩ = some (.pointer (some ⟨p, 0, none⟩)) ∧ W.cell? ⟨w.heap.size + 1, 0, none⟩ = some v ∧ W.frozen? ⟨w.heap.size + 1, 0, none⟩ = false :=
  ⟨(cell_of_row _ _ 0 _ _ _ s.box).trans rfl, (cell_of_row _ _ 0 _ _ _ s.res).trans rfl, frozen_row s.res⟩
/-- a number was read -/
theorem MS.read {o : Option Addr} {c : Nat} {l : List Nat} {p a a2 : Nat} {lost lost2 : Bool} {v : Value} {zs : List Int} {w W X : World} (s : MS o c l p a lost v zs w W) (hp : p < w.heap.size) (hr : PR o c l p a2 lost2 X) (hg : W.grownBy X (some p)) : MS o c l p a2 lost2 v zs w X := by
  refine ⟨?_, ?_, hr, s.own.grown hg (fun k hk e => s.own.apart s.rd.row (by decide) k hk (Option.some.inj e)), s.grow.trans hg⟩
  · rw [hg.block _ (Array.getElem?_eq_some_iff.1 s.box).1 (fun e => by have := Option.some.inj e; omega)]
    exact s.box
  · rw [hg.block _ (Array.getElem?_eq_some_iff.1 s.res).1 (fun e => by have := Option.some.inj e; omega)]
    exact s.res
theorem MS.alloc {o : Option Addr} {c : Nat} {l : List Nat} {p a : Nat} {lost : Bool} {v : Value} {zs : List Int} {w W : World} (s : MS o c l p a lost v zs w W) (ob : Obj) : MS o c l p a lost v zs w (W.alloc ob) :=
  ⟨step_row s.box, step_row s.res, s.rd.below ((Below.refl _ _).alloc (Nat.le_refl _) _), s.own.alloc _, s.grow.trans (below_grown ((Below.refl _ _).alloc (Nat.le_refl _) _) (some p))⟩
/-- a number was put behind -/
theorem MS.app {o : Option Addr} {c : Nat} {l : List Nat} {p a : Nat} {lost : Bool} {v v' : Value} {zs zs' : List Int} {w W X : World} (s : MS o c l p a lost v zs w W) (hp : p < w.heap.size) (hob : ∀ b off, o = some ⟨b, off, none⟩ → 0 < l.length → b < w.heap.size) (ho : OwnI X (w.heap.size + 2) v' zs') (hg : W.grownBy X v.ownBlock) :
    X.heap[w.heap.size + 1]? = some (.cells #[v] 196 (0, 0)) ∧ MS o c l p a lost v' zs' w (X.setCell ⟨w.heap.size + 1, 0, none⟩ v') := by
  have hv := s.own.blk
  have hres : X.heap[w.heap.size + 1]? = some (.cells #[v] 196 (0, 0)) := by
    rw [hg.block _ (Array.getElem?_eq_some_iff.1 s.res).1 (fun e => by have := hv _ e.symm; omega)]
    exact s.res
  have hbox : X.heap[w.heap.size]? = some (.cells #[.pointer (some ⟨p, 0, none⟩)] 90 (0, 0)) := by
    rw [hg.block _ (Array.getElem?_eq_some_iff.1 s.box).1 (fun e => by have := hv _ e.symm; omega)]
    exact s.box
  have hrd : PR o c l p a lost X := s.rd.grown hg (fun e => by have := hv _ e.symm; omega) (fun b off e hm h => by have := hv b h.symm; have := hob b off e hm; omega)
  have hgx : w.grownBy X (some p) := ⟨hg.os.trans s.grow.os, hg.tape.trans s.grow.tape, hg.output.trans s.grow.output, Nat.le_trans s.grow.size hg.size, fun q hq hqp => by
    rw [hg.block q (Nat.lt_of_lt_of_le hq s.grow.size) (fun e => by have := hv q e.symm; omega)]
    exact s.grow.block q hq hqp⟩
  have hc := grown_cell X (w.heap.size + 1) 0 v'
  refine ⟨hres, by rw [heap_setCell_other _ _ _ _ (by show _ ≠ w.heap.size + 1; omega)]; exact hbox, heap_setCell_same _ _ 0 _ _ v' hres, hrd.grown hc (fun e => by have := Option.some.inj e; omega) (fun b off e hm h => by have := Option.some.inj h; have := hob b off e hm; omega),
    ho.grown hc (fun k hk e => by have := ho.blk k hk; have := Option.some.inj e; omega), ?_⟩
  exact ⟨hc.os.trans hgx.os, hc.tape.trans hgx.tape, hc.output.trans hgx.output, Nat.le_trans hgx.size hc.size, fun q hq hqp => by
    rw [hc.block q (Nat.lt_of_lt_of_le hq hgx.size) (fun e => by have := Option.some.inj e; omega)]
    exact hgx.block q hq hqp⟩
/-- the list is struck -/
theorem MS.strike {o : Option Addr} {c : Nat} {l : List Nat} {p a : Nat} {lost : Bool} {v : Value} {zs : List Int} {w W : World} (s : MS o c l p a lost v zs w W) (hp : p < w.heap.size) (hob : ∀ b off, o = some ⟨b, off, none⟩ → 0 < l.length → b < w.heap.size) : MS o c l p a lost (.slice none 0 0) [] w (W.setCell ⟨w.heap.size + 1, 0, none⟩ (.slice none 0 0)) :=
  (s.app (v' := .slice none 0 0) (zs' := []) hp hob (World.ownsRow_nil _ _ _ _) (World.grownBy.refl _ _)).2
theorem OwnI.mono {W : World} {B C : Nat} {v : Value} {l : List Int} (hB : B ≤ C) (s : OwnI W C v l) : OwnI W B v l := by
  obtain ⟨h1, h2⟩ := s
  refine ⟨h1, ?_⟩
  rcases h2 with h2 | ⟨g, cap, cur, e, hb, h3⟩
  · exact Or.inl h2
  · exact Or.inr ⟨g, cap, cur, e, Nat.le_trans hB hb, h3⟩
end Go.Proofs.YtbbhmhihpdmoiaaGreat.Pk

