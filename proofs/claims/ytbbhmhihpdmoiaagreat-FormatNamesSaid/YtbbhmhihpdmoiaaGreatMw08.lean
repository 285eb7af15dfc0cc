import Derived.Laws.Rows
import Derived.Test.YtbbhmhihpdmoiaaGreatProg
import Derived.WalkKit
import Derived.ProofKit
import Derived.OpenShut
import Derived.Carry
import Derived.Deep.Slices
import Derived.Lib.SmallJoins
import Derived.Test.YtbbhmhihpdmoiaaGreatMw00
import Derived.Test.YtbbhmhihpdmoiaaGreatMw04
import Derived.Test.YtbbhmhihpdmoiaaGreatMw07
set_option linter.unusedVariables false
set_option linter.unusedSimpArgs false
namespace Go.Proofs.YtbbhmhihpdmoiaaGreat.Pk
open Go Go.RowKit
def PNum (o : Option Addr) (c : Nat) (l : List Nat) (p at0 : Nat) (r : Option (Nat × Nat)) (v : Value) (w : World) (e : Ending) (w' : World) : Prop :=
 e = .returned v ∧ PR o c l p (upA r at0) (upB r) w' ∧ w.grownBy w' (some p)
theorem ask_u (n left : Nat) (w : World) : Calls Tryz.prog 137 #[.int .u64 (n : Int), .int .i64 (left : Int)] w fun e w' => e = .returned (.bool true) ∧ w = w' := by
 go_enter Tryz.func137, Tryz.ntmps137
 go_wp2_with fail
 go_ret
 exact ⟨rfl, rfl⟩
theorem tk_u (lost : Bool) (l : List Nat) (at0 : Nat) : tkR lost (fun _ _ => true) l at0 = rq lost 18446744073709551615 (l.drop at0) := by
 unfold tkR rq
 cases lost
 ·show (match rd M64 (l.drop at0) with | none => none | some (n, j) => if true = true then some (n, j) else none) = rd M64 (l.drop at0)
  cases rd M64 (l.drop at0) with
  | none => rfl
  | some r => rfl
 ·rfl
set_option maxHeartbeats 1000000 in
theorem pruint_any (o : Option Addr) (c : Nat) (l : List Nat) (p at0 : Nat) (lost : Bool) (w : World) (k : RdOk l at0) (h : PR o c l p at0 lost w) :
  Calls Tryz.prog 111 #[.pointer (some ⟨p, 0, none⟩)] w (PNum o c l p at0 (rq lost 18446744073709551615 (l.drop at0)) (.int .u64 ((upV (rq lost 18446744073709551615 (l.drop at0)) : Nat) : Int)) w) := by
 have HU := take_u o c l p at0 lost w k h (fun _ _ => true) (Lib.hid (fun n left W _ _ _ => ask_u n left W))
 rw [tk_u] at HU
 have HU := Lib.hid HU
 clear k h
 generalize rq lost 18446744073709551615 (l.drop at0) = r at *
 obtain ⟨a, ha⟩ : ∃ a, upV r = a := ⟨_, rfl⟩
 have HA := Lib.hid ha
 rw [ha]
 clear ha
 go_enter Tryz.func111, Tryz.ntmps111
 go_wp2_with fail
 refine HU.out.mono ?_
 rintro e w1 ⟨rfl, hz, hg⟩
 rw [HA.out]
 have HZ := Lib.hid hz
 have HG := Lib.hid hg
 clear hz hg HU
 go_wp2_with fail
 go_ret
 exact ⟨rfl, HZ.out, HG.out⟩
theorem signed_any (n : Nat) (hn : n < 18446744073709551616) (w : World) :
  Calls Tryz.prog 110 #[.int .u64 (n : Int)] w fun e w' => e = .returned (.int .i64 (unf n)) ∧ w = w' := by
 obtain ⟨m, hm⟩ : ∃ m, n / 2 = m := ⟨_, rfl⟩
 have e1 : ((n : Int) / 2) = (m : Int) := by omega
 have m0 : (0 : Int) ≤ (m : Int) := by omega
 have m1 : (m : Int) ≤ 9223372036854775807 := by omega
 have hw : IntKind.i64.wrap (m : Int) = (m : Int) := by rw [IntKind.wrap_i64]; omega
 have HM := Lib.hid hm
 by_cases h : n % 2 = 0
 ·have hu : unf n = (m : Int) := by unfold unf; rw [if_pos h, hm]
  have t1 : ¬ (n : Int) % 2 = 1 := by omega
  rw [hu]
  clear hm hn h hu
  go_enter Tryz.func110, Tryz.ntmps110
  go_wp2_with fail
  go_ret
  exact ⟨rfl, rfl⟩
 ·have hu : unf n = -(m : Int) - 1 := by unfold unf; rw [if_neg h, hm]
  have t1 : (n : Int) % 2 = 1 := by omega
  have hw1 : IntKind.i64.wrap (-(m : Int)) = -(m : Int) := by rw [IntKind.wrap_i64]; omega
  have hw2 : IntKind.i64.wrap (-(m : Int) - 1) = -(m : Int) - 1 := by rw [IntKind.wrap_i64]; omega
  rw [hu]
  clear hm hn h hu
  go_enter Tryz.func110, Tryz.ntmps110
  go_wp2_with fail
  go_ret
  exact ⟨rfl, rfl⟩
set_option maxHeartbeats 1000000 in
theorem print_any (o : Option Addr) (c : Nat) (l : List Nat) (p at0 : Nat) (lost : Bool) (w : World) (k : RdOk l at0) (h : PR o c l p at0 lost w) :
  Calls Tryz.prog 80 #[.pointer (some ⟨p, 0, none⟩)] w (PNum o c l p at0 (rq lost 18446744073709551615 (l.drop at0)) (.int .i64 (unf (upV (rq lost 18446744073709551615 (l.drop at0))))) w) := by
 have HU := Lib.hid (pruint_any o c l p at0 lost w k h)
 have hle : upV (rq lost 18446744073709551615 (l.drop at0)) ≤ 18446744073709551615 := rq_le
 clear k h
 generalize rq lost 18446744073709551615 (l.drop at0) = r at *
 have HN := Lib.hid (fun w => signed_any (upV r) (by omega) w)
 clear hle
 obtain ⟨a, ha⟩ : ∃ a, upV r = a := ⟨_, rfl⟩
 have HA := Lib.hid ha
 rw [ha] at HU HN ⊢
 clear ha
 go_enter Tryz.func80, Tryz.ntmps80
 go_wp2_with fail
 refine HU.out.mono ?_
 rintro e w1 ⟨rfl, hz, hg⟩
 have HZ := Lib.hid hz
 have HG := Lib.hid hg
 clear hz hg HU
 go_wp2_with fail
 refine (HN.out _).mono ?_
 rintro e w2 ⟨rfl, rfl⟩
 go_wp2_with fail
 go_ret
 exact ⟨rfl, HZ.out, HG.out⟩
def upT (most : Int) (n : Nat) : Bool := decide (0 ≤ most ∧ (n : Int) ≤ most)
theorem upTo_any (most : Int) (n : Nat) (w : World) (hn : n < 18446744073709551616) (h1 : most ≤ 9223372036854775807) :
  Calls Tryz.prog 91 #[.int .u64 (n : Int), .int .i64 most] w fun e w' => e = .returned (.bool (upT most n)) ∧ w = w' := by
 by_cases h0 : 0 ≤ most
 ·have hw : IntKind.u64.wrap most = most := by rw [IntKind.wrap_u64]; omega
  by_cases hle : (n : Int) ≤ most
  ·rw [show upT most n = true from decide_eq_true ⟨h0, hle⟩]
   go_enter Tryz.func91, Tryz.ntmps91
   go_wp2_with fail
   go_ret
   exact ⟨rfl, rfl⟩
  ·rw [show upT most n = false from decide_eq_false (by omega)]
   have d1 : decide ((n : Int) ≤ most) = false := decide_eq_false hle
   go_enter Tryz.func91, Tryz.ntmps91
   go_wp2_with fail
   go_ret
   exact ⟨rfl, rfl⟩
 ·rw [show upT most n = false from decide_eq_false (by omega)]
  have d0 : decide (0 ≤ most) = false := decide_eq_false h0
  go_enter Tryz.func91, Tryz.ntmps91
  go_wp2_with fail
  go_ret
  exact ⟨rfl, rfl⟩
theorem ask_s (most : Int) (q n left : Nat) (w : World) (hn : n < 18446744073709551616) (h1 : most ≤ 9223372036854775807) (hc : w.cell? ⟨q, 0, none⟩ = some (.int .i64 most)) :
  Calls Tryz.prog 90 #[.int .u64 (n : Int), .int .i64 (left : Int), .pointer (some ⟨q, 0, none⟩)] w fun e w' => e = .returned (.bool (upT most n)) ∧ w = w' := by
 have HU := Lib.hid (upTo_any most n w hn h1)
 clear hn h1
 generalize upT most n = b at *
 go_enter Tryz.func90, Tryz.ntmps90
 go_wp2_with fail
 refine HU.out.mono ?_
 rintro e w1 ⟨rfl, rfl⟩
 go_wp2_with fail
 go_ret
 exact ⟨rfl, rfl⟩
theorem tk_s (lost : Bool) (most : Int) (l : List Nat) (at0 : Nat) (h1 : most ≤ 9223372036854775807) : tkR lost (fun n _ => upT most n) l at0 = rz lost most (l.drop at0) := by
 unfold tkR rz
 cases lost
 ·by_cases h0 : most < 0
  ·rw [if_neg (by simp), if_pos (Or.inr h0)]
   have hu : ∀ n, upT most n = false := fun n => decide_eq_false (by omega)
   cases rd M64 (l.drop at0) with
   | none => rfl
   | some r => simp [hu]
  ·rw [if_neg (by simp), if_neg (by simp; omega), rd_most _ (show most.toNat ≤ M64 by unfold M64; omega)]
   cases rd M64 (l.drop at0) with
   | none => rfl
   | some r =>
    obtain ⟨n, j⟩ := r
    dsimp only
    by_cases hle : n ≤ most.toNat
    ·rw [if_pos hle, if_pos (show upT most n = true from decide_eq_true (by omega))]
    ·rw [if_neg hle, if_neg (by rw [show upT most n = false from decide_eq_false (by omega)]; simp)]
 ·rw [if_pos rfl, if_pos (Or.inl rfl)]
theorem rz_le {lost : Bool} {most : Int} {s : List Nat} : upV (rz lost most s) ≤ most.toNat := by
 unfold rz
 split
 ·exact Nat.zero_le _
 ·cases h : rd most.toNat s with
  | none => exact Nat.zero_le _
  | some r => obtain ⟨a, j⟩ := r; exact (rd_le h).1
set_option maxRecDepth 100000 in
set_option maxHeartbeats 1000000 in
theorem prsmall_any (o : Option Addr) (c : Nat) (l : List Nat) (p at0 : Nat) (most : Int) (lost : Bool) (w : World) (k : RdOk l at0) (h1 : most ≤ 9223372036854775807) (h : PR o c l p at0 lost w) :
  Calls Tryz.prog 50 #[.pointer (some ⟨p, 0, none⟩), .int .i64 most] w (PNum o c l p at0 (rz lost most (l.drop at0)) (.int .i64 ((upV (rz lost most (l.drop at0)) : Nat) : Int)) w) := by
 obtain ⟨W1, hW1⟩ : ∃ W1, w.alloc (.cells #[.int .i64 most] 3) = W1 := ⟨_, rfl⟩
 have hb : Below w.heap.size w W1 := by rw [← hW1]; exact (Below.refl _ w).alloc (Nat.le_refl _) _
 have hq : W1.cell? ⟨w.heap.size, 0, none⟩ = some (.int .i64 most) := by rw [← hW1, cell_of_row _ _ _ _ _ _ (heap_alloc_new _ _)]; rfl
 have HU := take_s o c l p at0 lost W1 k (h.below hb) w.heap.size (fun n _ => upT most n) (Lib.hid (fun n left W hB hn _ => ask_s most w.heap.size n left W hn h1 (keep_cell hB hq)))
 rw [tk_s lost most l at0 h1] at HU
 have HU := Lib.hid HU
 have hle : upV (rz lost most (l.drop at0)) ≤ most.toNat := rz_le
 have HB := Lib.hid hb
 have HW1 := Lib.hid hW1
 clear k h hb hW1 hq
 generalize rz lost most (l.drop at0) = r at *
 obtain ⟨a, ha⟩ : ∃ a, upV r = a := ⟨_, rfl⟩
 have HA := Lib.hid ha
 rw [ha] at hle ⊢
 have hw2 : IntKind.i64.wrap (a : Int) = (a : Int) := by rw [IntKind.wrap_i64]; omega
 clear ha hle h1
 go_enter Tryz.func50, Tryz.ntmps50
 go_wp2_with fail
 rw [HW1.out]
 refine HU.out.mono ?_
 rintro e w1 ⟨rfl, hz, hg⟩
 rw [HA.out]
 have HZ := Lib.hid hz
 have HG := Lib.hid ((below_grown HB.out (some p)).trans hg)
 clear hz hg HU HB
 go_wp2_with fail
 go_ret
 exact ⟨rfl, HZ.out, HG.out⟩
set_option maxRecDepth 100000 in
set_option maxHeartbeats 1000000 in
theorem pend_any (o : Option Addr) (c : Nat) (l : List Nat) (p at0 : Nat) (lost : Bool) (w : World) (k : RdOk l at0) (h : PR o c l p at0 lost w) :
  Calls Tryz.prog 44 #[.pointer (some ⟨p, 0, none⟩)] w fun e w' => e = .returned (.int .i64 (endV lost l.length at0)) ∧ Below w.heap.size w w' := by
 have HL := Lib.hid (pleft_any o c l p at0 lost w k h)
 have HH := Lib.hid h
 have k2 := k.at'
 have HV : Hid (endV lost l.length at0 = if 0 < lfV lost l at0 then 50 else fl true lost) := Lib.hid (by
  unfold endV lfV fl
  cases lost
  ·simp
   split <;> split <;> first | rfl | omega
  ·simp)
 rw [HV.out]
 clear h k HV
 by_cases g : 0 < lfV lost l at0
 ·rw [if_pos g]
  have g2 : (0 : Int) < ((lfV lost l at0 : Nat) : Int) := by omega
  generalize lfV lost l at0 = z at *
  go_enter Tryz.func44, Tryz.ntmps44
  go_wp2_with fail
  refine HL.out.mono ?_
  rintro e w1 ⟨rfl, hb⟩
  have HB := Lib.hid hb
  clear hb HL
  go_wp2_with fail
  go_ret
  exact ⟨rfl, HB.out⟩
 ·rw [if_neg g]
  have g2 : ¬ (0 : Int) < ((lfV lost l at0 : Nat) : Int) := by omega
  generalize lfV lost l at0 = z at *
  generalize hfl : fl true lost = y at *
  have HFL := Lib.hid hfl
  clear hfl
  go_enter Tryz.func44, Tryz.ntmps44
  go_wp2_with fail
  refine HL.out.mono ?_
  rintro e w1 ⟨rfl, hb⟩
  obtain ⟨c0, c1, _, _, _, _⟩ := (HH.out.below hb).facts
  have HF := reader_fault p true lost w1 c0 c1
  rw [HFL.out] at HF
  have HF := Lib.hid HF
  have HB := Lib.hid hb
  clear hb HL c0 c1
  go_wp2_with fail
  refine HF.out.mono ?_
  rintro e w2 ⟨rfl, rfl⟩
  go_wp2_with fail
  go_ret
  exact ⟨rfl, HB.out⟩
set_option maxRecDepth 100000 in
set_option maxHeartbeats 1000000 in
theorem new_reader (o : Option Addr) (c : Nat) (l : List Nat) (w : World) (hc : o = none → c = 0) (hlen : l.length ≤ 1000000000) (hb : Bs w o l) :
  Calls Tryz.prog 73 #[.slice o l.length c] w fun e w' => ∃ p o2 c2, e = .returned (.pointer (some ⟨p, 0, none⟩)) ∧ PR o2 c2 l p 0 false w' ∧ w.heap.size ≤ p ∧ (∀ b off, o2 = some ⟨b, off, none⟩ → w.heap.size ≤ b) ∧ Below w.heap.size w w' := by
 have HC := Lib.hid (clone_any o c l w hc hlen hb)
 clear hc hlen hb
 go_enter Tryz.func73, Tryz.ntmps73
 go_wp2_with fail
 refine HC.out.mono ?_
 rintro e w1 ⟨⟨v, rfl, ho⟩, hb⟩
 obtain ⟨o2, c2, rfl, hbs, hle, hup, hn0, hblk⟩ := ho.open
 have HOK : Hid (Sok o2 c2 l ∧ (∀ b off, o2 = some ⟨b, off, none⟩ → w.heap.size ≤ b)) := Lib.hid ⟨⟨hle, hup, hn0, fun a ha => by obtain ⟨g, rfl, _⟩ := hblk a ha; rfl⟩, fun b off hx => by obtain ⟨g, e, h1, _⟩ := hblk _ hx; cases e; exact h1⟩
 have HB := Lib.hid hb
 have HBS := Lib.hid hbs
 clear hb hbs hle hup hn0 hblk ho HC
 go_wp2_with fail
 go_ret
 refine ⟨w1.heap.size, o2, c2, rfl, ⟨heap_alloc_new _ _, HBS.out.below ((Below.refl _ _).alloc (Nat.le_refl _) _), HOK.out.1⟩, HB.out.size, HOK.out.2, HB.out.alloc HB.out.size _⟩
end Go.Proofs.YtbbhmhihpdmoiaaGreat.Pk

set_option linter.unusedVariables false
set_option linter.unusedSimpArgs false
namespace Go.Proofs.YtbbhmhihpdmoiaaGreat.Pk
open Go.Proofs.YtbbhmhihpdmoiaaGreat.Fx (below_mono give_done give_no give_pure give_region give_step)
open Go Go.RowKit
end Go.Proofs.YtbbhmhihpdmoiaaGreat.Pk

set_option linter.unusedVariables false
set_option linter.unusedSimpArgs false
namespace Go.Proofs.YtbbhmhihpdmoiaaGreat.Pk
open Go.Proofs.YtbbhmhihpdmoiaaGreat.Fx (below_mono give_done give_pure give_region give_step)
open Go Go.RowKit
def mayT (most : Int) (n left : Nat) : Bool := upT most n && upT (left : Int) n
theorem ask_t (most : Int) (q n left : Nat) (w : World) (hn : n < 18446744073709551616) (h1 : most ≤ 9223372036854775807) (hl : left ≤ 1000000000) (hc : w.cell? ⟨q, 0, none⟩ = some (.int .i64 most)) :
  Calls Tryz.prog 95 #[.int .u64 (n : Int), .int .i64 (left : Int), .pointer (some ⟨q, 0, none⟩)] w fun e w' => e = .returned (.bool (mayT most n left)) ∧ w = w' := by
 have HU := Lib.hid (upTo_any most n w hn h1)
 have HU2 := Lib.hid (upTo_any (left : Int) n w hn (by omega))
 clear hn h1
 unfold mayT
 generalize upT most n = b at *
 generalize upT (left : Int) n = d at *
 cases b with
 | true =>
  go_enter Tryz.func95, Tryz.ntmps95
  go_wp2_with fail
  refine HU.out.mono ?_
  rintro e w1 ⟨rfl, rfl⟩
  go_wp2_with fail
  refine HU2.out.mono ?_
  rintro e w1 ⟨rfl, rfl⟩
  go_wp2_with fail
  go_ret
  exact ⟨rfl, rfl⟩
 | false =>
  go_enter Tryz.func95, Tryz.ntmps95
  go_wp2_with fail
  refine HU.out.mono ?_
  rintro e w1 ⟨rfl, rfl⟩
  go_wp2_with fail
  go_ret
  exact ⟨rfl, rfl⟩
theorem tk_t (lost : Bool) (most : Int) (l : List Nat) (at0 : Nat) (h1 : most ≤ 9223372036854775807) : tkR lost (mayT most) l at0 = match rz lost most (l.drop at0) with
  | none => none
  | some (n, j) => if n ≤ l.length - (at0 + j) then some (n, j) else none := by
 rw [← tk_s lost most l at0 h1]
 unfold tkR
 cases lost
 ·rw [if_neg (by simp), if_neg (by simp)]
  cases rd M64 (l.drop at0) with
  | none => rfl
  | some r =>
   obtain ⟨n, j⟩ := r
   dsimp only
   have e : upT ((l.length - (at0 + j) : Nat) : Int) n = decide (n ≤ l.length - (at0 + j)) := by
    unfold upT
    congr 1
    apply propext
    constructor
    ·rintro ⟨_, h⟩; omega
    ·intro h; omega
   unfold mayT
   rw [e]
   by_cases hu : upT most n = true
   ·simp [hu]
   ·simp [hu]
 ·rfl
def PTxt (o : Option Addr) (c : Nat) (l : List Nat) (p at0 : Nat) (r : Option (List Nat × Nat)) (w : World) (e : Ending) (w' : World) : Prop :=
 (∃ v, e = .returned v ∧ Own w' w.heap.size v ((r.map (·.1)).getD [])) ∧ PR o c l p (txA r at0) r.isNone w' ∧ w.grownBy w' (some p)
set_option maxRecDepth 100000 in
set_option maxHeartbeats 4000000 in
theorem prtext_any (o : Option Addr) (c : Nat) (l : List Nat) (p at0 : Nat) (most : Int) (lost : Bool) (w : World) (k : RdOk l at0) (h1 : most ≤ 9223372036854775807) (h : PR o c l p at0 lost w) :
  Calls Tryz.prog 57 #[.pointer (some ⟨p, 0, none⟩), .int .i64 most] w (PTxt o c l p at0 (txR lost most l at0) w) := by
 obtain ⟨W1, hW1⟩ : ∃ W1, w.alloc (.cells #[.int .i64 most] 3) = W1 := ⟨_, rfl⟩
 have hb : Below w.heap.size w W1 := by rw [← hW1]; exact (Below.refl _ w).alloc (Nat.le_refl _) _
 have hq : W1.cell? ⟨w.heap.size, 0, none⟩ = some (.int .i64 most) := by rw [← hW1, cell_of_row _ _ _ _ _ _ (heap_alloc_new _ _)]; rfl
 have hu := take_t o c l p at0 lost W1 k (h.below hb) w.heap.size (mayT most) (Lib.hid (fun n left W hB hn hl => ask_t most w.heap.size n left W hn h1 hl (keep_cell hB hq)))
 rw [tk_t lost most l at0 h1] at hu
 have HB := Lib.hid hb
 have HW1 := Lib.hid hW1
 have HOK := Lib.hid h.ok
 have k1 := k.len
 have k2 := k.at'
 have hrz : upV (rz lost most (l.drop at0)) ≤ most.toNat := rz_le
 have hdr : ∀ n j, rz lost most (l.drop at0) = some (n, j) → at0 + j ≤ l.length := fun n j hr => by
  unfold rz at hr
  split at hr
  ·cases hr
  ·have := (rd_le hr).2.2
   simp at this
   omega
 have HL := Lib.hid k.len
 have HDR := Lib.hid hdr
 have HTX : Hid (txR lost most l at0 = match rz lost most (l.drop at0) with | none => none | some (n, j) => if n ≤ l.length - (at0 + j) then some ((l.drop (at0 + j)).take n, j + n) else none) := Lib.hid rfl
 have HU := Lib.hid hu
 obtain ⟨rt, hrt⟩ : ∃ rt, txR lost most l at0 = rt := ⟨_, rfl⟩
 rw [hrt] at HTX ⊢
 clear k h hb hW1 hq hu hdr hrt
 have bad : ∀ (hn : rt = none) (HN : Hid (Calls Tryz.prog 89 #[.pointer (some ⟨p, 0, none⟩), .func (.func 95) #[] #[.pointer (some ⟨w.heap.size, 0, none⟩)]] W1 (TakePost o c l p at0 none W1))),
   Calls Tryz.prog 57 #[.pointer (some ⟨p, 0, none⟩), .int .i64 most] w (PTxt o c l p at0 rt w) := by
  intro hn HN
  subst hn
  clear HU HTX HDR hrz
  go_enter Tryz.func57, Tryz.ntmps57
  go_wp2_with fail
  rw [HW1.out]
  refine HN.out.mono ?_
  rintro e w1 ⟨rfl, hz, hg⟩
  have HZ := Lib.hid hz
  have HG := Lib.hid ((below_grown HB.out (some p)).trans hg)
  clear hz hg HN HB
  simp only [upV]
  go_wp2_with fail
  go_ret
  exact ⟨⟨_, rfl, World.ownsRow_nil _ _ _ _⟩, HZ.out, HG.out⟩
 cases hr : rz lost most (l.drop at0) with
 | none =>
  rw [hr] at HU HTX
  exact bad HTX.out HU
 | some r =>
  obtain ⟨n, j⟩ := r
  rw [hr] at HU HTX hrz
  have hal := HDR.out n j hr
  by_cases hn : n ≤ l.length - (at0 + j)
  ·have hu := HU.out
   have htx := HTX.out
   simp only [if_pos hn] at hu htx
   have HU2 := Lib.hid hu
   have HTX2 := Lib.hid htx
   clear HU HTX HDR bad hu htx hr
   obtain ⟨at1, ha1⟩ : ∃ at1, at0 + j = at1 := ⟨_, rfl⟩
   rw [ha1] at hn hal HTX2
   obtain ⟨mm, hmm⟩ : ∃ mm, (l.drop at1).take n = mm := ⟨_, rfl⟩
   have hml : mm.length = at1 + n - at1 := by rw [← hmm]; simp; omega
   rw [hmm] at HTX2
   have hw2 : IntKind.i64.wrap (n : Int) = (n : Int) := by rw [IntKind.wrap_i64]; omega
   have HML := Lib.hid hml
   have HMM := Lib.hid hmm
   have HNN := Lib.hid hn
   have HAL := Lib.hid hal
   have HA1 := Lib.hid ha1
   have hrt := HTX2.out
   subst hrt
   have hwz := hw2
   clear hmm ha1 hrz HTX2 k1 k2
   by_cases hn0 : n = 0
   ·subst hn0
    have hmm0 : Hid (mm = []) := Lib.hid (List.length_eq_zero_iff.1 (by have := HML.out; omega))
    clear hml hn hal hw2 hwz
    go_enter Tryz.func57, Tryz.ntmps57
    go_wp2_with fail
    rw [HW1.out]
    refine HU2.out.mono ?_
    rintro e w1 ⟨rfl, hz, hg⟩
    have HZ := Lib.hid hz
    have HG := Lib.hid ((below_grown HB.out (some p)).trans hg)
    clear hz hg HU2 HB
    simp only [upV]
    go_wp2_with fail
    go_ret
    exact ⟨⟨_, rfl, by simp only [Option.map_some, Option.getD_some]; rw [hmm0.out]; exact World.ownsRow_nil _ _ _ _⟩, HZ.out, HG.out⟩
   ·have n1 : ¬ (n : Int) = 0 := by omega
    have HSUM : Hid (IntKind.i64.wrap ((at1 : Int) + (n : Int)) = (at1 : Int) + (n : Int)) := Lib.hid (by have := HL.out; rw [IntKind.wrap_i64]; omega)
    clear hml hn hal hw2
    go_enter Tryz.func57, Tryz.ntmps57
    go_wp2_with fail
    rw [HW1.out]
    refine HU2.out.mono ?_
    rintro e w1 ⟨rfl, hz, hg⟩
    have HZ : Hid (PR o c l p at1 false w1) := Lib.hid (by have h : PR o c l p (at0 + j) false w1 := hz; rw [HA1.out] at h; exact h)
    obtain ⟨c0, c1, c2, c3, f1, f3⟩ := HZ.out.facts
    have HG := Lib.hid ((below_grown HB.out (some p)).trans hg)
    have hsum := HSUM.out
    clear hz hg HU2 HB
    simp only [upV]
    obtain ⟨W3, hW3⟩ : ∃ W3, w1.setCell ⟨p, 3, none⟩ (.int .i64 ((at1 : Int) + (n : Int))) = W3 := ⟨_, rfl⟩
    have hR3 := HZ.out.goto (at1 + n) ((at1 : Int) + (n : Int)) (by omega)
    have hG3 := HG.out.trans (grown_cell _ p 3 (.int .i64 ((at1 : Int) + (n : Int))))
    rw [hW3] at hR3 hG3
    have HR := Lib.hid hR3
    have HGX := Lib.hid hG3
    have HW3 := Lib.hid hW3
    clear HG HZ hR3 hG3 hW3
    have HG := HGX
    clear HGX
    have HSZ : Hid (w.heap.size ≤ W3.heap.size) := Lib.hid HG.out.size
    have HCL : Hid (∀ X : World, Below W3.heap.size W3 X → Calls Tryz.prog 96 #[.slice (cutA o c at1) mm.length (c - at1)] X fun e w' => (∃ v, e = .returned v ∧ Own w' X.heap.size v mm) ∧ Below X.heap.size X w') := Lib.hid (fun X hb => clone_any (cutA o c at1) (c - at1) mm X (fun hn => by
      cases o with
      | none => have := HOK.out.nil rfl; omega
      | some a => cases hn) (by have := HML.out; have := HL.out; have := HNN.out; omega) (by
      have h := (HR.out.below hb).bs.cut (l := at1) (h := at1 + n) (c := c) (by omega) (by have h1 := HNN.out; have h3 := HAL.out; omega) HOK.out.le
      rw [show at1 + n - at1 = n by omega, HMM.out] at h
      exact h))
    go_wp2_with fail
    rw [HW3.out]
    clear c0 c1 c2 c3 f1 f3 HW3
    rename_i K3 hK3
    refine (wpIn_wide (n := 5)).1 (give_region (S := fun X => Below W3.heap.size W3 X) (Z := []) (by kernel_rfl) (by kernel_rfl) below_mono (fun d _ _ _ _ h => by cases d <;> exact h) (bdrew0 _ _ 1) (fun hG vw0 hw0 => ?_))
    refine give_pure [] 0 (?_) hG rfl (by kernel_rfl) hw0 (by kernel_rfl) ?_ ?_
    rotate_left
    ·intro wz hSw; (first | (go_simp; done) | (go_simp; with_reducible rfl))
    intro vw1 hw1
    clear hw0 vw0
    (try simp only [Act.put, List.getElem_toArray, List.getElem_cons_zero, List.getElem_cons_succ, List.setIfInBounds_toArray, List.set_cons_zero, List.set_cons_succ])
    refine give_pure [] 1 (?_) hG rfl (by kernel_rfl) hw1 (by kernel_rfl) ?_ ?_
    rotate_left
    ·intro wz hSw; (first | (go_simp; done) | (go_simp; with_reducible rfl))
    intro vw2 hw2
    clear hw1 vw1
    (try simp only [Act.put, List.getElem_toArray, List.getElem_cons_zero, List.getElem_cons_succ, List.setIfInBounds_toArray, List.set_cons_zero, List.set_cons_succ])
    refine give_pure [] 2 (?_) hG rfl (by kernel_rfl) hw2 (by kernel_rfl) ?_ ?_
    rotate_left
    ·intro wz hSw; (first | (go_simp; done) | (go_simp; with_reducible rfl))
    intro vw3 hw3
    clear hw2 vw2
    (try simp only [Act.put, List.getElem_toArray, List.getElem_cons_zero, List.getElem_cons_succ, List.setIfInBounds_toArray, List.set_cons_zero, List.set_cons_succ])
    refine give_pure [] 3 (?_) hG rfl (by kernel_rfl) hw3 (by kernel_rfl) ?_ ?_
    rotate_left
    ·intro wz hSw; (first | (go_simp; done) | (go_simp; with_reducible rfl))
    intro vw4 hw4
    clear hw3 vw3
    (try simp only [Act.put, List.getElem_toArray, List.getElem_cons_zero, List.getElem_cons_succ, List.setIfInBounds_toArray, List.set_cons_zero, List.set_cons_succ])
    refine give_pure [] 4 (.slice o l.length c) hG rfl (by kernel_rfl) hw4 (by kernel_rfl) ?_ ?_
    ·intro wz hSw; obtain ⟨c0, c1, c2, c3, _, _⟩ := (HR.out.below hSw).facts; (first | (go_simp; done) | (go_simp; with_reducible rfl))
    intro vw5 hw5
    clear hw4 vw4
    (try simp only [Act.put, List.getElem_toArray, List.getElem_cons_zero, List.getElem_cons_succ, List.setIfInBounds_toArray, List.set_cons_zero, List.set_cons_succ])
    refine give_pure [] 5 (?_) hG rfl (by kernel_rfl) hw5 (by kernel_rfl) ?_ ?_
    rotate_left
    ·intro wz hSw; (first | (go_simp; done) | (go_simp; with_reducible rfl))
    intro vw6 hw6
    clear hw5 vw5
    (try simp only [Act.put, List.getElem_toArray, List.getElem_cons_zero, List.getElem_cons_succ, List.setIfInBounds_toArray, List.set_cons_zero, List.set_cons_succ])
    refine give_pure [] 6 (?_) hG rfl (by kernel_rfl) hw6 (by kernel_rfl) ?_ ?_
    rotate_left
    ·intro wz hSw; (first | (go_simp; done) | (go_simp; with_reducible rfl))
    intro vw7 hw7
    clear hw6 vw6
    (try simp only [Act.put, List.getElem_toArray, List.getElem_cons_zero, List.getElem_cons_succ, List.setIfInBounds_toArray, List.set_cons_zero, List.set_cons_succ])
    refine give_pure [] 7 (?_) hG rfl (by kernel_rfl) hw7 (by kernel_rfl) ?_ ?_
    rotate_left
    ·intro wz hSw; (first | (go_simp; done) | (go_simp; with_reducible rfl))
    intro vw8 hw8
    clear hw7 vw7
    (try simp only [Act.put, List.getElem_toArray, List.getElem_cons_zero, List.getElem_cons_succ, List.setIfInBounds_toArray, List.set_cons_zero, List.set_cons_succ])
    refine give_pure [] 8 (?_) hG rfl (by kernel_rfl) hw8 (by kernel_rfl) ?_ ?_
    rotate_left
    ·intro wz hSw; (first | (go_simp; done) | (go_simp; with_reducible rfl))
    intro vw9 hw9
    clear hw8 vw8
    (try simp only [Act.put, List.getElem_toArray, List.getElem_cons_zero, List.getElem_cons_succ, List.setIfInBounds_toArray, List.set_cons_zero, List.set_cons_succ])
    refine give_pure [] 9 (.int .i64 ((at1 + n : Nat) : Int)) hG rfl (by kernel_rfl) hw9 (by kernel_rfl) ?_ ?_
    ·intro wz hSw; obtain ⟨c0, c1, c2, c3, _, _⟩ := (HR.out.below hSw).facts; (first | (go_simp; done) | (go_simp; with_reducible rfl))
    intro vw10 hw10
    clear hw9 vw9
    (try simp only [Act.put, List.getElem_toArray, List.getElem_cons_zero, List.getElem_cons_succ, List.setIfInBounds_toArray, List.set_cons_zero, List.set_cons_succ])
    refine give_pure [] 10 (.slice (cutA o c at1) mm.length (c - at1)) hG rfl (by kernel_rfl) hw10 (by kernel_rfl) ?_ ?_
    ·intro wz hSw; rw [HML.out]; exact exec_cut (.tmp 29) (.tmp 30) (.tmp 34) (by kernel_rfl) o l.length c at1 (at1 + n) (at1 : Int) ((at1 + n : Nat) : Int) rfl rfl (by kernel_rfl) (by kernel_rfl) (by kernel_rfl) (by omega) (by have h1 := HNN.out; have h2 := HOK.out.le; have h3 := HAL.out; omega) HOK.out.nil (fun _ => HOK.out.spot)
    intro vw11 hw11
    clear hw10 vw10
    (try simp only [Act.put, List.getElem_toArray, List.getElem_cons_zero, List.getElem_cons_succ, List.setIfInBounds_toArray, List.set_cons_zero, List.set_cons_succ])
    refine give_step 11 (by kernel_rfl) rfl (fun K hK => ?_)
    go_simp
    refine ⟨trivial, callsIn_wide.2 ((HCL.out _ hw11).mono ?_)⟩
    rintro e wm ⟨⟨v, rfl, hov⟩, hbm⟩
    dsimp only
    have hs2' := below_mono _ _ hw11 hbm
    have hov1 := hov.mono (Nat.le_trans HSZ.out hw11.size)
    refine hK.out _ _ (fun _ => hs2') (fun w3 hb3 => ?_)
    have hS3 := below_mono _ _ hs2' hb3
    have HO3 := Lib.hid (hov1.below hb3)
    clear hK K hov hov1 hbm hs2' hb3 hw11
    (try simp only [Act.put, List.getElem_toArray, List.getElem_cons_zero, List.getElem_cons_succ, List.setIfInBounds_toArray, List.set_cons_zero, List.set_cons_succ])
    refine give_step 12 (by kernel_rfl) rfl (fun K hK => ?_)
    go_simp
    refine hK.out _ _ (fun _ => hS3) (fun w4 hb4 => ?_)
    have hS4 := below_mono _ _ hS3 hb4
    have HO := Lib.hid (HO3.out.below hb4)
    clear hK K hb4 HO3 hS3
    (try simp only [Act.put, List.getElem_toArray, List.getElem_cons_zero, List.getElem_cons_succ, List.setIfInBounds_toArray, List.set_cons_zero, List.set_cons_succ])
    refine give_done (by kernel_rfl) (?_) _
    refine hK3 _ _ ?_
    have HRE := Lib.hid (HR.out.below hS4)
    have HGE := Lib.hid (HG.out.trans (below_grown hS4 (some p)))
    clear hK3 hG HR HG hS4
    go_wp2_with fail
    go_ret
    exact ⟨⟨_, rfl, HO.out⟩, by have h := HRE.out; rw [show at1 + n = at0 + (j + n) by have := HA1.out; omega] at h; exact h, HGE.out⟩
  ·have hu := HU.out
   have htx := HTX.out
   simp only [if_neg hn] at hu htx
   exact bad htx (Lib.hid hu)
end Go.Proofs.YtbbhmhihpdmoiaaGreat.Pk

set_option linter.unusedVariables false
set_option linter.unusedSimpArgs false
namespace Go.Proofs.YtbbhmhihpdmoiaaGreat.Pk
open Go Go.RowKit
end Go.Proofs.YtbbhmhihpdmoiaaGreat.Pk

set_option linter.unusedVariables false
namespace Go.Proofs.YtbbhmhihpdmoiaaGreat.Pk
open Go Go.RowKit Go.ChangeShapes Go.WideShapes
structure OpR where
 kind : Int
 u : Int
 i : Int
 n : Int
 most : Int
 is : Bool
 bo : Option Addr
 bl : List Nat
 bc : Nat
structure OpAt (W : World) (b j : Nat) (x : OpR) : Prop where
 c0 : W.cell? ⟨b, j, none⟩ = some (.int .i64 x.kind)
 c1 : W.cell? ⟨b, j + 1, none⟩ = some (.int .u64 x.u)
 c2 : W.cell? ⟨b, j + 2, none⟩ = some (.int .i64 x.i)
 c3 : W.cell? ⟨b, j + 3, none⟩ = some (.int .i64 x.n)
 c4 : W.cell? ⟨b, j + 4, none⟩ = some (.int .i64 x.most)
 c5 : W.cell? ⟨b, j + 5, none⟩ = some (.bool x.is)
 c6 : W.cell? ⟨b, j + 6, none⟩ = some (.slice x.bo x.bl.length x.bc)
 bs : Bs W x.bo x.bl
structure OpWf (x : OpR) : Prop where
 kind : -9223372036854775808 ≤ x.kind ∧ x.kind ≤ 9223372036854775807
 u : 0 ≤ x.u ∧ x.u < 18446744073709551616
 i : -9223372036854775808 ≤ x.i ∧ x.i ≤ 9223372036854775807
 n : -9223372036854775808 ≤ x.n ∧ x.n ≤ 9223372036854775807
 most : -9223372036854775808 ≤ x.most ∧ x.most ≤ 9223372036854775807
 by' : By x.bl
 len : x.bl.length ≤ x.bc ∧ x.bc ≤ 9223372036854775807
 none' : x.bo = none → x.bc = 0
 spot : 0 < x.bc → ∀ a, x.bo = some a → a.spot = none
def OpsAt (W : World) (o : Option Addr) (xs : List OpR) : Prop := ∀ k x, xs[k]? = some x → ∃ b off, o = some ⟨b, off, none⟩ ∧ OpAt W b (off + k * 7) x ∧ OpWf x
theorem OpAt.below {w W : World} {b j : Nat} {x : OpR} (hb : Below w.heap.size w W) (h : OpAt w b j x) : OpAt W b j x :=
 ⟨keep_cell hb h.c0, keep_cell hb h.c1, keep_cell hb h.c2, keep_cell hb h.c3, keep_cell hb h.c4, keep_cell hb h.c5, keep_cell hb h.c6, h.bs.below hb⟩
theorem OpsAt.below {w W : World} {o : Option Addr} {xs : List OpR} (hb : Below w.heap.size w W) (h : OpsAt w o xs) : OpsAt W o xs := fun k x hk => by
 obtain ⟨b, off, e, ha, hw⟩ := h k x hk
 exact ⟨b, off, e, ha.below hb, hw⟩
section
variable {H : Type} {enc : TypeId × Value → H} {w : World} {base : Nat} {held : Bool}
end
end Go.Proofs.YtbbhmhihpdmoiaaGreat.Pk

set_option linter.unusedVariables false
set_option linter.unusedSimpArgs false
namespace Go.Proofs.YtbbhmhihpdmoiaaGreat.Pk
open Go Go.RowKit
end Go.Proofs.YtbbhmhihpdmoiaaGreat.Pk

set_option linter.unusedVariables false
set_option linter.unusedSimpArgs false
namespace Go.Proofs.YtbbhmhihpdmoiaaGreat.Pk
open Go Go.RowKit
def n16 (n : Int) : Nat := (n % 65536).toNat
theorem n16_le (n : Int) : n16 n ≤ 65535 := by unfold n16; omega
def opB (x : OpR) : List Nat :=
 if x.kind = 0 then form x.u.toNat else if x.kind = 1 then form (fold x.i) else if x.kind = 2 then form (n16 x.n) else if x.kind = 3 then [if x.is = true then 1 else 0] else if x.kind = 4 then form x.bl.length ++ x.bl else []
structure OpS (x : OpR) : Prop where
 wf : OpWf x
 len : x.bl.length ≤ 300
theorem opB_len {x : OpR} (h : OpS x) : (opB x).length ≤ 311 := by
 have hl := h.len
 unfold opB
 split
 ·have := (form_len x.u.toNat).2; omega
 ·split
  ·have := (form_len (fold x.i)).2; omega
  ·split
   ·have := (form_len (n16 x.n)).2; omega
   ·split
    ·simp
    ·split
     ·have := (form_len x.bl.length).2; simp; omega
     ·simp
theorem opB_by {x : OpR} (h : OpS x) : By (opB x) := by
 have hw := h.wf
 have hl := h.len
 unfold opB
 split
 ·exact form_bytes (by have := hw.u; omega)
 ·split
  ·exact form_bytes (fold_lt hw.i.1 hw.i.2)
  ·split
   ·exact form_bytes (by have := n16_le x.n; omega)
   ·split
    ·intro c hc
     simp at hc
     subst hc
     split <;> omega
    ·split
     ·exact (form_bytes (by omega)).append hw.by'
     ·intro c hc; cases hc
theorem flat_len : ∀ {xs : List OpR}, (∀ x ∈ xs, OpS x) → (xs.flatMap opB).length ≤ 311 * xs.length
 | [], _ => by simp
 | x :: xs, h => by
  have h1 := opB_len (h x (by simp))
  have h2 := flat_len (xs := xs) (fun y hy => h y (by simp [hy]))
  simp only [List.flatMap_cons, List.length_append, List.length_cons]
  omega
theorem flat_by : ∀ {xs : List OpR}, (∀ x ∈ xs, OpS x) → By (xs.flatMap opB)
 | [], _ => by intro c hc; cases hc
 | x :: xs, h => by
  rw [List.flatMap_cons]
  exact (opB_by (h x (by simp))).append (flat_by (fun y hy => h y (by simp [hy])))
theorem Turn.below {p : Nat} {v v' : Value} {l : List Nat} {lost : Bool} {w W X : World} (t : Turn p v v' W X) (hb : Below w.heap.size w W) (hp : w.heap.size ≤ p) (hw : PW w.heap.size p v l lost W) : Below w.heap.size w X :=
 ⟨t.os.trans hb.os, t.tape.trans hb.tape, t.output.trans hb.output, Nat.le_trans hb.size t.size, fun k hk => (t.block k (Nat.lt_of_lt_of_le hk hb.size) (by omega) (fun h => by have := hw.own.blk k h; omega)).trans (hb.block k hk)⟩
theorem PW.mono {B C p : Nat} {v : Value} {l : List Nat} {lost : Bool} {W : World} (hB : B ≤ C) (h : PW C p v l lost W) : PW B p v l lost W := ⟨h.row, h.own.mono hB⟩
end Go.Proofs.YtbbhmhihpdmoiaaGreat.Pk
