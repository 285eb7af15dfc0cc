/- The calls of pack's reader that take numbers, walked; a new one. -/
import Derived.Test.YtpbidfmijliehaaProg
import Derived.Test.YtpbidfmijliehaaCe
set_option linter.unusedVariables false
set_option linter.unusedSimpArgs false
namespace Go.Proofs.Ytpbidfmijliehaa.Fx
open Go Go.RowKit
/-- what a number's call answers and does -/
def PNum (o : Option Addr) (c : Nat) (l : List Nat) (p at0 : Nat) (r : Option (Nat × Nat)) (v : Value) (w : World) (e : Ending) (w' : World) : Prop :=
  e = .returned v ∧ PR o c l p (upA r at0) (upB r) w' ∧ w.grownBy w' (some p)
theorem ask_u (n left : Nat) (w : World) : Calls Try.prog 60 #[.int .u64 (n : Int), .int .i64 (left : Int)] w fun e w' => e = .returned (.bool true) ∧ w = w' := by
  go_enter Try.func60, Try.ntmps60
  go_wp2_with fail
  go_ret
  exact ⟨rfl, rfl⟩
theorem tk_u (lost : Bool) (l : List Nat) (at0 : Nat) : tkR lost (fun _ _ => true) l at0 = rq lost 18446744073709551615 (l.drop at0) := by
  unfold tkR rq
  cases lost
  · show (match rd M64 (l.drop at0) with | none => none | some (n, j) => if true = true then some (n, j) else none) = rd M64 (l.drop at0)
    cases rd M64 (l.drop at0) with
    | none => rfl
    | some r => rfl
  · rfl
set_option maxHeartbeats 1000000 in
theorem pruint_any (o : Option Addr) (c : Nat) (l : List Nat) (p at0 : Nat) (lost : Bool) (w : World) (k : RdOk l at0) (h : PR o c l p at0 lost w) :
    Calls Try.prog 29 #[.pointer (some ⟨p, 0, none⟩)] w (PNum o c l p at0 (rq lost 18446744073709551615 (l.drop at0)) (.int .u64 ((upV (rq lost 18446744073709551615 (l.drop at0)) : Nat) : Int)) w) := by
  have HU := take_u o c l p at0 lost w k h (fun _ _ => true) (Lib.hid (fun n left W _ _ _ => ask_u n left W))
  rw [tk_u] at HU
  have HU := Lib.hid HU
  clear k h
  generalize rq lost 18446744073709551615 (l.drop at0) = r at *
  obtain ⟨a, ha⟩ : ∃ a, upV r = a := ⟨_, rfl⟩
  have HA := Lib.hid ha
  rw [ha]
  clear ha
  go_enter Try.func29, Try.ntmps29
  go_wp2_with fail
  refine HU.out.mono ?_
  rintro e w1 ⟨rfl, hz, hg⟩
  rw [HA.out]
  have HZ := Lib.hid hz
  have HG := Lib.hid hg
  clear hz hg HU
  go_wp2_with fail
  go_ret
  exact ⟨rfl, HZ.out, HG.out⟩
theorem signed_any (n : Nat) (hn : n < 18446744073709551616) (w : World) :
    Calls Try.prog 65 #[.int .u64 (n : Int)] w fun e w' => e = .returned (.int .i64 (unf n)) ∧ w = w' := by
  obtain ⟨m, hm⟩ : ∃ m, n / 2 = m := ⟨_, rfl⟩
  have e1 : ((n : Int) / 2) = (m : Int) := by omega
  have m0 : (0 : Int) ≤ (m : Int) := by omega
  have m1 : (m : Int) ≤ 9223372036854775807 := by omega
  have hw : IntKind.i64.wrap (m : Int) = (m : Int) := by rw [IntKind.wrap_i64]; omega
  have HM := Lib.hid hm
  by_cases h : n % 2 = 0
  · have hu : unf n = (m : Int) := by unfold unf; rw [if_pos h, hm]
    have t1 : ¬ (n : Int) % 2 = 1 := by omega
    rw [hu]
    clear hm hn h hu
    go_enter Try.func65, Try.ntmps65
    go_wp2_with fail
    go_ret
    exact ⟨rfl, rfl⟩
  · have hu : unf n = -(m : Int) - 1 := by unfold unf; rw [if_neg h, hm]
    have t1 : (n : Int) % 2 = 1 := by omega
    have hw1 : IntKind.i64.wrap (-(m : Int)) = -(m : Int) := by rw [IntKind.wrap_i64]; omega
    have hw2 : IntKind.i64.wrap (-(m : Int) - 1) = -(m : Int) - 1 := by rw [IntKind.wrap_i64]; omega
    rw [hu]
    clear hm hn h hu
    go_enter Try.func65, Try.ntmps65
    go_wp2_with fail
    go_ret
    exact ⟨rfl, rfl⟩
set_option maxHeartbeats 1000000 in
theorem print_any (o : Option Addr) (c : Nat) (l : List Nat) (p at0 : Nat) (lost : Bool) (w : World) (k : RdOk l at0) (h : PR o c l p at0 lost w) :
    Calls Try.prog 39 #[.pointer (some ⟨p, 0, none⟩)] w (PNum o c l p at0 (rq lost 18446744073709551615 (l.drop at0)) (.int .i64 (unf (upV (rq lost 18446744073709551615 (l.drop at0))))) w) := by
  have HU := Lib.hid (pruint_any o c l p at0 lost w k h)
  have hle : upV (rq lost 18446744073709551615 (l.drop at0)) ≤ 18446744073709551615 := rq_le
  clear k h
  generalize rq lost 18446744073709551615 (l.drop at0) = r at *
  have HN := Lib.hid (fun w => signed_any (upV r) (by omega) w)
  clear hle
  obtain ⟨a, ha⟩ : ∃ a, upV r = a := ⟨_, rfl⟩
  have HA := Lib.hid ha
  rw [ha] at HU HN ⊢
  clear ha
  go_enter Try.func39, Try.ntmps39
  go_wp2_with fail
  refine HU.out.mono ?_
  rintro e w1 ⟨rfl, hz, hg⟩
  have HZ := Lib.hid hz
  have HG := Lib.hid hg
  clear hz hg HU
  go_wp2_with fail
  refine (HN.out _).mono ?_
  rintro e w2 ⟨rfl, rfl⟩
  go_wp2_with fail
  go_ret
  exact ⟨rfl, HZ.out, HG.out⟩
/-- a number and its limit -/
def upT (most : Int) (n : Nat) : Bool := decide (0 ≤ most ∧ (n : Int) ≤ most)
theorem upTo_any (most : Int) (n : Nat) (w : World) (hn : n < 18446744073709551616) (h1 : most ≤ 9223372036854775807) :
    Calls Try.prog 62 #[.int .u64 (n : Int), .int .i64 most] w fun e w' => e = .returned (.bool (upT most n)) ∧ w = w' := by
  by_cases h0 : 0 ≤ most
  · have hw : IntKind.u64.wrap most = most := by rw [IntKind.wrap_u64]; omega
    by_cases hle : (n : Int) ≤ most
    · rw [show upT most n = true from decide_eq_true ⟨h0, hle⟩]
      go_enter Try.func62, Try.ntmps62
      go_wp2_with fail
      go_ret
      exact ⟨rfl, rfl⟩
    · rw [show upT most n = false from decide_eq_false (by omega)]
      have d1 : decide ((n : Int) ≤ most) = false := decide_eq_false hle
      go_enter Try.func62, Try.ntmps62
      go_wp2_with fail
      go_ret
      exact ⟨rfl, rfl⟩
  · rw [show upT most n = false from decide_eq_false (by omega)]
    have d0 : decide (0 ≤ most) = false := decide_eq_false h0
    go_enter Try.func62, Try.ntmps62
    go_wp2_with fail
    go_ret
    exact ⟨rfl, rfl⟩
theorem ask_s (most : Int) (q n left : Nat) (w : World) (hn : n < 18446744073709551616) (h1 : most ≤ 9223372036854775807) (hc : w.cell? ⟨q, 0, none⟩ = some (.int .i64 most)) :
    Calls Try.prog 61 #[.int .u64 (n : Int), .int .i64 (left : Int), .pointer (some ⟨q, 0, none⟩)] w fun e w' => e = .returned (.bool (upT most n)) ∧ w = w' := by
  have HU := Lib.hid (upTo_any most n w hn h1)
  clear hn h1
  generalize upT most n = b at *
  go_enter Try.func61, Try.ntmps61
  go_wp2_with fail
  refine HU.out.mono ?_
  rintro e w1 ⟨rfl, rfl⟩
  go_wp2_with fail
  go_ret
  exact ⟨rfl, rfl⟩
theorem tk_s (lost : Bool) (most : Int) (l : List Nat) (at0 : Nat) (h1 : most ≤ 9223372036854775807) : tkR lost (fun n _ => upT most n) l at0 = rz lost most (l.drop at0) := by
  unfold tkR rz
  cases lost
  · by_cases h0 : most < 0
    · rw [if_neg (by simp), if_pos (Or.inr h0)]
      have hu : ∀ n, upT most n = false := fun n => decide_eq_false (by omega)
      cases rd M64 (l.drop at0) with
      | none => rfl
      | some r => simp [hu]
    · rw [if_neg (by simp), if_neg (by simp; omega), rd_most _ (show most.toNat ≤ M64 by unfold M64; omega)]
      cases rd M64 (l.drop at0) with
      | none => rfl
      | some r =>
        obtain ⟨n, j⟩ := r
        dsimp only
        by_cases hle : n ≤ most.toNat
        · rw [if_pos hle, if_pos (show upT most n = true from decide_eq_true (by omega))]
        · rw [if_neg hle, if_neg (by rw [show upT most n = false from decide_eq_false (by omega)]; simp)]
  · rw [if_pos rfl, if_pos (Or.inl rfl)]
theorem rz_le {lost : Bool} {most : Int} {s : List Nat} : upV (rz lost most s) ≤ most.toNat := by
  unfold rz
  split
  · exact Nat.zero_le _
  · cases h : rd most.toNat s with
    | none => exact Nat.zero_le _
    | some r => obtain ⟨a, j⟩ := r; exact (rd_le h).1
set_option maxRecDepth 100000 in
set_option maxHeartbeats 1000000 in
theorem prsmall_any (o : Option Addr) (c : Nat) (l : List Nat) (p at0 : Nat) (most : Int) (lost : Bool) (w : World) (k : RdOk l at0) (h1 : most ≤ 9223372036854775807) (h : PR o c l p at0 lost w) :
    Calls Try.prog 34 #[.pointer (some ⟨p, 0, none⟩), .int .i64 most] w (PNum o c l p at0 (rz lost most (l.drop at0)) (.int .i64 ((upV (rz lost most (l.drop at0)) : Nat) : Int)) w) := by
  obtain ⟨W1, hW1⟩ : ∃ W1, w.alloc (.cells #[.int .i64 most] 3) = W1 := ⟨_, rfl⟩
  have hb : Below w.heap.size w W1 := by rw [← hW1]; exact (Below.refl _ w).alloc (Nat.le_refl _) _
  have hq : W1.cell? ⟨w.heap.size, 0, none⟩ = some (.int .i64 most) := by rw [← hW1, cell_of_row _ _ _ _ _ _ (heap_alloc_new _ _)]; rfl
  have HU := take_s o c l p at0 lost W1 k (h.below hb) w.heap.size (fun n _ => upT most n) (Lib.hid (fun n left W hB hn _ => ask_s most w.heap.size n left W hn h1 (keep_cell hB hq)))
  rw [tk_s lost most l at0 h1] at HU
  have HU := Lib.hid HU
  have hle : upV (rz lost most (l.drop at0)) ≤ most.toNat := rz_le
  have HB := Lib.hid hb
  have HW1 := Lib.hid hW1
  clear k h hb hW1 hq
  generalize rz lost most (l.drop at0) = r at *
  obtain ⟨a, ha⟩ : ∃ a, upV r = a := ⟨_, rfl⟩
  have HA := Lib.hid ha
  rw [ha] at hle ⊢
  have hw2 : IntKind.i64.wrap (a : Int) = (a : Int) := by rw [IntKind.wrap_i64]; omega
  clear ha hle h1
  go_enter Try.func34, Try.ntmps34
  go_wp2_with fail
  rw [HW1.out]
  refine HU.out.mono ?_
  rintro e w1 ⟨rfl, hz, hg⟩
  rw [HA.out]
  have HZ := Lib.hid hz
  have HG := Lib.hid ((below_grown HB.out (some p)).trans hg)
  clear hz hg HU HB
  go_wp2_with fail
  go_ret
  exact ⟨rfl, HZ.out, HG.out⟩
set_option maxHeartbeats 1000000 in
theorem prbit_any (o : Option Addr) (c : Nat) (l : List Nat) (p at0 : Nat) (lost : Bool) (w : World) (k : RdOk l at0) (h : PR o c l p at0 lost w) :
    Calls Try.prog 31 #[.pointer (some ⟨p, 0, none⟩)] w (PNum o c l p at0 (rq lost 1 (l.drop at0)) (.bool (upV (rq lost 1 (l.drop at0)) == 1)) w) := by
  have HU := prsmall_any o c l p at0 1 lost w k (by omega) h
  have hr : rz lost 1 (l.drop at0) = rq lost 1 (l.drop at0) := by
    unfold rz rq
    cases lost
    · rw [if_neg (by simp), if_neg (by simp)]; rfl
    · rw [if_pos (by simp), if_pos (by simp)]
  rw [hr] at HU
  have HU := Lib.hid HU
  have hle : upV (rq lost 1 (l.drop at0)) ≤ 1 := rq_le
  clear k h hr
  generalize rq lost 1 (l.drop at0) = r at *
  obtain ⟨a, ha⟩ : ∃ a, upV r = a := ⟨_, rfl⟩
  rw [ha] at hle HU ⊢
  clear ha
  go_enter Try.func31, Try.ntmps31
  go_wp2_with fail
  refine HU.out.mono ?_
  rintro e w1 ⟨rfl, hz, hg⟩
  have HZ := Lib.hid hz
  have HG := Lib.hid hg
  clear hz hg HU
  obtain rfl | rfl : a = 0 ∨ a = 1 := by omega
  · go_wp2_with fail
    go_ret
    exact ⟨rfl, HZ.out, HG.out⟩
  · go_wp2_with fail
    go_ret
    exact ⟨rfl, HZ.out, HG.out⟩
theorem left_eq {lost : Bool} {l : List Nat} {at0 : Nat} (h : at0 ≤ l.length) : ((lfV lost l at0 : Nat) : Int) = leftV lost l.length at0 := by
  unfold lfV leftV
  split <;> omega
set_option maxRecDepth 100000 in
set_option maxHeartbeats 1000000 in
theorem pend_any (o : Option Addr) (c : Nat) (l : List Nat) (p at0 : Nat) (lost : Bool) (w : World) (k : RdOk l at0) (h : PR o c l p at0 lost w) :
    Calls Try.prog 23 #[.pointer (some ⟨p, 0, none⟩)] w fun e w' => e = .returned (.int .i64 (endV lost l.length at0)) ∧ Below w.heap.size w w' := by
  have HL := Lib.hid (pleft_any o c l p at0 lost w k h)
  have HH := Lib.hid h
  have k2 := k.at'
  have HV : Hid (endV lost l.length at0 = if 0 < lfV lost l at0 then 50 else fl true lost) := Lib.hid (by
    unfold endV lfV fl
    cases lost
    · simp
      split <;> split <;> first | rfl | omega
    · simp)
  rw [HV.out]
  clear h k HV
  by_cases g : 0 < lfV lost l at0
  · rw [if_pos g]
    have g2 : (0 : Int) < ((lfV lost l at0 : Nat) : Int) := by omega
    generalize lfV lost l at0 = z at *
    go_enter Try.func23, Try.ntmps23
    go_wp2_with fail
    refine HL.out.mono ?_
    rintro e w1 ⟨rfl, hb⟩
    have HB := Lib.hid hb
    clear hb HL
    go_wp2_with fail
    go_ret
    exact ⟨rfl, HB.out⟩
  · rw [if_neg g]
    have g2 : ¬ (0 : Int) < ((lfV lost l at0 : Nat) : Int) := by omega
    generalize lfV lost l at0 = z at *
    generalize hfl : fl true lost = y at *
    have HFL := Lib.hid hfl
    clear hfl
    go_enter Try.func23, Try.ntmps23
    go_wp2_with fail
    refine HL.out.mono ?_
    rintro e w1 ⟨rfl, hb⟩
    obtain ⟨c0, c1, _, _, _, _⟩ := (HH.out.below hb).facts
    have HF := reader_fault p true lost w1 c0 c1
    rw [HFL.out] at HF
    have HF := Lib.hid HF
    have HB := Lib.hid hb
    clear hb HL c0 c1
    go_wp2_with fail
    refine HF.out.mono ?_
    rintro e w2 ⟨rfl, rfl⟩
    go_wp2_with fail
    go_ret
    exact ⟨rfl, HB.out⟩
set_option maxRecDepth 100000 in
set_option maxHeartbeats 1000000 in
theorem new_reader (o : Option Addr) (c : Nat) (l : List Nat) (w : World) (hc : o = none → c = 0) (hlen : l.length ≤ 1000000000) (hb : Bs w o l) :
    Calls Try.prog 21 #[.slice o l.length c] w fun e w' => ∃ p o2 c2, e = .returned (.pointer (some ⟨p, 0, none⟩)) ∧ PR o2 c2 l p 0 false w' ∧ w.heap.size ≤ p ∧ (∀ b off, o2 = some ⟨b, off, none⟩ → w.heap.size ≤ b) ∧ Below w.heap.size w w' := by
  have HC := Lib.hid (clone_any o c l w hc hlen hb)
  clear hc hlen hb
  go_enter Try.func21, Try.ntmps21
  go_wp2_with fail
  refine HC.out.mono ?_
  rintro e w1 ⟨⟨v, rfl, ho⟩, hb⟩
  obtain ⟨o2, c2, rfl, hbs, hle, hup, hn0, hblk⟩ := ho.open
  have HOK : Hid (Sok o2 c2 l ∧ (∀ b off, o2 = some ⟨b, off, none⟩ → w.heap.size ≤ b)) := Lib.hid ⟨⟨hle, hup, hn0, fun a ha => by obtain ⟨g, rfl, _⟩ := hblk a ha; rfl⟩, fun b off hx => by obtain ⟨g, e, h1, _⟩ := hblk _ hx; cases e; exact h1⟩
  have HB := Lib.hid hb
  have HBS := Lib.hid hbs
  clear hb hbs hle hup hn0 hblk ho HC
  go_wp2_with fail
  go_ret
  refine ⟨w1.heap.size, o2, c2, rfl, ⟨heap_alloc_new _ _, HBS.out.below ((Below.refl _ _).alloc (Nat.le_refl _) _), HOK.out.1⟩, HB.out.size, HOK.out.2, HB.out.alloc HB.out.size _⟩
end Go.Proofs.Ytpbidfmijliehaa.Fx
