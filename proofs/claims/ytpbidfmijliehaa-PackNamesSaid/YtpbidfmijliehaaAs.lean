/- The calls of the document's reader, walked. -/
import Derived.Test.YtpbidfmijliehaaProg
import Derived.Test.YtpbidfmijliehaaAr
set_option linter.unusedVariables false
set_option linter.unusedSimpArgs false
namespace Go.Proofs.Ytpbidfmijliehaa.Fx
open Go Go.RowKit
theorem rdG_le {most : Nat} : ∀ {s : List Nat} {k n a j : Nat}, rdG most k n s = some (a, j) → a ≤ most ∧ k < j ∧ j ≤ k + s.length
  | [], _, _, _, _, h => by simp [rdG] at h
  | c :: s, k, n, a, j, h => by
    rw [rdG] at h
    split at h
    · cases h
    · split at h
      · have := rdG_le h
        simp
        omega
      · split at h
        · cases h
        · cases h
          simp
          omega
theorem rd_le {most : Nat} {s : List Nat} {a j : Nat} (h : rd most s = some (a, j)) : a ≤ most ∧ 0 < j ∧ j ≤ s.length := by
  have := rdG_le h
  omega
/-- a number of a reader that may be spoilt -/
def rq (lost : Bool) (most : Nat) (s : List Nat) : Option (Nat × Nat) := if lost = true then none else rd most s
def rz (lost : Bool) (most : Int) (s : List Nat) : Option (Nat × Nat) := if lost = true ∨ most < 0 then none else rd most.toNat s
theorem rq_le {lost : Bool} {most : Nat} {s : List Nat} : upV (rq lost most s) ≤ most := by
  unfold rq
  split
  · exact Nat.zero_le _
  · cases h : rd most s with
    | none => exact Nat.zero_le _
    | some r => obtain ⟨a, j⟩ := r; exact (rd_le h).1
structure RdOk (l : List Nat) (at0 : Nat) : Prop where
  by' : By l
  len : l.length ≤ 1000000000
  at' : at0 ≤ l.length
theorem zupto_any (o : Option Addr) (c : Nat) (l : List Nat) (p at0 most : Nat) (lost : Bool) (w : World) (k : RdOk l at0) (hm : most < 18446744073709551616) (h : ZR o c l p at0 lost w) :
    Calls Try.prog 69 #[.pointer (some ⟨p, 0, none⟩), .int .u64 (most : Int)] w (UpPost o c l p at0 (rq lost most (l.drop at0)) w) := by
  cases lost with
  | true =>
    refine (upto_lost o c l p at0 most w h).mono ?_
    rintro e w' ⟨rfl, rfl⟩
    exact ⟨rfl, h, World.grownBy.refl _ _⟩
  | false => exact upto_go o c l p at0 most _ w (Lib.hid rfl) (Lib.hid k.by') (Lib.hid hm) (Lib.hid k.len) (Lib.hid k.at') h
/-- what a number's call answers and does -/
def NumPost (o : Option Addr) (c : Nat) (l : List Nat) (p at0 : Nat) (r : Option (Nat × Nat)) (v : Value) (w : World) (e : Ending) (w' : World) : Prop :=
  e = .returned v ∧ ZR o c l p (upA r at0) (upB r) w' ∧ w.grownBy w' (some p)
set_option maxHeartbeats 1000000 in
theorem zruint_any (o : Option Addr) (c : Nat) (l : List Nat) (p at0 : Nat) (lost : Bool) (w : World) (k : RdOk l at0) (h : ZR o c l p at0 lost w) :
    Calls Try.prog 50 #[.pointer (some ⟨p, 0, none⟩)] w (NumPost o c l p at0 (rq lost 18446744073709551615 (l.drop at0)) (.int .u64 ((upV (rq lost 18446744073709551615 (l.drop at0)) : Nat) : Int)) w) := by
  have HU := Lib.hid (zupto_any o c l p at0 18446744073709551615 lost w k (by omega) h)
  clear k h
  generalize rq lost 18446744073709551615 (l.drop at0) = r at *
  obtain ⟨a, ha⟩ : ∃ a, upV r = a := ⟨_, rfl⟩
  have HA := Lib.hid ha
  rw [ha]
  clear ha
  go_enter Try.func50, Try.ntmps50
  go_wp2_with fail
  refine HU.out.mono ?_
  rintro e w1 ⟨rfl, hz, hg⟩
  rw [HA.out]
  have HZ := Lib.hid hz
  have HG := Lib.hid hg
  clear hz hg HU
  go_wp2_with fail
  go_ret
  exact ⟨rfl, HZ.out, HG.out⟩
/-- a number without a sign as a signed one -/
def unf (n : Nat) : Int := if n % 2 = 0 then ((n / 2 : Nat) : Int) else -((n / 2 : Nat) : Int) - 1
theorem unfolded_any (n : Nat) (hn : n < 18446744073709551616) (w : World) :
    Calls Try.prog 70 #[.int .u64 (n : Int)] w fun e w' => e = .returned (.int .i64 (unf n)) ∧ w = w' := by
  obtain ⟨m, hm⟩ : ∃ m, n / 2 = m := ⟨_, rfl⟩
  have e1 : ((n : Int) / 2) = (m : Int) := by omega
  have m0 : (0 : Int) ≤ (m : Int) := by omega
  have m1 : (m : Int) ≤ 9223372036854775807 := by omega
  have HM := Lib.hid hm
  by_cases h : n % 2 = 0
  · have hu : unf n = (m : Int) := by unfold unf; rw [if_pos h, hm]
    have t1 : (n : Int) % 2 = 0 := by omega
    rw [hu]
    clear hm hn h hu
    go_enter Try.func70, Try.ntmps70
    go_wp2_with fail
    go_ret
    exact ⟨rfl, rfl⟩
  · have hu : unf n = -(m : Int) - 1 := by unfold unf; rw [if_neg h, hm]
    have t1 : ((n : Int) % 2 == 0) = false := by simp; omega
    have t2 : ¬ (n : Int) % 2 = 0 := by omega
    rw [hu]
    clear hm hn h hu
    go_enter Try.func70, Try.ntmps70
    go_wp2_with fail
    go_ret
    exact ⟨rfl, rfl⟩
set_option maxHeartbeats 1000000 in
theorem zrint_any (o : Option Addr) (c : Nat) (l : List Nat) (p at0 : Nat) (lost : Bool) (w : World) (k : RdOk l at0) (h : ZR o c l p at0 lost w) :
    Calls Try.prog 51 #[.pointer (some ⟨p, 0, none⟩)] w (NumPost o c l p at0 (rq lost 18446744073709551615 (l.drop at0)) (.int .i64 (unf (upV (rq lost 18446744073709551615 (l.drop at0))))) w) := by
  have HU := Lib.hid (zruint_any o c l p at0 lost w k h)
  have hle : upV (rq lost 18446744073709551615 (l.drop at0)) ≤ 18446744073709551615 := rq_le
  clear k h
  generalize rq lost 18446744073709551615 (l.drop at0) = r at *
  have HN := Lib.hid (fun w => unfolded_any (upV r) (by omega) w)
  clear hle
  obtain ⟨a, ha⟩ : ∃ a, upV r = a := ⟨_, rfl⟩
  have HA := Lib.hid ha
  rw [ha] at HU HN ⊢
  clear ha
  go_enter Try.func51, Try.ntmps51
  go_wp2_with fail
  refine HU.out.mono ?_
  rintro e w1 ⟨rfl, hz, hg⟩
  have HZ := Lib.hid hz
  have HG := Lib.hid hg
  clear hz hg HU
  go_wp2_with fail
  refine (HN.out _).mono ?_
  rintro e w2 ⟨rfl, rfl⟩
  go_wp2_with fail
  go_ret
  exact ⟨rfl, HZ.out, HG.out⟩
set_option maxHeartbeats 1000000 in
theorem zrsmall_any (o : Option Addr) (c : Nat) (l : List Nat) (p at0 : Nat) (most : Int) (lost : Bool) (w : World) (k : RdOk l at0) (h1 : most ≤ 9223372036854775807) (h : ZR o c l p at0 lost w) :
    Calls Try.prog 52 #[.pointer (some ⟨p, 0, none⟩), .int .i64 most] w (NumPost o c l p at0 (rz lost most (l.drop at0)) (.int .i64 ((upV (rz lost most (l.drop at0)) : Nat) : Int)) w) := by
  by_cases h0 : most < 0
  · have hr : rz lost most (l.drop at0) = none := if_pos (Or.inr h0)
    rw [hr]
    obtain ⟨c0, c1, c2, f1, f2⟩ := h.facts
    have HZ := Lib.hid (h.put2 true)
    have HG := Lib.hid (grown_cell w p 2 (.bool true))
    clear h k hr
    go_enter Try.func52, Try.ntmps52
    go_wp2_with fail
    go_ret
    exact ⟨rfl, HZ.out, HG.out⟩
  · obtain ⟨N, hN⟩ : ∃ N : Nat, most = (N : Int) := ⟨most.toNat, by omega⟩
    subst hN
    have hr : rz lost (N : Int) (l.drop at0) = rq lost N (l.drop at0) := by
      have hn : ¬ (N : Int) < 0 := by omega
      unfold rz rq
      cases lost
      · rw [if_neg (by simp [hn]), if_neg (by simp)]; rfl
      · rw [if_pos (by simp), if_pos (by simp)]
    rw [hr]
    have HU := Lib.hid (zupto_any o c l p at0 N lost w k (by omega) h)
    have hle : upV (rq lost N (l.drop at0)) ≤ N := rq_le
    have hw : IntKind.u64.wrap (N : Int) = (N : Int) := by rw [IntKind.wrap_u64]; omega
    clear k h hr
    generalize rq lost N (l.drop at0) = r at *
    obtain ⟨a, ha⟩ : ∃ a, upV r = a := ⟨_, rfl⟩
    have HA := Lib.hid ha
    rw [ha] at hle ⊢
    have hw2 : IntKind.i64.wrap (a : Int) = (a : Int) := by rw [IntKind.wrap_i64]; omega
    have HW2 := Lib.hid hw2
    have n0 : (0 : Int) ≤ (N : Int) := by omega
    clear ha hle hw2
    go_enter Try.func52, Try.ntmps52
    go_wp2_with fail
    refine HU.out.mono ?_
    rintro e w1 ⟨rfl, hz, hg⟩
    rw [HA.out]
    have HZ := Lib.hid hz
    have HG := Lib.hid hg
    have hw3 := HW2.out
    clear hz hg HU hw h1
    go_wp2_with fail
    go_ret
    exact ⟨rfl, HZ.out, HG.out⟩
set_option maxHeartbeats 1000000 in
theorem zrbit_any (o : Option Addr) (c : Nat) (l : List Nat) (p at0 : Nat) (lost : Bool) (w : World) (k : RdOk l at0) (h : ZR o c l p at0 lost w) :
    Calls Try.prog 53 #[.pointer (some ⟨p, 0, none⟩)] w (NumPost o c l p at0 (rq lost 1 (l.drop at0)) (.bool (upV (rq lost 1 (l.drop at0)) == 1)) w) := by
  have HU := Lib.hid (zupto_any o c l p at0 1 lost w k (by omega) h)
  have hle : upV (rq lost 1 (l.drop at0)) ≤ 1 := rq_le
  clear k h
  generalize rq lost 1 (l.drop at0) = r at *
  obtain ⟨a, ha⟩ : ∃ a, upV r = a := ⟨_, rfl⟩
  have HA := Lib.hid ha
  rw [ha] at hle ⊢
  clear ha
  go_enter Try.func53, Try.ntmps53
  go_wp2_with fail
  refine HU.out.mono ?_
  rintro e w1 ⟨rfl, hz, hg⟩
  rw [HA.out]
  have HZ := Lib.hid hz
  have HG := Lib.hid hg
  clear hz hg HU
  obtain rfl | rfl : a = 0 ∨ a = 1 := by omega
  · go_wp2_with fail
    go_ret
    exact ⟨rfl, HZ.out, HG.out⟩
  · go_wp2_with fail
    go_ret
    exact ⟨rfl, HZ.out, HG.out⟩
end Go.Proofs.Ytpbidfmijliehaa.Fx
