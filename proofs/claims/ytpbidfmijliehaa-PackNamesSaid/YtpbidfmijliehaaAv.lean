/- The document's reader's Text, walked. -/
import Derived.Test.YtpbidfmijliehaaProg
import Derived.Test.YtpbidfmijliehaaAu
set_option linter.unusedVariables false
set_option linter.unusedSimpArgs false
namespace Go.Proofs.Ytpbidfmijliehaa.Fx
open Go Go.RowKit
set_option maxRecDepth 100000 in
set_option maxHeartbeats 4000000 in
theorem zrtext_any (o : Option Addr) (c : Nat) (l : List Nat) (p at0 : Nat) (most : Int) (lost : Bool) (w : World) (k : RdOk l at0) (h1 : most ≤ 9223372036854775807) (hq : l.length ≤ c ∧ (o = none → c = 0)) (hsp : 0 < c → ∀ a, o = some a → a.spot = none) (h : ZR o c l p at0 lost w) :
    Calls Try.prog 54 #[.pointer (some ⟨p, 0, none⟩), .int .i64 most] w (TxtPost o c l p at0 (txR lost most l at0) w) := by
  obtain ⟨c0, c1, c2, _, _⟩ := h.facts
  have HS := Lib.hid (zrsmall_any o c l p at0 most lost w k h1 h)
  have k1 := k.len
  have HP0 := Lib.hid h.lt
  obtain ⟨r, hr⟩ : ∃ r, rz lost most (l.drop at0) = r := ⟨_, rfl⟩
  have HRZ := Lib.hid hr
  rw [hr] at HS
  clear h hr h1
  cases r with
  | none =>
    have HR : Hid (txR lost most l at0 = none) := Lib.hid (by unfold txR; rw [HRZ.out])
    clear HRZ k k1
    go_enter Try.func54, Try.ntmps54
    go_wp2_with fail
    refine HS.out.mono ?_
    rintro e w1 ⟨rfl, hz, hg⟩
    have HZ : Hid (ZR o c l p at0 true w1) := Lib.hid hz
    have HG := Lib.hid hg
    clear hz hg HS c0 c1 c2
    go_wp2_with fail
    rename_i K3 hK3
    refine (wpIn_wide (n := 5)).1 (give_region (S := fun X => Below w1.heap.size w1 X) (Z := []) (by kernel_rfl) (by kernel_rfl) below_mono (fun d _ _ _ _ h => by cases d <;> exact h) (bdrew0 _ _ 1) (fun hG vw0 hw0 => ?_))
    refine give_pure [] 0 (?_) hG rfl (by kernel_rfl) hw0 (by kernel_rfl) ?_ ?_
    rotate_left
    · intro wz hSw; (first | (go_simp; done) | (go_simp; with_reducible rfl))
    intro vw1 hw1
    clear hw0 vw0
    (try simp only [Act.put, List.getElem_toArray, List.getElem_cons_zero, List.getElem_cons_succ, List.setIfInBounds_toArray, List.set_cons_zero, List.set_cons_succ])
    refine give_pure [] 1 (?_) hG rfl (by kernel_rfl) hw1 (by kernel_rfl) ?_ ?_
    rotate_left
    · intro wz hSw; (first | (go_simp; done) | (go_simp; with_reducible rfl))
    intro vw2 hw2
    clear hw1 vw1
    (try simp only [Act.put, List.getElem_toArray, List.getElem_cons_zero, List.getElem_cons_succ, List.setIfInBounds_toArray, List.set_cons_zero, List.set_cons_succ])
    refine give_pure [] 2 (?_) hG rfl (by kernel_rfl) hw2 (by kernel_rfl) ?_ ?_
    rotate_left
    · intro wz hSw; (first | (go_simp; done) | (go_simp; with_reducible rfl))
    intro vw3 hw3
    clear hw2 vw2
    (try simp only [Act.put, List.getElem_toArray, List.getElem_cons_zero, List.getElem_cons_succ, List.setIfInBounds_toArray, List.set_cons_zero, List.set_cons_succ])
    refine give_pure [] 3 (.bool true) hG rfl (by kernel_rfl) hw3 (by kernel_rfl) ?_ ?_
    · intro wz hSw; obtain ⟨c0, c1, c2, _, _⟩ := (HZ.out.below hSw).facts; (first | (go_simp; done) | (go_simp; with_reducible rfl))
    intro vw4 hw4
    clear hw3 vw3
    (try simp only [Act.put, List.getElem_toArray, List.getElem_cons_zero, List.getElem_cons_succ, List.setIfInBounds_toArray, List.set_cons_zero, List.set_cons_succ])
    refine give_pure [] 4 (?_) hG rfl (by kernel_rfl) hw4 (by kernel_rfl) ?_ ?_
    rotate_left
    · intro wz hSw; (first | (go_simp; done) | (go_simp; with_reducible rfl))
    intro vw5 hw5
    clear hw4 vw4
    (try simp only [Act.put, List.getElem_toArray, List.getElem_cons_zero, List.getElem_cons_succ, List.setIfInBounds_toArray, List.set_cons_zero, List.set_cons_succ])
    refine give_no [] 5 hG rfl (by kernel_rfl) hw5 (by kernel_rfl) ?_
    intro vw6 hw6
    clear hw5 vw5
    (try simp only [Act.put, List.getElem_toArray, List.getElem_cons_zero, List.getElem_cons_succ, List.setIfInBounds_toArray, List.set_cons_zero, List.set_cons_succ])
    refine give_no [] 6 hG rfl (by kernel_rfl) hw6 (by kernel_rfl) ?_
    intro vw7 hw7
    clear hw6 vw6
    (try simp only [Act.put, List.getElem_toArray, List.getElem_cons_zero, List.getElem_cons_succ, List.setIfInBounds_toArray, List.set_cons_zero, List.set_cons_succ])
    refine give_no [] 7 hG rfl (by kernel_rfl) hw7 (by kernel_rfl) ?_
    intro vw8 hw8
    clear hw7 vw7
    (try simp only [Act.put, List.getElem_toArray, List.getElem_cons_zero, List.getElem_cons_succ, List.setIfInBounds_toArray, List.set_cons_zero, List.set_cons_succ])
    refine give_no [] 8 hG rfl (by kernel_rfl) hw8 (by kernel_rfl) ?_
    intro vw9 hw9
    clear hw8 vw8
    (try simp only [Act.put, List.getElem_toArray, List.getElem_cons_zero, List.getElem_cons_succ, List.setIfInBounds_toArray, List.set_cons_zero, List.set_cons_succ])
    refine give_no [] 9 hG rfl (by kernel_rfl) hw9 (by kernel_rfl) ?_
    intro vw10 hw10
    clear hw9 vw9
    (try simp only [Act.put, List.getElem_toArray, List.getElem_cons_zero, List.getElem_cons_succ, List.setIfInBounds_toArray, List.set_cons_zero, List.set_cons_succ])
    refine give_no [] 10 hG rfl (by kernel_rfl) hw10 (by kernel_rfl) ?_
    intro vw11 hw11
    clear hw10 vw10
    (try simp only [Act.put, List.getElem_toArray, List.getElem_cons_zero, List.getElem_cons_succ, List.setIfInBounds_toArray, List.set_cons_zero, List.set_cons_succ])
    refine give_no [] 11 hG rfl (by kernel_rfl) hw11 (by kernel_rfl) ?_
    intro vw12 hw12
    clear hw11 vw11
    (try simp only [Act.put, List.getElem_toArray, List.getElem_cons_zero, List.getElem_cons_succ, List.setIfInBounds_toArray, List.set_cons_zero, List.set_cons_succ])
    refine give_no [] 12 hG rfl (by kernel_rfl) hw12 (by kernel_rfl) ?_
    intro vw13 hw13
    clear hw12 vw12
    (try simp only [Act.put, List.getElem_toArray, List.getElem_cons_zero, List.getElem_cons_succ, List.setIfInBounds_toArray, List.set_cons_zero, List.set_cons_succ])
    refine give_no [] 13 hG rfl (by kernel_rfl) hw13 (by kernel_rfl) ?_
    intro vw14 hw14
    clear hw13 vw13
    (try simp only [Act.put, List.getElem_toArray, List.getElem_cons_zero, List.getElem_cons_succ, List.setIfInBounds_toArray, List.set_cons_zero, List.set_cons_succ])
    refine give_no [] 14 hG rfl (by kernel_rfl) hw14 (by kernel_rfl) ?_
    intro vw15 hw15
    clear hw14 vw14
    (try simp only [Act.put, List.getElem_toArray, List.getElem_cons_zero, List.getElem_cons_succ, List.setIfInBounds_toArray, List.set_cons_zero, List.set_cons_succ])
    refine give_no [] 15 hG rfl (by kernel_rfl) hw15 (by kernel_rfl) ?_
    intro vw16 hw16
    clear hw15 vw15
    (try simp only [Act.put, List.getElem_toArray, List.getElem_cons_zero, List.getElem_cons_succ, List.setIfInBounds_toArray, List.set_cons_zero, List.set_cons_succ])
    refine give_no [] 16 hG rfl (by kernel_rfl) hw16 (by kernel_rfl) ?_
    intro vw17 hw17
    clear hw16 vw16
    (try simp only [Act.put, List.getElem_toArray, List.getElem_cons_zero, List.getElem_cons_succ, List.setIfInBounds_toArray, List.set_cons_zero, List.set_cons_succ])
    refine give_pure [] 17 (?_) hG rfl (by kernel_rfl) hw17 (by kernel_rfl) ?_ ?_
    rotate_left
    · intro wz hSw; (first | (go_simp; done) | (go_simp; with_reducible rfl))
    intro vw18 hw18
    clear hw17 vw17
    (try simp only [Act.put, List.getElem_toArray, List.getElem_cons_zero, List.getElem_cons_succ, List.setIfInBounds_toArray, List.set_cons_zero, List.set_cons_succ])
    refine give_done (by kernel_rfl) (?_) _
    refine hK3 _ _ ?_
    have HZ1 := Lib.hid (HZ.out.below hw18)
    have HG1 := Lib.hid (HG.out.trans (below_grown hw18 (some p)))
    clear hK3 hG HZ HG hw18
    have HZ := HZ1
    have HG := HG1
    clear HZ1 HG1
    obtain ⟨c0, c1, c2, f1, f2⟩ := HZ.out.facts
    have HE := Lib.hid ((HZ.out.put1 at0).put2 true)
    have HGE := Lib.hid ((HG.out.trans (grown_cell _ p 1 (.int .i64 (at0 : Int)))).trans (grown_cell _ p 2 (.bool true)))
    clear HZ HG
    go_wp2_with fail
    go_ret
    exact ⟨⟨_, rfl, by rw [HR.out]; exact World.ownsRow_nil _ _ _ _⟩, by rw [HR.out]; exact HE.out, HGE.out⟩
  | some r =>
    obtain ⟨n, j⟩ := r
    have hj : j ≤ l.length - at0 := by
      have h := HRZ.out
      unfold rz at h
      split at h
      · cases h
      · have := (rd_le h).2.2
        simp at this
        omega
    have k2 := k.at'
    obtain ⟨at1, ha1⟩ : ∃ at1, at0 + j = at1 := ⟨_, rfl⟩
    have hal : at1 ≤ l.length := by omega
    have HA1 := Lib.hid ha1
    have HEK : Hid (IntKind.i64.wrap ((l.length : Int) - (at1 : Int)) = (l.length : Int) - (at1 : Int)) := Lib.hid (by rw [IntKind.wrap_i64]; omega)
    by_cases hn : n ≤ l.length - at1
    · obtain ⟨mm, hmm⟩ : ∃ mm, (l.drop at1).take n = mm := ⟨_, rfl⟩
      have hml : mm.length = at1 + n - at1 := by rw [← hmm]; simp; omega
      have HR : Hid (txR lost most l at0 = some (mm, j + n)) := Lib.hid (by unfold txR; rw [HRZ.out]; simp only [HA1.out, hmm]; rw [if_pos hn])
      have HML := Lib.hid hml
      have HMM := Lib.hid hmm
      have HN := Lib.hid hn
      have HAL := Lib.hid hal
      have hmore : ¬ (l.length : Int) - (at1 : Int) < (n : Int) := by omega
      have hs2 : (at1 : Int) + (n : Int) ≤ 1000000000 := by omega
      have n0 : (0 : Int) ≤ (n : Int) := by omega
      have at10 : (0 : Int) ≤ (at1 : Int) := by omega
      have HSUM : Hid (IntKind.i64.wrap ((at1 : Int) + (n : Int)) = (at1 : Int) + (n : Int)) := Lib.hid (by rw [IntKind.wrap_i64]; omega)
      have hspot := hsp
      clear HRZ k k1 k2 hj ha1 hml hmm hn hal
      go_enter Try.func54, Try.ntmps54
      go_wp2_with fail
      refine HS.out.mono ?_
      rintro e w1 ⟨rfl, hz, hg⟩
      have HZ : Hid (ZR o c l p at1 false w1) := Lib.hid (by have h : ZR o c l p (at0 + j) false w1 := hz; rw [HA1.out] at h; exact h)
      have HG := Lib.hid hg
      have hv : upV (some (n, j)) = n := rfl
      rw [hv]
      clear hz hg HS c0 c1 c2 hv
      go_wp2_with fail
      rename_i K3 hK3
      refine (wpIn_wide (n := 5)).1 (give_region (S := fun X => Below w1.heap.size w1 X) (Z := []) (by kernel_rfl) (by kernel_rfl) below_mono (fun d _ _ _ _ h => by cases d <;> exact h) (bdrew0 _ _ 1) (fun hG vw0 hw0 => ?_))
      refine give_pure [] 0 (?_) hG rfl (by kernel_rfl) hw0 (by kernel_rfl) ?_ ?_
      rotate_left
      · intro wz hSw; (first | (go_simp; done) | (go_simp; with_reducible rfl))
      intro vw1 hw1
      clear hw0 vw0
      (try simp only [Act.put, List.getElem_toArray, List.getElem_cons_zero, List.getElem_cons_succ, List.setIfInBounds_toArray, List.set_cons_zero, List.set_cons_succ])
      refine give_pure [] 1 (?_) hG rfl (by kernel_rfl) hw1 (by kernel_rfl) ?_ ?_
      rotate_left
      · intro wz hSw; (first | (go_simp; done) | (go_simp; with_reducible rfl))
      intro vw2 hw2
      clear hw1 vw1
      (try simp only [Act.put, List.getElem_toArray, List.getElem_cons_zero, List.getElem_cons_succ, List.setIfInBounds_toArray, List.set_cons_zero, List.set_cons_succ])
      refine give_pure [] 2 (?_) hG rfl (by kernel_rfl) hw2 (by kernel_rfl) ?_ ?_
      rotate_left
      · intro wz hSw; (first | (go_simp; done) | (go_simp; with_reducible rfl))
      intro vw3 hw3
      clear hw2 vw2
      (try simp only [Act.put, List.getElem_toArray, List.getElem_cons_zero, List.getElem_cons_succ, List.setIfInBounds_toArray, List.set_cons_zero, List.set_cons_succ])
      refine give_pure [] 3 (.bool false) hG rfl (by kernel_rfl) hw3 (by kernel_rfl) ?_ ?_
      · intro wz hSw; obtain ⟨c0, c1, c2, _, _⟩ := (HZ.out.below hSw).facts; (first | (go_simp; done) | (go_simp; with_reducible rfl))
      intro vw4 hw4
      clear hw3 vw3
      (try simp only [Act.put, List.getElem_toArray, List.getElem_cons_zero, List.getElem_cons_succ, List.setIfInBounds_toArray, List.set_cons_zero, List.set_cons_succ])
      refine give_pure [] 4 (?_) hG rfl (by kernel_rfl) hw4 (by kernel_rfl) ?_ ?_
      rotate_left
      · intro wz hSw; (first | (go_simp; done) | (go_simp; with_reducible rfl))
      intro vw5 hw5
      clear hw4 vw4
      (try simp only [Act.put, List.getElem_toArray, List.getElem_cons_zero, List.getElem_cons_succ, List.setIfInBounds_toArray, List.set_cons_zero, List.set_cons_succ])
      refine give_pure [] 5 (?_) hG rfl (by kernel_rfl) hw5 (by kernel_rfl) ?_ ?_
      rotate_left
      · intro wz hSw; (first | (go_simp; done) | (go_simp; with_reducible rfl))
      intro vw6 hw6
      clear hw5 vw5
      (try simp only [Act.put, List.getElem_toArray, List.getElem_cons_zero, List.getElem_cons_succ, List.setIfInBounds_toArray, List.set_cons_zero, List.set_cons_succ])
      refine give_pure [] 6 (?_) hG rfl (by kernel_rfl) hw6 (by kernel_rfl) ?_ ?_
      rotate_left
      · intro wz hSw; (first | (go_simp; done) | (go_simp; with_reducible rfl))
      intro vw7 hw7
      clear hw6 vw6
      (try simp only [Act.put, List.getElem_toArray, List.getElem_cons_zero, List.getElem_cons_succ, List.setIfInBounds_toArray, List.set_cons_zero, List.set_cons_succ])
      refine give_pure [] 7 (?_) hG rfl (by kernel_rfl) hw7 (by kernel_rfl) ?_ ?_
      rotate_left
      · intro wz hSw; (first | (go_simp; done) | (go_simp; with_reducible rfl))
      intro vw8 hw8
      clear hw7 vw7
      (try simp only [Act.put, List.getElem_toArray, List.getElem_cons_zero, List.getElem_cons_succ, List.setIfInBounds_toArray, List.set_cons_zero, List.set_cons_succ])
      refine give_pure [] 8 (?_) hG rfl (by kernel_rfl) hw8 (by kernel_rfl) ?_ ?_
      rotate_left
      · intro wz hSw; (first | (go_simp; done) | (go_simp; with_reducible rfl))
      intro vw9 hw9
      clear hw8 vw8
      (try simp only [Act.put, List.getElem_toArray, List.getElem_cons_zero, List.getElem_cons_succ, List.setIfInBounds_toArray, List.set_cons_zero, List.set_cons_succ])
      refine give_pure [] 9 (.slice o l.length c) hG rfl (by kernel_rfl) hw9 (by kernel_rfl) ?_ ?_
      · intro wz hSw; obtain ⟨c0, c1, c2, _, _⟩ := (HZ.out.below hSw).facts; (first | (go_simp; done) | (go_simp; with_reducible rfl))
      intro vw10 hw10
      clear hw9 vw9
      (try simp only [Act.put, List.getElem_toArray, List.getElem_cons_zero, List.getElem_cons_succ, List.setIfInBounds_toArray, List.set_cons_zero, List.set_cons_succ])
      refine give_pure [] 10 (?_) hG rfl (by kernel_rfl) hw10 (by kernel_rfl) ?_ ?_
      rotate_left
      · intro wz hSw; (first | (go_simp; done) | (go_simp; with_reducible rfl))
      intro vw11 hw11
      clear hw10 vw10
      (try simp only [Act.put, List.getElem_toArray, List.getElem_cons_zero, List.getElem_cons_succ, List.setIfInBounds_toArray, List.set_cons_zero, List.set_cons_succ])
      refine give_pure [] 11 (?_) hG rfl (by kernel_rfl) hw11 (by kernel_rfl) ?_ ?_
      rotate_left
      · intro wz hSw; (first | (go_simp; done) | (go_simp; with_reducible rfl))
      intro vw12 hw12
      clear hw11 vw11
      (try simp only [Act.put, List.getElem_toArray, List.getElem_cons_zero, List.getElem_cons_succ, List.setIfInBounds_toArray, List.set_cons_zero, List.set_cons_succ])
      refine give_pure [] 12 (?_) hG rfl (by kernel_rfl) hw12 (by kernel_rfl) ?_ ?_
      rotate_left
      · intro wz hSw; (first | (go_simp; done) | (go_simp; with_reducible rfl))
      intro vw13 hw13
      clear hw12 vw12
      (try simp only [Act.put, List.getElem_toArray, List.getElem_cons_zero, List.getElem_cons_succ, List.setIfInBounds_toArray, List.set_cons_zero, List.set_cons_succ])
      refine give_pure [] 13 (?_) hG rfl (by kernel_rfl) hw13 (by kernel_rfl) ?_ ?_
      rotate_left
      · intro wz hSw; (first | (go_simp; done) | (go_simp; with_reducible rfl))
      intro vw14 hw14
      clear hw13 vw13
      (try simp only [Act.put, List.getElem_toArray, List.getElem_cons_zero, List.getElem_cons_succ, List.setIfInBounds_toArray, List.set_cons_zero, List.set_cons_succ])
      refine give_pure [] 14 (.int .i64 (at1 : Int)) hG rfl (by kernel_rfl) hw14 (by kernel_rfl) ?_ ?_
      · intro wz hSw; obtain ⟨c0, c1, c2, _, _⟩ := (HZ.out.below hSw).facts; (first | (go_simp; done) | (go_simp; with_reducible rfl))
      intro vw15 hw15
      clear hw14 vw14
      (try simp only [Act.put, List.getElem_toArray, List.getElem_cons_zero, List.getElem_cons_succ, List.setIfInBounds_toArray, List.set_cons_zero, List.set_cons_succ])
      refine give_pure [] 15 (.int .i64 ((l.length : Int) - (at1 : Int))) hG rfl (by kernel_rfl) hw15 (by kernel_rfl) ?_ ?_
      · intro wz hSw; have ee := HEK.out; (first | (go_simp; done) | (go_simp; rw [ee]) | (go_simp; with_reducible rfl))
      intro vw16 hw16
      clear hw15 vw15
      (try simp only [Act.put, List.getElem_toArray, List.getElem_cons_zero, List.getElem_cons_succ, List.setIfInBounds_toArray, List.set_cons_zero, List.set_cons_succ])
      refine give_pure [] 16 (.bool false) hG rfl (by kernel_rfl) hw16 (by kernel_rfl) ?_ ?_
      · intro wz hSw; (first | (go_simp; done) | (go_simp; exact hmore) | (go_simp; omega))
      intro vw17 hw17
      clear hw16 vw16
      (try simp only [Act.put, List.getElem_toArray, List.getElem_cons_zero, List.getElem_cons_succ, List.setIfInBounds_toArray, List.set_cons_zero, List.set_cons_succ])
      refine give_pure [] 17 (?_) hG rfl (by kernel_rfl) hw17 (by kernel_rfl) ?_ ?_
      rotate_left
      · intro wz hSw; (first | (go_simp; done) | (go_simp; with_reducible rfl))
      intro vw18 hw18
      clear hw17 vw17
      (try simp only [Act.put, List.getElem_toArray, List.getElem_cons_zero, List.getElem_cons_succ, List.setIfInBounds_toArray, List.set_cons_zero, List.set_cons_succ])
      refine give_done (by kernel_rfl) (?_) _
      refine hK3 _ _ ?_
      have HZ1 := Lib.hid (HZ.out.below hw18)
      have HG1 := Lib.hid (HG.out.trans (below_grown hw18 (some p)))
      clear hK3 hG HZ HG hw18
      have HZ := HZ1
      have HG := HG1
      clear HZ1 HG1
      go_wp2_with fail
      rename_i K8 hK8
      refine (wpIn_wide (n := 5)).1 (give_region (S := fun X => Below vw18.heap.size vw18 X) (Z := []) (by kernel_rfl) (by kernel_rfl) below_mono (fun d _ _ _ _ h => by cases d <;> exact h) (bdrew0 _ _ 1) (fun hG vw0 hw0 => ?_))
      refine give_pure [] 0 (?_) hG rfl (by kernel_rfl) hw0 (by kernel_rfl) ?_ ?_
      rotate_left
      · intro wz hSw; (first | (go_simp; done) | (go_simp; with_reducible rfl))
      intro vw1 hw1
      clear hw0 vw0
      (try simp only [Act.put, List.getElem_toArray, List.getElem_cons_zero, List.getElem_cons_succ, List.setIfInBounds_toArray, List.set_cons_zero, List.set_cons_succ])
      refine give_pure [] 1 (?_) hG rfl (by kernel_rfl) hw1 (by kernel_rfl) ?_ ?_
      rotate_left
      · intro wz hSw; (first | (go_simp; done) | (go_simp; with_reducible rfl))
      intro vw2 hw2
      clear hw1 vw1
      (try simp only [Act.put, List.getElem_toArray, List.getElem_cons_zero, List.getElem_cons_succ, List.setIfInBounds_toArray, List.set_cons_zero, List.set_cons_succ])
      refine give_pure [] 2 (?_) hG rfl (by kernel_rfl) hw2 (by kernel_rfl) ?_ ?_
      rotate_left
      · intro wz hSw; (first | (go_simp; done) | (go_simp; with_reducible rfl))
      intro vw3 hw3
      clear hw2 vw2
      (try simp only [Act.put, List.getElem_toArray, List.getElem_cons_zero, List.getElem_cons_succ, List.setIfInBounds_toArray, List.set_cons_zero, List.set_cons_succ])
      refine give_pure [] 3 (?_) hG rfl (by kernel_rfl) hw3 (by kernel_rfl) ?_ ?_
      rotate_left
      · intro wz hSw; (first | (go_simp; done) | (go_simp; with_reducible rfl))
      intro vw4 hw4
      clear hw3 vw3
      (try simp only [Act.put, List.getElem_toArray, List.getElem_cons_zero, List.getElem_cons_succ, List.setIfInBounds_toArray, List.set_cons_zero, List.set_cons_succ])
      refine give_pure [] 4 (.slice o l.length c) hG rfl (by kernel_rfl) hw4 (by kernel_rfl) ?_ ?_
      · intro wz hSw; obtain ⟨c0, c1, c2, _, _⟩ := (HZ.out.below hSw).facts; (first | (go_simp; done) | (go_simp; with_reducible rfl))
      intro vw5 hw5
      clear hw4 vw4
      (try simp only [Act.put, List.getElem_toArray, List.getElem_cons_zero, List.getElem_cons_succ, List.setIfInBounds_toArray, List.set_cons_zero, List.set_cons_succ])
      refine give_pure [] 5 (?_) hG rfl (by kernel_rfl) hw5 (by kernel_rfl) ?_ ?_
      rotate_left
      · intro wz hSw; (first | (go_simp; done) | (go_simp; with_reducible rfl))
      intro vw6 hw6
      clear hw5 vw5
      (try simp only [Act.put, List.getElem_toArray, List.getElem_cons_zero, List.getElem_cons_succ, List.setIfInBounds_toArray, List.set_cons_zero, List.set_cons_succ])
      refine give_pure [] 6 (?_) hG rfl (by kernel_rfl) hw6 (by kernel_rfl) ?_ ?_
      rotate_left
      · intro wz hSw; (first | (go_simp; done) | (go_simp; with_reducible rfl))
      intro vw7 hw7
      clear hw6 vw6
      (try simp only [Act.put, List.getElem_toArray, List.getElem_cons_zero, List.getElem_cons_succ, List.setIfInBounds_toArray, List.set_cons_zero, List.set_cons_succ])
      refine give_pure [] 7 (?_) hG rfl (by kernel_rfl) hw7 (by kernel_rfl) ?_ ?_
      rotate_left
      · intro wz hSw; (first | (go_simp; done) | (go_simp; with_reducible rfl))
      intro vw8 hw8
      clear hw7 vw7
      (try simp only [Act.put, List.getElem_toArray, List.getElem_cons_zero, List.getElem_cons_succ, List.setIfInBounds_toArray, List.set_cons_zero, List.set_cons_succ])
      refine give_pure [] 8 (.int .i64 (at1 : Int)) hG rfl (by kernel_rfl) hw8 (by kernel_rfl) ?_ ?_
      · intro wz hSw; obtain ⟨c0, c1, c2, _, _⟩ := (HZ.out.below hSw).facts; (first | (go_simp; done) | (go_simp; with_reducible rfl))
      intro vw9 hw9
      clear hw8 vw8
      (try simp only [Act.put, List.getElem_toArray, List.getElem_cons_zero, List.getElem_cons_succ, List.setIfInBounds_toArray, List.set_cons_zero, List.set_cons_succ])
      refine give_pure [] 9 (?_) hG rfl (by kernel_rfl) hw9 (by kernel_rfl) ?_ ?_
      rotate_left
      · intro wz hSw; (first | (go_simp; done) | (go_simp; with_reducible rfl))
      intro vw10 hw10
      clear hw9 vw9
      (try simp only [Act.put, List.getElem_toArray, List.getElem_cons_zero, List.getElem_cons_succ, List.setIfInBounds_toArray, List.set_cons_zero, List.set_cons_succ])
      refine give_pure [] 10 (?_) hG rfl (by kernel_rfl) hw10 (by kernel_rfl) ?_ ?_
      rotate_left
      · intro wz hSw; (first | (go_simp; done) | (go_simp; with_reducible rfl))
      intro vw11 hw11
      clear hw10 vw10
      (try simp only [Act.put, List.getElem_toArray, List.getElem_cons_zero, List.getElem_cons_succ, List.setIfInBounds_toArray, List.set_cons_zero, List.set_cons_succ])
      refine give_pure [] 11 (?_) hG rfl (by kernel_rfl) hw11 (by kernel_rfl) ?_ ?_
      rotate_left
      · intro wz hSw; (first | (go_simp; done) | (go_simp; with_reducible rfl))
      intro vw12 hw12
      clear hw11 vw11
      (try simp only [Act.put, List.getElem_toArray, List.getElem_cons_zero, List.getElem_cons_succ, List.setIfInBounds_toArray, List.set_cons_zero, List.set_cons_succ])
      refine give_pure [] 12 (.int .i64 (at1 : Int)) hG rfl (by kernel_rfl) hw12 (by kernel_rfl) ?_ ?_
      · intro wz hSw; obtain ⟨c0, c1, c2, _, _⟩ := (HZ.out.below hSw).facts; (first | (go_simp; done) | (go_simp; with_reducible rfl))
      intro vw13 hw13
      clear hw12 vw12
      (try simp only [Act.put, List.getElem_toArray, List.getElem_cons_zero, List.getElem_cons_succ, List.setIfInBounds_toArray, List.set_cons_zero, List.set_cons_succ])
      refine give_pure [] 13 (?_) hG rfl (by kernel_rfl) hw13 (by kernel_rfl) ?_ ?_
      rotate_left
      · intro wz hSw; (first | (go_simp; done) | (go_simp; with_reducible rfl))
      intro vw14 hw14
      clear hw13 vw13
      (try simp only [Act.put, List.getElem_toArray, List.getElem_cons_zero, List.getElem_cons_succ, List.setIfInBounds_toArray, List.set_cons_zero, List.set_cons_succ])
      refine give_pure [] 14 (.int .i64 ((at1 : Int) + (n : Int))) hG rfl (by kernel_rfl) hw14 (by kernel_rfl) ?_ ?_
      · intro wz hSw; have ee := HSUM.out; (first | (go_simp; done) | (go_simp; rw [ee]) | (go_simp; with_reducible rfl))
      intro vw15 hw15
      clear hw14 vw14
      (try simp only [Act.put, List.getElem_toArray, List.getElem_cons_zero, List.getElem_cons_succ, List.setIfInBounds_toArray, List.set_cons_zero, List.set_cons_succ])
      refine give_pure [] 15 (.slice (cutA o c at1) mm.length (c - at1)) hG rfl (by kernel_rfl) hw15 (by kernel_rfl) ?_ ?_
      · intro wz hSw; rw [HML.out]; exact exec_cut (.tmp 44) (.tmp 48) (.tmp 54) (by kernel_rfl) o l.length c at1 (at1 + n) (at1 : Int) ((at1 : Int) + (n : Int)) rfl (by omega) (by kernel_rfl) (by kernel_rfl) (by kernel_rfl) (by omega) (by have h1 := HN.out; have h2 := hq.1; have h3 := HAL.out; omega) hq.2 hspot
      intro vw16 hw16
      clear hw15 vw15
      (try simp only [Act.put, List.getElem_toArray, List.getElem_cons_zero, List.getElem_cons_succ, List.setIfInBounds_toArray, List.set_cons_zero, List.set_cons_succ])
      refine give_step 16 (by kernel_rfl) rfl (fun K hK => ?_)
      rw [if_pos (by kernel_rfl)]
      refine wpIn_app (.tmp 40) (.tmp 55) (by kernel_rfl) w.heap.size (.slice none 0 0) [] (by kernel_rfl) (World.ownsRow_nil _ _ _ _) (cutA o c at1) mm (c - at1) (by kernel_rfl) ?_ (by have h := (HZ.out.below hw16).bs.cut (l := at1) (h := at1 + n) (c := c) (by omega) (by have h1 := HN.out; have h3 := HAL.out; omega) hq.1; rw [show at1 + n - at1 = n by omega, HMM.out] at h; exact h) (by have := HML.out; simp; omega) (by have h1 := HG.out.size; have h2 := hw16.size; omega) ?_
      · intro h; unfold cutA at h; cases o with
        | none => have := hq.2 rfl; omega
        | some a => cases h
      intro v2 w2 ho2 hg2
      have hb2 : Below vw16.heap.size vw16 w2 := ⟨hg2.os, hg2.tape, hg2.output, hg2.size, fun k hk => hg2.block k hk (by intro h; cases h)⟩
      have hs2' := below_mono _ _ hw16 hb2
      refine hK.out _ _ (fun _ => hs2') (fun w3 hb3 => ?_)
      have hS3 := below_mono _ _ hs2' hb3
      have HO3 := Lib.hid (ho2.below hb3)
      clear hK K ho2 hg2 hb2 hs2' hb3 hw16
      (try simp only [Act.put, List.getElem_toArray, List.getElem_cons_zero, List.getElem_cons_succ, List.setIfInBounds_toArray, List.set_cons_zero, List.set_cons_succ])
      refine give_step 17 (by kernel_rfl) rfl (fun K hK => ?_)
      go_simp
      refine hK.out _ _ (fun _ => hS3) (fun w4 hb4 => ?_)
      have hS4 := below_mono _ _ hS3 hb4
      have HO := Lib.hid (HO3.out.below hb4)
      clear hK K hb4 HO3 hS3
      (try simp only [Act.put, List.getElem_toArray, List.getElem_cons_zero, List.getElem_cons_succ, List.setIfInBounds_toArray, List.set_cons_zero, List.set_cons_succ])
      refine give_done (by kernel_rfl) (?_) _
      refine hK8 _ _ ?_
      have HZ1 := Lib.hid (HZ.out.below hS4)
      have HG1 := Lib.hid (HG.out.trans (below_grown hS4 (some p)))
      clear hK8 hG HZ HG hS4
      have HZ := HZ1
      have HG := HG1
      clear HZ1 HG1
      obtain ⟨c0, c1, c2, f1, f2⟩ := HZ.out.facts
      have HE := Lib.hid (HZ.out.put1' (at0 + (j + n)) ((at1 : Int) + (n : Int)) (by have := HA1.out; omega))
      have HGE := Lib.hid (HG.out.trans (grown_cell _ p 1 (.int .i64 ((at1 : Int) + (n : Int)))))
      have HOE := Lib.hid (HO.out.grown (grown_cell _ p 1 (.int .i64 ((at1 : Int) + (n : Int)))) (fun k hk h => HO.out.apart HZ.out.row (by decide) k hk (Option.some.inj h)))
      clear HZ HG HO
      go_wp2_with fail
      go_ret
      exact ⟨⟨_, rfl, by rw [HR.out]; exact HOE.out⟩, by rw [HR.out]; exact HE.out, HGE.out⟩
    · have HR : Hid (txR lost most l at0 = none) := Lib.hid (by unfold txR; rw [HRZ.out]; simp only [HA1.out]; rw [if_neg hn])
      have hmore : (l.length : Int) - (at1 : Int) < (n : Int) := by omega
      clear HRZ k k1 k2 hj ha1 hn hal
      go_enter Try.func54, Try.ntmps54
      go_wp2_with fail
      refine HS.out.mono ?_
      rintro e w1 ⟨rfl, hz, hg⟩
      have HZ : Hid (ZR o c l p at1 false w1) := Lib.hid (by have h : ZR o c l p (at0 + j) false w1 := hz; rw [HA1.out] at h; exact h)
      have HG := Lib.hid hg
      have hv : upV (some (n, j)) = n := rfl
      rw [hv]
      clear hz hg HS c0 c1 c2 hv
      go_wp2_with fail
      rename_i K3 hK3
      refine (wpIn_wide (n := 5)).1 (give_region (S := fun X => Below w1.heap.size w1 X) (Z := []) (by kernel_rfl) (by kernel_rfl) below_mono (fun d _ _ _ _ h => by cases d <;> exact h) (bdrew0 _ _ 1) (fun hG vw0 hw0 => ?_))
      refine give_pure [] 0 (?_) hG rfl (by kernel_rfl) hw0 (by kernel_rfl) ?_ ?_
      rotate_left
      · intro wz hSw; (first | (go_simp; done) | (go_simp; with_reducible rfl))
      intro vw1 hw1
      clear hw0 vw0
      (try simp only [Act.put, List.getElem_toArray, List.getElem_cons_zero, List.getElem_cons_succ, List.setIfInBounds_toArray, List.set_cons_zero, List.set_cons_succ])
      refine give_pure [] 1 (?_) hG rfl (by kernel_rfl) hw1 (by kernel_rfl) ?_ ?_
      rotate_left
      · intro wz hSw; (first | (go_simp; done) | (go_simp; with_reducible rfl))
      intro vw2 hw2
      clear hw1 vw1
      (try simp only [Act.put, List.getElem_toArray, List.getElem_cons_zero, List.getElem_cons_succ, List.setIfInBounds_toArray, List.set_cons_zero, List.set_cons_succ])
      refine give_pure [] 2 (?_) hG rfl (by kernel_rfl) hw2 (by kernel_rfl) ?_ ?_
      rotate_left
      · intro wz hSw; (first | (go_simp; done) | (go_simp; with_reducible rfl))
      intro vw3 hw3
      clear hw2 vw2
      (try simp only [Act.put, List.getElem_toArray, List.getElem_cons_zero, List.getElem_cons_succ, List.setIfInBounds_toArray, List.set_cons_zero, List.set_cons_succ])
      refine give_pure [] 3 (.bool false) hG rfl (by kernel_rfl) hw3 (by kernel_rfl) ?_ ?_
      · intro wz hSw; obtain ⟨c0, c1, c2, _, _⟩ := (HZ.out.below hSw).facts; (first | (go_simp; done) | (go_simp; with_reducible rfl))
      intro vw4 hw4
      clear hw3 vw3
      (try simp only [Act.put, List.getElem_toArray, List.getElem_cons_zero, List.getElem_cons_succ, List.setIfInBounds_toArray, List.set_cons_zero, List.set_cons_succ])
      refine give_pure [] 4 (?_) hG rfl (by kernel_rfl) hw4 (by kernel_rfl) ?_ ?_
      rotate_left
      · intro wz hSw; (first | (go_simp; done) | (go_simp; with_reducible rfl))
      intro vw5 hw5
      clear hw4 vw4
      (try simp only [Act.put, List.getElem_toArray, List.getElem_cons_zero, List.getElem_cons_succ, List.setIfInBounds_toArray, List.set_cons_zero, List.set_cons_succ])
      refine give_pure [] 5 (?_) hG rfl (by kernel_rfl) hw5 (by kernel_rfl) ?_ ?_
      rotate_left
      · intro wz hSw; (first | (go_simp; done) | (go_simp; with_reducible rfl))
      intro vw6 hw6
      clear hw5 vw5
      (try simp only [Act.put, List.getElem_toArray, List.getElem_cons_zero, List.getElem_cons_succ, List.setIfInBounds_toArray, List.set_cons_zero, List.set_cons_succ])
      refine give_pure [] 6 (?_) hG rfl (by kernel_rfl) hw6 (by kernel_rfl) ?_ ?_
      rotate_left
      · intro wz hSw; (first | (go_simp; done) | (go_simp; with_reducible rfl))
      intro vw7 hw7
      clear hw6 vw6
      (try simp only [Act.put, List.getElem_toArray, List.getElem_cons_zero, List.getElem_cons_succ, List.setIfInBounds_toArray, List.set_cons_zero, List.set_cons_succ])
      refine give_pure [] 7 (?_) hG rfl (by kernel_rfl) hw7 (by kernel_rfl) ?_ ?_
      rotate_left
      · intro wz hSw; (first | (go_simp; done) | (go_simp; with_reducible rfl))
      intro vw8 hw8
      clear hw7 vw7
      (try simp only [Act.put, List.getElem_toArray, List.getElem_cons_zero, List.getElem_cons_succ, List.setIfInBounds_toArray, List.set_cons_zero, List.set_cons_succ])
      refine give_pure [] 8 (?_) hG rfl (by kernel_rfl) hw8 (by kernel_rfl) ?_ ?_
      rotate_left
      · intro wz hSw; (first | (go_simp; done) | (go_simp; with_reducible rfl))
      intro vw9 hw9
      clear hw8 vw8
      (try simp only [Act.put, List.getElem_toArray, List.getElem_cons_zero, List.getElem_cons_succ, List.setIfInBounds_toArray, List.set_cons_zero, List.set_cons_succ])
      refine give_pure [] 9 (.slice o l.length c) hG rfl (by kernel_rfl) hw9 (by kernel_rfl) ?_ ?_
      · intro wz hSw; obtain ⟨c0, c1, c2, _, _⟩ := (HZ.out.below hSw).facts; (first | (go_simp; done) | (go_simp; with_reducible rfl))
      intro vw10 hw10
      clear hw9 vw9
      (try simp only [Act.put, List.getElem_toArray, List.getElem_cons_zero, List.getElem_cons_succ, List.setIfInBounds_toArray, List.set_cons_zero, List.set_cons_succ])
      refine give_pure [] 10 (?_) hG rfl (by kernel_rfl) hw10 (by kernel_rfl) ?_ ?_
      rotate_left
      · intro wz hSw; (first | (go_simp; done) | (go_simp; with_reducible rfl))
      intro vw11 hw11
      clear hw10 vw10
      (try simp only [Act.put, List.getElem_toArray, List.getElem_cons_zero, List.getElem_cons_succ, List.setIfInBounds_toArray, List.set_cons_zero, List.set_cons_succ])
      refine give_pure [] 11 (?_) hG rfl (by kernel_rfl) hw11 (by kernel_rfl) ?_ ?_
      rotate_left
      · intro wz hSw; (first | (go_simp; done) | (go_simp; with_reducible rfl))
      intro vw12 hw12
      clear hw11 vw11
      (try simp only [Act.put, List.getElem_toArray, List.getElem_cons_zero, List.getElem_cons_succ, List.setIfInBounds_toArray, List.set_cons_zero, List.set_cons_succ])
      refine give_pure [] 12 (?_) hG rfl (by kernel_rfl) hw12 (by kernel_rfl) ?_ ?_
      rotate_left
      · intro wz hSw; (first | (go_simp; done) | (go_simp; with_reducible rfl))
      intro vw13 hw13
      clear hw12 vw12
      (try simp only [Act.put, List.getElem_toArray, List.getElem_cons_zero, List.getElem_cons_succ, List.setIfInBounds_toArray, List.set_cons_zero, List.set_cons_succ])
      refine give_pure [] 13 (?_) hG rfl (by kernel_rfl) hw13 (by kernel_rfl) ?_ ?_
      rotate_left
      · intro wz hSw; (first | (go_simp; done) | (go_simp; with_reducible rfl))
      intro vw14 hw14
      clear hw13 vw13
      (try simp only [Act.put, List.getElem_toArray, List.getElem_cons_zero, List.getElem_cons_succ, List.setIfInBounds_toArray, List.set_cons_zero, List.set_cons_succ])
      refine give_pure [] 14 (.int .i64 (at1 : Int)) hG rfl (by kernel_rfl) hw14 (by kernel_rfl) ?_ ?_
      · intro wz hSw; obtain ⟨c0, c1, c2, _, _⟩ := (HZ.out.below hSw).facts; (first | (go_simp; done) | (go_simp; with_reducible rfl))
      intro vw15 hw15
      clear hw14 vw14
      (try simp only [Act.put, List.getElem_toArray, List.getElem_cons_zero, List.getElem_cons_succ, List.setIfInBounds_toArray, List.set_cons_zero, List.set_cons_succ])
      refine give_pure [] 15 (.int .i64 ((l.length : Int) - (at1 : Int))) hG rfl (by kernel_rfl) hw15 (by kernel_rfl) ?_ ?_
      · intro wz hSw; have ee := HEK.out; (first | (go_simp; done) | (go_simp; rw [ee]) | (go_simp; with_reducible rfl))
      intro vw16 hw16
      clear hw15 vw15
      (try simp only [Act.put, List.getElem_toArray, List.getElem_cons_zero, List.getElem_cons_succ, List.setIfInBounds_toArray, List.set_cons_zero, List.set_cons_succ])
      refine give_pure [] 16 (.bool true) hG rfl (by kernel_rfl) hw16 (by kernel_rfl) ?_ ?_
      · intro wz hSw; (first | (go_simp; done) | (go_simp; exact hmore) | (go_simp; omega))
      intro vw17 hw17
      clear hw16 vw16
      (try simp only [Act.put, List.getElem_toArray, List.getElem_cons_zero, List.getElem_cons_succ, List.setIfInBounds_toArray, List.set_cons_zero, List.set_cons_succ])
      refine give_pure [] 17 (?_) hG rfl (by kernel_rfl) hw17 (by kernel_rfl) ?_ ?_
      rotate_left
      · intro wz hSw; (first | (go_simp; done) | (go_simp; with_reducible rfl))
      intro vw18 hw18
      clear hw17 vw17
      (try simp only [Act.put, List.getElem_toArray, List.getElem_cons_zero, List.getElem_cons_succ, List.setIfInBounds_toArray, List.set_cons_zero, List.set_cons_succ])
      refine give_done (by kernel_rfl) (?_) _
      refine hK3 _ _ ?_
      have HZ1 := Lib.hid (HZ.out.below hw18)
      have HG1 := Lib.hid (HG.out.trans (below_grown hw18 (some p)))
      clear hK3 hG HZ HG hw18
      have HZ := HZ1
      have HG := HG1
      clear HZ1 HG1
      obtain ⟨c0, c1, c2, f1, f2⟩ := HZ.out.facts
      have HE := Lib.hid ((HZ.out.put1 at0).put2 true)
      have HGE := Lib.hid ((HG.out.trans (grown_cell _ p 1 (.int .i64 (at0 : Int)))).trans (grown_cell _ p 2 (.bool true)))
      clear HZ HG
      go_wp2_with fail
      go_ret
      exact ⟨⟨_, rfl, by rw [HR.out]; exact World.ownsRow_nil _ _ _ _⟩, by rw [HR.out]; exact HE.out, HGE.out⟩
end Go.Proofs.Ytpbidfmijliehaa.Fx
