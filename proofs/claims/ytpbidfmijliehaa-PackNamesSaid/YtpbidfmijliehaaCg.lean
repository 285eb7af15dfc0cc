/- pack's reader's Text, walked. -/
import Derived.Test.YtpbidfmijliehaaProg
import Derived.Test.YtpbidfmijliehaaCf
import Derived.Test.YtpbidfmijliehaaAv
set_option linter.unusedVariables false
set_option linter.unusedSimpArgs false
namespace Go.Proofs.Ytpbidfmijliehaa.Fx
open Go Go.RowKit
def mayT (most : Int) (n left : Nat) : Bool := upT most n && upT (left : Int) n
theorem ask_t (most : Int) (q n left : Nat) (w : World) (hn : n < 18446744073709551616) (h1 : most ≤ 9223372036854775807) (hl : left ≤ 1000000000) (hc : w.cell? ⟨q, 0, none⟩ = some (.int .i64 most)) :
    Calls Try.prog 63 #[.int .u64 (n : Int), .int .i64 (left : Int), .pointer (some ⟨q, 0, none⟩)] w fun e w' => e = .returned (.bool (mayT most n left)) ∧ w = w' := by
  have HU := Lib.hid (upTo_any most n w hn h1)
  have HU2 := Lib.hid (upTo_any (left : Int) n w hn (by omega))
  clear hn h1
  unfold mayT
  generalize upT most n = b at *
  generalize upT (left : Int) n = d at *
  cases b with
  | true =>
    go_enter Try.func63, Try.ntmps63
    go_wp2_with fail
    refine HU.out.mono ?_
    rintro e w1 ⟨rfl, rfl⟩
    go_wp2_with fail
    refine HU2.out.mono ?_
    rintro e w1 ⟨rfl, rfl⟩
    go_wp2_with fail
    go_ret
    exact ⟨rfl, rfl⟩
  | false =>
    go_enter Try.func63, Try.ntmps63
    go_wp2_with fail
    refine HU.out.mono ?_
    rintro e w1 ⟨rfl, rfl⟩
    go_wp2_with fail
    go_ret
    exact ⟨rfl, rfl⟩
theorem tk_t (lost : Bool) (most : Int) (l : List Nat) (at0 : Nat) (h1 : most ≤ 9223372036854775807) : tkR lost (mayT most) l at0 = match rz lost most (l.drop at0) with
    | none => none
    | some (n, j) => if n ≤ l.length - (at0 + j) then some (n, j) else none := by
  rw [← tk_s lost most l at0 h1]
  unfold tkR
  cases lost
  · rw [if_neg (by simp), if_neg (by simp)]
    cases rd M64 (l.drop at0) with
    | none => rfl
    | some r =>
      obtain ⟨n, j⟩ := r
      dsimp only
      have e : upT ((l.length - (at0 + j) : Nat) : Int) n = decide (n ≤ l.length - (at0 + j)) := by
        unfold upT
        congr 1
        apply propext
        constructor
        · rintro ⟨_, h⟩; omega
        · intro h; omega
      unfold mayT
      rw [e]
      by_cases hu : upT most n = true
      · simp [hu]
      · simp [hu]
  · rfl
def PTxt (o : Option Addr) (c : Nat) (l : List Nat) (p at0 : Nat) (r : Option (List Nat × Nat)) (w : World) (e : Ending) (w' : World) : Prop :=
  (∃ v, e = .returned v ∧ Own w' w.heap.size v ((r.map (·.1)).getD [])) ∧ PR o c l p (txA r at0) r.isNone w' ∧ w.grownBy w' (some p)
set_option maxRecDepth 100000 in
set_option maxHeartbeats 4000000 in
theorem prtext_any (o : Option Addr) (c : Nat) (l : List Nat) (p at0 : Nat) (most : Int) (lost : Bool) (w : World) (k : RdOk l at0) (h1 : most ≤ 9223372036854775807) (h : PR o c l p at0 lost w) :
    Calls Try.prog 36 #[.pointer (some ⟨p, 0, none⟩), .int .i64 most] w (PTxt o c l p at0 (txR lost most l at0) w) := by
  obtain ⟨W1, hW1⟩ : ∃ W1, w.alloc (.cells #[.int .i64 most] 3) = W1 := ⟨_, rfl⟩
  have hb : Below w.heap.size w W1 := by rw [← hW1]; exact (Below.refl _ w).alloc (Nat.le_refl _) _
  have hq : W1.cell? ⟨w.heap.size, 0, none⟩ = some (.int .i64 most) := by rw [← hW1, cell_of_row _ _ _ _ _ _ (heap_alloc_new _ _)]; rfl
  have hu := take_t o c l p at0 lost W1 k (h.below hb) w.heap.size (mayT most) (Lib.hid (fun n left W hB hn hl => ask_t most w.heap.size n left W hn h1 hl (keep_cell hB hq)))
  rw [tk_t lost most l at0 h1] at hu
  have HB := Lib.hid hb
  have HW1 := Lib.hid hW1
  have HOK := Lib.hid h.ok
  have k1 := k.len
  have k2 := k.at'
  have hrz : upV (rz lost most (l.drop at0)) ≤ most.toNat := rz_le
  have hdr : ∀ n j, rz lost most (l.drop at0) = some (n, j) → at0 + j ≤ l.length := fun n j hr => by
    unfold rz at hr
    split at hr
    · cases hr
    · have := (rd_le hr).2.2
      simp at this
      omega
  have HL := Lib.hid k.len
  have HDR := Lib.hid hdr
  have HTX : Hid (txR lost most l at0 = match rz lost most (l.drop at0) with | none => none | some (n, j) => if n ≤ l.length - (at0 + j) then some ((l.drop (at0 + j)).take n, j + n) else none) := Lib.hid rfl
  have HU := Lib.hid hu
  obtain ⟨rt, hrt⟩ : ∃ rt, txR lost most l at0 = rt := ⟨_, rfl⟩
  rw [hrt] at HTX ⊢
  clear k h hb hW1 hq hu hdr hrt
  have bad : ∀ (hn : rt = none) (HN : Hid (Calls Try.prog 59 #[.pointer (some ⟨p, 0, none⟩), .func (.func 63) #[] #[.pointer (some ⟨w.heap.size, 0, none⟩)]] W1 (TakePost o c l p at0 none W1))),
      Calls Try.prog 36 #[.pointer (some ⟨p, 0, none⟩), .int .i64 most] w (PTxt o c l p at0 rt w) := by
    intro hn HN
    subst hn
    clear HU HTX HDR hrz
    go_enter Try.func36, Try.ntmps36
    go_wp2_with fail
    rw [HW1.out]
    refine HN.out.mono ?_
    rintro e w1 ⟨rfl, hz, hg⟩
    have HZ := Lib.hid hz
    have HG := Lib.hid ((below_grown HB.out (some p)).trans hg)
    clear hz hg HN HB
    simp only [upV]
    go_wp2_with fail
    go_ret
    exact ⟨⟨_, rfl, World.ownsRow_nil _ _ _ _⟩, HZ.out, HG.out⟩
  cases hr : rz lost most (l.drop at0) with
  | none =>
    rw [hr] at HU HTX
    exact bad HTX.out HU
  | some r =>
    obtain ⟨n, j⟩ := r
    rw [hr] at HU HTX hrz
    have hal := HDR.out n j hr
    by_cases hn : n ≤ l.length - (at0 + j)
    · have hu := HU.out
      have htx := HTX.out
      simp only [if_pos hn] at hu htx
      have HU2 := Lib.hid hu
      have HTX2 := Lib.hid htx
      clear HU HTX HDR bad hu htx hr
      obtain ⟨at1, ha1⟩ : ∃ at1, at0 + j = at1 := ⟨_, rfl⟩
      rw [ha1] at hn hal HTX2
      obtain ⟨mm, hmm⟩ : ∃ mm, (l.drop at1).take n = mm := ⟨_, rfl⟩
      have hml : mm.length = at1 + n - at1 := by rw [← hmm]; simp; omega
      rw [hmm] at HTX2
      have hw2 : IntKind.i64.wrap (n : Int) = (n : Int) := by rw [IntKind.wrap_i64]; omega
      have HML := Lib.hid hml
      have HMM := Lib.hid hmm
      have HNN := Lib.hid hn
      have HAL := Lib.hid hal
      have HA1 := Lib.hid ha1
      have hrt := HTX2.out
      subst hrt
      have hwz := hw2
      clear hmm ha1 hrz HTX2 k1 k2
      by_cases hn0 : n = 0
      · subst hn0
        have hmm0 : Hid (mm = []) := Lib.hid (List.length_eq_zero_iff.1 (by have := HML.out; omega))
        clear hml hn hal hw2 hwz
        go_enter Try.func36, Try.ntmps36
        go_wp2_with fail
        rw [HW1.out]
        refine HU2.out.mono ?_
        rintro e w1 ⟨rfl, hz, hg⟩
        have HZ := Lib.hid hz
        have HG := Lib.hid ((below_grown HB.out (some p)).trans hg)
        clear hz hg HU2 HB
        simp only [upV]
        go_wp2_with fail
        go_ret
        exact ⟨⟨_, rfl, by simp only [Option.map_some, Option.getD_some]; rw [hmm0.out]; exact World.ownsRow_nil _ _ _ _⟩, HZ.out, HG.out⟩
      · have n1 : ¬ (n : Int) = 0 := by omega
        have HSUM : Hid (IntKind.i64.wrap ((at1 : Int) + (n : Int)) = (at1 : Int) + (n : Int)) := Lib.hid (by have := HL.out; rw [IntKind.wrap_i64]; omega)
        clear hml hn hal hw2
        go_enter Try.func36, Try.ntmps36
        go_wp2_with fail
        rw [HW1.out]
        refine HU2.out.mono ?_
        rintro e w1 ⟨rfl, hz, hg⟩
        have HZ : Hid (PR o c l p at1 false w1) := Lib.hid (by have h : PR o c l p (at0 + j) false w1 := hz; rw [HA1.out] at h; exact h)
        obtain ⟨c0, c1, c2, c3, f1, f3⟩ := HZ.out.facts
        have HG := Lib.hid ((below_grown HB.out (some p)).trans hg)
        have hsum := HSUM.out
        clear hz hg HU2 HB
        simp only [upV]
        obtain ⟨W3, hW3⟩ : ∃ W3, w1.setCell ⟨p, 3, none⟩ (.int .i64 ((at1 : Int) + (n : Int))) = W3 := ⟨_, rfl⟩
        have hR3 := HZ.out.goto (at1 + n) ((at1 : Int) + (n : Int)) (by omega)
        have hG3 := HG.out.trans (grown_cell _ p 3 (.int .i64 ((at1 : Int) + (n : Int))))
        rw [hW3] at hR3 hG3
        have HR := Lib.hid hR3
        have HGX := Lib.hid hG3
        have HW3 := Lib.hid hW3
        clear HG HZ hR3 hG3 hW3
        have HG := HGX
        clear HGX
        have HSZ : Hid (w.heap.size ≤ W3.heap.size) := Lib.hid HG.out.size
        have HCL : Hid (∀ X : World, Below W3.heap.size W3 X → Calls Try.prog 49 #[.slice (cutA o c at1) mm.length (c - at1)] X fun e w' => (∃ v, e = .returned v ∧ Own w' X.heap.size v mm) ∧ Below X.heap.size X w') := Lib.hid (fun X hb => clone_any (cutA o c at1) (c - at1) mm X (fun hn => by
            cases o with
            | none => have := HOK.out.nil rfl; omega
            | some a => cases hn) (by have := HML.out; have := HL.out; have := HNN.out; omega) (by
            have h := (HR.out.below hb).bs.cut (l := at1) (h := at1 + n) (c := c) (by omega) (by have h1 := HNN.out; have h3 := HAL.out; omega) HOK.out.le
            rw [show at1 + n - at1 = n by omega, HMM.out] at h
            exact h))
        go_wp2_with fail
        rw [HW3.out]
        clear c0 c1 c2 c3 f1 f3 HW3
        rename_i K3 hK3
        refine (wpIn_wide (n := 5)).1 (give_region (S := fun X => Below W3.heap.size W3 X) (Z := []) (by kernel_rfl) (by kernel_rfl) below_mono (fun d _ _ _ _ h => by cases d <;> exact h) (bdrew0 _ _ 1) (fun hG vw0 hw0 => ?_))
        refine give_pure [] 0 (?_) hG rfl (by kernel_rfl) hw0 (by kernel_rfl) ?_ ?_
        rotate_left
        · intro wz hSw; (first | (go_simp; done) | (go_simp; with_reducible rfl))
        intro vw1 hw1
        clear hw0 vw0
        (try simp only [Act.put, List.getElem_toArray, List.getElem_cons_zero, List.getElem_cons_succ, List.setIfInBounds_toArray, List.set_cons_zero, List.set_cons_succ])
        refine give_pure [] 1 (?_) hG rfl (by kernel_rfl) hw1 (by kernel_rfl) ?_ ?_
        rotate_left
        · intro wz hSw; (first | (go_simp; done) | (go_simp; with_reducible rfl))
        intro vw2 hw2
        clear hw1 vw1
        (try simp only [Act.put, List.getElem_toArray, List.getElem_cons_zero, List.getElem_cons_succ, List.setIfInBounds_toArray, List.set_cons_zero, List.set_cons_succ])
        refine give_pure [] 2 (?_) hG rfl (by kernel_rfl) hw2 (by kernel_rfl) ?_ ?_
        rotate_left
        · intro wz hSw; (first | (go_simp; done) | (go_simp; with_reducible rfl))
        intro vw3 hw3
        clear hw2 vw2
        (try simp only [Act.put, List.getElem_toArray, List.getElem_cons_zero, List.getElem_cons_succ, List.setIfInBounds_toArray, List.set_cons_zero, List.set_cons_succ])
        refine give_pure [] 3 (?_) hG rfl (by kernel_rfl) hw3 (by kernel_rfl) ?_ ?_
        rotate_left
        · intro wz hSw; (first | (go_simp; done) | (go_simp; with_reducible rfl))
        intro vw4 hw4
        clear hw3 vw3
        (try simp only [Act.put, List.getElem_toArray, List.getElem_cons_zero, List.getElem_cons_succ, List.setIfInBounds_toArray, List.set_cons_zero, List.set_cons_succ])
        refine give_pure [] 4 (.slice o l.length c) hG rfl (by kernel_rfl) hw4 (by kernel_rfl) ?_ ?_
        · intro wz hSw; obtain ⟨c0, c1, c2, c3, _, _⟩ := (HR.out.below hSw).facts; (first | (go_simp; done) | (go_simp; with_reducible rfl))
        intro vw5 hw5
        clear hw4 vw4
        (try simp only [Act.put, List.getElem_toArray, List.getElem_cons_zero, List.getElem_cons_succ, List.setIfInBounds_toArray, List.set_cons_zero, List.set_cons_succ])
        refine give_pure [] 5 (?_) hG rfl (by kernel_rfl) hw5 (by kernel_rfl) ?_ ?_
        rotate_left
        · intro wz hSw; (first | (go_simp; done) | (go_simp; with_reducible rfl))
        intro vw6 hw6
        clear hw5 vw5
        (try simp only [Act.put, List.getElem_toArray, List.getElem_cons_zero, List.getElem_cons_succ, List.setIfInBounds_toArray, List.set_cons_zero, List.set_cons_succ])
        refine give_pure [] 6 (?_) hG rfl (by kernel_rfl) hw6 (by kernel_rfl) ?_ ?_
        rotate_left
        · intro wz hSw; (first | (go_simp; done) | (go_simp; with_reducible rfl))
        intro vw7 hw7
        clear hw6 vw6
        (try simp only [Act.put, List.getElem_toArray, List.getElem_cons_zero, List.getElem_cons_succ, List.setIfInBounds_toArray, List.set_cons_zero, List.set_cons_succ])
        refine give_pure [] 7 (?_) hG rfl (by kernel_rfl) hw7 (by kernel_rfl) ?_ ?_
        rotate_left
        · intro wz hSw; (first | (go_simp; done) | (go_simp; with_reducible rfl))
        intro vw8 hw8
        clear hw7 vw7
        (try simp only [Act.put, List.getElem_toArray, List.getElem_cons_zero, List.getElem_cons_succ, List.setIfInBounds_toArray, List.set_cons_zero, List.set_cons_succ])
        refine give_pure [] 8 (?_) hG rfl (by kernel_rfl) hw8 (by kernel_rfl) ?_ ?_
        rotate_left
        · intro wz hSw; (first | (go_simp; done) | (go_simp; with_reducible rfl))
        intro vw9 hw9
        clear hw8 vw8
        (try simp only [Act.put, List.getElem_toArray, List.getElem_cons_zero, List.getElem_cons_succ, List.setIfInBounds_toArray, List.set_cons_zero, List.set_cons_succ])
        refine give_pure [] 9 (.int .i64 ((at1 + n : Nat) : Int)) hG rfl (by kernel_rfl) hw9 (by kernel_rfl) ?_ ?_
        · intro wz hSw; obtain ⟨c0, c1, c2, c3, _, _⟩ := (HR.out.below hSw).facts; (first | (go_simp; done) | (go_simp; with_reducible rfl))
        intro vw10 hw10
        clear hw9 vw9
        (try simp only [Act.put, List.getElem_toArray, List.getElem_cons_zero, List.getElem_cons_succ, List.setIfInBounds_toArray, List.set_cons_zero, List.set_cons_succ])
        refine give_pure [] 10 (.slice (cutA o c at1) mm.length (c - at1)) hG rfl (by kernel_rfl) hw10 (by kernel_rfl) ?_ ?_
        · intro wz hSw; rw [HML.out]; exact exec_cut (.tmp 29) (.tmp 30) (.tmp 34) (by kernel_rfl) o l.length c at1 (at1 + n) (at1 : Int) ((at1 + n : Nat) : Int) rfl rfl (by kernel_rfl) (by kernel_rfl) (by kernel_rfl) (by omega) (by have h1 := HNN.out; have h2 := HOK.out.le; have h3 := HAL.out; omega) HOK.out.nil (fun _ => HOK.out.spot)
        intro vw11 hw11
        clear hw10 vw10
        (try simp only [Act.put, List.getElem_toArray, List.getElem_cons_zero, List.getElem_cons_succ, List.setIfInBounds_toArray, List.set_cons_zero, List.set_cons_succ])
        refine give_step 11 (by kernel_rfl) rfl (fun K hK => ?_)
        go_simp
        refine ⟨trivial, callsIn_wide.2 ((HCL.out _ hw11).mono ?_)⟩
        rintro e wm ⟨⟨v, rfl, hov⟩, hbm⟩
        dsimp only
        have hs2' := below_mono _ _ hw11 hbm
        have hov1 := hov.mono (Nat.le_trans HSZ.out hw11.size)
        refine hK.out _ _ (fun _ => hs2') (fun w3 hb3 => ?_)
        have hS3 := below_mono _ _ hs2' hb3
        have HO3 := Lib.hid (hov1.below hb3)
        clear hK K hov hov1 hbm hs2' hb3 hw11
        (try simp only [Act.put, List.getElem_toArray, List.getElem_cons_zero, List.getElem_cons_succ, List.setIfInBounds_toArray, List.set_cons_zero, List.set_cons_succ])
        refine give_step 12 (by kernel_rfl) rfl (fun K hK => ?_)
        go_simp
        refine hK.out _ _ (fun _ => hS3) (fun w4 hb4 => ?_)
        have hS4 := below_mono _ _ hS3 hb4
        have HO := Lib.hid (HO3.out.below hb4)
        clear hK K hb4 HO3 hS3
        (try simp only [Act.put, List.getElem_toArray, List.getElem_cons_zero, List.getElem_cons_succ, List.setIfInBounds_toArray, List.set_cons_zero, List.set_cons_succ])
        refine give_done (by kernel_rfl) (?_) _
        refine hK3 _ _ ?_
        have HRE := Lib.hid (HR.out.below hS4)
        have HGE := Lib.hid (HG.out.trans (below_grown hS4 (some p)))
        clear hK3 hG HR HG hS4
        go_wp2_with fail
        go_ret
        exact ⟨⟨_, rfl, HO.out⟩, by have h := HRE.out; rw [show at1 + n = at0 + (j + n) by have := HA1.out; omega] at h; exact h, HGE.out⟩
    · have hu := HU.out
      have htx := HTX.out
      simp only [if_neg hn] at hu htx
      exact bad htx (Lib.hid hu)
end Go.Proofs.Ytpbidfmijliehaa.Fx
