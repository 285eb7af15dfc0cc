/- PackAgain, walked. -/
import Derived.Test.YtpbidfmijliehaaProg
import Derived.Test.YtpbidfmijliehaaDb
set_option linter.unusedVariables false
set_option linter.unusedSimpArgs false
namespace Go.Proofs.Ytpbidfmijliehaa.Fx
open Go Go.RowKit
theorem PW.grown {B p : Nat} {v : Value} {l : List Nat} {lost : Bool} {W X : World} {row : Option Nat} (h : PW B p v l lost W) (hg : W.grownBy X row) (hp : some p ≠ row) (hr : ∀ k, v.ownBlock = some k → some k ≠ row) : PW B p v l lost X :=
  ⟨by rw [hg.block p h.lt hp]; exact h.row, h.own.grown hg hr⟩
theorem PR.turn {o : Option Addr} {c : Nat} {l : List Nat} {pr at0 p : Nat} {lost : Bool} {v v' : Value} {W X : World} (h : PR o c l pr at0 lost W) (t : Turn p v v' W X) (hp : pr ≠ p) (hv : v.ownBlock ≠ some pr) (hb : ∀ b off, o = some ⟨b, off, none⟩ → 0 < l.length → b ≠ p ∧ v.ownBlock ≠ some b) : PR o c l pr at0 lost X :=
  ⟨by rw [t.block pr h.lt hp hv]; exact h.row, h.bs.turn t hb, h.ok⟩
/-- the writer, and that its bytes are not the reader's -/
def AW (o2 : Option Addr) (n p : Nat) (l : List Nat) (B : Nat) (W : World) : Prop := ∃ v, PW B p v l false W ∧ ∀ b off, o2 = some ⟨b, off, none⟩ → 0 < n → v.ownBlock ≠ some b
theorem AW.below {o2 : Option Addr} {n p B : Nat} {l : List Nat} {W X : World} (h : AW o2 n p l B W) (hb : Below W.heap.size W X) : AW o2 n p l B X := by
  obtain ⟨v, h1, h2⟩ := h
  exact ⟨v, h1.below hb, h2⟩
theorem AW.read {o2 : Option Addr} {c2 n p B pr at0 : Nat} {l a0 : List Nat} {lost : Bool} {W X : World} (h : AW o2 n p l B W) (hr : PR o2 c2 a0 pr at0 lost W) (hg : W.grownBy X (some pr)) (hne : pr ≠ p) : AW o2 n p l B X := by
  obtain ⟨v, h1, h2⟩ := h
  exact ⟨v, h1.grown hg (fun e => hne (Option.some.inj e).symm) (fun k hk e => h1.own.apart hr.row (by decide) k hk (Option.some.inj e)), h2⟩
theorem AW.wrote {o2 : Option Addr} {c2 p B pr at0 : Nat} {l l2 a0 : List Nat} {lost : Bool} {v : Value} {W X : World} {e : Ending} (h1 : PW B p v l false W) (h2 : ∀ b off, o2 = some ⟨b, off, none⟩ → 0 < a0.length → v.ownBlock ≠ some b) (hr : PR o2 c2 a0 pr at0 lost W) (hne : pr ≠ p ∧ (∀ b off, o2 = some ⟨b, off, none⟩ → 0 < a0.length → b ≠ p))
    (hc : PCall B p v l2 false W e X) : AW o2 a0.length p l2 B X ∧ PR o2 c2 a0 pr at0 lost X := by
  obtain ⟨_, v', h3, t⟩ := hc
  refine ⟨⟨v', h3, fun b off e2 hm e3 => ?_⟩, hr.turn t hne.1 (fun e2 => h1.own.apart hr.row (by decide) _ e2 rfl) (fun b off e2 hm => ⟨hne.2 b off e2 hm, h2 b off e2 hm⟩)⟩
  rcases t.own b e3 with h | h
  · exact h2 b off e2 hm h
  · subst e2
    have := hr.bs.lt hm
    omega
set_option maxRecDepth 100000 in
set_option maxHeartbeats 16000000 in
theorem law_packAgain (a0 : List Nat) (o0 : Option Addr) (c0 : Nat) (b0 : By a0) (m0 : a0.length ≤ c0 ∧ c0 ≤ 9223372036854775807) (q0 : o0 = none → c0 = 0) (p0 : 0 < c0 → ∀ a, o0 = some a → a.spot = none) (w : World) (s0 : Bs w o0 a0) :
    Calls Try.prog 7 #[.slice o0 a0.length c0] w fun e w' => e = .returned (.bool true) ∧ Below w.heap.size w w' := by
  have HA := Lib.hid (alive_any w)
  have HS := Lib.hid s0
  have HBY := Lib.hid b0
  have HM := Lib.hid m0
  have HQ := Lib.hid q0
  have HPS := Lib.hid p0
  clear s0 b0 q0 p0
  obtain ⟨mc1, mc2⟩ := m0
  by_cases hl : 2000 < a0.length
  · have hl1 : (2000 : Int) < (a0.length : Int) := by omega
    go_enter Try.func7, Try.ntmps7
    go_wp2_with fail
    refine HA.out.mono ?_
    rintro e w1 ⟨rfl, hb1⟩
    have HB1 := Lib.hid hb1
    clear hb1 HA
    go_wp2_with fail
    go_ret
    exact ⟨rfl, HB1.out⟩
  · have hl1 : ¬ (2000 : Int) < (a0.length : Int) := by omega
    go_enter Try.func7, Try.ntmps7
    go_wp2_with fail
    refine HA.out.mono ?_
    rintro e w1 ⟨rfl, hb1⟩
    have HRN := Lib.hid (new_reader o0 c0 a0 w1 HQ.out (by omega) (HS.out.below hb1))
    have HB1 := Lib.hid hb1
    clear hb1 HA
    go_wp2_with fail
    refine HRN.out.mono ?_
    rintro e w2 ⟨pr, o2, c2, rfl, hr, hpr, ho2, hb2⟩
    have HB2 := Lib.hid (bnext HB1.out hb2)
    have HPR : Hid (w.heap.size ≤ pr) := Lib.hid (Nat.le_trans HB1.out.size hpr)
    have HO2 : Hid (∀ b off, o2 = some ⟨b, off, none⟩ → w.heap.size ≤ b) := Lib.hid (fun b off e => Nat.le_trans HB1.out.size (ho2 b off e))
    have HR := Lib.hid hr
    clear hr hpr ho2 hb2 HRN HB1
    go_wp2_with fail
    refine (new_writer _).mono ?_
    rintro e w3 ⟨rfl, hw3, hw3e⟩
    have HP0 : Hid (AW o2 a0.length w2.heap.size (a0.take 0) w.heap.size w3) := Lib.hid ⟨_, hw3.mono (Nat.le_trans HB2.out.size (Nat.le_succ _)), fun b off _ _ h => by cases h⟩
    have HB3 : Hid (Below w.heap.size w w3) := Lib.hid (by rw [hw3e]; exact HB2.out.alloc HB2.out.size _)
    have HPW : Hid (w.heap.size ≤ w2.heap.size) := Lib.hid HB2.out.size
    have HR3 : Hid (PR o2 c2 a0 pr 0 false w3) := Lib.hid (by rw [hw3e]; exact HR.out.below ((Below.refl _ _).alloc (Nat.le_refl _) _))
    obtain ⟨p, hp⟩ : ∃ p, w2.heap.size = p := ⟨_, rfl⟩
    have HNE : Hid (pr ≠ p ∧ (∀ b off, o2 = some ⟨b, off, none⟩ → 0 < a0.length → b ≠ p)) := Lib.hid (by
      rw [← hp]
      refine ⟨by have := HR.out.lt; omega, fun b off e hm => ?_⟩
      subst e
      have := HR.out.bs.lt hm
      omega)
    rw [hp] at HP0 HPW
    clear hw3 hw3e HB2 HR
    go_wp2_with fail
    go_loopg [6, 7] 2000 (fun g s6 s7 wr => ∃ A i : Nat, g = 2000 - A ∧ A ≤ a0.length ∧ i ≤ A ∧ s6 = .int .i64 (A : Int) ∧ s7 = .int .i64 (i : Int) ∧ AW o2 a0.length p (a0.take A) w.heap.size wr ∧ PR o2 c2 a0 pr A false wr ∧ Below w.heap.size w wr)
    case atStart => exact ⟨0, 0, rfl, by omega, by omega, rfl, rfl, HP0.out, HR3.out, HB3.out⟩
    case round =>
      clear HP0 HB3 HR3
      obtain ⟨A, i, hgk, hA, hi, rfl, rfl, haw, hr, hb⟩ := hrel
      subst hgk
      have A0 : (0 : Int) ≤ (A : Int) := by omega
      have i1 : (i : Int) ≤ (a0.length : Int) := by omega
      have k0 : RdOk a0 A := ⟨HBY.out, by omega, hA⟩
      have HL1 := Lib.hid (pleft_any o2 c2 a0 pr A false wr k0 hr)
      have HR := Lib.hid hr
      have HAW := Lib.hid haw
      have HB := Lib.hid hb
      have HK0 := Lib.hid k0
      have hlf : lfV false a0 A = a0.length - A := rfl
      obtain ⟨r, hrr⟩ : ∃ r, rq false 18446744073709551615 (a0.drop A) = r := ⟨_, rfl⟩
      have HRR := Lib.hid hrr
      rw [hlf] at HL1
      clear hr haw hb k0 hlf hrr
      obtain ⟨lf, hlf⟩ : ∃ lf, a0.length - A = lf := ⟨_, rfl⟩
      rw [hlf] at HL1
      have HLF := Lib.hid hlf
      clear hlf
      go_wp2_with fail
      refine HL1.out.mono ?_
      rintro e w4 ⟨rfl, hb4⟩
      have hu := pruint_any o2 c2 a0 pr A false w4 HK0.out (HR.out.below hb4)
      rw [HRR.out] at hu
      have HU := Lib.hid hu
      have HR4 := Lib.hid (HR.out.below hb4)
      have HAW4 := Lib.hid (HAW.out.below hb4)
      have HB4 := Lib.hid (bnext HB.out hb4)
      clear hu hb4 HL1 HR HAW HB
      cases r with
      | none =>
        go_wp2_with fail
        refine HU.out.mono ?_
        rintro e w5 ⟨rfl, hr5, hg5⟩
        simp only [upV, upA, upB, Option.isNone_none] at hr5 ⊢
        have HAW5 := Lib.hid (HAW4.out.read HR4.out hg5 HNE.out.1)
        have HB5 := Lib.hid (HB4.out.grown hg5 HB4.out.size (fun k hk => by cases hk; exact HPR.out))
        have HL2 := Lib.hid (pleft_any o2 c2 a0 pr A true w5 HK0.out hr5)
        have HR5 := Lib.hid hr5
        clear hr5 hg5 HU HR4 HAW4 HB4
        go_wp2_with fail
        refine HL2.out.mono ?_
        rintro e w6 ⟨rfl, hb6⟩
        rw [show lfV true a0 A = 0 from rfl]
        have HEN := Lib.hid (pend_any o2 c2 a0 pr A true w6 HK0.out (HR5.out.below hb6))
        have HAW6 := Lib.hid (HAW5.out.below hb6)
        have HB6 := Lib.hid (bnext HB5.out hb6)
        clear hb6 HL2 HAW5 HB5 HR5
        have fin : ∀ wz : World, Below w6.heap.size w6 wz → Hid (∃ v, PW w.heap.size p v (a0.take A) false wz) ∧ Hid (Below w.heap.size w wz) := fun wz hz => by
          obtain ⟨v, h1, _⟩ := HAW6.out.below hz
          exact ⟨Lib.hid ⟨v, h1⟩, Lib.hid (bnext HB6.out hz)⟩
        have HFIN := Lib.hid fin
        clear fin HAW6
        by_cases hl0 : lf = 0
        · subst hl0
          obtain ⟨HPZ, HBZ⟩ := HFIN.out w6 (Below.refl _ _)
          clear HFIN HEN HB6
          go_wp2_with fail
          obtain ⟨v, hz⟩ := HPZ.out
          have HP := Lib.hid (pbytes_any w.heap.size p v (a0.take A) false _ (by simp; omega) hz)
          clear hz
          refine HP.out.mono ?_
          rintro e wq ⟨⟨v3, rfl, ho⟩, hbq⟩
          simp only [fl, if_true, Bool.false_eq_true, if_false] at ho ⊢
          obtain ⟨o3, cap3, rfl, hb3, _, _, _, _⟩ := ho.open
          have HB3 := Lib.hid hb3
          have HBQ := Lib.hid (bnext HBZ.out hbq)
          have HBT := Lib.hid ((HS.out.below HBQ.out).take A)
          have HTL : Hid ((a0.take A).length = A) := Lib.hid (by simp; omega)
          have A1 : (A : Int) ≤ (c0 : Int) := by omega
          clear ho hb3 hbq HP
          go_wp2_with fail
          rename_i K3 hK3
          refine (wpIn_wide (n := 5)).1 (give_region (S := fun X => Below wq.heap.size wq X) (Z := []) (by kernel_rfl) (by kernel_rfl) below_mono (fun d _ _ _ _ h => by cases d <;> exact h) (bdrew0 _ _ 1) (fun hG vw0 hw0 => ?_))
          refine give_pure [] 0 (?_) hG rfl (by kernel_rfl) hw0 (by kernel_rfl) ?_ ?_
          rotate_left
          · intro wz hSw; (first | (go_simp; done) | (go_simp; with_reducible rfl))
          intro vw1 hw1
          clear hw0 vw0
          (try simp only [Act.put, List.getElem_toArray, List.getElem_cons_zero, List.getElem_cons_succ, List.setIfInBounds_toArray, List.set_cons_zero, List.set_cons_succ])
          refine give_pure [] 1 (?_) hG rfl (by kernel_rfl) hw1 (by kernel_rfl) ?_ ?_
          rotate_left
          · intro wz hSw; (first | (go_simp; done) | (go_simp; with_reducible rfl))
          intro vw2 hw2
          clear hw1 vw1
          (try simp only [Act.put, List.getElem_toArray, List.getElem_cons_zero, List.getElem_cons_succ, List.setIfInBounds_toArray, List.set_cons_zero, List.set_cons_succ])
          refine give_pure [] 2 (?_) hG rfl (by kernel_rfl) hw2 (by kernel_rfl) ?_ ?_
          rotate_left
          · intro wz hSw; (first | (go_simp; done) | (go_simp; with_reducible rfl))
          intro vw3 hw3
          clear hw2 vw2
          (try simp only [Act.put, List.getElem_toArray, List.getElem_cons_zero, List.getElem_cons_succ, List.setIfInBounds_toArray, List.set_cons_zero, List.set_cons_succ])
          refine give_pure [] 3 (.bool true) hG rfl (by kernel_rfl) hw3 (by kernel_rfl) ?_ ?_
          · intro wz hSw; (first | (go_simp; done) | (go_simp; with_reducible rfl))
          intro vw4 hw4
          clear hw3 vw3
          (try simp only [Act.put, List.getElem_toArray, List.getElem_cons_zero, List.getElem_cons_succ, List.setIfInBounds_toArray, List.set_cons_zero, List.set_cons_succ])
          refine give_pure [] 4 (?_) hG rfl (by kernel_rfl) hw4 (by kernel_rfl) ?_ ?_
          rotate_left
          · intro wz hSw; (first | (go_simp; done) | (go_simp; with_reducible rfl))
          intro vw5 hw5
          clear hw4 vw4
          (try simp only [Act.put, List.getElem_toArray, List.getElem_cons_zero, List.getElem_cons_succ, List.setIfInBounds_toArray, List.set_cons_zero, List.set_cons_succ])
          refine give_pure [] 5 (?_) hG rfl (by kernel_rfl) hw5 (by kernel_rfl) ?_ ?_
          rotate_left
          · intro wz hSw; (first | (go_simp; done) | (go_simp; with_reducible rfl))
          intro vw6 hw6
          clear hw5 vw5
          (try simp only [Act.put, List.getElem_toArray, List.getElem_cons_zero, List.getElem_cons_succ, List.setIfInBounds_toArray, List.set_cons_zero, List.set_cons_succ])
          refine give_pure [] 6 (?_) hG rfl (by kernel_rfl) hw6 (by kernel_rfl) ?_ ?_
          rotate_left
          · intro wz hSw; (first | (go_simp; done) | (go_simp; with_reducible rfl))
          intro vw7 hw7
          clear hw6 vw6
          (try simp only [Act.put, List.getElem_toArray, List.getElem_cons_zero, List.getElem_cons_succ, List.setIfInBounds_toArray, List.set_cons_zero, List.set_cons_succ])
          refine give_pure [] 7 (.string (bstr (a0.take A))) hG rfl (by kernel_rfl) hw7 (by kernel_rfl) ?_ ?_
          · intro wz hSw; have hcv := conv_bs cap3 HTL.out (HB3.out.below hSw); (first | (go_simp; done) | (go_simp; rw [hcv]; done) | (go_simp; rw [hcv]; rfl) | (go_simp; with_reducible rfl))
          intro vw8 hw8
          clear hw7 vw7
          (try simp only [Act.put, List.getElem_toArray, List.getElem_cons_zero, List.getElem_cons_succ, List.setIfInBounds_toArray, List.set_cons_zero, List.set_cons_succ])
          refine give_pure [] 8 (?_) hG rfl (by kernel_rfl) hw8 (by kernel_rfl) ?_ ?_
          rotate_left
          · intro wz hSw; (first | (go_simp; done) | (go_simp; with_reducible rfl))
          intro vw9 hw9
          clear hw8 vw8
          (try simp only [Act.put, List.getElem_toArray, List.getElem_cons_zero, List.getElem_cons_succ, List.setIfInBounds_toArray, List.set_cons_zero, List.set_cons_succ])
          refine give_pure [] 9 (?_) hG rfl (by kernel_rfl) hw9 (by kernel_rfl) ?_ ?_
          rotate_left
          · intro wz hSw; (first | (go_simp; done) | (go_simp; with_reducible rfl))
          intro vw10 hw10
          clear hw9 vw9
          (try simp only [Act.put, List.getElem_toArray, List.getElem_cons_zero, List.getElem_cons_succ, List.setIfInBounds_toArray, List.set_cons_zero, List.set_cons_succ])
          refine give_pure [] 10 (.slice o0 A c0) hG rfl (by kernel_rfl) hw10 (by kernel_rfl) ?_ ?_
          · intro wz hSw; (first | (go_simp; done) | (go_simp; with_reducible rfl))
          intro vw11 hw11
          clear hw10 vw10
          (try simp only [Act.put, List.getElem_toArray, List.getElem_cons_zero, List.getElem_cons_succ, List.setIfInBounds_toArray, List.set_cons_zero, List.set_cons_succ])
          refine give_pure [] 11 (.string (bstr (a0.take A))) hG rfl (by kernel_rfl) hw11 (by kernel_rfl) ?_ ?_
          · intro wz hSw; have hcv := conv_bs c0 HTL.out ((HBT.out).below hSw); (first | (go_simp; done) | (go_simp; rw [hcv]; done) | (go_simp; rw [hcv]; rfl) | (go_simp; with_reducible rfl))
          intro vw12 hw12
          clear hw11 vw11
          (try simp only [Act.put, List.getElem_toArray, List.getElem_cons_zero, List.getElem_cons_succ, List.setIfInBounds_toArray, List.set_cons_zero, List.set_cons_succ])
          refine give_pure [] 12 (.bool true) hG rfl (by kernel_rfl) hw12 (by kernel_rfl) ?_ ?_
          · intro wz hSw; (first | (go_simp; done) | (go_simp; with_reducible rfl))
          intro vw13 hw13
          clear hw12 vw12
          (try simp only [Act.put, List.getElem_toArray, List.getElem_cons_zero, List.getElem_cons_succ, List.setIfInBounds_toArray, List.set_cons_zero, List.set_cons_succ])
          refine give_pure [] 13 (?_) hG rfl (by kernel_rfl) hw13 (by kernel_rfl) ?_ ?_
          rotate_left
          · intro wz hSw; (first | (go_simp; done) | (go_simp; with_reducible rfl))
          intro vw14 hw14
          clear hw13 vw13
          (try simp only [Act.put, List.getElem_toArray, List.getElem_cons_zero, List.getElem_cons_succ, List.setIfInBounds_toArray, List.set_cons_zero, List.set_cons_succ])
          refine give_pure [] 14 (?_) hG rfl (by kernel_rfl) hw14 (by kernel_rfl) ?_ ?_
          rotate_left
          · intro wz hSw; (first | (go_simp; done) | (go_simp; with_reducible rfl))
          intro vw15 hw15
          clear hw14 vw14
          (try simp only [Act.put, List.getElem_toArray, List.getElem_cons_zero, List.getElem_cons_succ, List.setIfInBounds_toArray, List.set_cons_zero, List.set_cons_succ])
          refine give_done (by kernel_rfl) (?_) _
          refine hK3 _ _ ?_
          have HBZ := Lib.hid (bnext HBQ.out hw15)
          clear hK3 hG hw15
          go_wp2_with fail
          go_ret
          exact ⟨rfl, HBZ.out⟩
        · have l0 : ¬ (lf : Int) = 0 := by omega
          go_wp2_with fail
          refine HEN.out.mono ?_
          rintro e w7 ⟨rfl, hb7⟩
          rw [show endV true a0.length A = 50 from rfl]
          obtain ⟨HPZ, HBZ⟩ := HFIN.out w7 hb7
          clear HFIN HEN HB6 hb7
          go_wp2_with fail
          obtain ⟨v, hz⟩ := HPZ.out
          have HP := Lib.hid (pbytes_any w.heap.size p v (a0.take A) false _ (by simp; omega) hz)
          clear hz
          refine HP.out.mono ?_
          rintro e wq ⟨⟨v3, rfl, ho⟩, hbq⟩
          simp only [fl, if_true, Bool.false_eq_true, if_false] at ho ⊢
          obtain ⟨o3, cap3, rfl, hb3, _, _, _, _⟩ := ho.open
          have HB3 := Lib.hid hb3
          have HBQ := Lib.hid (bnext HBZ.out hbq)
          have HBT := Lib.hid ((HS.out.below HBQ.out).take A)
          have HTL : Hid ((a0.take A).length = A) := Lib.hid (by simp; omega)
          have A1 : (A : Int) ≤ (c0 : Int) := by omega
          clear ho hb3 hbq HP
          go_wp2_with fail
          rename_i K3 hK3
          refine (wpIn_wide (n := 5)).1 (give_region (S := fun X => Below wq.heap.size wq X) (Z := []) (by kernel_rfl) (by kernel_rfl) below_mono (fun d _ _ _ _ h => by cases d <;> exact h) (bdrew0 _ _ 1) (fun hG vw0 hw0 => ?_))
          refine give_pure [] 0 (?_) hG rfl (by kernel_rfl) hw0 (by kernel_rfl) ?_ ?_
          rotate_left
          · intro wz hSw; (first | (go_simp; done) | (go_simp; with_reducible rfl))
          intro vw1 hw1
          clear hw0 vw0
          (try simp only [Act.put, List.getElem_toArray, List.getElem_cons_zero, List.getElem_cons_succ, List.setIfInBounds_toArray, List.set_cons_zero, List.set_cons_succ])
          refine give_pure [] 1 (?_) hG rfl (by kernel_rfl) hw1 (by kernel_rfl) ?_ ?_
          rotate_left
          · intro wz hSw; (first | (go_simp; done) | (go_simp; with_reducible rfl))
          intro vw2 hw2
          clear hw1 vw1
          (try simp only [Act.put, List.getElem_toArray, List.getElem_cons_zero, List.getElem_cons_succ, List.setIfInBounds_toArray, List.set_cons_zero, List.set_cons_succ])
          refine give_pure [] 2 (?_) hG rfl (by kernel_rfl) hw2 (by kernel_rfl) ?_ ?_
          rotate_left
          · intro wz hSw; (first | (go_simp; done) | (go_simp; with_reducible rfl))
          intro vw3 hw3
          clear hw2 vw2
          (try simp only [Act.put, List.getElem_toArray, List.getElem_cons_zero, List.getElem_cons_succ, List.setIfInBounds_toArray, List.set_cons_zero, List.set_cons_succ])
          refine give_pure [] 3 (.bool true) hG rfl (by kernel_rfl) hw3 (by kernel_rfl) ?_ ?_
          · intro wz hSw; (first | (go_simp; done) | (go_simp; with_reducible rfl))
          intro vw4 hw4
          clear hw3 vw3
          (try simp only [Act.put, List.getElem_toArray, List.getElem_cons_zero, List.getElem_cons_succ, List.setIfInBounds_toArray, List.set_cons_zero, List.set_cons_succ])
          refine give_pure [] 4 (?_) hG rfl (by kernel_rfl) hw4 (by kernel_rfl) ?_ ?_
          rotate_left
          · intro wz hSw; (first | (go_simp; done) | (go_simp; with_reducible rfl))
          intro vw5 hw5
          clear hw4 vw4
          (try simp only [Act.put, List.getElem_toArray, List.getElem_cons_zero, List.getElem_cons_succ, List.setIfInBounds_toArray, List.set_cons_zero, List.set_cons_succ])
          refine give_pure [] 5 (?_) hG rfl (by kernel_rfl) hw5 (by kernel_rfl) ?_ ?_
          rotate_left
          · intro wz hSw; (first | (go_simp; done) | (go_simp; with_reducible rfl))
          intro vw6 hw6
          clear hw5 vw5
          (try simp only [Act.put, List.getElem_toArray, List.getElem_cons_zero, List.getElem_cons_succ, List.setIfInBounds_toArray, List.set_cons_zero, List.set_cons_succ])
          refine give_pure [] 6 (?_) hG rfl (by kernel_rfl) hw6 (by kernel_rfl) ?_ ?_
          rotate_left
          · intro wz hSw; (first | (go_simp; done) | (go_simp; with_reducible rfl))
          intro vw7 hw7
          clear hw6 vw6
          (try simp only [Act.put, List.getElem_toArray, List.getElem_cons_zero, List.getElem_cons_succ, List.setIfInBounds_toArray, List.set_cons_zero, List.set_cons_succ])
          refine give_pure [] 7 (.string (bstr (a0.take A))) hG rfl (by kernel_rfl) hw7 (by kernel_rfl) ?_ ?_
          · intro wz hSw; have hcv := conv_bs cap3 HTL.out (HB3.out.below hSw); (first | (go_simp; done) | (go_simp; rw [hcv]; done) | (go_simp; rw [hcv]; rfl) | (go_simp; with_reducible rfl))
          intro vw8 hw8
          clear hw7 vw7
          (try simp only [Act.put, List.getElem_toArray, List.getElem_cons_zero, List.getElem_cons_succ, List.setIfInBounds_toArray, List.set_cons_zero, List.set_cons_succ])
          refine give_pure [] 8 (?_) hG rfl (by kernel_rfl) hw8 (by kernel_rfl) ?_ ?_
          rotate_left
          · intro wz hSw; (first | (go_simp; done) | (go_simp; with_reducible rfl))
          intro vw9 hw9
          clear hw8 vw8
          (try simp only [Act.put, List.getElem_toArray, List.getElem_cons_zero, List.getElem_cons_succ, List.setIfInBounds_toArray, List.set_cons_zero, List.set_cons_succ])
          refine give_pure [] 9 (?_) hG rfl (by kernel_rfl) hw9 (by kernel_rfl) ?_ ?_
          rotate_left
          · intro wz hSw; (first | (go_simp; done) | (go_simp; with_reducible rfl))
          intro vw10 hw10
          clear hw9 vw9
          (try simp only [Act.put, List.getElem_toArray, List.getElem_cons_zero, List.getElem_cons_succ, List.setIfInBounds_toArray, List.set_cons_zero, List.set_cons_succ])
          refine give_pure [] 10 (.slice o0 A c0) hG rfl (by kernel_rfl) hw10 (by kernel_rfl) ?_ ?_
          · intro wz hSw; (first | (go_simp; done) | (go_simp; with_reducible rfl))
          intro vw11 hw11
          clear hw10 vw10
          (try simp only [Act.put, List.getElem_toArray, List.getElem_cons_zero, List.getElem_cons_succ, List.setIfInBounds_toArray, List.set_cons_zero, List.set_cons_succ])
          refine give_pure [] 11 (.string (bstr (a0.take A))) hG rfl (by kernel_rfl) hw11 (by kernel_rfl) ?_ ?_
          · intro wz hSw; have hcv := conv_bs c0 HTL.out ((HBT.out).below hSw); (first | (go_simp; done) | (go_simp; rw [hcv]; done) | (go_simp; rw [hcv]; rfl) | (go_simp; with_reducible rfl))
          intro vw12 hw12
          clear hw11 vw11
          (try simp only [Act.put, List.getElem_toArray, List.getElem_cons_zero, List.getElem_cons_succ, List.setIfInBounds_toArray, List.set_cons_zero, List.set_cons_succ])
          refine give_pure [] 12 (.bool true) hG rfl (by kernel_rfl) hw12 (by kernel_rfl) ?_ ?_
          · intro wz hSw; (first | (go_simp; done) | (go_simp; with_reducible rfl))
          intro vw13 hw13
          clear hw12 vw12
          (try simp only [Act.put, List.getElem_toArray, List.getElem_cons_zero, List.getElem_cons_succ, List.setIfInBounds_toArray, List.set_cons_zero, List.set_cons_succ])
          refine give_pure [] 13 (?_) hG rfl (by kernel_rfl) hw13 (by kernel_rfl) ?_ ?_
          rotate_left
          · intro wz hSw; (first | (go_simp; done) | (go_simp; with_reducible rfl))
          intro vw14 hw14
          clear hw13 vw13
          (try simp only [Act.put, List.getElem_toArray, List.getElem_cons_zero, List.getElem_cons_succ, List.setIfInBounds_toArray, List.set_cons_zero, List.set_cons_succ])
          refine give_pure [] 14 (?_) hG rfl (by kernel_rfl) hw14 (by kernel_rfl) ?_ ?_
          rotate_left
          · intro wz hSw; (first | (go_simp; done) | (go_simp; with_reducible rfl))
          intro vw15 hw15
          clear hw14 vw14
          (try simp only [Act.put, List.getElem_toArray, List.getElem_cons_zero, List.getElem_cons_succ, List.setIfInBounds_toArray, List.set_cons_zero, List.set_cons_succ])
          refine give_done (by kernel_rfl) (?_) _
          refine hK3 _ _ ?_
          have HBZ := Lib.hid (bnext HBQ.out hw15)
          clear hK3 hG hw15
          go_wp2_with fail
          go_ret
          exact ⟨rfl, HBZ.out⟩
      | some r =>
        obtain ⟨n, j⟩ := r
        have hrd : rd M64 (a0.drop A) = some (n, j) := HRR.out
        obtain ⟨h1, h2, h3⟩ := rd_has (HBY.out.drop A) hrd
        have hj10 : j ≤ 10 := rdG_le10 (by omega) hrd
        obtain ⟨_, hj0, hjl⟩ := rd_le hrd
        have hAj : A + j ≤ a0.length := by simp at hjl; omega
        have htk : a0.take (A + j) = a0.take A ++ form n := by rw [← h1, ← List.take_add]
        go_wp2_with fail
        refine HU.out.mono ?_
        rintro e w5 ⟨rfl, hr5, hg5⟩
        simp only [upV, upA, upB, Option.isNone_some] at hr5 ⊢
        have HAW5 := Lib.hid (HAW4.out.read HR4.out hg5 HNE.out.1)
        have HB5 := Lib.hid (HB4.out.grown hg5 HB4.out.size (fun k hk => by cases hk; exact HPR.out))
        have k2 : RdOk a0 (A + j) := ⟨HBY.out, by omega, hAj⟩
        have HL2 := Lib.hid (pleft_any o2 c2 a0 pr (A + j) false w5 k2 hr5)
        have HR5 := Lib.hid hr5
        have HK2 := Lib.hid k2
        have HTK := Lib.hid htk
        have HRD := Lib.hid hrd
        have HN64 := Lib.hid h2
        have hlf2 : lfV false a0 (A + j) = a0.length - (A + j) := rfl
        rw [hlf2] at HL2
        obtain ⟨now, hnow⟩ : ∃ now, a0.length - (A + j) = now := ⟨_, rfl⟩
        rw [hnow] at HL2
        have hsub : (lf : Int) - (now : Int) = (j : Int) := by have := HLF.out; omega
        have hwr : IntKind.i64.wrap ((lf : Int) - (now : Int)) = (j : Int) := by rw [IntKind.wrap_i64]; omega
        have hat : IntKind.i64.wrap ((a0.length : Int) - (A : Int)) = (lf : Int) := by have := HLF.out; rw [IntKind.wrap_i64]; omega
        have hnx : IntKind.i64.wrap ((A : Int) + (j : Int)) = ((A + j : Nat) : Int) := by rw [IntKind.wrap_i64]; omega
        have l0 : ¬ (lf : Int) = 0 := by have := HLF.out; omega
        have j1 : ¬ (j : Int) < 1 := by omega
        have j2 : ¬ (10 : Int) < (j : Int) := by omega
        have HNOW := Lib.hid hnow
        have hA' := hA
        clear hr5 hg5 HU HR4 HAW4 HB4 hlf2 h1 h2 h3 hjl hrd htk k2 hnow
        go_wp2_with fail
        refine HL2.out.mono ?_
        rintro e w6 ⟨rfl, hb6⟩
        have HEN := Lib.hid (pend_any o2 c2 a0 pr (A + j) false w6 HK2.out (HR5.out.below hb6))
        have HR6 := Lib.hid (HR5.out.below hb6)
        have HAW6 := Lib.hid (HAW5.out.below hb6)
        have HB6 := Lib.hid (bnext HB5.out hb6)
        clear hb6 HL2 HAW5 HB5 HR5
        by_cases hn0 : now = 0
        · have HEV : Hid (endV false a0.length (A + j) = 0) := Lib.hid (by have := HNOW.out; unfold endV; rw [if_neg (by simp; omega)])
          rw [HEV.out] at HEN
          subst hn0
          go_wp2_with fail
          refine HEN.out.mono ?_
          rintro e w7 ⟨rfl, hb7⟩
          have HR7 := Lib.hid (HR6.out.below hb7)
          have HAW7 := Lib.hid (HAW6.out.below hb7)
          have HB7 := Lib.hid (bnext HB6.out hb7)
          clear hb7 HEN HB6 HAW6 HR6
          go_wp2_with fail
          obtain ⟨v, h1, h2⟩ := HAW7.out
          have hc := puint_any w.heap.size p n v (a0.take A) false w7 HB7.out.size HN64.out (by simp; omega) h1
          rw [putB_on, putL_on, ← HTK.out] at hc
          have HC := Lib.hid (hc.mono (R' := fun e X => e = .returned undef ∧ AW o2 a0.length p (a0.take (A + j)) w.heap.size X ∧ PR o2 c2 a0 pr (A + j) false X ∧ Below w.heap.size w X) (fun e X hx => by
            have hx2 := AW.wrote h1 h2 HR7.out HNE.out hx
            obtain ⟨he, v', h3, t⟩ := hx
            exact ⟨he, hx2.1, hx2.2, t.below HB7.out HPW.out h1⟩))
          clear h1 h2 hc HAW7 HR7 HB7
          refine HC.out.mono ?_
          rintro e w8 ⟨rfl, haw8, hr8, hb8⟩
          have HAW8 := Lib.hid haw8
          have HR8 := Lib.hid hr8
          have HB8 := Lib.hid hb8
          clear haw8 hr8 hb8 HC
          go_wp2_with fail
          go_loopg [12] 10 (fun g s12 wr2 => ∃ k : Nat, g = 10 - k ∧ k ≤ j ∧ s12 = .int .i64 (k : Int) ∧ Below w8.heap.size w8 wr2)
          case atStart => exact ⟨0, rfl, by omega, rfl, Below.refl _ _⟩
          case round =>
            obtain ⟨k, hgk2, hkj, rfl, hbi⟩ := hrel
            subst hgk2
            have HBI := Lib.hid hbi
            have HBW := Lib.hid (bnext HB8.out hbi)
            clear hbi
            have kk0 : (0 : Int) ≤ (k : Int) := by omega
            by_cases hkj2 : k < j
            · have k1 : (k : Int) < (j : Int) := by omega
              have hak : IntKind.i64.wrap ((A : Int) + (k : Int)) = ((A + k : Nat) : Int) := by rw [IntKind.wrap_i64]; omega
              have hsl : ∀ W, (Instr.slice 27 (.slice o0 a0.length c0) (some (.int .i64 (A : Int))) (some (.int .i64 ((A + k : Nat) : Int))) none).run Try.prog W = .ok (.slice (cutA o0 c0 A) k (c0 - A)) W := fun W => by
                have := run_cut W o0 a0.length c0 A (A + k) (by omega) (by omega) HQ.out HPS.out
                rw [show A + k - A = k by omega] at this
                exact this
              obtain ⟨s, hs⟩ : ∃ s, (a0.drop A).take k = s := ⟨_, rfl⟩
              have hsk : s.length = k := by rw [← hs]; simp; omega
              have hno : rq false 18446744073709551615 (s.drop 0) = none := by rw [List.drop_zero, ← hs]; exact rd_cut HRD.out hkj2
              have HSB : Hid (By s) := Lib.hid (by rw [← hs]; exact (HBY.out.drop A).take k)
              have HNR := new_reader (cutA o0 c0 A) (c0 - A) s _ (fun hn => by
                  cases o0 with
                  | none => have := HQ.out rfl; omega
                  | some a => cases hn) (by omega) (by
                  have h := (HS.out.below HBW.out).cut (l := A) (h := A + k) (c := c0) (by omega) (by omega) HM.out.1
                  rw [show A + k - A = k by omega, hs] at h
                  exact h)
              have hcut : cutA o0 c0 A = Option.map (fun x => x.add A) o0 := by
                cases o0 with
                | none => rfl
                | some a =>
                  obtain ⟨b, off, spot⟩ := a
                  have hsp : spot = none := HPS.out (by omega) _ rfl
                  subst hsp
                  unfold cutA
                  simp only [Option.map_some, Addr.add_lit]
                  rw [if_neg (by omega)]
              rw [hsk, hcut] at HNR
              have HNR := Lib.hid HNR
              have HNO := Lib.hid hno
              have HSK := Lib.hid hsk
              clear hs hno hsk hcut
              go_wp2_with fail
              refine HNR.out.mono ?_
              rintro e x1 ⟨ps, o9, c9, rfl, hrs, hps, _, hbs⟩
              have ks : RdOk s 0 := ⟨HSB.out, by have := HSK.out; omega, by omega⟩
              have hu := pruint_any o9 c9 s ps 0 false x1 ks hrs
              rw [HNO.out] at hu
              have HU := Lib.hid hu
              have HX1 := Lib.hid (bnext HBI.out hbs)
              have HPS9 : Hid (w8.heap.size ≤ ps) := Lib.hid (Nat.le_trans HBI.out.size hps)
              have HKS := Lib.hid ks
              clear hu hrs hps hbs ks HNR HBW
              go_wp2_with fail
              refine HU.out.mono ?_
              rintro e x2 ⟨rfl, hr2, hg2⟩
              simp only [upV, upA, upB, Option.isNone_none] at hr2 ⊢
              have HEN := Lib.hid (pend_any o9 c9 s ps 0 true x2 HKS.out hr2)
              have HX2 := Lib.hid (HX1.out.grown hg2 HX1.out.size (fun q hq => by cases hq; exact HPS9.out))
              clear hr2 hg2 HU HX1
              go_wp2_with fail
              refine HEN.out.mono ?_
              rintro e x3 ⟨rfl, hb3⟩
              rw [show endV true s.length 0 = 50 from rfl]
              have HX3 := Lib.hid (bnext HX2.out hb3)
              clear hb3 HEN HX2
              go_wp2_with fail
              go_roundg (10 - (k + 1))
              case measure => omega
              case rel => exact ⟨k + 1, rfl, by omega, by go_num, HX3.out⟩
            · have k1 : ¬ (k : Int) < (j : Int) := by omega
              have HAWZ := Lib.hid (HAW8.out.below HBI.out)
              have HRZ := Lib.hid (HR8.out.below HBI.out)
              clear HAW8 HR8 HB8 HBI
              go_wp2_with fail
              go_roundg (2000 - (A + j))
              case measure => omega
              case rel => exact ⟨A + j, i + 1, rfl, by omega, by omega, by go_num, by go_num, HAWZ.out, HRZ.out, HBW.out⟩
        · have l1 : ¬ (now : Int) = 0 := by omega
          clear HEN
          obtain ⟨w7, hw7⟩ : ∃ w7, w6 = w7 := ⟨_, rfl⟩
          rw [hw7] at HR6 HAW6 HB6 ⊢
          clear hw7
          have HR7 := HR6
          have HAW7 := HAW6
          have HB7 := HB6
          clear HR6 HAW6 HB6
          go_wp2_with fail
          obtain ⟨v, h1, h2⟩ := HAW7.out
          have hc := puint_any w.heap.size p n v (a0.take A) false w7 HB7.out.size HN64.out (by simp; omega) h1
          rw [putB_on, putL_on, ← HTK.out] at hc
          have HC := Lib.hid (hc.mono (R' := fun e X => e = .returned undef ∧ AW o2 a0.length p (a0.take (A + j)) w.heap.size X ∧ PR o2 c2 a0 pr (A + j) false X ∧ Below w.heap.size w X) (fun e X hx => by
            have hx2 := AW.wrote h1 h2 HR7.out HNE.out hx
            obtain ⟨he, v', h3, t⟩ := hx
            exact ⟨he, hx2.1, hx2.2, t.below HB7.out HPW.out h1⟩))
          clear h1 h2 hc HAW7 HR7 HB7
          refine HC.out.mono ?_
          rintro e w8 ⟨rfl, haw8, hr8, hb8⟩
          have HAW8 := Lib.hid haw8
          have HR8 := Lib.hid hr8
          have HB8 := Lib.hid hb8
          clear haw8 hr8 hb8 HC
          go_wp2_with fail
          go_loopg [12] 10 (fun g s12 wr2 => ∃ k : Nat, g = 10 - k ∧ k ≤ j ∧ s12 = .int .i64 (k : Int) ∧ Below w8.heap.size w8 wr2)
          case atStart => exact ⟨0, rfl, by omega, rfl, Below.refl _ _⟩
          case round =>
            obtain ⟨k, hgk2, hkj, rfl, hbi⟩ := hrel
            subst hgk2
            have HBI := Lib.hid hbi
            have HBW := Lib.hid (bnext HB8.out hbi)
            clear hbi
            have kk0 : (0 : Int) ≤ (k : Int) := by omega
            by_cases hkj2 : k < j
            · have k1 : (k : Int) < (j : Int) := by omega
              have hak : IntKind.i64.wrap ((A : Int) + (k : Int)) = ((A + k : Nat) : Int) := by rw [IntKind.wrap_i64]; omega
              have hsl : ∀ W, (Instr.slice 27 (.slice o0 a0.length c0) (some (.int .i64 (A : Int))) (some (.int .i64 ((A + k : Nat) : Int))) none).run Try.prog W = .ok (.slice (cutA o0 c0 A) k (c0 - A)) W := fun W => by
                have := run_cut W o0 a0.length c0 A (A + k) (by omega) (by omega) HQ.out HPS.out
                rw [show A + k - A = k by omega] at this
                exact this
              obtain ⟨s, hs⟩ : ∃ s, (a0.drop A).take k = s := ⟨_, rfl⟩
              have hsk : s.length = k := by rw [← hs]; simp; omega
              have hno : rq false 18446744073709551615 (s.drop 0) = none := by rw [List.drop_zero, ← hs]; exact rd_cut HRD.out hkj2
              have HSB : Hid (By s) := Lib.hid (by rw [← hs]; exact (HBY.out.drop A).take k)
              have HNR := new_reader (cutA o0 c0 A) (c0 - A) s _ (fun hn => by
                  cases o0 with
                  | none => have := HQ.out rfl; omega
                  | some a => cases hn) (by omega) (by
                  have h := (HS.out.below HBW.out).cut (l := A) (h := A + k) (c := c0) (by omega) (by omega) HM.out.1
                  rw [show A + k - A = k by omega, hs] at h
                  exact h)
              have hcut : cutA o0 c0 A = Option.map (fun x => x.add A) o0 := by
                cases o0 with
                | none => rfl
                | some a =>
                  obtain ⟨b, off, spot⟩ := a
                  have hsp : spot = none := HPS.out (by omega) _ rfl
                  subst hsp
                  unfold cutA
                  simp only [Option.map_some, Addr.add_lit]
                  rw [if_neg (by omega)]
              rw [hsk, hcut] at HNR
              have HNR := Lib.hid HNR
              have HNO := Lib.hid hno
              have HSK := Lib.hid hsk
              clear hs hno hsk hcut
              go_wp2_with fail
              refine HNR.out.mono ?_
              rintro e x1 ⟨ps, o9, c9, rfl, hrs, hps, _, hbs⟩
              have ks : RdOk s 0 := ⟨HSB.out, by have := HSK.out; omega, by omega⟩
              have hu := pruint_any o9 c9 s ps 0 false x1 ks hrs
              rw [HNO.out] at hu
              have HU := Lib.hid hu
              have HX1 := Lib.hid (bnext HBI.out hbs)
              have HPS9 : Hid (w8.heap.size ≤ ps) := Lib.hid (Nat.le_trans HBI.out.size hps)
              have HKS := Lib.hid ks
              clear hu hrs hps hbs ks HNR HBW
              go_wp2_with fail
              refine HU.out.mono ?_
              rintro e x2 ⟨rfl, hr2, hg2⟩
              simp only [upV, upA, upB, Option.isNone_none] at hr2 ⊢
              have HEN := Lib.hid (pend_any o9 c9 s ps 0 true x2 HKS.out hr2)
              have HX2 := Lib.hid (HX1.out.grown hg2 HX1.out.size (fun q hq => by cases hq; exact HPS9.out))
              clear hr2 hg2 HU HX1
              go_wp2_with fail
              refine HEN.out.mono ?_
              rintro e x3 ⟨rfl, hb3⟩
              rw [show endV true s.length 0 = 50 from rfl]
              have HX3 := Lib.hid (bnext HX2.out hb3)
              clear hb3 HEN HX2
              go_wp2_with fail
              go_roundg (10 - (k + 1))
              case measure => omega
              case rel => exact ⟨k + 1, rfl, by omega, by go_num, HX3.out⟩
            · have k1 : ¬ (k : Int) < (j : Int) := by omega
              have HAWZ := Lib.hid (HAW8.out.below HBI.out)
              have HRZ := Lib.hid (HR8.out.below HBI.out)
              clear HAW8 HR8 HB8 HBI
              go_wp2_with fail
              go_roundg (2000 - (A + j))
              case measure => omega
              case rel => exact ⟨A + j, i + 1, rfl, by omega, by omega, by go_num, by go_num, HAWZ.out, HRZ.out, HBW.out⟩
end Go.Proofs.Ytpbidfmijliehaa.Fx
