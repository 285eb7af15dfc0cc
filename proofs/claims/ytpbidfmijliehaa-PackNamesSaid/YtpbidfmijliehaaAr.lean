/- The document's reader, walked. -/
import Derived.Test.YtpbidfmijliehaaProg
import Derived.Test.YtpbidfmijliehaaAy
import Derived.Test.YtpbidfmijliehaaHg
set_option linter.unusedVariables false
set_option linter.unusedSimpArgs false
namespace Go.Proofs.Ytpbidfmijliehaa.Fx
open Go Go.RowKit
/-- the number whose form stands at the head of bytes, of at most a size, and of how many bytes it is -/
def rdG (most : Nat) : Nat → Nat → List Nat → Option (Nat × Nat)
  | _, _, [] => none
  | k, n, c :: s => if k = 9 ∧ 1 < c then none else if 128 ≤ c then rdG most (k + 1) (n + c % 128 * 128 ^ k) s else if (0 < k ∧ c = 0) ∨ most < n + c % 128 * 128 ^ k then none else some (n + c % 128 * 128 ^ k, k + 1)
def rd (most : Nat) (s : List Nat) : Option (Nat × Nat) := rdG most 0 0 s
def upV (r : Option (Nat × Nat)) : Nat := match r with | some (n, _) => n | none => 0
def upA (r : Option (Nat × Nat)) (at0 : Nat) : Nat := match r with | some (_, j) => at0 + j | none => at0
def upB (r : Option (Nat × Nat)) : Bool := r.isNone
/-- the document's reader at p: its bytes, its place, whether it is spoilt -/
structure ZR (o : Option Addr) (c : Nat) (l : List Nat) (p at0 : Nat) (lost : Bool) (W : World) : Prop where
  row : W.heap[p]? = some (.cells #[.slice o l.length c, .int .i64 (at0 : Int), .bool lost] 45 (0, 0))
  bs : Bs W o l
theorem ZR.below {o : Option Addr} {c : Nat} {l : List Nat} {p at0 : Nat} {lost : Bool} {W X : World} (h : ZR o c l p at0 lost W) (hb : Below W.heap.size W X) : ZR o c l p at0 lost X := ⟨keep_row hb h.row, h.bs.below hb⟩
theorem ZR.facts {o : Option Addr} {c : Nat} {l : List Nat} {p at0 : Nat} {lost : Bool} {W : World} (h : ZR o c l p at0 lost W) :
    W.cell? ⟨p, 0, none⟩ = some (.slice o l.length c) ∧ W.cell? ⟨p, 1, none⟩ = some (.int .i64 (at0 : Int)) ∧ W.cell? ⟨p, 2, none⟩ = some (.bool lost) ∧ W.frozen? ⟨p, 1, none⟩ = false ∧ W.frozen? ⟨p, 2, none⟩ = false :=
  ⟨by rw [cell_of_row _ _ _ _ _ _ h.row]; rfl, by rw [cell_of_row _ _ _ _ _ _ h.row]; rfl, by rw [cell_of_row _ _ _ _ _ _ h.row]; rfl, frozen_row h.row, frozen_row h.row⟩
theorem ZR.lt {o : Option Addr} {c : Nat} {l : List Nat} {p at0 : Nat} {lost : Bool} {W : World} (h : ZR o c l p at0 lost W) : p < W.heap.size := (Array.getElem?_eq_some_iff.1 h.row).1
theorem ZR.apart {o : Option Addr} {c : Nat} {l : List Nat} {p at0 : Nat} {lost : Bool} {W : World} (h : ZR o c l p at0 lost W) : ∀ b off, o = some ⟨b, off, none⟩ → 0 < l.length → b ≠ p := by
  rintro b off e hm rfl
  obtain ⟨b', off', e', hc⟩ := h.bs 0 hm
  rw [e] at e'
  cases e'
  rw [cell_of_row _ _ _ _ _ _ h.row] at hc
  obtain h0 | h0 | h0 | h0 : off + 0 = 0 ∨ off + 0 = 1 ∨ off + 0 = 2 ∨ 3 ≤ off + 0 := by omega
  · rw [h0] at hc
    simp at hc
  · rw [h0] at hc
    simp at hc
  · rw [h0] at hc
    simp at hc
  · rw [Array.getElem?_eq_none (by simpa using h0)] at hc
    cases hc
theorem ZR.put1' {o : Option Addr} {c : Nat} {l : List Nat} {p at0 : Nat} {lost : Bool} {W : World} (h : ZR o c l p at0 lost W) (a : Nat) (z : Int) (hz : z = (a : Int)) : ZR o c l p a lost (W.setCell ⟨p, 1, none⟩ (.int .i64 z)) := by
  subst hz
  exact ⟨heap_setCell_same _ _ 1 _ _ (.int .i64 (a : Int)) h.row, h.bs.set _ h.apart⟩
theorem ZR.put1 {o : Option Addr} {c : Nat} {l : List Nat} {p at0 : Nat} {lost : Bool} {W : World} (h : ZR o c l p at0 lost W) (a : Nat) : ZR o c l p a lost (W.setCell ⟨p, 1, none⟩ (.int .i64 (a : Int))) :=
  ⟨heap_setCell_same _ _ 1 _ _ (.int .i64 (a : Int)) h.row, h.bs.set _ h.apart⟩
theorem ZR.put2 {o : Option Addr} {c : Nat} {l : List Nat} {p at0 : Nat} {lost : Bool} {W : World} (h : ZR o c l p at0 lost W) (b : Bool) : ZR o c l p at0 b (W.setCell ⟨p, 2, none⟩ (.bool b)) :=
  ⟨heap_setCell_same _ _ 2 _ _ (.bool b) h.row, h.bs.set _ h.apart⟩
def UpPost (o : Option Addr) (c : Nat) (l : List Nat) (p at0 : Nat) (r : Option (Nat × Nat)) (w : World) (e : Ending) (w' : World) : Prop :=
  e = .returned (.int .u64 ((upV r : Nat) : Int)) ∧ ZR o c l p (upA r at0) (upB r) w' ∧ w.grownBy w' (some p)
theorem exec_byte {P : Program} {o : Oper} {a : Act} {w : World} (t : TypeId) (x y : Operand) (ho : o.op = .indexAddr t x y) (b off n c k : Nat) (z : Int) (hz : z = (k : Int)) (e : TypeId) (hx : a.eval x = .slice (some ⟨b, off, none⟩) n c) (hy : a.eval y = .int .i64 z) (hk : k < n) (hu : P.underlying t = some (.slice e)) (hc : ∀ w, (Go.sizeOf e).run P w = .ok 1 w) :
    (execOp a.eval o).run P w = .ok (.value (.pointer (some ⟨b, off + k, none⟩))) w := by
  subst hz
  unfold execOp
  simp only [ho, hx, hy]
  have h2 : (k : Int) < (n : Int) := by omega
  have h3 : (0 : Int) ≤ (k : Int) := by omega
  go_simp
  try rw [hc]
theorem upto_lost (o : Option Addr) (c : Nat) (l : List Nat) (p at0 most : Nat) (w : World) (h : ZR o c l p at0 true w) :
    Calls Try.prog 69 #[.pointer (some ⟨p, 0, none⟩), .int .u64 (most : Int)] w fun e w' => e = .returned (.int .u64 0) ∧ w = w' := by
  obtain ⟨c0, c1, c2, _, _⟩ := h.facts
  go_enter Try.func69, Try.ntmps69
  go_wp2_with fail
  go_ret
  exact ⟨rfl, rfl⟩
theorem p9 : (128 : Nat) ^ 9 = 9223372036854775808 := by decide
theorem pow_le9 {k : Nat} (h : k ≤ 9) : (128 : Nat) ^ k ≤ 9223372036854775808 := by rw [← p9]; exact Nat.pow_le_pow_right (by omega) h
set_option maxRecDepth 100000 in
set_option maxHeartbeats 8000000 in
theorem upto_go (o : Option Addr) (c : Nat) (l : List Nat) (p at0 most : Nat) (r : Option (Nat × Nat)) (w : World) (hr : Hid (rd most (l.drop at0) = r)) (hby : Hid (By l)) (hm : Hid (most < 18446744073709551616)) (hlen : Hid (l.length ≤ 1000000000)) (hat : Hid (at0 ≤ l.length)) (h : ZR o c l p at0 false w) :
    Calls Try.prog 69 #[.pointer (some ⟨p, 0, none⟩), .int .u64 (most : Int)] w (UpPost o c l p at0 r w) := by
  obtain ⟨c0, c1, c2, _, _⟩ := h.facts
  have HZ0 := Lib.hid h
  clear h
  go_enter Try.func69, Try.ntmps69
  go_wp2_with fail
  clear c0 c1 c2
  go_loopg [5, 6, 7] 9 (fun g s5 s6 s7 wr => ∃ (k n : Nat) (s : List Nat), g = 9 - k ∧ s7 = .int .i64 (k : Int) ∧ s5 = .int .u64 (n : Int) ∧ s6 = .int .u64 ((128 ^ k : Nat) : Int) ∧ k ≤ 9 ∧ n < 128 ^ k ∧ l.drop (at0 + k) = s ∧ rdG most k n s = r ∧ ZR o c l p at0 false wr ∧ w.grownBy wr (some p))
  case atStart => exact ⟨0, 0, _, rfl, rfl, rfl, rfl, by omega, by simp, rfl, hr.out, HZ0.out, World.grownBy.refl _ _⟩
  case round =>
    clear HZ0
    obtain ⟨k, n, s, hg, rfl, rfl, rfl, hk, hn, hs, hrd, hz, hgw⟩ := hrel
    subst hg
    have HZ := Lib.hid hz
    have HG0 := Lib.hid hgw
    have HS := Lib.hid hs
    have HRD := Lib.hid hrd
    have HNN := Lib.hid hn
    clear hz hgw hs hrd hn
    have k10 : (k : Int) < 10 := by omega
    have k0 : (0 : Int) ≤ (k : Int) := by omega
    have hlen2 := hlen.out
    by_cases hin : at0 + k < l.length
    · have hin2 : ((at0 + k : Nat) : Int) < (l.length : Int) := by omega
      have ha1 : (at0 : Int) + (k : Int) < 1000000000 := by omega
      have ha0 : (0 : Int) ≤ (at0 : Int) := by omega
      have HEK : Hid (IntKind.i64.wrap ((at0 : Int) + (k : Int)) = (at0 : Int) + (k : Int)) := Lib.hid (by rw [IntKind.wrap_i64]; omega)
      obtain ⟨b, off, eo, _⟩ := HZ.out.bs _ hin
      obtain ⟨x, hx⟩ : ∃ x, l.getD (at0 + k) 0 = x := ⟨_, rfl⟩
      have hx256 := hby.out.get (at0 + k)
      rw [hx] at hx256
      have hsx : s = x :: l.drop (at0 + (k + 1)) := by
        have e : l[at0 + k] = x := by rw [← hx]; simp [List.getD, hin]
        rw [← HS.out, List.drop_eq_getElem_cons hin, e]
        rfl
      have hcx : Hid (∀ W, ZR o c l p at0 false W → W.cell? ⟨b, off + (at0 + k), none⟩ = some (.int .u8 (x : Int))) := Lib.hid (fun W hW => by obtain ⟨b', off', e, h⟩ := hW.bs _ hin; rw [eo] at e; cases e; rw [← hx]; exact h)
      have HRX := HRD.out
      rw [hsx, rdG] at HRX
      have HRX := Lib.hid HRX
      obtain ⟨wo, hwo⟩ : ∃ wo : Nat, 128 ^ k = wo := ⟨_, rfl⟩
      have hwl : wo ≤ 9223372036854775808 := by rw [← hwo]; exact pow_le9 hk
      rw [hwo] at HRX HNN
      have hn1 := HNN.out
      have HWO := Lib.hid hwo
      obtain ⟨P, hP⟩ : ∃ P : Nat, x % 128 * wo = P := ⟨_, rfl⟩
      obtain ⟨n2, hn2⟩ : ∃ n2 : Nat, n + P = n2 := ⟨_, rfl⟩
      rw [hP, hn2] at HRX
      obtain ⟨wo2, hwo2⟩ : ∃ z : Int, IntKind.u64.wrap ((wo : Int) * 128) = z := ⟨_, rfl⟩
      have eo' := eo
      subst eo
      clear hx hsx HS HRD
      have x0 : (0 : Int) ≤ (x : Int) := by omega
      have x1 : (x : Int) < 256 := by omega
      have HX256 := Lib.hid hx256
      rw [hwo]
      clear hwo hlen2 hx256 eo'
      go_wp2_with fail
      rename_i K6 hK6
      refine (wpIn_wide (n := 5)).1 (give_region (S := fun X => Below wr.heap.size wr X) (Z := []) (by kernel_rfl) (by kernel_rfl) below_mono (fun d _ _ _ _ h => by cases d <;> exact h) (bdrew0 _ _ 1) (fun hG vw0 hw0 => ?_))
      refine give_pure [] 0 (?_) hG rfl (by kernel_rfl) hw0 (by kernel_rfl) ?_ ?_
      rotate_left
      · intro wz hSw; (first | (go_simp; done) | (go_simp; with_reducible rfl))
      intro vw1 hw1
      clear hw0 vw0
      (try simp only [Act.put, List.getElem_toArray, List.getElem_cons_zero, List.getElem_cons_succ, List.setIfInBounds_toArray, List.set_cons_zero, List.set_cons_succ])
      refine give_pure [] 1 (?_) hG rfl (by kernel_rfl) hw1 (by kernel_rfl) ?_ ?_
      rotate_left
      · intro wz hSw; (first | (go_simp; done) | (go_simp; with_reducible rfl))
      intro vw2 hw2
      clear hw1 vw1
      (try simp only [Act.put, List.getElem_toArray, List.getElem_cons_zero, List.getElem_cons_succ, List.setIfInBounds_toArray, List.set_cons_zero, List.set_cons_succ])
      refine give_pure [] 2 (?_) hG rfl (by kernel_rfl) hw2 (by kernel_rfl) ?_ ?_
      rotate_left
      · intro wz hSw; (first | (go_simp; done) | (go_simp; with_reducible rfl))
      intro vw3 hw3
      clear hw2 vw2
      (try simp only [Act.put, List.getElem_toArray, List.getElem_cons_zero, List.getElem_cons_succ, List.setIfInBounds_toArray, List.set_cons_zero, List.set_cons_succ])
      refine give_pure [] 3 (?_) hG rfl (by kernel_rfl) hw3 (by kernel_rfl) ?_ ?_
      rotate_left
      · intro wz hSw; (first | (go_simp; done) | (go_simp; with_reducible rfl))
      intro vw4 hw4
      clear hw3 vw3
      (try simp only [Act.put, List.getElem_toArray, List.getElem_cons_zero, List.getElem_cons_succ, List.setIfInBounds_toArray, List.set_cons_zero, List.set_cons_succ])
      refine give_pure [] 4 (?_) hG rfl (by kernel_rfl) hw4 (by kernel_rfl) ?_ ?_
      rotate_left
      · intro wz hSw; (first | (go_simp; done) | (go_simp; with_reducible rfl))
      intro vw5 hw5
      clear hw4 vw4
      (try simp only [Act.put, List.getElem_toArray, List.getElem_cons_zero, List.getElem_cons_succ, List.setIfInBounds_toArray, List.set_cons_zero, List.set_cons_succ])
      refine give_pure [] 5 (?_) hG rfl (by kernel_rfl) hw5 (by kernel_rfl) ?_ ?_
      rotate_left
      · intro wz hSw; (first | (go_simp; done) | (go_simp; with_reducible rfl))
      intro vw6 hw6
      clear hw5 vw5
      (try simp only [Act.put, List.getElem_toArray, List.getElem_cons_zero, List.getElem_cons_succ, List.setIfInBounds_toArray, List.set_cons_zero, List.set_cons_succ])
      refine give_pure [] 6 (.int .i64 (at0 : Int)) hG rfl (by kernel_rfl) hw6 (by kernel_rfl) ?_ ?_
      · intro wz hSw; obtain ⟨c0, c1, c2, _, _⟩ := (HZ.out.below hSw).facts; (first | (go_simp; done) | (go_simp; with_reducible rfl))
      intro vw7 hw7
      clear hw6 vw6
      (try simp only [Act.put, List.getElem_toArray, List.getElem_cons_zero, List.getElem_cons_succ, List.setIfInBounds_toArray, List.set_cons_zero, List.set_cons_succ])
      refine give_pure [] 7 (?_) hG rfl (by kernel_rfl) hw7 (by kernel_rfl) ?_ ?_
      rotate_left
      · intro wz hSw; (first | (go_simp; done) | (go_simp; with_reducible rfl))
      intro vw8 hw8
      clear hw7 vw7
      (try simp only [Act.put, List.getElem_toArray, List.getElem_cons_zero, List.getElem_cons_succ, List.setIfInBounds_toArray, List.set_cons_zero, List.set_cons_succ])
      refine give_pure [] 8 (.int .i64 ((at0 : Int) + (k : Int))) hG rfl (by kernel_rfl) hw8 (by kernel_rfl) ?_ ?_
      · intro wz hSw; have ee := HEK.out; (first | (go_simp; done) | (go_simp; rw [ee]) | (go_simp; with_reducible rfl))
      intro vw9 hw9
      clear hw8 vw8
      (try simp only [Act.put, List.getElem_toArray, List.getElem_cons_zero, List.getElem_cons_succ, List.setIfInBounds_toArray, List.set_cons_zero, List.set_cons_succ])
      refine give_pure [] 9 (?_) hG rfl (by kernel_rfl) hw9 (by kernel_rfl) ?_ ?_
      rotate_left
      · intro wz hSw; (first | (go_simp; done) | (go_simp; with_reducible rfl))
      intro vw10 hw10
      clear hw9 vw9
      (try simp only [Act.put, List.getElem_toArray, List.getElem_cons_zero, List.getElem_cons_succ, List.setIfInBounds_toArray, List.set_cons_zero, List.set_cons_succ])
      refine give_pure [] 10 (?_) hG rfl (by kernel_rfl) hw10 (by kernel_rfl) ?_ ?_
      rotate_left
      · intro wz hSw; (first | (go_simp; done) | (go_simp; with_reducible rfl))
      intro vw11 hw11
      clear hw10 vw10
      (try simp only [Act.put, List.getElem_toArray, List.getElem_cons_zero, List.getElem_cons_succ, List.setIfInBounds_toArray, List.set_cons_zero, List.set_cons_succ])
      refine give_pure [] 11 (?_) hG rfl (by kernel_rfl) hw11 (by kernel_rfl) ?_ ?_
      rotate_left
      · intro wz hSw; (first | (go_simp; done) | (go_simp; with_reducible rfl))
      intro vw12 hw12
      clear hw11 vw11
      (try simp only [Act.put, List.getElem_toArray, List.getElem_cons_zero, List.getElem_cons_succ, List.setIfInBounds_toArray, List.set_cons_zero, List.set_cons_succ])
      refine give_pure [] 12 (.slice (some ⟨b, off, none⟩) l.length c) hG rfl (by kernel_rfl) hw12 (by kernel_rfl) ?_ ?_
      · intro wz hSw; obtain ⟨c0, c1, c2, _, _⟩ := (HZ.out.below hSw).facts; (first | (go_simp; done) | (go_simp; with_reducible rfl))
      intro vw13 hw13
      clear hw12 vw12
      (try simp only [Act.put, List.getElem_toArray, List.getElem_cons_zero, List.getElem_cons_succ, List.setIfInBounds_toArray, List.set_cons_zero, List.set_cons_succ])
      refine give_pure [] 13 (?_) hG rfl (by kernel_rfl) hw13 (by kernel_rfl) ?_ ?_
      rotate_left
      · intro wz hSw; (first | (go_simp; done) | (go_simp; with_reducible rfl))
      intro vw14 hw14
      clear hw13 vw13
      (try simp only [Act.put, List.getElem_toArray, List.getElem_cons_zero, List.getElem_cons_succ, List.setIfInBounds_toArray, List.set_cons_zero, List.set_cons_succ])
      refine give_pure [] 14 (.bool true) hG rfl (by kernel_rfl) hw14 (by kernel_rfl) ?_ ?_
      · intro wz hSw; (first | (go_simp; done) | (go_simp; exact hin2) | (go_simp; omega))
      intro vw15 hw15
      clear hw14 vw14
      (try simp only [Act.put, List.getElem_toArray, List.getElem_cons_zero, List.getElem_cons_succ, List.setIfInBounds_toArray, List.set_cons_zero, List.set_cons_succ])
      refine give_pure [] 15 (?_) hG rfl (by kernel_rfl) hw15 (by kernel_rfl) ?_ ?_
      rotate_left
      · intro wz hSw; (first | (go_simp; done) | (go_simp; with_reducible rfl))
      intro vw16 hw16
      clear hw15 vw15
      (try simp only [Act.put, List.getElem_toArray, List.getElem_cons_zero, List.getElem_cons_succ, List.setIfInBounds_toArray, List.set_cons_zero, List.set_cons_succ])
      refine give_done (by kernel_rfl) (?_) _
      refine hK6 _ _ ?_
      have HZ1 := Lib.hid (HZ.out.below hw16)
      have HG1 := Lib.hid (HG0.out.trans (below_grown hw16 (some p)))
      clear hK6 hG HZ HG0 hw16
      have HZ := HZ1
      have HG0 := HG1
      clear HZ1 HG1
      go_wp2_with fail
      rename_i K8 hK8
      refine (wpIn_wide (n := 5)).1 (give_region (S := fun X => Below vw16.heap.size vw16 X) (Z := []) (by kernel_rfl) (by kernel_rfl) below_mono (fun d _ _ _ _ h => by cases d <;> exact h) (bdrew0 _ _ 1) (fun hG vw0 hw0 => ?_))
      refine give_pure [] 0 (?_) hG rfl (by kernel_rfl) hw0 (by kernel_rfl) ?_ ?_
      rotate_left
      · intro wz hSw; (first | (go_simp; done) | (go_simp; with_reducible rfl))
      intro vw1 hw1
      clear hw0 vw0
      (try simp only [Act.put, List.getElem_toArray, List.getElem_cons_zero, List.getElem_cons_succ, List.setIfInBounds_toArray, List.set_cons_zero, List.set_cons_succ])
      refine give_pure [] 1 (?_) hG rfl (by kernel_rfl) hw1 (by kernel_rfl) ?_ ?_
      rotate_left
      · intro wz hSw; (first | (go_simp; done) | (go_simp; with_reducible rfl))
      intro vw2 hw2
      clear hw1 vw1
      (try simp only [Act.put, List.getElem_toArray, List.getElem_cons_zero, List.getElem_cons_succ, List.setIfInBounds_toArray, List.set_cons_zero, List.set_cons_succ])
      refine give_pure [] 2 (?_) hG rfl (by kernel_rfl) hw2 (by kernel_rfl) ?_ ?_
      rotate_left
      · intro wz hSw; (first | (go_simp; done) | (go_simp; with_reducible rfl))
      intro vw3 hw3
      clear hw2 vw2
      (try simp only [Act.put, List.getElem_toArray, List.getElem_cons_zero, List.getElem_cons_succ, List.setIfInBounds_toArray, List.set_cons_zero, List.set_cons_succ])
      refine give_pure [] 3 (.slice (some ⟨b, off, none⟩) l.length c) hG rfl (by kernel_rfl) hw3 (by kernel_rfl) ?_ ?_
      · intro wz hSw; obtain ⟨c0, c1, c2, _, _⟩ := (HZ.out.below hSw).facts; (first | (go_simp; done) | (go_simp; with_reducible rfl))
      intro vw4 hw4
      clear hw3 vw3
      (try simp only [Act.put, List.getElem_toArray, List.getElem_cons_zero, List.getElem_cons_succ, List.setIfInBounds_toArray, List.set_cons_zero, List.set_cons_succ])
      refine give_pure [] 4 (?_) hG rfl (by kernel_rfl) hw4 (by kernel_rfl) ?_ ?_
      rotate_left
      · intro wz hSw; (first | (go_simp; done) | (go_simp; with_reducible rfl))
      intro vw5 hw5
      clear hw4 vw4
      (try simp only [Act.put, List.getElem_toArray, List.getElem_cons_zero, List.getElem_cons_succ, List.setIfInBounds_toArray, List.set_cons_zero, List.set_cons_succ])
      refine give_pure [] 5 (?_) hG rfl (by kernel_rfl) hw5 (by kernel_rfl) ?_ ?_
      rotate_left
      · intro wz hSw; (first | (go_simp; done) | (go_simp; with_reducible rfl))
      intro vw6 hw6
      clear hw5 vw5
      (try simp only [Act.put, List.getElem_toArray, List.getElem_cons_zero, List.getElem_cons_succ, List.setIfInBounds_toArray, List.set_cons_zero, List.set_cons_succ])
      refine give_pure [] 6 (?_) hG rfl (by kernel_rfl) hw6 (by kernel_rfl) ?_ ?_
      rotate_left
      · intro wz hSw; (first | (go_simp; done) | (go_simp; with_reducible rfl))
      intro vw7 hw7
      clear hw6 vw6
      (try simp only [Act.put, List.getElem_toArray, List.getElem_cons_zero, List.getElem_cons_succ, List.setIfInBounds_toArray, List.set_cons_zero, List.set_cons_succ])
      refine give_pure [] 7 (.int .i64 (at0 : Int)) hG rfl (by kernel_rfl) hw7 (by kernel_rfl) ?_ ?_
      · intro wz hSw; obtain ⟨c0, c1, c2, _, _⟩ := (HZ.out.below hSw).facts; (first | (go_simp; done) | (go_simp; with_reducible rfl))
      intro vw8 hw8
      clear hw7 vw7
      (try simp only [Act.put, List.getElem_toArray, List.getElem_cons_zero, List.getElem_cons_succ, List.setIfInBounds_toArray, List.set_cons_zero, List.set_cons_succ])
      refine give_pure [] 8 (?_) hG rfl (by kernel_rfl) hw8 (by kernel_rfl) ?_ ?_
      rotate_left
      · intro wz hSw; (first | (go_simp; done) | (go_simp; with_reducible rfl))
      intro vw9 hw9
      clear hw8 vw8
      (try simp only [Act.put, List.getElem_toArray, List.getElem_cons_zero, List.getElem_cons_succ, List.setIfInBounds_toArray, List.set_cons_zero, List.set_cons_succ])
      refine give_pure [] 9 (.int .i64 ((at0 : Int) + (k : Int))) hG rfl (by kernel_rfl) hw9 (by kernel_rfl) ?_ ?_
      · intro wz hSw; have ee := HEK.out; (first | (go_simp; done) | (go_simp; rw [ee]) | (go_simp; with_reducible rfl))
      intro vw10 hw10
      clear hw9 vw9
      (try simp only [Act.put, List.getElem_toArray, List.getElem_cons_zero, List.getElem_cons_succ, List.setIfInBounds_toArray, List.set_cons_zero, List.set_cons_succ])
      refine give_pure [] 10 (.pointer (some ⟨b, off + (at0 + k), none⟩)) hG rfl (by kernel_rfl) hw10 (by kernel_rfl) ?_ ?_
      · intro wz hSw; exact exec_byte 27 (.tmp 34) (.tmp 40) (by kernel_rfl) b off l.length c (at0 + k) ((at0 : Int) + (k : Int)) (by omega) 5 (by kernel_rfl) (by kernel_rfl) hin Try.underlying27 (fun _ => by kernel_rfl)
      intro vw11 hw11
      clear hw10 vw10
      (try simp only [Act.put, List.getElem_toArray, List.getElem_cons_zero, List.getElem_cons_succ, List.setIfInBounds_toArray, List.set_cons_zero, List.set_cons_succ])
      refine give_pure [] 11 (.int .u8 (x : Int)) hG rfl (by kernel_rfl) hw11 (by kernel_rfl) ?_ ?_
      · intro wz hSw; have hcc := hcx.out wz (HZ.out.below hSw); (first | (go_simp; done) | (go_simp; with_reducible rfl))
      intro vw12 hw12
      clear hw11 vw11
      (try simp only [Act.put, List.getElem_toArray, List.getElem_cons_zero, List.getElem_cons_succ, List.setIfInBounds_toArray, List.set_cons_zero, List.set_cons_succ])
      refine give_pure [] 12 (.int .u64 (x : Int)) hG rfl (by kernel_rfl) hw12 (by kernel_rfl) ?_ ?_
      · intro wz hSw; have hw : IntKind.u64.wrap (x : Int) = (x : Int) := (by rw [IntKind.wrap_u64]; omega); (first | (go_simp; done) | (go_simp; rw [hw]))
      intro vw13 hw13
      clear hw12 vw12
      (try simp only [Act.put, List.getElem_toArray, List.getElem_cons_zero, List.getElem_cons_succ, List.setIfInBounds_toArray, List.set_cons_zero, List.set_cons_succ])
      refine give_pure [] 13 (?_) hG rfl (by kernel_rfl) hw13 (by kernel_rfl) ?_ ?_
      rotate_left
      · intro wz hSw; (first | (go_simp; done) | (go_simp; with_reducible rfl))
      intro vw14 hw14
      clear hw13 vw13
      (try simp only [Act.put, List.getElem_toArray, List.getElem_cons_zero, List.getElem_cons_succ, List.setIfInBounds_toArray, List.set_cons_zero, List.set_cons_succ])
      refine give_done (by kernel_rfl) (?_) _
      refine hK8 _ _ ?_
      have HZ1 := Lib.hid (HZ.out.below hw14)
      have HG1 := Lib.hid (HG0.out.trans (below_grown hw14 (some p)))
      clear hK8 hG HZ HG0 hcx hw14
      have HZ := HZ1
      have HG0 := HG1
      clear HZ1 HG1
      by_cases hbig : k = 9 ∧ 1 < x
      · obtain ⟨rfl, hx1⟩ := hbig
        have HR : Hid (r = none) := Lib.hid (by have := HRX.out; rw [if_pos ⟨rfl, hx1⟩] at this; exact this.symm)
        have d1 : (1 : Int) < (x : Int) := by omega
        clear HRX
        obtain ⟨c0, c1, c2, f1, f2⟩ := HZ.out.facts
        have HE := Lib.hid (HZ.out.put2 true)
        have HGE := Lib.hid (HG0.out.trans (grown_cell _ p 2 (.bool true)))
        clear HZ HG0
        go_wp2_with fail
        go_ret
        exact ⟨by rw [HR.out]; rfl, by rw [HR.out]; exact HE.out, HGE.out⟩
      · have hPl : P ≤ 9223372036854775808 ∧ n + P < 18446744073709551616 := by
          rcases Nat.lt_or_ge k 9 with h9 | h9
          · have h1 : x % 128 * wo ≤ 127 * wo := Nat.mul_le_mul_right _ (by omega)
            have h2 : wo * 128 ≤ 9223372036854775808 := by
              have := pow_le9 (show k + 1 ≤ 9 by omega)
              rw [Nat.pow_succ, HWO.out] at this
              exact this
            omega
          · have hk9 : k = 9 := by omega
            have hx1 : x ≤ 1 := by
              rcases Nat.lt_or_ge 1 x with h | h
              · exact absurd ⟨hk9, h⟩ hbig
              · exact h
            have h1 : x % 128 * wo ≤ 1 * wo := Nat.mul_le_mul_right _ (by omega)
            omega
        have e1 : IntKind.u64.wrap ((x : Int) % 128 * (wo : Int)) = (P : Int) := by
          have : ((x : Int) % 128 * (wo : Int)) = (P : Int) := by rw [← hP]; push_cast; rfl
          rw [this, IntKind.wrap_u64]
          omega
        have e2 : IntKind.u64.wrap ((n : Int) + (P : Int)) = (n2 : Int) := by rw [IntKind.wrap_u64]; omega
        have d9 : (k : Int) = 9 → ¬ (1 : Int) < (x : Int) := fun h1 h2 => hbig ⟨by omega, by omega⟩
        have HD9 := Lib.hid d9
        have HPL := Lib.hid hPl
        have HHP := Lib.hid hP
        have HN2 := Lib.hid hn2
        have HHB := Lib.hid hbig
        clear hPl hP hn2 d9 hwl hn1
        rcases (show (k = 9 ∧ x ≤ 1) ∨ k ≠ 9 by omega) with ⟨rfl, hx1⟩ | hk9
        · skip
          have t9 : ¬ (1 : Int) < (x : Int) := by omega
          have h128 : ¬ 128 ≤ x := by omega
          have t128 : ¬ (128 : Int) ≤ (x : Int) := by omega
          have HRY := HRX.out
          rw [if_neg HHB.out, if_neg h128] at HRY
          have HRY := Lib.hid HRY
          clear HRX
          by_cases hz0 : 0 < 9 ∧ x = 0
          · obtain ⟨hk0, rfl⟩ := hz0
            have HR : Hid (r = none) := Lib.hid (by have := HRY.out; rw [if_pos (Or.inl ⟨hk0, rfl⟩)] at this; exact this.symm)
            clear HRY
            obtain ⟨c0, c1, c2, f1, f2⟩ := HZ.out.facts
            have HE := Lib.hid (HZ.out.put2 true)
            have HGE := Lib.hid (HG0.out.trans (grown_cell _ p 2 (.bool true)))
            clear HZ HG0
            go_wp2_with fail
            go_ret
            exact ⟨by rw [HR.out]; rfl, by rw [HR.out]; exact HE.out, HGE.out⟩
          · by_cases hbm : most < n2
            · have HR : Hid (r = none) := Lib.hid (by have := HRY.out; rw [if_pos (Or.inr hbm)] at this; exact this.symm)
              have tm : (most : Int) < (n2 : Int) := by omega
              have tmd : decide ((most : Int) < (n2 : Int)) = true := decide_eq_true tm
              have tme : decide (most < n2) = true := decide_eq_true hbm
              clear HRY
              have tz : ((x : Int) == 0) = false := by simp; omega
              have tzb : ¬ (x : Int) = 0 := by omega
              obtain ⟨c0, c1, c2, f1, f2⟩ := HZ.out.facts
              have HE := Lib.hid (HZ.out.put2 true)
              have HGE := Lib.hid (HG0.out.trans (grown_cell _ p 2 (.bool true)))
              clear HZ HG0
              go_wp2_with fail
              go_ret
              exact ⟨by rw [HR.out]; rfl, by rw [HR.out]; exact HE.out, HGE.out⟩
            · have HR : Hid (r = some (n2, 9 + 1)) := Lib.hid (by have := HRY.out; rw [if_neg (by omega)] at this; exact this.symm)
              have tm : ¬ (most : Int) < (n2 : Int) := by omega
              have tmd : decide ((most : Int) < (n2 : Int)) = false := decide_eq_false tm
              have tme : decide (most < n2) = false := decide_eq_false hbm
              clear HRY
              have tz : ((x : Int) == 0) = false := by simp; omega
              have tzb : ¬ (x : Int) = 0 := by omega
              obtain ⟨c0, c1, c2, f1, f2⟩ := HZ.out.facts
              have HE := Lib.hid (HZ.out.put1' (at0 + (9 + 1)) ((at0 : Int) + 9 + 1) (by omega))
              have HGE := Lib.hid (HG0.out.trans (grown_cell _ p 1 (.int .i64 ((at0 : Int) + 9 + 1))))
              clear HZ HG0
              go_wp2_with fail
              go_ret
              exact ⟨by rw [HR.out]; rfl, by rw [HR.out]; exact HE.out, HGE.out⟩
        · skip
          have t9 : ((k : Int) == 9) = false := by simp; omega
          have t9b : ¬ (k : Int) = 9 := by omega
          by_cases h128 : 128 ≤ x
          · have t128 : (128 : Int) ≤ (x : Int) := by omega
            have HRC : Hid (rdG most (k + 1) n2 (l.drop (at0 + (k + 1))) = r) := Lib.hid (by have := HRX.out; rw [if_neg HHB.out, if_pos h128] at this; exact this)
            have HN3 : Hid (n2 < 128 ^ (k + 1)) := Lib.hid (by have h1 := HN2.out; have h2 := HHP.out; have h3 := HNN.out; rw [Nat.pow_succ, HWO.out]; have h4 : x % 128 * wo ≤ 127 * wo := Nat.mul_le_mul_right _ (by omega); omega)
            have HW2 : Hid (wo2 = ((128 ^ (k + 1) : Nat) : Int)) := Lib.hid (by have h1 := pow_le9 (show k + 1 ≤ 9 by omega); rw [← hwo2, Nat.pow_succ, HWO.out, IntKind.wrap_u64]; rw [Nat.pow_succ, HWO.out] at h1; push_cast; omega)
            clear HRX
            go_wp2_with fail
            go_roundg (9 - (k + 1))
            case measure => omega
            case rel => exact ⟨k + 1, n2, _, rfl, by go_num, rfl, by rw [HW2.out], by omega, HN3.out, rfl, HRC.out, HZ.out, HG0.out⟩
          · have t128 : ¬ (128 : Int) ≤ (x : Int) := by omega
            have HRY := HRX.out
            rw [if_neg HHB.out, if_neg h128] at HRY
            have HRY := Lib.hid HRY
            clear HRX
            by_cases hz0 : 0 < k ∧ x = 0
            · obtain ⟨hk0, rfl⟩ := hz0
              have HR : Hid (r = none) := Lib.hid (by have := HRY.out; rw [if_pos (Or.inl ⟨hk0, rfl⟩)] at this; exact this.symm)
              have tk : (0 : Int) < (k : Int) := by omega
              clear HRY
              obtain ⟨c0, c1, c2, f1, f2⟩ := HZ.out.facts
              have HE := Lib.hid (HZ.out.put2 true)
              have HGE := Lib.hid (HG0.out.trans (grown_cell _ p 2 (.bool true)))
              clear HZ HG0
              go_wp2_with fail
              go_ret
              exact ⟨by rw [HR.out]; rfl, by rw [HR.out]; exact HE.out, HGE.out⟩
            · by_cases hbm : most < n2
              · have HR : Hid (r = none) := Lib.hid (by have := HRY.out; rw [if_pos (Or.inr hbm)] at this; exact this.symm)
                have tm : (most : Int) < (n2 : Int) := by omega
                have tmd : decide ((most : Int) < (n2 : Int)) = true := decide_eq_true tm
                have tme : decide (most < n2) = true := decide_eq_true hbm
                clear HRY
                by_cases hk0 : 0 < k
                · have tk : (0 : Int) < (k : Int) := by omega
                  have tz : ((x : Int) == 0) = false := by simp; omega
                  have tzb : ¬ (x : Int) = 0 := by omega
                  obtain ⟨c0, c1, c2, f1, f2⟩ := HZ.out.facts
                  have HE := Lib.hid (HZ.out.put2 true)
                  have HGE := Lib.hid (HG0.out.trans (grown_cell _ p 2 (.bool true)))
                  clear HZ HG0
                  go_wp2_with fail
                  go_ret
                  exact ⟨by rw [HR.out]; rfl, by rw [HR.out]; exact HE.out, HGE.out⟩
                · have tk : ¬ (0 : Int) < (k : Int) := by omega
                  obtain ⟨c0, c1, c2, f1, f2⟩ := HZ.out.facts
                  have HE := Lib.hid (HZ.out.put2 true)
                  have HGE := Lib.hid (HG0.out.trans (grown_cell _ p 2 (.bool true)))
                  clear HZ HG0
                  go_wp2_with fail
                  go_ret
                  exact ⟨by rw [HR.out]; rfl, by rw [HR.out]; exact HE.out, HGE.out⟩
              · have HR : Hid (r = some (n2, k + 1)) := Lib.hid (by have := HRY.out; rw [if_neg (by omega)] at this; exact this.symm)
                have tm : ¬ (most : Int) < (n2 : Int) := by omega
                have tmd : decide ((most : Int) < (n2 : Int)) = false := decide_eq_false tm
                have tme : decide (most < n2) = false := decide_eq_false hbm
                clear HRY
                by_cases hk0 : 0 < k
                · have tk : (0 : Int) < (k : Int) := by omega
                  have tz : ((x : Int) == 0) = false := by simp; omega
                  have tzb : ¬ (x : Int) = 0 := by omega
                  obtain ⟨c0, c1, c2, f1, f2⟩ := HZ.out.facts
                  have HE := Lib.hid (HZ.out.put1' (at0 + (k + 1)) ((at0 : Int) + (k : Int) + 1) (by omega))
                  have HGE := Lib.hid (HG0.out.trans (grown_cell _ p 1 (.int .i64 ((at0 : Int) + (k : Int) + 1))))
                  clear HZ HG0
                  go_wp2_with fail
                  go_ret
                  exact ⟨by rw [HR.out]; rfl, by rw [HR.out]; exact HE.out, HGE.out⟩
                · have tk : ¬ (0 : Int) < (k : Int) := by omega
                  obtain ⟨c0, c1, c2, f1, f2⟩ := HZ.out.facts
                  have HE := Lib.hid (HZ.out.put1' (at0 + (k + 1)) ((at0 : Int) + (k : Int) + 1) (by omega))
                  have HGE := Lib.hid (HG0.out.trans (grown_cell _ p 1 (.int .i64 ((at0 : Int) + (k : Int) + 1))))
                  clear HZ HG0
                  go_wp2_with fail
                  go_ret
                  exact ⟨by rw [HR.out]; rfl, by rw [HR.out]; exact HE.out, HGE.out⟩
    · have hin2 : ¬ (at0 : Int) + (k : Int) < (l.length : Int) := by omega
      have hdz : at0 ≤ 1000000000 := by have := hat.out; omega
      have ha1 : (at0 : Int) + (k : Int) ≤ 2000000000 := by omega
      have ha0 : (0 : Int) ≤ (at0 : Int) := by omega
      have HEK : Hid (IntKind.i64.wrap ((at0 : Int) + (k : Int)) = (at0 : Int) + (k : Int)) := Lib.hid (by rw [IntKind.wrap_i64]; omega)
      have HR : Hid (r = none) := Lib.hid (by
        have h1 := HS.out
        rw [List.drop_eq_nil_of_le (by omega)] at h1
        have h2 := HRD.out
        rw [← h1] at h2
        exact h2.symm)
      clear HS HRD HNN
      go_wp2_with fail
      rename_i K6 hK6
      refine (wpIn_wide (n := 5)).1 (give_region (S := fun X => Below wr.heap.size wr X) (Z := []) (by kernel_rfl) (by kernel_rfl) below_mono (fun d _ _ _ _ h => by cases d <;> exact h) (bdrew0 _ _ 1) (fun hG vw0 hw0 => ?_))
      refine give_pure [] 0 (?_) hG rfl (by kernel_rfl) hw0 (by kernel_rfl) ?_ ?_
      rotate_left
      · intro wz hSw; (first | (go_simp; done) | (go_simp; with_reducible rfl))
      intro vw1 hw1
      clear hw0 vw0
      (try simp only [Act.put, List.getElem_toArray, List.getElem_cons_zero, List.getElem_cons_succ, List.setIfInBounds_toArray, List.set_cons_zero, List.set_cons_succ])
      refine give_pure [] 1 (?_) hG rfl (by kernel_rfl) hw1 (by kernel_rfl) ?_ ?_
      rotate_left
      · intro wz hSw; (first | (go_simp; done) | (go_simp; with_reducible rfl))
      intro vw2 hw2
      clear hw1 vw1
      (try simp only [Act.put, List.getElem_toArray, List.getElem_cons_zero, List.getElem_cons_succ, List.setIfInBounds_toArray, List.set_cons_zero, List.set_cons_succ])
      refine give_pure [] 2 (?_) hG rfl (by kernel_rfl) hw2 (by kernel_rfl) ?_ ?_
      rotate_left
      · intro wz hSw; (first | (go_simp; done) | (go_simp; with_reducible rfl))
      intro vw3 hw3
      clear hw2 vw2
      (try simp only [Act.put, List.getElem_toArray, List.getElem_cons_zero, List.getElem_cons_succ, List.setIfInBounds_toArray, List.set_cons_zero, List.set_cons_succ])
      refine give_pure [] 3 (?_) hG rfl (by kernel_rfl) hw3 (by kernel_rfl) ?_ ?_
      rotate_left
      · intro wz hSw; (first | (go_simp; done) | (go_simp; with_reducible rfl))
      intro vw4 hw4
      clear hw3 vw3
      (try simp only [Act.put, List.getElem_toArray, List.getElem_cons_zero, List.getElem_cons_succ, List.setIfInBounds_toArray, List.set_cons_zero, List.set_cons_succ])
      refine give_pure [] 4 (?_) hG rfl (by kernel_rfl) hw4 (by kernel_rfl) ?_ ?_
      rotate_left
      · intro wz hSw; (first | (go_simp; done) | (go_simp; with_reducible rfl))
      intro vw5 hw5
      clear hw4 vw4
      (try simp only [Act.put, List.getElem_toArray, List.getElem_cons_zero, List.getElem_cons_succ, List.setIfInBounds_toArray, List.set_cons_zero, List.set_cons_succ])
      refine give_pure [] 5 (?_) hG rfl (by kernel_rfl) hw5 (by kernel_rfl) ?_ ?_
      rotate_left
      · intro wz hSw; (first | (go_simp; done) | (go_simp; with_reducible rfl))
      intro vw6 hw6
      clear hw5 vw5
      (try simp only [Act.put, List.getElem_toArray, List.getElem_cons_zero, List.getElem_cons_succ, List.setIfInBounds_toArray, List.set_cons_zero, List.set_cons_succ])
      refine give_pure [] 6 (.int .i64 (at0 : Int)) hG rfl (by kernel_rfl) hw6 (by kernel_rfl) ?_ ?_
      · intro wz hSw; obtain ⟨c0, c1, c2, _, _⟩ := (HZ.out.below hSw).facts; (first | (go_simp; done) | (go_simp; with_reducible rfl))
      intro vw7 hw7
      clear hw6 vw6
      (try simp only [Act.put, List.getElem_toArray, List.getElem_cons_zero, List.getElem_cons_succ, List.setIfInBounds_toArray, List.set_cons_zero, List.set_cons_succ])
      refine give_pure [] 7 (?_) hG rfl (by kernel_rfl) hw7 (by kernel_rfl) ?_ ?_
      rotate_left
      · intro wz hSw; (first | (go_simp; done) | (go_simp; with_reducible rfl))
      intro vw8 hw8
      clear hw7 vw7
      (try simp only [Act.put, List.getElem_toArray, List.getElem_cons_zero, List.getElem_cons_succ, List.setIfInBounds_toArray, List.set_cons_zero, List.set_cons_succ])
      refine give_pure [] 8 (.int .i64 ((at0 : Int) + (k : Int))) hG rfl (by kernel_rfl) hw8 (by kernel_rfl) ?_ ?_
      · intro wz hSw; have ee := HEK.out; (first | (go_simp; done) | (go_simp; rw [ee]) | (go_simp; with_reducible rfl))
      intro vw9 hw9
      clear hw8 vw8
      (try simp only [Act.put, List.getElem_toArray, List.getElem_cons_zero, List.getElem_cons_succ, List.setIfInBounds_toArray, List.set_cons_zero, List.set_cons_succ])
      refine give_pure [] 9 (?_) hG rfl (by kernel_rfl) hw9 (by kernel_rfl) ?_ ?_
      rotate_left
      · intro wz hSw; (first | (go_simp; done) | (go_simp; with_reducible rfl))
      intro vw10 hw10
      clear hw9 vw9
      (try simp only [Act.put, List.getElem_toArray, List.getElem_cons_zero, List.getElem_cons_succ, List.setIfInBounds_toArray, List.set_cons_zero, List.set_cons_succ])
      refine give_pure [] 10 (?_) hG rfl (by kernel_rfl) hw10 (by kernel_rfl) ?_ ?_
      rotate_left
      · intro wz hSw; (first | (go_simp; done) | (go_simp; with_reducible rfl))
      intro vw11 hw11
      clear hw10 vw10
      (try simp only [Act.put, List.getElem_toArray, List.getElem_cons_zero, List.getElem_cons_succ, List.setIfInBounds_toArray, List.set_cons_zero, List.set_cons_succ])
      refine give_pure [] 11 (?_) hG rfl (by kernel_rfl) hw11 (by kernel_rfl) ?_ ?_
      rotate_left
      · intro wz hSw; (first | (go_simp; done) | (go_simp; with_reducible rfl))
      intro vw12 hw12
      clear hw11 vw11
      (try simp only [Act.put, List.getElem_toArray, List.getElem_cons_zero, List.getElem_cons_succ, List.setIfInBounds_toArray, List.set_cons_zero, List.set_cons_succ])
      refine give_pure [] 12 (.slice o l.length c) hG rfl (by kernel_rfl) hw12 (by kernel_rfl) ?_ ?_
      · intro wz hSw; obtain ⟨c0, c1, c2, _, _⟩ := (HZ.out.below hSw).facts; (first | (go_simp; done) | (go_simp; with_reducible rfl))
      intro vw13 hw13
      clear hw12 vw12
      (try simp only [Act.put, List.getElem_toArray, List.getElem_cons_zero, List.getElem_cons_succ, List.setIfInBounds_toArray, List.set_cons_zero, List.set_cons_succ])
      refine give_pure [] 13 (?_) hG rfl (by kernel_rfl) hw13 (by kernel_rfl) ?_ ?_
      rotate_left
      · intro wz hSw; (first | (go_simp; done) | (go_simp; with_reducible rfl))
      intro vw14 hw14
      clear hw13 vw13
      (try simp only [Act.put, List.getElem_toArray, List.getElem_cons_zero, List.getElem_cons_succ, List.setIfInBounds_toArray, List.set_cons_zero, List.set_cons_succ])
      refine give_pure [] 14 (.bool false) hG rfl (by kernel_rfl) hw14 (by kernel_rfl) ?_ ?_
      · intro wz hSw; (first | (go_simp; done) | (go_simp; exact hin2) | (go_simp; omega))
      intro vw15 hw15
      clear hw14 vw14
      (try simp only [Act.put, List.getElem_toArray, List.getElem_cons_zero, List.getElem_cons_succ, List.setIfInBounds_toArray, List.set_cons_zero, List.set_cons_succ])
      refine give_pure [] 15 (?_) hG rfl (by kernel_rfl) hw15 (by kernel_rfl) ?_ ?_
      rotate_left
      · intro wz hSw; (first | (go_simp; done) | (go_simp; with_reducible rfl))
      intro vw16 hw16
      clear hw15 vw15
      (try simp only [Act.put, List.getElem_toArray, List.getElem_cons_zero, List.getElem_cons_succ, List.setIfInBounds_toArray, List.set_cons_zero, List.set_cons_succ])
      refine give_done (by kernel_rfl) (?_) _
      refine hK6 _ _ ?_
      have HZ1 := Lib.hid (HZ.out.below hw16)
      have HG1 := Lib.hid (HG0.out.trans (below_grown hw16 (some p)))
      clear hK6 hG HZ HG0 hw16
      have HZ := HZ1
      have HG0 := HG1
      clear HZ1 HG1
      obtain ⟨c0, c1, c2, f1, f2⟩ := HZ.out.facts
      have HE := Lib.hid (HZ.out.put2 true)
      have HGE := Lib.hid (HG0.out.trans (grown_cell _ p 2 (.bool true)))
      clear HZ HG0
      go_wp2_with fail
      go_ret
      exact ⟨by rw [HR.out]; rfl, by rw [HR.out]; exact HE.out, HGE.out⟩
end Go.Proofs.Ytpbidfmijliehaa.Fx
