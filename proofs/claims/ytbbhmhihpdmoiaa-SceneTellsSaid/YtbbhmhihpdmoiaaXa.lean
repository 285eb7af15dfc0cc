/- The library's Equal at vertices and at triangles, walked. 
  Are two objects the same: the program's alike. 
  Are two lists of objects the same: the library's EqualFunc with the program's alike. 
  Are two scenes the same: the program's Same. -/
import Derived.Test.YtbbhmhihpdmoiaaProg
import Derived.Test.YtbbhmhihpdmoiaaSj
import Derived.Test.YtbbhmhihpdmoiaaSg
import Derived.Test.YtbbhmhihpdmoiaaSf
import Derived.Test.YtbbhmhihpdmoiaaHg
import Derived.Test.YtbbhmhihpdmoiaaVe
import Derived.Test.YtbbhmhihpdmoiaaVa
import Derived.WalkMore
set_option linter.unusedVariables false
set_option linter.unusedSimpArgs false
namespace Go.Proofs.Ytbbhmhihpdmoiaa.Fx
open Go Go.RowKit
theorem takeq {α : Type} {a b : List α} {k : Nat} {x y : α} (hx : a[k]? = some x) (hy : b[k]? = some y) (h : a.take k = b.take k) (e : x = y) : a.take (k + 1) = b.take (k + 1) := by
  rw [List.take_add_one, List.take_add_one, h, hx, hy, e]
theorem takne {α : Type} [DecidableEq α] {a b : List α} {k : Nat} {x y : α} (hx : a[k]? = some x) (hy : b[k]? = some y) (e : x ≠ y) : decide (a = b) = false :=
  decide_eq_false fun h => e (by rw [h] at hx; exact Option.some.inj (hx.symm.trans hy))
theorem takall {α : Type} [DecidableEq α] {a b : List α} {n : Nat} (ha : a.length = n) (hb : b.length = n) (h : a.take n = b.take n) : decide (a = b) = true :=
  decide_eq_true (by rw [List.take_of_length_le (by omega), List.take_of_length_le (by omega)] at h; exact h)
def EqRel {α : Type} (a b : List α) (w : World) (n g : Nat) (s5 s13 : Value) (W : World) : Prop :=
  ∃ k : Nat, g = n - k ∧ s13 = .int .i64 (k : Int) ∧ k ≤ n ∧ Below w.heap.size w W ∧ a.take k = b.take k
set_option maxRecDepth 100000 in
set_option maxHeartbeats 2000000 in
theorem eqs_v (a b : List (List Int)) (o1 o2 : Option Addr) (c1 c2 : Nat) (w : World) (h1 : VertsAt w o1 a) (h2 : VertsAt w o2 b) (n1 : a.length ≤ 9223372036854775807) (n2 : b.length ≤ 9223372036854775807) :
    Calls Try.prog 28 #[.slice o1 a.length c1, .slice o2 b.length c2] w (RetBool (decide (a = b)) w) := by
  have HA := Lib.hid h1
  have HBb := Lib.hid h2
  by_cases hl : a.length = b.length
  · have HL2 := Lib.hid hl
    rw [hl] at n1
    rw [hl]
    obtain ⟨n, hn⟩ : ∃ n, b.length = n := ⟨_, rfl⟩
    have HN := Lib.hid hn
    rw [hn] at n1 ⊢
    have n0 : (0 : Int) ≤ (n : Int) := by omega
    have n3 : (n : Int) ≤ 9223372036854775807 := by omega
    clear hl hn n2 h1 h2 n1
    go_enter Try.func28, Try.ntmps28
    go_wp2_with fail
    go_loopg [5, 13] n (EqRel a b w n)
    case atStart => exact ⟨0, rfl, rfl, by omega, Below.refl _ _, rfl⟩
    case round =>
      obtain ⟨k, hg, rfl, hk, hbl, ha⟩ := hrel
      subst hg
      have HB := Lib.hid hbl
      have HT := Lib.hid ha
      clear ha
      have k0 : (0 : Int) ≤ (k : Int) := by omega
      by_cases hkn : k < n
      · have t1 : (k : Int) < (n : Int) := by omega
        obtain ⟨x, hx⟩ : ∃ x, a[k]? = some x := ⟨_, List.getElem?_eq_getElem (by have := HL2.out; have := HN.out; omega)⟩
        obtain ⟨y, hy⟩ : ∃ y, b[k]? = some y := ⟨_, List.getElem?_eq_getElem (by rw [HN.out]; exact hkn)⟩
        obtain ⟨b1, f1, e1, r1, wx⟩ := (HA.out.below hbl) k x hx
        obtain ⟨b2, f2, e2, r2, wy⟩ := (HBb.out.below hbl) k y hy
        have hi1 := Lib.hid (show (Try.prog.info? 47).map (·.size) = some (x.map encI).length from (by rw [List.length_map, wx.len]; kernel_rfl))
        have hi2 := Lib.hid (show (Try.prog.info? 47).map (·.size) = some (y.map encI).length from (by rw [List.length_map, wy.len]; kernel_rfl))
        have R1 := Lib.hid r1
        have R2 := Lib.hid r2
        subst e1 e2
        by_cases hxy : x = y
        · have HS := Lib.hid (takeq hx hy HT.out hxy)
          have hneq : ∀ W, (binOp .neq 47 (.agg (x.map encI).toArray) (.agg (y.map encI).toArray)).run Try.prog W = .ok (.bool false) W := fun W => by rw [neq_v3 W x y wx.len wy.len]; simp [hxy]
          clear hbl hx hy r1 r2 wx wy hxy
          go_wp2_with fail
          rename_i K5 hK5
          refine (wpIn_wide (n := 5)).1 (give_region (S := fun X => Below wr.heap.size wr X) (Z := []) (by kernel_rfl) (by kernel_rfl) below_mono (fun d _ _ _ _ h => by cases d <;> exact h) (bdrew0 _ _ 1) (fun hG vw0 hw0 => ?_))
          refine grow_pure [] 0 (?_) hG rfl (by kernel_rfl) hw0 (by kernel_rfl) ?_ ?_
          rotate_left
          · intro wz hSw; (first | (go_simp; done) | (go_simp; with_reducible rfl))
          intro vw1 hw1 hbn
          clear hbn hw0 vw0
          (try simp only [Act.put, List.getElem_toArray, List.getElem_cons_zero, List.getElem_cons_succ, List.setIfInBounds_toArray, List.set_cons_zero, List.set_cons_succ])
          refine grow_pure [] 1 (?_) hG rfl (by kernel_rfl) hw1 (by kernel_rfl) ?_ ?_
          rotate_left
          · intro wz hSw; (first | (go_simp; done) | (go_simp; with_reducible rfl))
          intro vw2 hw2 hbn
          clear hbn hw1 vw1
          (try simp only [Act.put, List.getElem_toArray, List.getElem_cons_zero, List.getElem_cons_succ, List.setIfInBounds_toArray, List.set_cons_zero, List.set_cons_succ])
          refine grow_pure [] 2 (.pointer (some ⟨b1, f1 + k * 3, none⟩)) hG rfl (by kernel_rfl) hw2 (by kernel_rfl) ?_ ?_
          · intro wz hSw; (first | (go_simp; done) | (go_simp; with_reducible rfl))
          intro vw3 hw3 hbn
          clear hbn hw2 vw2
          (try simp only [Act.put, List.getElem_toArray, List.getElem_cons_zero, List.getElem_cons_succ, List.setIfInBounds_toArray, List.set_cons_zero, List.set_cons_succ])
          refine grow_pure [] 3 (.agg (x.map encI).toArray) hG rfl (by kernel_rfl) hw3 (by kernel_rfl) ?_ ?_
          · intro wz hSw; exact exec_load_mid 47 (.tmp 18) (by kernel_rfl) b1 (f1 + k * 3) (by kernel_rfl) (x.map encI) _ (range_below hSw R1.out) Try.underlying47 (by kernel_rfl) hi1.out
          intro vw4 hw4 hbn
          clear hbn hw3 vw3
          (try simp only [Act.put, List.getElem_toArray, List.getElem_cons_zero, List.getElem_cons_succ, List.setIfInBounds_toArray, List.set_cons_zero, List.set_cons_succ])
          refine grow_pure [] 4 (?_) hG rfl (by kernel_rfl) hw4 (by kernel_rfl) ?_ ?_
          rotate_left
          · intro wz hSw; (first | (go_simp; done) | (go_simp; with_reducible rfl))
          intro vw5 hw5 hbn
          clear hbn hw4 vw4
          (try simp only [Act.put, List.getElem_toArray, List.getElem_cons_zero, List.getElem_cons_succ, List.setIfInBounds_toArray, List.set_cons_zero, List.set_cons_succ])
          refine grow_pure [] 5 (?_) hG rfl (by kernel_rfl) hw5 (by kernel_rfl) ?_ ?_
          rotate_left
          · intro wz hSw; (first | (go_simp; done) | (go_simp; with_reducible rfl))
          intro vw6 hw6 hbn
          clear hbn hw5 vw5
          (try simp only [Act.put, List.getElem_toArray, List.getElem_cons_zero, List.getElem_cons_succ, List.setIfInBounds_toArray, List.set_cons_zero, List.set_cons_succ])
          refine grow_pure [] 6 (.pointer (some ⟨b2, f2 + k * 3, none⟩)) hG rfl (by kernel_rfl) hw6 (by kernel_rfl) ?_ ?_
          · intro wz hSw; (first | (go_simp; done) | (go_simp; with_reducible rfl))
          intro vw7 hw7 hbn
          clear hbn hw6 vw6
          (try simp only [Act.put, List.getElem_toArray, List.getElem_cons_zero, List.getElem_cons_succ, List.setIfInBounds_toArray, List.set_cons_zero, List.set_cons_succ])
          refine grow_pure [] 7 (.agg (y.map encI).toArray) hG rfl (by kernel_rfl) hw7 (by kernel_rfl) ?_ ?_
          · intro wz hSw; exact exec_load_mid 47 (.tmp 22) (by kernel_rfl) b2 (f2 + k * 3) (by kernel_rfl) (y.map encI) _ (range_below hSw R2.out) Try.underlying47 (by kernel_rfl) hi2.out
          intro vw8 hw8 hbn
          clear hbn hw7 vw7
          (try simp only [Act.put, List.getElem_toArray, List.getElem_cons_zero, List.getElem_cons_succ, List.setIfInBounds_toArray, List.set_cons_zero, List.set_cons_succ])
          refine grow_pure [] 8 (.bool false) hG rfl (by kernel_rfl) hw8 (by kernel_rfl) ?_ ?_
          · intro wz hSw; (first | (go_simp; done) | (go_simp; with_reducible rfl))
          intro vw9 hw9 hbn
          clear hbn hw8 vw8
          (try simp only [Act.put, List.getElem_toArray, List.getElem_cons_zero, List.getElem_cons_succ, List.setIfInBounds_toArray, List.set_cons_zero, List.set_cons_succ])
          refine give_done (by kernel_rfl) (?_) _
          refine hK5 _ _ ?_
          have HB2 := Lib.hid (bnext HB.out hw9)
          go_wp2_with fail
          go_roundg (n - (k + 1))
          case measure => omega
          case rel => exact ⟨k + 1, rfl, by go_num, by omega, HB2.out, HS.out⟩
        · have HR := Lib.hid (takne hx hy hxy)
          have hneq : ∀ W, (binOp .neq 47 (.agg (x.map encI).toArray) (.agg (y.map encI).toArray)).run Try.prog W = .ok (.bool true) W := fun W => by rw [neq_v3 W x y wx.len wy.len]; simp [hxy]
          clear hbl hx hy r1 r2 wx wy hxy
          go_wp2_with fail
          rename_i K5 hK5
          refine (wpIn_wide (n := 5)).1 (give_region (S := fun X => Below wr.heap.size wr X) (Z := []) (by kernel_rfl) (by kernel_rfl) below_mono (fun d _ _ _ _ h => by cases d <;> exact h) (bdrew0 _ _ 1) (fun hG vw0 hw0 => ?_))
          refine grow_pure [] 0 (?_) hG rfl (by kernel_rfl) hw0 (by kernel_rfl) ?_ ?_
          rotate_left
          · intro wz hSw; (first | (go_simp; done) | (go_simp; with_reducible rfl))
          intro vw1 hw1 hbn
          clear hbn hw0 vw0
          (try simp only [Act.put, List.getElem_toArray, List.getElem_cons_zero, List.getElem_cons_succ, List.setIfInBounds_toArray, List.set_cons_zero, List.set_cons_succ])
          refine grow_pure [] 1 (?_) hG rfl (by kernel_rfl) hw1 (by kernel_rfl) ?_ ?_
          rotate_left
          · intro wz hSw; (first | (go_simp; done) | (go_simp; with_reducible rfl))
          intro vw2 hw2 hbn
          clear hbn hw1 vw1
          (try simp only [Act.put, List.getElem_toArray, List.getElem_cons_zero, List.getElem_cons_succ, List.setIfInBounds_toArray, List.set_cons_zero, List.set_cons_succ])
          refine grow_pure [] 2 (.pointer (some ⟨b1, f1 + k * 3, none⟩)) hG rfl (by kernel_rfl) hw2 (by kernel_rfl) ?_ ?_
          · intro wz hSw; (first | (go_simp; done) | (go_simp; with_reducible rfl))
          intro vw3 hw3 hbn
          clear hbn hw2 vw2
          (try simp only [Act.put, List.getElem_toArray, List.getElem_cons_zero, List.getElem_cons_succ, List.setIfInBounds_toArray, List.set_cons_zero, List.set_cons_succ])
          refine grow_pure [] 3 (.agg (x.map encI).toArray) hG rfl (by kernel_rfl) hw3 (by kernel_rfl) ?_ ?_
          · intro wz hSw; exact exec_load_mid 47 (.tmp 18) (by kernel_rfl) b1 (f1 + k * 3) (by kernel_rfl) (x.map encI) _ (range_below hSw R1.out) Try.underlying47 (by kernel_rfl) hi1.out
          intro vw4 hw4 hbn
          clear hbn hw3 vw3
          (try simp only [Act.put, List.getElem_toArray, List.getElem_cons_zero, List.getElem_cons_succ, List.setIfInBounds_toArray, List.set_cons_zero, List.set_cons_succ])
          refine grow_pure [] 4 (?_) hG rfl (by kernel_rfl) hw4 (by kernel_rfl) ?_ ?_
          rotate_left
          · intro wz hSw; (first | (go_simp; done) | (go_simp; with_reducible rfl))
          intro vw5 hw5 hbn
          clear hbn hw4 vw4
          (try simp only [Act.put, List.getElem_toArray, List.getElem_cons_zero, List.getElem_cons_succ, List.setIfInBounds_toArray, List.set_cons_zero, List.set_cons_succ])
          refine grow_pure [] 5 (?_) hG rfl (by kernel_rfl) hw5 (by kernel_rfl) ?_ ?_
          rotate_left
          · intro wz hSw; (first | (go_simp; done) | (go_simp; with_reducible rfl))
          intro vw6 hw6 hbn
          clear hbn hw5 vw5
          (try simp only [Act.put, List.getElem_toArray, List.getElem_cons_zero, List.getElem_cons_succ, List.setIfInBounds_toArray, List.set_cons_zero, List.set_cons_succ])
          refine grow_pure [] 6 (.pointer (some ⟨b2, f2 + k * 3, none⟩)) hG rfl (by kernel_rfl) hw6 (by kernel_rfl) ?_ ?_
          · intro wz hSw; (first | (go_simp; done) | (go_simp; with_reducible rfl))
          intro vw7 hw7 hbn
          clear hbn hw6 vw6
          (try simp only [Act.put, List.getElem_toArray, List.getElem_cons_zero, List.getElem_cons_succ, List.setIfInBounds_toArray, List.set_cons_zero, List.set_cons_succ])
          refine grow_pure [] 7 (.agg (y.map encI).toArray) hG rfl (by kernel_rfl) hw7 (by kernel_rfl) ?_ ?_
          · intro wz hSw; exact exec_load_mid 47 (.tmp 22) (by kernel_rfl) b2 (f2 + k * 3) (by kernel_rfl) (y.map encI) _ (range_below hSw R2.out) Try.underlying47 (by kernel_rfl) hi2.out
          intro vw8 hw8 hbn
          clear hbn hw7 vw7
          (try simp only [Act.put, List.getElem_toArray, List.getElem_cons_zero, List.getElem_cons_succ, List.setIfInBounds_toArray, List.set_cons_zero, List.set_cons_succ])
          refine grow_pure [] 8 (.bool true) hG rfl (by kernel_rfl) hw8 (by kernel_rfl) ?_ ?_
          · intro wz hSw; (first | (go_simp; done) | (go_simp; with_reducible rfl))
          intro vw9 hw9 hbn
          clear hbn hw8 vw8
          (try simp only [Act.put, List.getElem_toArray, List.getElem_cons_zero, List.getElem_cons_succ, List.setIfInBounds_toArray, List.set_cons_zero, List.set_cons_succ])
          refine give_done (by kernel_rfl) (?_) _
          refine hK5 _ _ ?_
          have HB2 := Lib.hid (bnext HB.out hw9)
          go_wp2_with fail
          go_ret
          exact ⟨by rw [HR.out]; first | rfl | simp, HB2.out⟩
      · obtain rfl : k = n := by omega
        have t1 : ¬ (k : Int) < (k : Int) := by omega
        have HR := Lib.hid (takall (HL2.out.trans HN.out) HN.out HT.out)
        clear hbl
        go_wp2_with fail
        go_ret
        exact ⟨by rw [HR.out]; first | rfl | simp, HB.out⟩
  · have HR : Hid (decide (a = b) = false) := Lib.hid (decide_eq_false fun h => hl (by rw [h]))
    have hl2 : ¬ (a.length : Int) = (b.length : Int) := by omega
    clear hl h1 h2
    generalize a.length = na at *
    generalize b.length = nb at *
    go_enter Try.func28, Try.ntmps28
    go_wp2_with fail
    go_ret
    exact ⟨by rw [HR.out]; first | rfl | simp, Below.refl _ _⟩
set_option maxRecDepth 100000 in
set_option maxHeartbeats 2000000 in
theorem eqs_t (a b : List (TriR)) (o1 o2 : Option Addr) (c1 c2 : Nat) (w : World) (h1 : TrisAt w o1 a) (h2 : TrisAt w o2 b) (n1 : a.length ≤ 9223372036854775807) (n2 : b.length ≤ 9223372036854775807) :
    Calls Try.prog 29 #[.slice o1 a.length c1, .slice o2 b.length c2] w (RetBool (decide (a = b)) w) := by
  have HA := Lib.hid h1
  have HBb := Lib.hid h2
  by_cases hl : a.length = b.length
  · have HL2 := Lib.hid hl
    rw [hl] at n1
    rw [hl]
    obtain ⟨n, hn⟩ : ∃ n, b.length = n := ⟨_, rfl⟩
    have HN := Lib.hid hn
    rw [hn] at n1 ⊢
    have n0 : (0 : Int) ≤ (n : Int) := by omega
    have n3 : (n : Int) ≤ 9223372036854775807 := by omega
    clear hl hn n2 h1 h2 n1
    go_enter Try.func29, Try.ntmps29
    go_wp2_with fail
    go_loopg [5, 13] n (EqRel a b w n)
    case atStart => exact ⟨0, rfl, rfl, by omega, Below.refl _ _, rfl⟩
    case round =>
      obtain ⟨k, hg, rfl, hk, hbl, ha⟩ := hrel
      subst hg
      have HB := Lib.hid hbl
      have HT := Lib.hid ha
      clear ha
      have k0 : (0 : Int) ≤ (k : Int) := by omega
      by_cases hkn : k < n
      · have t1 : (k : Int) < (n : Int) := by omega
        obtain ⟨x, hx⟩ : ∃ x, a[k]? = some x := ⟨_, List.getElem?_eq_getElem (by have := HL2.out; have := HN.out; omega)⟩
        obtain ⟨y, hy⟩ : ∃ y, b[k]? = some y := ⟨_, List.getElem?_eq_getElem (by rw [HN.out]; exact hkn)⟩
        obtain ⟨b1, f1, e1, r1, wx⟩ := (HA.out.below hbl) k x hx
        obtain ⟨b2, f2, e2, r2, wy⟩ := (HBb.out.below hbl) k y hy
        have hi1 := Lib.hid (show (Try.prog.info? 58).map (·.size) = some (triL x).length from (by kernel_rfl))
        have hi2 := Lib.hid (show (Try.prog.info? 58).map (·.size) = some (triL y).length from (by kernel_rfl))
        have R1 := Lib.hid r1
        have R2 := Lib.hid r2
        subst e1 e2
        by_cases hxy : x = y
        · have HS := Lib.hid (takeq hx hy HT.out hxy)
          have hneq : ∀ W, (binOp .neq 58 (.agg (triL x).toArray) (.agg (triL y).toArray)).run Try.prog W = .ok (.bool false) W := fun W => by rw [neq_tri W x y]; simp [hxy]
          clear hbl hx hy r1 r2 wx wy hxy
          go_wp2_with fail
          rename_i K5 hK5
          refine (wpIn_wide (n := 5)).1 (give_region (S := fun X => Below wr.heap.size wr X) (Z := []) (by kernel_rfl) (by kernel_rfl) below_mono (fun d _ _ _ _ h => by cases d <;> exact h) (bdrew0 _ _ 1) (fun hG vw0 hw0 => ?_))
          refine grow_pure [] 0 (?_) hG rfl (by kernel_rfl) hw0 (by kernel_rfl) ?_ ?_
          rotate_left
          · intro wz hSw; (first | (go_simp; done) | (go_simp; with_reducible rfl))
          intro vw1 hw1 hbn
          clear hbn hw0 vw0
          (try simp only [Act.put, List.getElem_toArray, List.getElem_cons_zero, List.getElem_cons_succ, List.setIfInBounds_toArray, List.set_cons_zero, List.set_cons_succ])
          refine grow_pure [] 1 (?_) hG rfl (by kernel_rfl) hw1 (by kernel_rfl) ?_ ?_
          rotate_left
          · intro wz hSw; (first | (go_simp; done) | (go_simp; with_reducible rfl))
          intro vw2 hw2 hbn
          clear hbn hw1 vw1
          (try simp only [Act.put, List.getElem_toArray, List.getElem_cons_zero, List.getElem_cons_succ, List.setIfInBounds_toArray, List.set_cons_zero, List.set_cons_succ])
          refine grow_pure [] 2 (.pointer (some ⟨b1, f1 + k * 4, none⟩)) hG rfl (by kernel_rfl) hw2 (by kernel_rfl) ?_ ?_
          · intro wz hSw; (first | (go_simp; done) | (go_simp; with_reducible rfl))
          intro vw3 hw3 hbn
          clear hbn hw2 vw2
          (try simp only [Act.put, List.getElem_toArray, List.getElem_cons_zero, List.getElem_cons_succ, List.setIfInBounds_toArray, List.set_cons_zero, List.set_cons_succ])
          refine grow_pure [] 3 (.agg (triL x).toArray) hG rfl (by kernel_rfl) hw3 (by kernel_rfl) ?_ ?_
          · intro wz hSw; exact exec_load_mid 58 (.tmp 18) (by kernel_rfl) b1 (f1 + k * 4) (by kernel_rfl) (triL x) _ (range_below hSw R1.out) Try.underlying58 (by kernel_rfl) hi1.out
          intro vw4 hw4 hbn
          clear hbn hw3 vw3
          (try simp only [Act.put, List.getElem_toArray, List.getElem_cons_zero, List.getElem_cons_succ, List.setIfInBounds_toArray, List.set_cons_zero, List.set_cons_succ])
          refine grow_pure [] 4 (?_) hG rfl (by kernel_rfl) hw4 (by kernel_rfl) ?_ ?_
          rotate_left
          · intro wz hSw; (first | (go_simp; done) | (go_simp; with_reducible rfl))
          intro vw5 hw5 hbn
          clear hbn hw4 vw4
          (try simp only [Act.put, List.getElem_toArray, List.getElem_cons_zero, List.getElem_cons_succ, List.setIfInBounds_toArray, List.set_cons_zero, List.set_cons_succ])
          refine grow_pure [] 5 (?_) hG rfl (by kernel_rfl) hw5 (by kernel_rfl) ?_ ?_
          rotate_left
          · intro wz hSw; (first | (go_simp; done) | (go_simp; with_reducible rfl))
          intro vw6 hw6 hbn
          clear hbn hw5 vw5
          (try simp only [Act.put, List.getElem_toArray, List.getElem_cons_zero, List.getElem_cons_succ, List.setIfInBounds_toArray, List.set_cons_zero, List.set_cons_succ])
          refine grow_pure [] 6 (.pointer (some ⟨b2, f2 + k * 4, none⟩)) hG rfl (by kernel_rfl) hw6 (by kernel_rfl) ?_ ?_
          · intro wz hSw; (first | (go_simp; done) | (go_simp; with_reducible rfl))
          intro vw7 hw7 hbn
          clear hbn hw6 vw6
          (try simp only [Act.put, List.getElem_toArray, List.getElem_cons_zero, List.getElem_cons_succ, List.setIfInBounds_toArray, List.set_cons_zero, List.set_cons_succ])
          refine grow_pure [] 7 (.agg (triL y).toArray) hG rfl (by kernel_rfl) hw7 (by kernel_rfl) ?_ ?_
          · intro wz hSw; exact exec_load_mid 58 (.tmp 22) (by kernel_rfl) b2 (f2 + k * 4) (by kernel_rfl) (triL y) _ (range_below hSw R2.out) Try.underlying58 (by kernel_rfl) hi2.out
          intro vw8 hw8 hbn
          clear hbn hw7 vw7
          (try simp only [Act.put, List.getElem_toArray, List.getElem_cons_zero, List.getElem_cons_succ, List.setIfInBounds_toArray, List.set_cons_zero, List.set_cons_succ])
          refine grow_pure [] 8 (.bool false) hG rfl (by kernel_rfl) hw8 (by kernel_rfl) ?_ ?_
          · intro wz hSw; (first | (go_simp; done) | (go_simp; with_reducible rfl))
          intro vw9 hw9 hbn
          clear hbn hw8 vw8
          (try simp only [Act.put, List.getElem_toArray, List.getElem_cons_zero, List.getElem_cons_succ, List.setIfInBounds_toArray, List.set_cons_zero, List.set_cons_succ])
          refine give_done (by kernel_rfl) (?_) _
          refine hK5 _ _ ?_
          have HB2 := Lib.hid (bnext HB.out hw9)
          go_wp2_with fail
          go_roundg (n - (k + 1))
          case measure => omega
          case rel => exact ⟨k + 1, rfl, by go_num, by omega, HB2.out, HS.out⟩
        · have HR := Lib.hid (takne hx hy hxy)
          have hneq : ∀ W, (binOp .neq 58 (.agg (triL x).toArray) (.agg (triL y).toArray)).run Try.prog W = .ok (.bool true) W := fun W => by rw [neq_tri W x y]; simp [hxy]
          clear hbl hx hy r1 r2 wx wy hxy
          go_wp2_with fail
          rename_i K5 hK5
          refine (wpIn_wide (n := 5)).1 (give_region (S := fun X => Below wr.heap.size wr X) (Z := []) (by kernel_rfl) (by kernel_rfl) below_mono (fun d _ _ _ _ h => by cases d <;> exact h) (bdrew0 _ _ 1) (fun hG vw0 hw0 => ?_))
          refine grow_pure [] 0 (?_) hG rfl (by kernel_rfl) hw0 (by kernel_rfl) ?_ ?_
          rotate_left
          · intro wz hSw; (first | (go_simp; done) | (go_simp; with_reducible rfl))
          intro vw1 hw1 hbn
          clear hbn hw0 vw0
          (try simp only [Act.put, List.getElem_toArray, List.getElem_cons_zero, List.getElem_cons_succ, List.setIfInBounds_toArray, List.set_cons_zero, List.set_cons_succ])
          refine grow_pure [] 1 (?_) hG rfl (by kernel_rfl) hw1 (by kernel_rfl) ?_ ?_
          rotate_left
          · intro wz hSw; (first | (go_simp; done) | (go_simp; with_reducible rfl))
          intro vw2 hw2 hbn
          clear hbn hw1 vw1
          (try simp only [Act.put, List.getElem_toArray, List.getElem_cons_zero, List.getElem_cons_succ, List.setIfInBounds_toArray, List.set_cons_zero, List.set_cons_succ])
          refine grow_pure [] 2 (.pointer (some ⟨b1, f1 + k * 4, none⟩)) hG rfl (by kernel_rfl) hw2 (by kernel_rfl) ?_ ?_
          · intro wz hSw; (first | (go_simp; done) | (go_simp; with_reducible rfl))
          intro vw3 hw3 hbn
          clear hbn hw2 vw2
          (try simp only [Act.put, List.getElem_toArray, List.getElem_cons_zero, List.getElem_cons_succ, List.setIfInBounds_toArray, List.set_cons_zero, List.set_cons_succ])
          refine grow_pure [] 3 (.agg (triL x).toArray) hG rfl (by kernel_rfl) hw3 (by kernel_rfl) ?_ ?_
          · intro wz hSw; exact exec_load_mid 58 (.tmp 18) (by kernel_rfl) b1 (f1 + k * 4) (by kernel_rfl) (triL x) _ (range_below hSw R1.out) Try.underlying58 (by kernel_rfl) hi1.out
          intro vw4 hw4 hbn
          clear hbn hw3 vw3
          (try simp only [Act.put, List.getElem_toArray, List.getElem_cons_zero, List.getElem_cons_succ, List.setIfInBounds_toArray, List.set_cons_zero, List.set_cons_succ])
          refine grow_pure [] 4 (?_) hG rfl (by kernel_rfl) hw4 (by kernel_rfl) ?_ ?_
          rotate_left
          · intro wz hSw; (first | (go_simp; done) | (go_simp; with_reducible rfl))
          intro vw5 hw5 hbn
          clear hbn hw4 vw4
          (try simp only [Act.put, List.getElem_toArray, List.getElem_cons_zero, List.getElem_cons_succ, List.setIfInBounds_toArray, List.set_cons_zero, List.set_cons_succ])
          refine grow_pure [] 5 (?_) hG rfl (by kernel_rfl) hw5 (by kernel_rfl) ?_ ?_
          rotate_left
          · intro wz hSw; (first | (go_simp; done) | (go_simp; with_reducible rfl))
          intro vw6 hw6 hbn
          clear hbn hw5 vw5
          (try simp only [Act.put, List.getElem_toArray, List.getElem_cons_zero, List.getElem_cons_succ, List.setIfInBounds_toArray, List.set_cons_zero, List.set_cons_succ])
          refine grow_pure [] 6 (.pointer (some ⟨b2, f2 + k * 4, none⟩)) hG rfl (by kernel_rfl) hw6 (by kernel_rfl) ?_ ?_
          · intro wz hSw; (first | (go_simp; done) | (go_simp; with_reducible rfl))
          intro vw7 hw7 hbn
          clear hbn hw6 vw6
          (try simp only [Act.put, List.getElem_toArray, List.getElem_cons_zero, List.getElem_cons_succ, List.setIfInBounds_toArray, List.set_cons_zero, List.set_cons_succ])
          refine grow_pure [] 7 (.agg (triL y).toArray) hG rfl (by kernel_rfl) hw7 (by kernel_rfl) ?_ ?_
          · intro wz hSw; exact exec_load_mid 58 (.tmp 22) (by kernel_rfl) b2 (f2 + k * 4) (by kernel_rfl) (triL y) _ (range_below hSw R2.out) Try.underlying58 (by kernel_rfl) hi2.out
          intro vw8 hw8 hbn
          clear hbn hw7 vw7
          (try simp only [Act.put, List.getElem_toArray, List.getElem_cons_zero, List.getElem_cons_succ, List.setIfInBounds_toArray, List.set_cons_zero, List.set_cons_succ])
          refine grow_pure [] 8 (.bool true) hG rfl (by kernel_rfl) hw8 (by kernel_rfl) ?_ ?_
          · intro wz hSw; (first | (go_simp; done) | (go_simp; with_reducible rfl))
          intro vw9 hw9 hbn
          clear hbn hw8 vw8
          (try simp only [Act.put, List.getElem_toArray, List.getElem_cons_zero, List.getElem_cons_succ, List.setIfInBounds_toArray, List.set_cons_zero, List.set_cons_succ])
          refine give_done (by kernel_rfl) (?_) _
          refine hK5 _ _ ?_
          have HB2 := Lib.hid (bnext HB.out hw9)
          go_wp2_with fail
          go_ret
          exact ⟨by rw [HR.out]; first | rfl | simp, HB2.out⟩
      · obtain rfl : k = n := by omega
        have t1 : ¬ (k : Int) < (k : Int) := by omega
        have HR := Lib.hid (takall (HL2.out.trans HN.out) HN.out HT.out)
        clear hbl
        go_wp2_with fail
        go_ret
        exact ⟨by rw [HR.out]; first | rfl | simp, HB.out⟩
  · have HR : Hid (decide (a = b) = false) := Lib.hid (decide_eq_false fun h => hl (by rw [h]))
    have hl2 : ¬ (a.length : Int) = (b.length : Int) := by omega
    clear hl h1 h2
    generalize a.length = na at *
    generalize b.length = nb at *
    go_enter Try.func29, Try.ntmps29
    go_wp2_with fail
    go_ret
    exact ⟨by rw [HR.out]; first | rfl | simp, Below.refl _ _⟩
end Go.Proofs.Ytbbhmhihpdmoiaa.Fx
set_option linter.unusedVariables false
set_option linter.unusedSimpArgs false
namespace Go.Proofs.Ytbbhmhihpdmoiaa.Fx
open Go Go.RowKit
def sameO (x y : ObjR) : Prop := x.id = y.id ∧ x.m = y.m ∧ x.vs = y.vs ∧ x.ts = y.ts
instance (x y : ObjR) : Decidable (sameO x y) := by unfold sameO; infer_instance
theorem sizeMx {x : ObjR} (h : ObjWf x) : (Try.prog.info? 25).map (·.size) = some (x.m.map encI).length := by rw [List.length_map, h.len]; exact size16
structure TwoO (x y : ObjR) (w V : World) : Prop where
  a : BoxO x w.heap.size V
  b : BoxO y (w.heap.size + 1) V
  va : VertsAt V x.vo x.vs
  vb : VertsAt V y.vo y.vs
  ta : TrisAt V x.tq x.ts
  tb : TrisAt V y.tq y.ts
  bel : Below w.heap.size w V
theorem TwoO.new {x y : ObjR} {w : World} (wx : ObjWf x) (wy : ObjWf y) (a1 : VertsAt w x.vo x.vs) (a2 : VertsAt w y.vo y.vs) (b1 : TrisAt w x.tq x.ts) (b2 : TrisAt w y.tq y.ts) : TwoO x y w ((w.alloc (.cells (objL x).toArray 44)).alloc (.cells (objL y).toArray 44)) := by
  have hB : Below w.heap.size w ((w.alloc (.cells (objL x).toArray 44)).alloc (.cells (objL y).toArray 44)) := by go_grown
  refine ⟨⟨step_row (heap_alloc_new _ _), wx⟩, ?_, a1.below hB, a2.below hB, b1.below hB, b2.below hB, hB⟩
  have := BoxO.new y (w.alloc (.cells (objL x).toArray 44)) wy
  rw [World.size_alloc] at this
  exact this
set_option maxRecDepth 100000 in
set_option maxHeartbeats 2000000 in
theorem alike_any (x y : ObjR) (w : World) (wx : ObjWf x) (wy : ObjWf y) (a1 : VertsAt w x.vo x.vs) (a2 : VertsAt w y.vo y.vs) (b1 : TrisAt w x.tq x.ts) (b2 : TrisAt w y.tq y.ts) :
    Calls Try.prog 21 #[.agg (objL x).toArray, .agg (objL y).toArray] w (RetBool (decide (sameO x y)) w) := by
  have HI := Lib.hid (TwoO.new wx wy a1 a2 b1 b2)
  have hA := Lib.hid (sizeMx wx)
  have hBm := Lib.hid (sizeMx wy)
  have c0 : ((w.alloc (.cells (objL x).toArray 44)).alloc (.cells (objL y).toArray 44)).cell? ⟨w.heap.size, 0, none⟩ = some (.int .i64 x.id) := HI.out.a.at.trans (objL_id x)
  have d0 : ((w.alloc (.cells (objL x).toArray 44)).alloc (.cells (objL y).toArray 44)).cell? ⟨w.heap.size + 1, 0, none⟩ = some (.int .i64 y.id) := HI.out.b.at.trans (objL_id y)
  have lv1 := wx.vcap.1
  have lv2 := wy.vcap.1
  have lt1 := wx.tcap.1
  have lt2 := wy.tcap.1
  have HM1 := Lib.hid HI.out.a.mat
  have HM2 := Lib.hid HI.out.b.mat
  by_cases h1 : x.id = y.id
  · by_cases h2 : x.m = y.m
    · have heq : ∀ W, (binOp .eql 25 (.agg (x.m.map encI).toArray) (.agg (y.m.map encI).toArray)).run Try.prog W = .ok (.bool true) W := fun W => by
        have := eql_mat W x.m y.m wx.len wy.len
        unfold mC at this
        rw [this, h2]
        simp
      have c17 : ((w.alloc (.cells (objL x).toArray 44)).alloc (.cells (objL y).toArray 44)).cell? ⟨w.heap.size, 17, none⟩ = some (.slice x.vo x.vs.length x.vc) := HI.out.a.c17
      have d17 : ((w.alloc (.cells (objL x).toArray 44)).alloc (.cells (objL y).toArray 44)).cell? ⟨w.heap.size + 1, 17, none⟩ = some (.slice y.vo y.vs.length y.vc) := HI.out.b.c17
      have HV := Lib.hid (eqs_v x.vs y.vs x.vo y.vo x.vc y.vc _ HI.out.va HI.out.vb (by omega) (by omega))
      rw [h1] at c0
      by_cases h3 : x.vs = y.vs
      · have HT := Lib.hid (fun W (h : TwoO x y w W) => eqs_t x.ts y.ts x.tq y.tq x.tc y.tc W h.ta h.tb (by omega) (by omega))
        have HR : Hid (decide (sameO x y) = decide (x.ts = y.ts)) := Lib.hid (by
          unfold sameO
          simp [h1, h2, h3])
        rw [decide_eq_true h3] at HV
        rw [HR.out]
        generalize decide (x.ts = y.ts) = r at HT ⊢
        clear wx wy a1 a2 b1 b2 h1 h2 h3 lv1 lv2 lt1 lt2 HR
        generalize y.id = yi at c0 d0
        generalize x.vs.length = n1 at c17 HV
        generalize y.vs.length = n2 at d17 HV
        go_enter Try.func21, Try.ntmps21
        go_wp2_with (first | (refine wpList_load_mid_g rfl 25 (.tmp 11) rfl w.heap.size 1 rfl (x.m.map encI) _ HM1.out Try.underlying25 rfl hA.out ?_) | (refine wpList_load_mid_g rfl 25 (.tmp 13) rfl (w.heap.size + 1) 1 rfl (y.m.map encI) _ HM2.out Try.underlying25 rfl hBm.out ?_))
        refine HV.out.mono ?_
        rintro e W1 ⟨rfl, hb⟩
        have HI1 : Hid (TwoO x y w W1) := Lib.hid ⟨HI.out.a.up hb, HI.out.b.up hb, HI.out.va.below hb, HI.out.vb.below hb, HI.out.ta.below hb, HI.out.tb.below hb, bnext HI.out.bel hb⟩
        have c18 : W1.cell? ⟨w.heap.size, 18, none⟩ = some (.slice x.tq x.ts.length x.tc) := HI1.out.a.c18
        have d18 : W1.cell? ⟨w.heap.size + 1, 18, none⟩ = some (.slice y.tq y.ts.length y.tc) := HI1.out.b.c18
        have HT1 := Lib.hid (HT.out _ HI1.out)
        clear hb HT HI HV HM1 HM2 c17 d17 c0 d0
        generalize x.ts.length = n3 at c18 HT1
        generalize y.ts.length = n4 at d18 HT1
        go_wp2_with fail
        refine HT1.out.mono ?_
        rintro e W2 ⟨rfl, hb⟩
        have HB := Lib.hid (bnext HI1.out.bel hb)
        clear hb HT1 HI1 c18 d18
        go_wp2_with fail
        go_ret
        exact ⟨by first | rfl | simp, HB.out⟩
      · have HR : Hid (decide (sameO x y) = false) := Lib.hid (decide_eq_false fun h => h3 h.2.2.1)
        rw [decide_eq_false h3] at HV
        rw [HR.out]
        clear wx wy a1 a2 b1 b2 h1 h2 h3 lv1 lv2 lt1 lt2 HR
        generalize y.id = yi at c0 d0
        generalize x.vs.length = n1 at c17 HV
        generalize y.vs.length = n2 at d17 HV
        go_enter Try.func21, Try.ntmps21
        go_wp2_with (first | (refine wpList_load_mid_g rfl 25 (.tmp 11) rfl w.heap.size 1 rfl (x.m.map encI) _ HM1.out Try.underlying25 rfl hA.out ?_) | (refine wpList_load_mid_g rfl 25 (.tmp 13) rfl (w.heap.size + 1) 1 rfl (y.m.map encI) _ HM2.out Try.underlying25 rfl hBm.out ?_))
        refine HV.out.mono ?_
        rintro e W1 ⟨rfl, hb⟩
        have HB := Lib.hid (bnext HI.out.bel hb)
        clear hb HI HV HM1 HM2 c17 d17 c0 d0
        go_wp2_with fail
        go_ret
        exact ⟨by first | rfl | simp, HB.out⟩
    · have heq : ∀ W, (binOp .eql 25 (.agg (x.m.map encI).toArray) (.agg (y.m.map encI).toArray)).run Try.prog W = .ok (.bool false) W := fun W => by
        have := eql_mat W x.m y.m wx.len wy.len
        unfold mC at this
        rw [this]
        simp [h2]
      have HR : Hid (decide (sameO x y) = false) := Lib.hid (decide_eq_false fun h => h2 h.2.1)
      rw [HR.out]
      rw [h1] at c0
      clear wx wy a1 a2 b1 b2 h1 h2 lv1 lv2 lt1 lt2 HR
      generalize y.id = yi at c0 d0
      go_enter Try.func21, Try.ntmps21
      go_wp2_with (first | (refine wpList_load_mid_g rfl 25 (.tmp 11) rfl w.heap.size 1 rfl (x.m.map encI) _ HM1.out Try.underlying25 rfl hA.out ?_) | (refine wpList_load_mid_g rfl 25 (.tmp 13) rfl (w.heap.size + 1) 1 rfl (y.m.map encI) _ HM2.out Try.underlying25 rfl hBm.out ?_))
      go_ret
      exact ⟨by first | rfl | simp, HI.out.bel⟩
  · have HR : Hid (decide (sameO x y) = false) := Lib.hid (decide_eq_false fun h => h1 h.1)
    rw [HR.out]
    clear wx wy a1 a2 b1 b2 lv1 lv2 lt1 lt2 HR
    generalize y.id = yi at d0 h1
    generalize x.id = xi at c0 h1
    go_enter Try.func21, Try.ntmps21
    go_wp2_with fail
    go_ret
    exact ⟨by first | rfl | simp, HI.out.bel⟩
end Go.Proofs.Ytbbhmhihpdmoiaa.Fx
set_option linter.unusedVariables false
set_option linter.unusedSimpArgs false
namespace Go.Proofs.Ytbbhmhihpdmoiaa.Fx
open Go Go.RowKit
def keyO (x : ObjR) : Int × List Int × List (List Int) × List TriR := (x.id, x.m, x.vs, x.ts)
theorem sameO_key (x y : ObjR) : sameO x y ↔ keyO x = keyO y := by
  unfold sameO keyO
  simp [Prod.mk.injEq]
theorem sizeOx {x : ObjR} (h : ObjWf x) : (Try.prog.info? 44).map (·.size) = some (objL x).length := by rw [objL_len h]; kernel_rfl
theorem objL_one' (x : ObjR) : (objL x).toArray.all (·.oneCell') = true := by
  rw [Array.all_eq_true_iff_forall_mem]
  intro v hv
  simp only [objL, List.mem_toArray, List.mem_cons, List.mem_append, List.mem_map, List.not_mem_nil, or_false] at hv
  rcases hv with rfl | ⟨z, _, rfl⟩ | rfl | rfl <;> rfl
def EfRel (a b : List ObjR) (w : World) (n g : Nat) (s7 s8 s9 s17 : Value) (W : World) : Prop :=
  ∃ k : Nat, g = n - k ∧ s17 = .int .i64 (k : Int) ∧ k ≤ n ∧ Below w.heap.size w W ∧ (a.map keyO).take k = (b.map keyO).take k
set_option maxRecDepth 100000 in
set_option maxHeartbeats 2000000 in
theorem eqf_any (a b : List ObjR) (o1 o2 : Option Addr) (c1 c2 : Nat) (w : World) (h1 : ObjsAt w o1 a) (h2 : ObjsAt w o2 b) (n1 : a.length ≤ 9223372036854775807) (n2 : b.length ≤ 9223372036854775807) :
    Calls Try.prog 20 #[.slice o1 a.length c1, .slice o2 b.length c2, .func (.func 21) #[] #[]] w (RetBool (decide (a.map keyO = b.map keyO)) w) := by
  have HA := Lib.hid h1
  have HBb := Lib.hid h2
  by_cases hl : a.length = b.length
  · have HL2 := Lib.hid hl
    rw [hl] at n1
    rw [hl]
    obtain ⟨n, hn⟩ : ∃ n, b.length = n := ⟨_, rfl⟩
    have HN := Lib.hid hn
    rw [hn] at n1 ⊢
    have n0 : (0 : Int) ≤ (n : Int) := by omega
    have n3 : (n : Int) ≤ 9223372036854775807 := by omega
    clear hl hn n2 h1 h2 n1
    go_enter Try.func20, Try.ntmps20
    go_wp2_with fail
    go_loopg [7, 8, 9, 17] n (EfRel a b w n)
    case atStart => exact ⟨0, rfl, rfl, by omega, Below.refl _ _, rfl⟩
    case round =>
      obtain ⟨k, hg, rfl, hk, hbl, ha⟩ := hrel
      subst hg
      have HB := Lib.hid hbl
      have HT := Lib.hid ha
      clear ha
      have k0 : (0 : Int) ≤ (k : Int) := by omega
      by_cases hkn : k < n
      · have t1 : (k : Int) < (n : Int) := by omega
        obtain ⟨x, hx⟩ : ∃ x, a[k]? = some x := ⟨_, List.getElem?_eq_getElem (by have := HL2.out; have := HN.out; omega)⟩
        obtain ⟨y, hy⟩ : ∃ y, b[k]? = some y := ⟨_, List.getElem?_eq_getElem (by rw [HN.out]; exact hkn)⟩
        obtain ⟨b1, f1, e1, q1⟩ := (HA.out.below hbl) k x hx
        obtain ⟨b2, f2, e2, q2⟩ := (HBb.out.below hbl) k y hy
        have HX := Lib.hid (show (a.map keyO)[k]? = some (keyO x) by simp [hx])
        have HY := Lib.hid (show (b.map keyO)[k]? = some (keyO y) by simp [hy])
        have Q1 := Lib.hid q1
        have Q2 := Lib.hid q2
        subst e1 e2
        clear hx hy q1 q2 hbl
        obtain ⟨X1, hX1⟩ : ∃ V, wr.alloc (.cells #[.int .i64 0, .int .i64 0, .int .i64 0, .int .i64 0, .int .i64 0, .int .i64 0, .int .i64 0, .int .i64 0, .int .i64 0, .int .i64 0, .int .i64 0, .int .i64 0, .int .i64 0, .int .i64 0, .int .i64 0, .int .i64 0, .int .i64 0, .slice none 0 0, .slice none 0 0] 44) = V := ⟨_, rfl⟩
        have r1 : RowAt 44 wr.heap.size #[.int .i64 0, .int .i64 0, .int .i64 0, .int .i64 0, .int .i64 0, .int .i64 0, .int .i64 0, .int .i64 0, .int .i64 0, .int .i64 0, .int .i64 0, .int .i64 0, .int .i64 0, .int .i64 0, .int .i64 0, .int .i64 0, .int .i64 0, .slice none 0 0, .slice none 0 0] X1 := by rw [← hX1]; exact RowAt.new _ _ _
        obtain ⟨X2, hX2⟩ : ∃ V, X1.setRow wr.heap.size (objL x).toArray = V := ⟨_, rfl⟩
        have r2 : RowAt 44 wr.heap.size (objL x).toArray X2 := by rw [← hX2]; exact r1.row _
        have hb2 : Below wr.heap.size wr X2 := by rw [← hX2, ← hX1]; exact Below.row ((Below.refl _ wr).alloc (Nat.le_refl _) _) (Nat.le_refl _) _
        have QR := Lib.hid (Q2.out.below hb2).cells
        obtain ⟨X3, hX3⟩ : ∃ V, X2.alloc (.cells #[.int .i64 0, .int .i64 0, .int .i64 0, .int .i64 0, .int .i64 0, .int .i64 0, .int .i64 0, .int .i64 0, .int .i64 0, .int .i64 0, .int .i64 0, .int .i64 0, .int .i64 0, .int .i64 0, .int .i64 0, .int .i64 0, .int .i64 0, .slice none 0 0, .slice none 0 0] 44) = V := ⟨_, rfl⟩
        have r3 : RowAt 44 X2.heap.size #[.int .i64 0, .int .i64 0, .int .i64 0, .int .i64 0, .int .i64 0, .int .i64 0, .int .i64 0, .int .i64 0, .int .i64 0, .int .i64 0, .int .i64 0, .int .i64 0, .int .i64 0, .int .i64 0, .int .i64 0, .int .i64 0, .int .i64 0, .slice none 0 0, .slice none 0 0] X3 := by rw [← hX3]; exact RowAt.new _ _ _
        obtain ⟨X4, hX4⟩ : ∃ V, X3.setRow X2.heap.size (objL y).toArray = V := ⟨_, rfl⟩
        have r4 : RowAt 44 X2.heap.size (objL y).toArray X4 := by rw [← hX4]; exact r3.row _
        have hb4 : Below X2.heap.size X2 X4 := by rw [← hX4, ← hX3]; exact Below.row ((Below.refl _ X2).alloc (Nat.le_refl _) _) (Nat.le_refl _) _
        have G1 : Hid (X4.rangeAt wr.heap.size 0 (objL x)) := Lib.hid (fun j v hj => by rw [cell_of_row _ _ _ _ _ _ (r2.below hb4), Nat.zero_add]; simpa using hj)
        have G2 : Hid (X4.rangeAt X2.heap.size 0 (objL y)) := Lib.hid (fun j v hj => by rw [cell_of_row _ _ _ _ _ _ r4, Nat.zero_add]; simpa using hj)
        have hb04 := bnext hb2 hb4
        have U1 := Q1.out.below hb04
        have U2 := Q2.out.below hb04
        have AL := alike_any x y X4 U1.wf U2.wf U1.verts U2.verts U1.tris U2.tris
        have HB4 := Lib.hid (bnext HB.out hb04)
        have hi1 := Lib.hid (sizeOx U1.wf)
        have hi2 := Lib.hid (sizeOx U2.wf)
        have hj1 := Lib.hid (show (Try.prog.info? 44).map (·.size) = some (objL x).toArray.size by rw [List.size_toArray]; exact sizeOx U1.wf)
        have hj2 := Lib.hid (show (Try.prog.info? 44).map (·.size) = some (objL y).toArray.size by rw [List.size_toArray]; exact sizeOx U2.wf)
        have s1 := Lib.hid (show 19 = (objL x).toArray.size by rw [List.size_toArray]; exact (objL_len U1.wf).symm)
        have s2 := Lib.hid (show 19 = (objL y).toArray.size by rw [List.size_toArray]; exact (objL_len U2.wf).symm)
        have M1 := Lib.hid r1
        have M3 := Lib.hid r3
        have R1 := Lib.hid Q1.out.cells
        have HX1 := Lib.hid hX1
        have HX2 := Lib.hid hX2
        have HX3 := Lib.hid hX3
        have HX4 := Lib.hid hX4
        by_cases hxy : keyO x = keyO y
        · have HS := Lib.hid (takeq HX.out HY.out HT.out hxy)
          rw [decide_eq_true ((sameO_key x y).2 hxy)] at AL
          replace AL := Lib.hid AL
          clear hxy r1 r2 r3 r4 hb2 hb4 hb04 U1 U2 hX1 hX2 hX3 hX4
          go_wp2_with (first | (rw [HX1.out]) | (rw [HX2.out]) | (rw [HX3.out]) | (rw [HX4.out]) | (refine wpList_load_mid rfl 44 (.tmp 20) rfl b1 (f1 + k * 19) rfl (objL x) _ R1.out Try.underlying44 rfl hi1.out ?_) | (refine wpList_store_big rfl 44 (.tmp 8) (.tmp 21) rfl wr.heap.size _ _ (objL x).toArray rfl rfl M1.out hj1.out s1.out (objL_one' _) ?_) | (refine wpList_load_mid rfl 44 (.tmp 24) rfl b2 (f2 + k * 19) rfl (objL y) _ QR.out Try.underlying44 rfl hi2.out ?_) | (refine wpList_store_big rfl 44 (.tmp 9) (.tmp 25) rfl X2.heap.size _ _ (objL y).toArray rfl rfl M3.out hj2.out s2.out (objL_one' _) ?_) | (refine wpList_load_mid rfl 44 (.tmp 8) rfl wr.heap.size 0 rfl (objL x) _ G1.out Try.underlying44 rfl hi1.out ?_) | (refine wpList_load_mid rfl 44 (.tmp 9) rfl X2.heap.size 0 rfl (objL y) _ G2.out Try.underlying44 rfl hi2.out ?_))
          refine AL.out.mono ?_
          rintro e W1 ⟨rfl, hb⟩
          have HB5 := Lib.hid (bnext HB4.out hb)
          clear hb
          go_wp2_with fail
          go_roundg (n - (k + 1))
          case measure => omega
          case rel => exact ⟨k + 1, rfl, by go_num, by omega, HB5.out, HS.out⟩
        · have HR := Lib.hid (takne HX.out HY.out hxy)
          rw [decide_eq_false (fun h => hxy ((sameO_key x y).1 h))] at AL
          replace AL := Lib.hid AL
          clear hxy r1 r2 r3 r4 hb2 hb4 hb04 U1 U2 hX1 hX2 hX3 hX4
          go_wp2_with (first | (rw [HX1.out]) | (rw [HX2.out]) | (rw [HX3.out]) | (rw [HX4.out]) | (refine wpList_load_mid rfl 44 (.tmp 20) rfl b1 (f1 + k * 19) rfl (objL x) _ R1.out Try.underlying44 rfl hi1.out ?_) | (refine wpList_store_big rfl 44 (.tmp 8) (.tmp 21) rfl wr.heap.size _ _ (objL x).toArray rfl rfl M1.out hj1.out s1.out (objL_one' _) ?_) | (refine wpList_load_mid rfl 44 (.tmp 24) rfl b2 (f2 + k * 19) rfl (objL y) _ QR.out Try.underlying44 rfl hi2.out ?_) | (refine wpList_store_big rfl 44 (.tmp 9) (.tmp 25) rfl X2.heap.size _ _ (objL y).toArray rfl rfl M3.out hj2.out s2.out (objL_one' _) ?_) | (refine wpList_load_mid rfl 44 (.tmp 8) rfl wr.heap.size 0 rfl (objL x) _ G1.out Try.underlying44 rfl hi1.out ?_) | (refine wpList_load_mid rfl 44 (.tmp 9) rfl X2.heap.size 0 rfl (objL y) _ G2.out Try.underlying44 rfl hi2.out ?_))
          refine AL.out.mono ?_
          rintro e W1 ⟨rfl, hb⟩
          have HB5 := Lib.hid (bnext HB4.out hb)
          clear hb
          go_wp2_with fail
          go_ret
          exact ⟨by rw [HR.out]; first | rfl | simp, HB5.out⟩
      · obtain rfl : k = n := by omega
        have t1 : ¬ (k : Int) < (k : Int) := by omega
        have HR := Lib.hid (takall (a := a.map keyO) (b := b.map keyO) (by rw [List.length_map]; exact HL2.out.trans HN.out) (by rw [List.length_map]; exact HN.out) HT.out)
        clear hbl
        go_wp2_with fail
        go_ret
        exact ⟨by rw [HR.out]; first | rfl | simp, HB.out⟩
  · have HR : Hid (decide (a.map keyO = b.map keyO) = false) := Lib.hid (decide_eq_false fun h => hl (by simpa using congrArg List.length h))
    have hl2 : ¬ (a.length : Int) = (b.length : Int) := by omega
    clear hl h1 h2
    generalize a.length = na at *
    generalize b.length = nb at *
    go_enter Try.func20, Try.ntmps20
    go_wp2_with fail
    go_ret
    exact ⟨by rw [HR.out]; first | rfl | simp, Below.refl _ _⟩
end Go.Proofs.Ytbbhmhihpdmoiaa.Fx
set_option linter.unusedVariables false
set_option linter.unusedSimpArgs false
namespace Go.Proofs.Ytbbhmhihpdmoiaa.Fx
open Go Go.RowKit
def sameS (a b : ScR) : Prop := a.w = b.w ∧ a.h = b.h ∧ a.cam = b.cam ∧ a.os.map keyO = b.os.map keyO
instance (a b : ScR) : Decidable (sameS a b) := by unfold sameS; infer_instance
structure TwoS (a b : ScR) (w V : World) : Prop where
  sa : ScAt w.heap.size a V
  sb : ScAt (w.heap.size + 1) b V
  oa : ObjsAt V a.oo a.os
  ob : ObjsAt V b.oo b.os
  bel : Below w.heap.size w V
theorem TwoS.up {a b : ScR} {w V X : World} (i : TwoS a b w V) (hb : Below V.heap.size V X) : TwoS a b w X :=
  ⟨i.sa.below hb, i.sb.below hb, i.oa.below hb, i.ob.below hb, bnext i.bel hb⟩
theorem TwoS.new {a b : ScR} {w : World} (h : ObjsAt w a.oo a.os) (h2 : ObjsAt w b.oo b.os) : TwoS a b w ((w.alloc (.cells (scC a) 28)).alloc (.cells (scC b) 28)) := by
  have hB : Below w.heap.size w ((w.alloc (.cells (scC a) 28)).alloc (.cells (scC b) 28)) := by go_grown
  refine ⟨step_row (ScAt.new w a), ?_, h.below hB, h2.below hB, hB⟩
  have := ScAt.new (w.alloc (.cells (scC a) 28)) b
  rw [World.size_alloc] at this
  exact this
set_option maxRecDepth 100000 in
set_option maxHeartbeats 2000000 in
theorem psame_any (a b : ScR) (w : World) (ha : ScWf a) (hb : ScWf b) (h : ObjsAt w a.oo a.os) (h2 : ObjsAt w b.oo b.os) :
    Calls Try.prog 15 #[.agg (scC a), .agg (scC b)] w (RetBool (decide (sameS a b)) w) := by
  have HI := Lib.hid (TwoS.new h h2)
  have hA := Lib.hid (sizeM ha.len)
  have hBm := Lib.hid (sizeM hb.len)
  have c0 : ((w.alloc (.cells (scC a) 28)).alloc (.cells (scC b) 28)).cell? ⟨w.heap.size, 0, none⟩ = some (.int .i64 a.w) := HI.out.sa.c0
  have c1 : ((w.alloc (.cells (scC a) 28)).alloc (.cells (scC b) 28)).cell? ⟨w.heap.size, 1, none⟩ = some (.int .i64 a.h) := HI.out.sa.c1
  have d0 : ((w.alloc (.cells (scC a) 28)).alloc (.cells (scC b) 28)).cell? ⟨w.heap.size + 1, 0, none⟩ = some (.int .i64 b.w) := HI.out.sb.c0
  have d1 : ((w.alloc (.cells (scC a) 28)).alloc (.cells (scC b) 28)).cell? ⟨w.heap.size + 1, 1, none⟩ = some (.int .i64 b.h) := HI.out.sb.c1
  have c18 : ((w.alloc (.cells (scC a) 28)).alloc (.cells (scC b) 28)).cell? ⟨w.heap.size, 18, none⟩ = some (.slice a.oo a.os.length a.oc) := HI.out.sa.c18 ha
  have d18 : ((w.alloc (.cells (scC a) 28)).alloc (.cells (scC b) 28)).cell? ⟨w.heap.size + 1, 18, none⟩ = some (.slice b.oo b.os.length b.oc) := HI.out.sb.c18 hb
  have la := ha.cap.1
  have lb := hb.cap.1
  have hl1 := ha.len
  have hl2 := hb.len
  by_cases h1 : a.w = b.w
  · by_cases h3 : a.h = b.h
    · by_cases h4 : a.cam = b.cam
      · have heq : ∀ W, (binOp .eql 25 (.agg (a.cam.map encI).toArray) (.agg (b.cam.map encI).toArray)).run Try.prog W = .ok (.bool true) W := fun W => by
          have := eql_mat W a.cam b.cam hl1 hl2
          unfold mC at this
          rw [this, h4]
          simp
        have HE := Lib.hid (eqf_any a.os b.os a.oo b.oo a.oc b.oc _ HI.out.oa HI.out.ob (by omega) (by omega))
        have HR : Hid (decide (sameS a b) = decide (a.os.map keyO = b.os.map keyO)) := Lib.hid (by
          unfold sameS
          simp [h1, h3, h4])
        rw [HR.out]
        generalize decide (a.os.map keyO = b.os.map keyO) = r at HE ⊢
        rw [h1] at c0
        rw [h3] at c1
        clear ha hb h h2 h1 h3 h4 la lb hl1 hl2 HR
        generalize b.w = bw at c0 d0
        generalize b.h = bh at c1 d1
        generalize a.os.length = n1 at c18 HE
        generalize b.os.length = n2 at d18 HE
        go_enter Try.func15, Try.ntmps15
        go_wp2_with (first | (refine wpList_load_mid_g rfl 25 (.tmp 18) rfl w.heap.size 2 rfl (a.cam.map encI) _ HI.out.sa.cam Try.underlying25 rfl hA.out ?_) | (refine wpList_load_mid_g rfl 25 (.tmp 20) rfl (w.heap.size + 1) 2 rfl (b.cam.map encI) _ HI.out.sb.cam Try.underlying25 rfl hBm.out ?_))
        refine HE.out.mono ?_
        rintro e W1 ⟨rfl, hb⟩
        have HB := Lib.hid (bnext HI.out.bel hb)
        clear hb HE HI c0 c1 d0 d1 c18 d18 heq
        go_wp2_with fail
        go_ret
        exact ⟨by first | rfl | simp, HB.out⟩
      · have heq : ∀ W, (binOp .eql 25 (.agg (a.cam.map encI).toArray) (.agg (b.cam.map encI).toArray)).run Try.prog W = .ok (.bool false) W := fun W => by
          have := eql_mat W a.cam b.cam hl1 hl2
          unfold mC at this
          rw [this]
          simp [h4]
        have HR : Hid (decide (sameS a b) = false) := Lib.hid (decide_eq_false fun h => h4 h.2.2.1)
        rw [HR.out]
        rw [h1] at c0
        rw [h3] at c1
        clear ha hb h h2 h1 h3 h4 la lb hl1 hl2 HR c18 d18
        generalize b.w = bw at c0 d0
        generalize b.h = bh at c1 d1
        go_enter Try.func15, Try.ntmps15
        go_wp2_with (first | (refine wpList_load_mid_g rfl 25 (.tmp 18) rfl w.heap.size 2 rfl (a.cam.map encI) _ HI.out.sa.cam Try.underlying25 rfl hA.out ?_) | (refine wpList_load_mid_g rfl 25 (.tmp 20) rfl (w.heap.size + 1) 2 rfl (b.cam.map encI) _ HI.out.sb.cam Try.underlying25 rfl hBm.out ?_))
        go_ret
        exact ⟨by first | rfl | simp, HI.out.bel⟩
    · have HR : Hid (decide (sameS a b) = false) := Lib.hid (decide_eq_false fun h => h3 h.2.1)
      rw [HR.out]
      rw [h1] at c0
      clear ha hb h h2 h1 la lb hl1 hl2 HR c18 d18
      generalize b.w = bw at c0 d0
      generalize b.h = bh at d1 h3
      generalize a.h = ah at c1 h3
      go_enter Try.func15, Try.ntmps15
      go_wp2_with fail
      go_ret
      exact ⟨by first | rfl | simp, HI.out.bel⟩
  · have HR : Hid (decide (sameS a b) = false) := Lib.hid (decide_eq_false fun h => h1 h.1)
    rw [HR.out]
    clear ha hb h h2 la lb hl1 hl2 HR c18 d18 c1 d1
    generalize b.w = bw at d0 h1
    generalize a.w = aw at c0 h1
    go_enter Try.func15, Try.ntmps15
    go_wp2_with fail
    go_ret
    exact ⟨by first | rfl | simp, HI.out.bel⟩
end Go.Proofs.Ytbbhmhihpdmoiaa.Fx
