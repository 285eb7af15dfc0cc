/- The document's products, walked. -/
import Derived.Test.YtgkcbadfjhicnaaProg
import Derived.Test.YtgkcbadfjhicnaaBt
set_option linter.unusedVariables false
set_option linter.unusedSimpArgs false
namespace Go.Proofs.Ytgkcbadfjhicnaa.Fx
open Go Go.RowKit Wm
theorem num_set : ∀ (d : List Nat) (k v : Nat), k < d.length → num (d.set k v) + d.getD k 0 * 65536 ^ k = num d + v * 65536 ^ k
  | [], k, v, h => by simp at h
  | x :: d, 0, v, h => by
    simp only [List.set_cons_zero, num, List.getD_cons_zero, Nat.pow_zero, Nat.mul_one]
    omega
  | x :: d, k + 1, v, h => by
    have ih := num_set d k v (by simpa using h)
    simp only [List.set_cons_succ, num, List.getD_cons_succ]
    rw [Nat.pow_succ, ← Nat.mul_assoc, ← Nat.mul_assoc]
    generalize d.getD k 0 * 65536 ^ k = A at *
    generalize v * 65536 ^ k = B at *
    omega
theorem dg_set {d : List Nat} (h : Dg d) (k : Nat) {v : Nat} (hv : v < 65536) : Dg (d.set k v) := by
  refine ⟨by rw [List.length_set]; exact h.1, fun x hx => ?_⟩
  rcases List.mem_or_eq_of_mem_set hx with hx | rfl
  · exact h.2 x hx
  · exact hv
theorem dg_at_lt {d : List Nat} (h : Dg d) (k : Nat) : d.getD k 0 < 65536 := by
  rw [List.getD_eq_getElem?_getD]
  by_cases hk : k < d.length
  · rw [List.getElem?_eq_getElem hk]
    exact h.2 _ (List.getElem_mem hk)
  · rw [List.getElem?_eq_none (by omega)]
    simp
theorem getD_set_n (l : List Nat) (k p : Nat) (x : Nat) (hk : k < l.length) : (l.set k x).getD p 0 = if k = p then x else l.getD p 0 := by
  simp only [List.getD_eq_getElem?_getD, List.getElem?_set]
  split
  · subst_vars
    simp [hk]
  · rfl
/-- between two digits of a product -/
structure Pr (m n i j c : Nat) (d : List Nat) : Prop where
  hd : Dg d
  eq : num d + c * 65536 ^ (i + j) = m % 65536 ^ i * n + m / 65536 ^ i % 65536 * (n % 65536 ^ j) * 65536 ^ i
  hc : c < 65536
  up : ∀ p, i + 9 ≤ p → d.getD p 0 = 0
set_option maxRecDepth 100000 in
theorem Pr.next {m n i j c a b s : Nat} {d : List Nat} (h : Pr m n i j c d) (hij : i + j < 20) (hj : j < 9) (ha : m / 65536 ^ i % 65536 = a) (hb : n / 65536 ^ j % 65536 = b) (hs : s = d.getD (i + j) 0 + a * b + c) :
    Pr m n i (j + 1) (s / 65536) (d.set (i + j) (s % 65536)) := by
  have hz := dg_at_lt h.hd (i + j)
  have hab : a * b ≤ 65535 * 65535 := Nat.mul_le_mul (by omega) (by omega)
  have hc := h.hc
  refine ⟨dg_set h.hd _ (by omega), ?_, by omega, fun p hp => ?_⟩
  · have e1 := num_set d (i + j) (s % 65536) (by rw [h.hd.1]; exact hij)
    have e2 := h.eq
    rw [ha] at e2 ⊢
    have e3 : n % 65536 ^ (j + 1) = n % 65536 ^ j + 65536 ^ j * b := by rw [Nat.mod_pow_succ, hb]
    have e4 : a * (65536 ^ j * b) * 65536 ^ i = a * b * 65536 ^ (i + j) := by rw [Nat.pow_add]; ac_rfl
    have e5 : 65536 ^ (i + (j + 1)) = 65536 ^ (i + j) * 65536 := by rw [← Nat.pow_succ]; rfl
    rw [e3, Nat.mul_add, Nat.add_mul, e4, e5]
    have e6 : s / 65536 * (65536 ^ (i + j) * 65536) + s % 65536 * 65536 ^ (i + j) = s * 65536 ^ (i + j) := by
      rw [Nat.mul_comm (65536 ^ (i + j)) 65536, ← Nat.mul_assoc, ← Nat.add_mul, Nat.div_add_mod']
    have e7 : s * 65536 ^ (i + j) = d.getD (i + j) 0 * 65536 ^ (i + j) + a * b * 65536 ^ (i + j) + c * 65536 ^ (i + j) := by rw [hs, Nat.add_mul, Nat.add_mul]
    generalize s / 65536 * (65536 ^ (i + j) * 65536) = A1 at *
    generalize s % 65536 * 65536 ^ (i + j) = A2 at *
    generalize s * 65536 ^ (i + j) = A3 at *
    generalize d.getD (i + j) 0 * 65536 ^ (i + j) = A4 at *
    generalize a * b * 65536 ^ (i + j) = A5 at *
    generalize c * 65536 ^ (i + j) = A6 at *
    generalize a * (n % 65536 ^ j) * 65536 ^ i = A7 at *
    generalize m % 65536 ^ i * n = A8 at *
    omega
  · rw [getD_set_n _ _ _ _ (by rw [h.hd.1]; exact hij), if_neg (by omega)]
    exact h.up p hp
theorem Pr.row {m n i c : Nat} {d : List Nat} (h : Pr m n i 9 c d) (hi : i < 9) (hn : n < 65536 ^ 9) : Pr m n (i + 1) 0 0 (d.set (i + 9) c) := by
  refine ⟨dg_set h.hd _ h.hc, ?_, by omega, fun p hp => ?_⟩
  · have e1 := num_set d (i + 9) c (by rw [h.hd.1]; omega)
    have e2 := h.eq
    rw [h.up (i + 9) (by omega), Nat.zero_mul] at e1
    rw [Nat.mod_eq_of_lt hn] at e2
    rw [Nat.mod_pow_succ, Nat.zero_mul, Nat.pow_zero, Nat.mod_one, Nat.mul_zero, Nat.zero_mul, Nat.add_mul]
    have e3 : 65536 ^ i * (m / 65536 ^ i % 65536) * n = m / 65536 ^ i % 65536 * n * 65536 ^ i := by ac_rfl
    rw [e3]
    omega
  · rw [getD_set_n _ _ _ _ (by rw [h.hd.1]; omega), if_neg (by omega)]
    exact h.up p (by omega)
theorem Pr.start (m n : Nat) : Pr m n 0 0 0 zeros := by
  refine ⟨dg_dg 0, by simp [Nat.mod_one, num, zeros], by omega, fun p hp => ?_⟩
  rw [List.getD_eq_getElem?_getD, zeros, List.getElem?_replicate]
  split <;> rfl
theorem Pr.done {m n : Nat} {d : List Nat} (h : Pr m n 9 0 0 d) (hm : m < 65536 ^ 9) : d = dg (m * n) := by
  have e := h.eq
  rw [Nat.mod_eq_of_lt hm, Nat.pow_zero, Nat.mod_one, Nat.mul_zero, Nat.zero_mul, Nat.add_zero, Nat.add_zero] at e
  rw [← e]
  exact (dg_num h.hd).symm
theorem AddI.put {nx ny nz : Bool} {dx dy dz : List Nat} {w W : World} (h : AddI nx ny nz dx dy dz w W) (k v : Nat) : AddI nx ny nz dx dy (dz.set k v) w (W.setCell ⟨w.heap.size + 1 + 1 + 1, 1 + k, none⟩ (.int .u64 (v : Int))) :=
  ⟨by rw [heap_setCell_other _ _ _ _ (by show _ ≠ w.heap.size + 1 + 1 + 1; omega)]; exact h.bx, by rw [heap_setCell_other _ _ _ _ (by show _ ≠ w.heap.size + 1 + 1 + 1; omega)]; exact h.by0, by rw [heap_setCell_other _ _ _ _ (by show _ ≠ w.heap.size + 1 + 1 + 1; omega)]; exact h.br,
    by rw [heap_setCell_same _ _ _ _ _ _ h.bz, big_put], h.below.setCell (p := ⟨w.heap.size + 1 + 1 + 1, 1 + k, none⟩) (by show _ ≤ w.heap.size + 1 + 1 + 1; omega) _⟩
theorem AddI.drewN {nx ny nz : Bool} {dx dy dz : List Nat} {w W : World} (h : AddI nx ny nz dx dy dz w W) (q : Nat) : AddI nx ny nz dx dy dz w (W.drewN q) := h.up (bdrew0 _ _ q)
def MORel (nx ny : Bool) (m n : Nat) (w : World) (g : Nat) (s : Value) (W : World) : Prop := ∃ (i : Nat) (d : List Nat), g = 9 - i ∧ s = .int .i64 (i : Int) ∧ i ≤ 9 ∧ Pr m n i 0 0 d ∧ AddI nx ny false (dg m) (dg n) d w W
def MIRel (nx ny : Bool) (m n i : Nat) (w : World) (g : Nat) (s7 s8 : Value) (W : World) : Prop := ∃ (j c : Nat) (d : List Nat), g = 9 - j ∧ s7 = .int .u64 (c : Int) ∧ s8 = .int .i64 (j : Int) ∧ j ≤ 9 ∧ Pr m n i j c d ∧ AddI nx ny false (dg m) (dg n) d w W
set_option maxRecDepth 100000 in
set_option maxHeartbeats 4000000 in
theorem mul_walk (nx ny : Bool) (m n : Nat) (w : World) (hm : Hid (m < 65536 ^ 9)) (hn : Hid (n < 65536 ^ 9)) (sg : Bool) (hsg : Hid ((!(nx == ny) && !(dg (m * n) == zeros)) = sg)) :
    Calls Try.prog 11 #[.agg (bigC nx (dg m)), .agg (bigC ny (dg n))] w (RetB sg (dg (m * n)) w) := by
  have HI0 := Lib.hid (addI0 nx ny (dg m) (dg n) w)
  have HNN := hn
  go_enter Try.func11, Try.ntmps11
  go_wp2_with fail
  go_loopg [6] 9 (MORel nx ny m n w)
  case atStart => exact ⟨0, zeros, rfl, rfl, by omega, Pr.start m n, HI0.out⟩
  case round =>
    clear HI0
    obtain ⟨i, d, rfl, rfl, hi9, P, I⟩ := hrel
    by_cases hi : i < 9
    · have HP := Lib.hid P
      have HI := Lib.hid I
      have i1 : (i : Int) < 9 := by omega
      clear P I
      go_wp2_with fail
      go_loopg [7, 8] 9 (MIRel nx ny m n i w)
      case atStart => exact ⟨0, 0, d, rfl, rfl, rfl, by omega, HP.out, HI.out⟩
      case round =>
        clear HP HI
        obtain ⟨j, c, d, rfl, rfl, rfl, hj9, P, I⟩ := hrel
        by_cases hj : j < 9
        · obtain ⟨k, hk⟩ : ∃ k, i + j = k := ⟨_, rfl⟩
          obtain ⟨a, ha⟩ : ∃ a, m / 65536 ^ i % 65536 = a := ⟨_, rfl⟩
          obtain ⟨b, hb⟩ : ∃ b, n / 65536 ^ j % 65536 = b := ⟨_, rfl⟩
          obtain ⟨z, hz⟩ : ∃ z, d.getD k 0 = z := ⟨_, rfl⟩
          have al : a < 65536 := by omega
          have bl : b < 65536 := by omega
          have zl : z < 65536 := by rw [← hz]; exact dg_at_lt P.hd k
          have cl := P.hc
          have cx : wr.cell? ⟨w.heap.size, 1 + i, none⟩ = some (.int .u64 (a : Int)) := by rw [cell_of_row _ _ _ _ _ _ I.bx, big_at _ _ _ (by rw [dg_len]; omega)]; unfold dg; rw [dgF_at _ _ _ (by omega), ha]
          have cy : wr.cell? ⟨w.heap.size + 1, 1 + j, none⟩ = some (.int .u64 (b : Int)) := by rw [cell_of_row _ _ _ _ _ _ I.by0, big_at _ _ _ (by rw [dg_len]; omega)]; unfold dg; rw [dgF_at _ _ _ (by omega), hb]
          have cz : wr.cell? ⟨w.heap.size + 1 + 1 + 1, 1 + k, none⟩ = some (.int .u64 (z : Int)) := by rw [cell_of_row _ _ _ _ _ _ I.bz, big_at _ _ _ (by rw [P.hd.1]; omega), hz]
          have fz : wr.frozen? ⟨w.heap.size + 1 + 1 + 1, 1 + k, none⟩ = false := frozen_row I.bz
          have hab : a * b ≤ 65535 * 65535 := Nat.mul_le_mul (by omega) (by omega)
          obtain ⟨p, hp⟩ : ∃ p, a * b = p := ⟨_, rfl⟩
          rw [hp] at hab
          obtain ⟨q, hq⟩ : ∃ q, z + p = q := ⟨_, rfl⟩
          obtain ⟨s, hs⟩ : ∃ s, q + c = s := ⟨_, rfl⟩
          have N := P.next (a := a) (b := b) (s := s) (by omega) hj ha hb (by rw [hk, hz, hp, hq, hs])
          rw [hk] at N
          have HN := Lib.hid N
          have NI := Lib.hid (fun q => (I.drewN q).put k (s % 65536))
          have j1 : (j : Int) < 9 := by omega
          have j0 : (0 : Int) ≤ (j : Int) := by omega
          have i0 : (0 : Int) ≤ (i : Int) := by omega
          have k0 : (0 : Int) ≤ (k : Int) := by omega
          have k1 : (k : Int) < 20 := by omega
          have i2 : (i : Int) < 20 := by omega
          have j2 : (j : Int) < 20 := by omega
          have E0 : IntKind.i64.wrap ((i : Int) + (j : Int)) = (k : Int) := by rw [IntKind.wrap_i64]; omega
          have E00 : (i : Int) + (j : Int) = (k : Int) := by omega
          have pz : ((a : Int) * (b : Int)) = (p : Int) := by rw [← hp]; push_cast; rfl
          have E1 : IntKind.u64.wrap ((a : Int) * (b : Int)) = (p : Int) := by rw [pz, IntKind.wrap_u64]; omega
          have E2 : IntKind.u64.wrap ((z : Int) + (p : Int)) = (q : Int) := by rw [IntKind.wrap_u64]; omega
          have E3 : IntKind.u64.wrap ((q : Int) + (c : Int)) = (s : Int) := by rw [IntKind.wrap_u64]; omega
          have SL := Lib.hid (show s < 4300000000 by omega)
          have HK := Lib.hid hk
          clear P I ha hb hz hab hp hq hs N al bl zl cl pz hk
          go_wp2_with fail
          go_quiet (fail)
          clear E0 E1 E2 E3 cx cy
          go_wp2_with fail
          go_roundg (9 - (j + 1))
          case measure => omega
          case rel =>
            exact ⟨j + 1, s / 65536, _, rfl, by rw [show IntKind.u64.wrap ((s : Int) / 65536) = ((s / 65536 : Nat) : Int) by rw [IntKind.wrap_u64]; have := SL.out; omega], by go_num, by omega, HN.out, by have := NI.out nq; simpa using this⟩
        · obtain rfl : j = 9 := by omega
          have j1 : ¬ (((9 : Nat) : Int) < 9) := by omega
          have R := Lib.hid (P.row hi (HNN.out))
          have RI := Lib.hid (I.put (i + 9) c)
          obtain ⟨k, hk⟩ : ∃ k, i + 9 = k := ⟨_, rfl⟩
          obtain ⟨z, hz⟩ : ∃ z, d.getD k 0 = z := ⟨_, rfl⟩
          have cz : wr.cell? ⟨w.heap.size + 1 + 1 + 1, 1 + k, none⟩ = some (.int .u64 (z : Int)) := by rw [cell_of_row _ _ _ _ _ _ I.bz, big_at _ _ _ (by rw [P.hd.1]; omega), hz]
          have fz : wr.frozen? ⟨w.heap.size + 1 + 1 + 1, 1 + k, none⟩ = false := frozen_row I.bz
          rw [hk] at R RI
          have i0 : (0 : Int) ≤ (i : Int) := by omega
          have k0 : (0 : Int) ≤ (k : Int) := by omega
          have k1 : (k : Int) < 20 := by omega
          have E0 : IntKind.i64.wrap ((i : Int) + 9) = (k : Int) := by rw [IntKind.wrap_i64]; omega
          have E00 : (i : Int) + 9 = (k : Int) := by omega
          clear P I hz hk
          go_wp2_with fail
          go_roundg (9 - (i + 1))
          case measure => omega
          case rel => exact ⟨i + 1, _, rfl, by go_num, by omega, R.out, RI.out⟩
    · obtain rfl : i = 9 := by omega
      have i1 : ¬ (((9 : Nat) : Int) < 9) := by omega
      obtain rfl := P.done hm.out
      have HII := Lib.hid I
      obtain ⟨g0, g1, g2, g3⟩ := I.heads
      have BZ := Lib.hid I.bz
      have IZ := Lib.hid (big_info false (dg (m * n)) (dg_len _))
      have IS := Lib.hid (big_info sg (dg (m * n)) (dg_len _))
      have SR := Lib.hid (big_same false sg zeros (dg (m * n)) rfl (dg_len _))
      have NN := Lib.hid (fun w => none_any false (dg (m * n)) w (dg_len _))
      clear P I
      by_cases hs : nx = ny
      · obtain rfl : sg = false := by have := hsg.out; simp [hs] at this; exact this
        subst hs
        have I3 := HII.out.sign false
        have B3 := Lib.hid I3.bz
        have R3 := Lib.hid I3.br
        have L3 := Lib.hid I3.below
        clear I3
        go_wp2_with (first | (refine wpList_load_row rfl 27 (.tmp 5) rfl (w.heap.size + 1 + 1 + 1) rfl _ _ _ _ B3.out Try.underlying27 rfl IS.out ?_) | (refine wpList_store_big rfl 27 (.tmp 4) (.tmp 61) rfl (w.heap.size + 1 + 1) _ _ (bigC false (dg (m * n))) rfl rfl R3.out IS.out SR.out (big_one _ _) ?_))
        refine bodyPost_ret (v := .agg (bigC false (dg (m * n)))) (results_cell_row rfl _ _ (w.heap.size + 1 + 1) _ _ _ _ rfl (setRow_heap _ _ _ _ _ _ R3.out) Try.underlying27 rfl IS.out) rfl ?_
        exact ⟨rfl, Below.row L3.out (by omega) _⟩
      · have hs1 : (nx == ny) = false := by simpa using hs
        have hs2 : (nx != ny) = true := by simpa using hs
        have hz : (!(dg (m * n) == zeros)) = sg := by have := hsg.out; rw [hs1] at this; simpa using this
        have HZ := Lib.hid hz
        clear hz
        cases nx <;> cases ny <;> first | exact absurd rfl hs | skip
        all_goals
          go_wp2_with (refine wpList_load_big (by kernel_rfl) 27 (.tmp 5) rfl (w.heap.size + 1 + 1 + 1) rfl _ _ _ _ BZ.out Try.underlying27 rfl IZ.out ?_)
          refine (NN.out _).mono ?_
          rintro e w4 ⟨rfl, hb4⟩
          have I4 := HII.out.up hb4
          obtain ⟨n0, n1, n2, n3⟩ := I4.heads
          have I5 := I4.sign sg
          have B5 := Lib.hid I5.bz
          have R3 := Lib.hid I5.br
          have L3 := Lib.hid I5.below
          have hz := HZ.out
          clear I4 I5 hb4 g0 g1 g2 g3
          generalize (dg (m * n) == zeros) = zq at hz ⊢
          go_wp2_with (first | (refine wpList_load_row rfl 27 (.tmp 5) rfl (w.heap.size + 1 + 1 + 1) rfl _ _ _ _ B5.out Try.underlying27 rfl IS.out ?_) | (refine wpList_store_big rfl 27 (.tmp 4) (.tmp 61) rfl (w.heap.size + 1 + 1) _ _ (bigC sg (dg (m * n))) rfl rfl R3.out IS.out SR.out (big_one _ _) ?_))
          refine bodyPost_ret (v := .agg (bigC sg (dg (m * n)))) (results_cell_row rfl _ _ (w.heap.size + 1 + 1) _ _ _ _ rfl (setRow_heap _ _ _ _ _ _ R3.out) Try.underlying27 rfl IS.out) rfl ?_
          exact ⟨rfl, Below.row L3.out (by omega) _⟩
set_option maxRecDepth 100000 in
theorem mul_z (x y : Int) (w : World) (hx : x.natAbs < 65536 ^ 9) (hy : y.natAbs < 65536 ^ 9) : Calls Try.prog 11 #[.agg (bv x), .agg (bv y)] w (RetZ (x * y) w) := by
  have hlt : x.natAbs * y.natAbs < BB := by
    unfold BB
    calc x.natAbs * y.natAbs < 65536 ^ 9 * 65536 ^ 9 := Nat.mul_lt_mul'' hx hy
      _ ≤ 65536 ^ 20 := by decide
  refine (mul_walk (decide (x < 0)) (decide (y < 0)) x.natAbs y.natAbs w (Lib.hid hx) (Lib.hid hy) (decide (x * y < 0)) (Lib.hid ?_)).mono ?_
  · rw [dg_zero hlt, Bool.eq_iff_iff]
    have h0 : x.natAbs * y.natAbs = (x * y).natAbs := (Int.natAbs_mul x y).symm
    rw [h0]
    simp only [Bool.and_eq_true, Bool.not_eq_true', beq_eq_false_iff_ne, ne_eq, decide_eq_decide, decide_eq_true_eq, decide_eq_false_iff_not]
    rcases Int.lt_trichotomy x 0 with hx0 | hx0 | hx0
    · rcases Int.lt_trichotomy y 0 with hy0 | hy0 | hy0
      · have := Int.mul_pos_of_neg_of_neg hx0 hy0
        omega
      · subst hy0; simp
      · have := Int.mul_neg_of_neg_of_pos hx0 hy0
        omega
    · subst hx0; simp
    · rcases Int.lt_trichotomy y 0 with hy0 | hy0 | hy0
      · have := Int.mul_neg_of_pos_of_neg hx0 hy0
        omega
      · subst hy0; simp
      · have := Int.mul_pos hx0 hy0
        omega
  · rintro e w' ⟨rfl, hb⟩
    exact ⟨by rw [bv_eq (z := x * y) rfl (by rw [Int.natAbs_mul])], hb⟩
end Go.Proofs.Ytgkcbadfjhicnaa.Fx
