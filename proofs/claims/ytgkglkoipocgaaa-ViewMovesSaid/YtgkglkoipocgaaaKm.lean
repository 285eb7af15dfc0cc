/- Two lists of vertices held against one another: the document's Same, walked. -/
import Derived.Test.YtgkglkoipocgaaaProg
import Derived.Test.YtgkglkoipocgaaaKe
import Derived.Test.YtgkglkoipocgaaaEq
import Derived.Test.YtgkglkoipocgaaaHg
import Derived.Laws.StructEq
set_option linter.unusedVariables false
set_option linter.unusedSimpArgs false
namespace Go.Proofs.Ytgkglkoipocgaaa.Fx
open Go Go.RowKit Go.Shelf Wm
theorem exec_mid4 {P : Program} {o : Oper} {a : Act} {w : World} (ty : TypeId) (x : Operand) (ho : o.op = .load ty x)
    (b off : Nat) (hx : a.eval x = .pointer (some ⟨b, off, none⟩)) (cs : List Value) (d : TypeDesc) (hc : w.rangeAt b off cs)
    (hu : P.underlying ty = some d) (hd : d.isRow = true) (hi : (P.info? ty).map (·.size) = some cs.length) :
    (execOp a.eval o).run P w = .ok (.value (.agg cs.toArray)) w := by
  unfold execOp
  simp only [ho, hx, Instr.loadAt, Instr.sureAddr, Sem.run_bind, Sem.run_pure, Result.andThen_ok, run_loadVar_mid w b off ty cs d hc hu hd hi]
theorem vecL {v : List Int} (hv : VecWf v) : (Try.prog.info? 23).map (·.size) = some (v.map encI).length := by
  rw [List.length_map, hv.len]
  kernel_rfl
theorem neq_vec (w : World) (xs ys : List Int) (hx : xs.length = 4) (hy : ys.length = 4) :
    (binOp .neq 23 (.agg (xs.map encI).toArray) (.agg (ys.map encI).toArray)).run Try.prog w = .ok (.bool (!(xs == ys))) w := by
  have h := eqIn_vec w 9998 xs ys hx hy
  unfold mC at h
  rw [run_neq_struct, h]
  rfl
theorem eql_vec9 (w : World) (xs ys : List Int) (hx : xs.length = 4) (hy : ys.length = 4) :
    (binOp .eql 23 (.agg (xs.map encI).toArray) (.agg (ys.map encI).toArray)).run Try.prog w = .ok (.bool (xs == ys)) w := by
  have h := eqIn_vec w 9998 xs ys hx hy
  unfold mC at h
  rw [run_eql_struct, h]
  rfl
theorem same_no {l m : List (List Int)} {k : Nat} (h : ¬ l.getD k [] = m.getD k []) : ¬ l = m := fun e => h (by rw [e])
theorem same_yes {l m : List (List Int)} {n : Nat} (hl : l.length = n) (hm : m.length = n) (h : ∀ j, j < n → l.getD j [] = m.getD j []) : l = m := by
  refine List.ext_getElem (by omega) fun i h1 h2 => ?_
  have := h i (by omega)
  rw [List.getD_eq_getElem?_getD, List.getD_eq_getElem?_getD, List.getElem?_eq_getElem h1, List.getElem?_eq_getElem h2] at this
  simpa using this
def SmRel9 (l m : List (List Int)) (w : World) (n g : Nat) (s5 : Value) (W : World) : Prop := ∃ k, g = n - k ∧ s5 = .int .i64 (k : Int) ∧ k ≤ n ∧ (∀ j, j < k → l.getD j [] = m.getD j []) ∧ Below w.heap.size w W
set_option maxRecDepth 100000 in
set_option maxHeartbeats 4000000 in
theorem zsame9_any (l m : List (List Int)) (o p : Option Addr) (c d : Nat) (w : World) (hl : VecsAt w o l) (hm : VecsAt w p m) (cl : l.length ≤ 9223372036854775807) (cm : m.length ≤ 9223372036854775807) :
    Calls Try.prog 22 #[.slice o l.length c, .slice p m.length d] w (RetBool (decide (l = m)) w) := by
  by_cases hn : l.length = m.length
  · obtain ⟨n, hn2⟩ : ∃ n, m.length = n := ⟨_, rfl⟩
    have HLN := Lib.hid (hn.trans hn2)
    have HMN := Lib.hid hn2
    rw [hn.trans hn2] at cl ⊢
    rw [hn2]
    have HL := Lib.hid hl
    have HM := Lib.hid hm
    have n0 : (0 : Int) ≤ (n : Int) := by omega
    have n1 : (n : Int) ≤ 9223372036854775807 := by omega
    clear hl hm cl cm hn hn2
    go_enter Try.func22, Try.ntmps22
    go_wp2_with fail
    go_loopg [5] n (SmRel9 l m w n)
    case atStart => exact ⟨0, rfl, rfl, by omega, fun j hj => absurd hj (by omega), Below.refl _ _⟩
    case round =>
      obtain ⟨k, hg, rfl, hk, hs, hbl⟩ := hrel
      subst hg
      have HS := Lib.hid hs
      have HB := Lib.hid hbl
      have k0 : (0 : Int) ≤ (k : Int) := by omega
      clear hs
      by_cases hkn : k < n
      · have t1 : (k : Int) < (n : Int) := by omega
        obtain ⟨b1, off1, e1, hr1, hw1⟩ := (HL.out.below hbl).get (k := k) (by rw [HLN.out]; exact hkn)
        obtain ⟨b2, off2, e2, hr2, hw2⟩ := (HM.out.below hbl).get (k := k) (by rw [HMN.out]; exact hkn)
        subst e1 e2
        obtain ⟨x, hx⟩ : ∃ x, l.getD k [] = x := ⟨_, rfl⟩
        obtain ⟨y, hy⟩ : ∃ y, m.getD k [] = y := ⟨_, rfl⟩
        rw [hx] at hr1 hw1
        rw [hy] at hr2 hw2
        have HX := Lib.hid hx
        have HY := Lib.hid hy
        have R1 := Lib.hid hr1
        have R2 := Lib.hid hr2
        have I1 := Lib.hid (vecL hw1)
        have I2 := Lib.hid (vecL hw2)
        obtain ⟨q, hq⟩ : ∃ q, (x == y) = q := ⟨_, rfl⟩
        have HNE : Hid (∀ w, (Op.equalIn 10000 23 (.agg (x.map encI).toArray) (.agg (y.map encI).toArray)).run Try.prog w = .ok q w) := Lib.hid (fun w => by
          have := eqIn_vec w 9998 x y hw1.len hw2.len
          unfold mC at this
          rw [hq] at this
          exact this)
        have HQ := Lib.hid hq
        clear hq
        clear hx hy hr1 hr2 hw1 hw2 hbl
        go_wp2_with fail
        rename_i K5 hK5
        refine (wpIn_wide (n := 5)).1 (give_region (S := fun X => Below wr.heap.size wr X) (Z := []) (by kernel_rfl) (by kernel_rfl) below_mono (fun d _ _ _ _ h => by cases d <;> exact h) (bdrew0 _ _ 1) (fun hG vw0 hw0 => ?_))
        refine grow_pure [] 0 (?_) hG rfl (by kernel_rfl) hw0 (by kernel_rfl) ?_ ?_
        rotate_left
        · intro wz hSw; (first | (go_simp; done) | (go_simp; with_reducible rfl))
        intro vw1 hw1 hbn
        clear hbn hw0 vw0
        (try simp only [Act.put, List.getElem_toArray, List.getElem_cons_zero, List.getElem_cons_succ, List.setIfInBounds_toArray, List.set_cons_zero, List.set_cons_succ])
        refine grow_pure [] 1 (?_) hG rfl (by kernel_rfl) hw1 (by kernel_rfl) ?_ ?_
        rotate_left
        · intro wz hSw; (first | (go_simp; done) | (go_simp; with_reducible rfl))
        intro vw2 hw2 hbn
        clear hbn hw1 vw1
        (try simp only [Act.put, List.getElem_toArray, List.getElem_cons_zero, List.getElem_cons_succ, List.setIfInBounds_toArray, List.set_cons_zero, List.set_cons_succ])
        refine grow_pure [] 2 (.pointer (some ⟨b1, off1 + k * 4, none⟩)) hG rfl (by kernel_rfl) hw2 (by kernel_rfl) ?_ ?_
        · intro wz hSw; (first | (go_simp; done) | (go_simp; with_reducible rfl))
        intro vw3 hw3 hbn
        clear hbn hw2 vw2
        (try simp only [Act.put, List.getElem_toArray, List.getElem_cons_zero, List.getElem_cons_succ, List.setIfInBounds_toArray, List.set_cons_zero, List.set_cons_succ])
        refine grow_pure [] 3 (.agg (x.map encI).toArray) hG rfl (by kernel_rfl) hw3 (by kernel_rfl) ?_ ?_
        · intro wz hSw; exact exec_mid4 23 (.tmp 19) (by kernel_rfl) b1 (off1 + k * 4) (by kernel_rfl) _ _ (range_below hSw R1.out) Try.underlying23 (by kernel_rfl) I1.out
        intro vw4 hw4 hbn
        clear hbn hw3 vw3
        (try simp only [Act.put, List.getElem_toArray, List.getElem_cons_zero, List.getElem_cons_succ, List.setIfInBounds_toArray, List.set_cons_zero, List.set_cons_succ])
        refine grow_pure [] 4 (?_) hG rfl (by kernel_rfl) hw4 (by kernel_rfl) ?_ ?_
        rotate_left
        · intro wz hSw; (first | (go_simp; done) | (go_simp; with_reducible rfl))
        intro vw5 hw5 hbn
        clear hbn hw4 vw4
        (try simp only [Act.put, List.getElem_toArray, List.getElem_cons_zero, List.getElem_cons_succ, List.setIfInBounds_toArray, List.set_cons_zero, List.set_cons_succ])
        refine grow_pure [] 5 (?_) hG rfl (by kernel_rfl) hw5 (by kernel_rfl) ?_ ?_
        rotate_left
        · intro wz hSw; (first | (go_simp; done) | (go_simp; with_reducible rfl))
        intro vw6 hw6 hbn
        clear hbn hw5 vw5
        (try simp only [Act.put, List.getElem_toArray, List.getElem_cons_zero, List.getElem_cons_succ, List.setIfInBounds_toArray, List.set_cons_zero, List.set_cons_succ])
        refine grow_pure [] 6 (.pointer (some ⟨b2, off2 + k * 4, none⟩)) hG rfl (by kernel_rfl) hw6 (by kernel_rfl) ?_ ?_
        · intro wz hSw; (first | (go_simp; done) | (go_simp; with_reducible rfl))
        intro vw7 hw7 hbn
        clear hbn hw6 vw6
        (try simp only [Act.put, List.getElem_toArray, List.getElem_cons_zero, List.getElem_cons_succ, List.setIfInBounds_toArray, List.set_cons_zero, List.set_cons_succ])
        refine grow_pure [] 7 (.agg (y.map encI).toArray) hG rfl (by kernel_rfl) hw7 (by kernel_rfl) ?_ ?_
        · intro wz hSw; exact exec_mid4 23 (.tmp 23) (by kernel_rfl) b2 (off2 + k * 4) (by kernel_rfl) _ _ (range_below hSw R2.out) Try.underlying23 (by kernel_rfl) I2.out
        intro vw8 hw8 hbn
        clear hbn hw7 vw7
        (try simp only [Act.put, List.getElem_toArray, List.getElem_cons_zero, List.getElem_cons_succ, List.setIfInBounds_toArray, List.set_cons_zero, List.set_cons_succ])
        refine grow_pure [] 8 (.bool (!q)) hG rfl (by kernel_rfl) hw8 (by kernel_rfl) ?_ ?_
        · intro wz hSw; have hne := HNE.out wz; (first | (go_simp; done) | (go_simp; with_reducible rfl))
        intro vw9 hw9 hbn
        clear hbn hw8 vw8
        (try simp only [Act.put, List.getElem_toArray, List.getElem_cons_zero, List.getElem_cons_succ, List.setIfInBounds_toArray, List.set_cons_zero, List.set_cons_succ])
        refine give_done (by kernel_rfl) (?_) _
        refine hK5 _ _ ?_
        have HB2 := Lib.hid (bnext HB.out hw9)
        clear hK5 hG R1 R2 HNE I1 I2 hw9
        cases q with
        | true =>
          have HXY : Hid (x = y) := Lib.hid (by simpa using HQ.out)
          go_wp2_with fail
          go_roundg (n - (k + 1))
          case measure => omega
          case rel =>
            refine ⟨k + 1, rfl, by go_num, by omega, fun j hj => ?_, HB2.out⟩
            by_cases hjk : j < k
            · exact HS.out j hjk
            · obtain rfl : j = k := by omega
              rw [HX.out, HY.out]; exact HXY.out
        | false =>
          have HNO : Hid (¬ l = m) := Lib.hid (same_no (k := k) (by rw [HX.out, HY.out]; simpa using HQ.out))
          go_wp2_with fail
          go_ret
          exact ⟨by rw [decide_eq_false HNO.out]; rfl, HB2.out⟩
      · obtain rfl : k = n := by omega
        have t1 : ¬ (k : Int) < (k : Int) := by omega
        have HY : Hid (l = m) := Lib.hid (same_yes HLN.out HMN.out HS.out)
        clear hbl
        go_wp2_with fail
        go_ret
        exact ⟨by rw [decide_eq_true HY.out]; rfl, HB.out⟩
  · have HNO : Hid (¬ l = m) := Lib.hid (fun e => hn (by rw [e]))
    obtain ⟨n1, h1⟩ : ∃ n, l.length = n := ⟨_, rfl⟩
    obtain ⟨n2, h2⟩ : ∃ n, m.length = n := ⟨_, rfl⟩
    rw [h1, h2] at hn ⊢
    have t0 : ¬ (n1 : Int) = (n2 : Int) := by omega
    have t1 : ((n1 : Int) == (n2 : Int)) = false := by simpa using t0
    have t2 : ((n1 : Int) != (n2 : Int)) = true := by simpa using t0
    clear hl hm cl cm hn h1 h2
    go_enter Try.func22, Try.ntmps22
    go_wp2_with fail
    go_ret
    exact ⟨by rw [decide_eq_false HNO.out]; rfl, Below.refl _ _⟩
end Go.Proofs.Ytgkglkoipocgaaa.Fx
