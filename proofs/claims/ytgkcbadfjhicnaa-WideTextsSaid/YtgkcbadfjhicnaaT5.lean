/- WideTexts, walked. -/
import Derived.Test.YtgkcbadfjhicnaaProg
import Derived.Test.YtgkcbadfjhicnaaJ3
import Derived.Test.YtgkcbadfjhicnaaSm
import Derived.Test.YtgkcbadfjhicnaaHg
import Derived.OpenShut
set_option linter.unusedVariables false
set_option linter.unusedSimpArgs false
namespace Go.Proofs.Ytgkcbadfjhicnaa.Fx
open Go Go.RowKit Wm
/-- a number of a slice, by its place -/
theorem exec_slot {P : Program} {o : Oper} {a : Act} {w : World} (t : TypeId) (x y : Operand) (ho : o.op = .indexAddr t x y) (b off n c k : Nat) (e : TypeId) (hx : a.eval x = .slice (some ⟨b, off, none⟩) n c) (hy : a.eval y = .int .i64 (k : Int)) (hk : k < n) (hu : P.underlying t = some (.slice e)) (hc : ∀ w, (Go.sizeOf e).run P w = .ok 1 w) :
    (execOp a.eval o).run P w = .ok (.value (.pointer (some ⟨b, off + k, none⟩))) w := by
  unfold execOp
  simp only [ho, hx, hy]
  have h2 : (k : Int) < (n : Int) := by omega
  have h3 : (0 : Int) ≤ (k : Int) := by omega
  go_simp
  try rw [hc]

structure TxR (xh ph : Int) (xl pl : Nat) (B1 B2 : Nat) (z : Int) (w W : World) : Prop where
  rx : WideAt w.heap.size xh xl W
  ry : WideAt B1 ph pl W
  rz : WideAt B2 ph pl W
  rs : BigAt (B2 + 1) z W
  below : Below w.heap.size w W
  l1 : w.heap.size < B1
  l2 : B1 < B2
theorem TxR.up {xh ph : Int} {xl pl B1 B2 : Nat} {z : Int} {w W V : World} (i : TxR xh ph xl pl B1 B2 z w W) (hb : Below W.heap.size W V) : TxR xh ph xl pl B1 B2 z w V :=
  ⟨WideAt.below hb i.rx, WideAt.below hb i.ry, WideAt.below hb i.rz, BigAt.below hb i.rs, bnext i.below hb, i.l1, i.l2⟩
theorem WideAt.other {W : World} {g k l : Nat} {h : Int} (i : WideAt g h l W) (hk : g ≠ k) (c : Array Value) : WideAt g h l (W.setRow k c) := by unfold WideAt; rw [setRow_other _ _ _ _ hk]; exact i
theorem TxR.put {xh ph : Int} {xl pl B1 B2 : Nat} {z : Int} {w W : World} (i : TxR xh ph xl pl B1 B2 z w W) (y : Int) : TxR xh ph xl pl B1 B2 y w (W.setRow (B2 + 1) (bv y)) :=
  ⟨i.rx.other (by have := i.l1; have := i.l2; omega) _, i.ry.other (by have := i.l2; omega) _, i.rz.other (by omega) _, i.rs.row _, Below.row i.below (by have := i.l1; have := i.l2; omega) _, i.l1, i.l2⟩
def TyRel (xh ph : Int) (xl pl : Nat) (B1 B2 : Nat) (xs ys : List Int) (w : World) (g : Nat) (s14 s15 : Value) (W : World) : Prop :=
  ∃ (k : Nat) (z er : Int), g = min xs.length ys.length - k ∧ s15 = .int .i64 (k : Int) ∧ s14 = .int .i64 er ∧ k ≤ min xs.length ys.length ∧ er = errE z ∧ z.natAbs < 22300745198530623141535718272648361505980416 ∧ (if In z then sm xs ys k = some z else sm xs ys (min xs.length ys.length) = none) ∧ TxR xh ph xl pl B1 B2 z w W
theorem prod_lt {x y : Int} (hx : -9223372036854775808 ≤ x ∧ x ≤ 9223372036854775807) (hy : -9223372036854775808 ≤ y ∧ y ≤ 9223372036854775807) : (x * y).natAbs ≤ 85070591730234615865843651857942052864 := by
  rw [Int.natAbs_mul]
  exact Nat.mul_le_mul (show x.natAbs ≤ 9223372036854775808 by omega) (show y.natAbs ≤ 9223372036854775808 by omega)
theorem in_abs {z : Int} (h : In z) : z.natAbs ≤ 170141183460469231731687303715884105728 := by unfold In at h; omega
theorem tx_end {xs ys : List Int} {z : Int} {k : Nat} (h : if In z then sm xs ys k = some z else sm xs ys (min xs.length ys.length) = none) (hk : In z → k = min xs.length ys.length) : smE (sm xs ys (min xs.length ys.length)) = errE z ∧ smV (sm xs ys (min xs.length ys.length)) = valE z := by
  by_cases hz : In z
  · rw [if_pos hz] at h
    rw [hk hz] at h
    unfold errE valE
    rw [h, if_pos hz, if_pos hz]
    exact ⟨rfl, rfl⟩
  · rw [if_neg hz] at h
    unfold errE valE
    rw [h, if_neg hz, if_neg hz]
    exact ⟨rfl, rfl⟩
theorem tx_round {xs ys : List Int} {z : Int} {k : Nat} (hz : In z) (h : sm xs ys k = some z) (hk : k < min xs.length ys.length) : if In (z + xs.getD k 0 * ys.getD k 0) then sm xs ys (k + 1) = some (z + xs.getD k 0 * ys.getD k 0) else sm xs ys (min xs.length ys.length) = none := by
  have e : sm xs ys (k + 1) = if In (z + xs.getD k 0 * ys.getD k 0) then some (z + xs.getD k 0 * ys.getD k 0) else none := by simp only [sm, h]
  split
  · rename_i h2
    rw [e, if_pos h2]
  · rename_i h2
    exact sm_none (by rw [e, if_neg h2]) _ (by omega)
theorem errE_in {z : Int} (h : In z) : errE z = 0 := if_pos h
theorem errE_no {z : Int} (h : ¬ In z) : errE z = 20 := if_neg h
set_option maxRecDepth 100000 in
set_option maxHeartbeats 1000000 in
theorem texts_over (xh : Int) (xl : Nat) (s : ByteArray) (xs ys : List Int) (oa ob : Option Addr) (ca cb : Nat) (w : World) (h : 60 < s.size ∨ 40 < xs.length ∨ 40 < ys.length) :
    Calls Try.prog 5 #[.agg #[.int .i64 xh, .int .u64 xl], .string s, .slice oa xs.length ca, .slice ob ys.length cb] w fun e w' => e = .returned (.bool true) ∧ Below w.heap.size w w' := by
  by_cases h1 : 60 < s.size
  · have t1 : (60 : Int) < (s.size : Int) := by omega
    clear h h1
    go_enter Try.func5, Try.ntmps5
    go_wp2_with fail
    go_ret
    exact ⟨rfl, by go_grown⟩
  · have t1 : ¬ (60 : Int) < (s.size : Int) := by omega
    by_cases h2 : 40 < xs.length
    · have t2 : (40 : Int) < (xs.length : Int) := by omega
      clear h h1 h2
      go_enter Try.func5, Try.ntmps5
      go_wp2_with fail
      go_ret
      exact ⟨rfl, by go_grown⟩
    · have t2 : ¬ (40 : Int) < (xs.length : Int) := by omega
      have t3 : (40 : Int) < (ys.length : Int) := by omega
      clear h h1 h2
      go_enter Try.func5, Try.ntmps5
      go_wp2_with fail
      go_ret
      exact ⟨rfl, by go_grown⟩
set_option maxRecDepth 100000 in
set_option maxHeartbeats 8000000 in
theorem texts_walk (x xh ph sh per : Int) (xl pl sl : Nat) (s TX : ByteArray) (xs ys : List Int) (oa ob : Option Addr) (ca cb : Nat) (w : World) (hs : s.size ≤ 60) (lx : xs.length ≤ 40) (ly : ys.length ≤ 40)
    (bx : ∀ j, -9223372036854775808 ≤ xs.getD j 0 ∧ xs.getD j 0 ≤ 9223372036854775807) (by0 : ∀ j, -9223372036854775808 ≤ ys.getD j 0 ∧ ys.getD j 0 ≤ 9223372036854775807) (hx : Sl w oa xs) (hy : Sl w ob ys)
    (cP : Hid (Ans 28 #[.string s] (.tuple #[.agg #[.int .i64 ph, .int .u64 pl], .int .i64 per])))
    (cZ : Hid (Ans 29 #[.string s] (.tuple #[.agg #[.int .i64 ph, .int .u64 pl], .int .i64 per])))
    (cT : Hid (Ans 31 #[.agg #[.int .i64 xh, .int .u64 xl]] (.string TX)))
    (cF : Hid (Ans 9 #[.agg #[.int .i64 xh, .int .u64 xl]] (.agg (bv x))))
    (cR : Hid (Ans 32 #[.agg (bv x)] (.string TX)))
    (cS : Hid (∀ W, Below w.heap.size w W → Calls Try.prog 30 #[.slice oa xs.length ca, .slice ob ys.length cb] W fun e w' => e = .returned (.tuple #[.agg #[.int .i64 sh, .int .u64 sl], .int .i64 (smE (sm xs ys (min xs.length ys.length)))]) ∧ Below W.heap.size W w'))
    (hAt : Hid (At (smV (sm xs ys (min xs.length ys.length))) sh sl)) :
    Calls Try.prog 5 #[.agg #[.int .i64 xh, .int .u64 xl], .string s, .slice oa xs.length ca, .slice ob ys.length cb] w fun e w' => e = .returned (.bool true) ∧ Below w.heap.size w w' := by
  have BX := Lib.hid bx; clear bx
  have BY := Lib.hid by0; clear by0
  have HX := Lib.hid hx; clear hx
  have HY := Lib.hid hy; clear hy
  have n1 : ¬ (60 : Int) < (s.size : Int) := by omega
  have n2 : ¬ (40 : Int) < (xs.length : Int) := by omega
  have n3 : ¬ (40 : Int) < (ys.length : Int) := by omega
  go_enter Try.func5, Try.ntmps5
  go_wp2_with fail
  refine (cP.out _).mono ?_
  rintro e w1 ⟨rfl, hb1⟩
  have hz1 : w.heap.size < w1.heap.size := by have := hb1.size; simp at this; omega
  have B1 : Below w.heap.size w w1 := bnext (by go_grown) hb1
  have RX1 : Hid (WideAt w.heap.size xh xl w1) := Lib.hid (WideAt.below hb1 (heap_alloc_new _ _))
  have HB1 := Lib.hid B1
  clear hb1 B1
  go_wp2_with fail
  refine (cZ.out _).mono ?_
  rintro e w2 ⟨rfl, hb2⟩
  have hz2 : w1.heap.size < w2.heap.size := by have := hb2.size; simp at this; omega
  have B2 : Below w.heap.size w w2 := bnext (HB1.out.alloc HB1.out.size _) hb2
  have I0 : Hid (TxR xh ph xl pl w1.heap.size w2.heap.size 0 w ((w2.alloc (.cells #[.int .i64 ph, .int .u64 pl] 24)).alloc (.cells #[.bool false, .int .u64 0, .int .u64 0, .int .u64 0, .int .u64 0, .int .u64 0, .int .u64 0, .int .u64 0, .int .u64 0, .int .u64 0, .int .u64 0, .int .u64 0, .int .u64 0, .int .u64 0, .int .u64 0, .int .u64 0, .int .u64 0, .int .u64 0, .int .u64 0, .int .u64 0, .int .u64 0] 27))) := Lib.hid ⟨step_row (step_row (WideAt.below hb2 (step_row RX1.out))), step_row (step_row (WideAt.below hb2 (heap_alloc_new _ _))), step_row (heap_alloc_new _ _), heap_alloc2_new _ _ _, (B2.alloc B2.size _).alloc (by have := B2.size; simp; omega) _, hz1, hz2⟩
  clear hb2 B2 RX1 HB1
  go_wp2_with fail
  generalize hV : ((w2.alloc (.cells #[.int .i64 ph, .int .u64 pl] 24)).alloc (.cells #[.bool false, .int .u64 0, .int .u64 0, .int .u64 0, .int .u64 0, .int .u64 0, .int .u64 0, .int .u64 0, .int .u64 0, .int .u64 0, .int .u64 0, .int .u64 0, .int .u64 0, .int .u64 0, .int .u64 0, .int .u64 0, .int .u64 0, .int .u64 0, .int .u64 0, .int .u64 0, .int .u64 0] 27)) = V at I0 ⊢
  clear hV
  generalize w1.heap.size = B1 at hz1 hz2 I0 ⊢
  generalize w2.heap.size = B2 at hz2 I0 ⊢
  go_loopg [14, 15] (min xs.length ys.length - 0) (TyRel xh ph xl pl B1 B2 xs ys w)
  case atStart => exact ⟨0, 0, 0, rfl, rfl, rfl, by omega, by decide, by decide, by rw [if_pos (by unfold In; omega)]; rfl, I0.out⟩
  case round =>
    clear I0
    obtain ⟨k, z, er, hg, rfl, rfl, hkn, her, hzb, hsm, I⟩ := hrel
    have HI := Lib.hid I
    have HER := Lib.hid her
    have HSM := Lib.hid hsm
    have HZB := Lib.hid hzb
    subst hg
    clear I her hsm hzb
    by_cases hgo : k < min xs.length ys.length ∧ In z
    · obtain ⟨hk, hin⟩ := hgo
      obtain rfl : er = 0 := by rw [HER.out]; exact errE_in hin
      have k1 : (k : Int) < (xs.length : Int) := by omega
      have k2 : (k : Int) < (ys.length : Int) := by omega
      have kx : k < xs.length := by omega
      have ky : k < ys.length := by omega
      have HIN := Lib.hid hin
      have HK := Lib.hid hk
      obtain ⟨u, hu⟩ : ∃ u, xs.getD k 0 = u := ⟨_, rfl⟩
      obtain ⟨v, hv⟩ : ∃ v, ys.getD k 0 = v := ⟨_, rfl⟩
      obtain ⟨p, hp⟩ : ∃ p, u * v = p := ⟨_, rfl⟩
      obtain ⟨z2, hz3⟩ : ∃ z2, z + p = z2 := ⟨_, rfl⟩
      have bu := BX.out k
      have bv0 := BY.out k
      rw [hu] at bu
      rw [hv] at bv0
      have hpl := prod_lt bu bv0
      rw [hp] at hpl
      have hzl := in_abs hin
      have HR : Hid (if In z2 then sm xs ys (k + 1) = some z2 else sm xs ys (min xs.length ys.length) = none) := Lib.hid (by
        have := HSM.out
        rw [if_pos hin] at this
        have := tx_round hin this hk
        rw [hu, hv, hp, hz3] at this
        exact this)
      have HZ2 : Hid (z2.natAbs < 22300745198530623141535718272648361505980416) := Lib.hid (by omega)
      obtain ⟨ab, ao, eoa, _⟩ := HX.out k kx
      obtain ⟨bb, bo, eob, _⟩ := HY.out k ky
      have hca : Hid (∀ W, Below w.heap.size w W → W.cell? ⟨ab, ao + k, none⟩ = some (.int .i64 u)) := Lib.hid (fun W hb => by obtain ⟨b, o, e, h⟩ := (HX.out.below hb) k kx; rw [eoa] at e; cases e; rw [← hu]; exact h)
      have hcb : Hid (∀ W, Below w.heap.size w W → W.cell? ⟨bb, bo + k, none⟩ = some (.int .i64 v)) := Lib.hid (fun W hb => by obtain ⟨b, o, e, h⟩ := (HY.out.below hb) k ky; rw [eob] at e; cases e; rw [← hv]; exact h)
      have cOu : Hid (Ans 12 #[.int .i64 u] (.agg (bv u))) := Lib.hid fun w => of_z u w (by omega) (by omega)
      have cOv : Hid (Ans 12 #[.int .i64 v] (.agg (bv v))) := Lib.hid fun w => of_z v w (by omega) (by omega)
      have h9 : (65536 : Nat) ^ 9 = 22300745198530623141535718272648361505980416 := by decide
      have cM : Hid (Ans 11 #[.agg (bv u), .agg (bv v)] (.agg (bv p))) := Lib.hid fun w => by
        have := mul_z u v w (by rw [h9]; omega) (by rw [h9]; omega)
        rw [hp] at this
        exact this
      have cA : Hid (Ans 15 #[.agg (bv z), .agg (bv p)] (.agg (bv z2))) := Lib.hid fun w => by
        have eB : BB = 2135987035920910082395021706169552114602704522356652769947041607822219725780640550022962086936576 := by decide
        have := add_z z p w (by rw [eB]; omega)
        rw [hz3] at this
        exact this
      have cC : Hid (∀ w, Calls Try.prog 14 #[.agg (bv z2)] w (RetE z2 w)) := Lib.hid fun w => cut_z z2 w (by
        have e18 : (65536 : Nat) ^ 18 = 497323236409786642155382248146820840100456150797347717440463976893159497012533375533056 := by decide
        rw [e18]; omega)
      have HEA := Lib.hid eoa
      have HEB := Lib.hid eob
      subst eoa eob
      clear hu hv hp hz3 bu bv0 hpl hzl hin hk h9 HER HSM HZB HEA HEB
      clear HX HY BX BY cS
      go_wp2_with fail
      rename_i K12 hK12
      refine (wpIn_wide (n := 5)).1 (give_region (S := fun X => Below wr.heap.size wr X) (Z := [13]) (by kernel_rfl) (by kernel_rfl) below_mono (fun d _ _ _ _ h => by cases d <;> exact h) (bdrew0 _ _ 1) (fun hG v0 h0 => ?_))
      refine give_pure [13] 1 (?_) hG rfl (by kernel_rfl) h0 (by kernel_rfl) ?_ ?_
      rotate_left
      · intro wz hSw; (first | (go_simp; done) | (go_simp; with_reducible rfl))
      intro v1 h1
      clear h0 v0
      (try simp only [Act.put, List.getElem_toArray, List.getElem_cons_zero, List.getElem_cons_succ, List.setIfInBounds_toArray, List.set_cons_zero, List.set_cons_succ])
      refine give_pure [13] 2 (?_) hG rfl (by kernel_rfl) h1 (by kernel_rfl) ?_ ?_
      rotate_left
      · intro wz hSw; (first | (go_simp; done) | (go_simp; with_reducible rfl))
      intro v2 h2
      clear h1 v1
      (try simp only [Act.put, List.getElem_toArray, List.getElem_cons_zero, List.getElem_cons_succ, List.setIfInBounds_toArray, List.set_cons_zero, List.set_cons_succ])
      refine give_pure [13] 3 (.pointer (some ⟨ab, ao + k, none⟩)) hG rfl (by kernel_rfl) h2 (by kernel_rfl) ?_ ?_
      · intro wz hSw; exact exec_slot 54 (.tmp 62) (.tmp 63) (by kernel_rfl) ab ao xs.length ca k 2 (by kernel_rfl) (by kernel_rfl) kx Try.underlying54 (fun _ => by kernel_rfl)
      intro v3 h3
      clear h2 v2
      (try simp only [Act.put, List.getElem_toArray, List.getElem_cons_zero, List.getElem_cons_succ, List.setIfInBounds_toArray, List.set_cons_zero, List.set_cons_succ])
      refine give_pure [13] 4 (.int .i64 u) hG rfl (by kernel_rfl) h3 (by kernel_rfl) ?_ ?_
      · intro wz hSw; have hcc := hca.out wz (bnext HI.out.below hSw); (first | (go_simp; done) | (go_simp; with_reducible rfl))
      intro v4 h4
      clear h3 v3
      (try simp only [Act.put, List.getElem_toArray, List.getElem_cons_zero, List.getElem_cons_succ, List.setIfInBounds_toArray, List.set_cons_zero, List.set_cons_succ])
      refine give_pure [13] 6 (?_) hG rfl (by kernel_rfl) h4 (by kernel_rfl) ?_ ?_
      rotate_left
      · intro wz hSw; (first | (go_simp; done) | (go_simp; with_reducible rfl))
      intro v5 h5
      clear h4 v4
      (try simp only [Act.put, List.getElem_toArray, List.getElem_cons_zero, List.getElem_cons_succ, List.setIfInBounds_toArray, List.set_cons_zero, List.set_cons_succ])
      refine give_pure [13] 7 (?_) hG rfl (by kernel_rfl) h5 (by kernel_rfl) ?_ ?_
      rotate_left
      · intro wz hSw; (first | (go_simp; done) | (go_simp; with_reducible rfl))
      intro v6 h6
      clear h5 v5
      (try simp only [Act.put, List.getElem_toArray, List.getElem_cons_zero, List.getElem_cons_succ, List.setIfInBounds_toArray, List.set_cons_zero, List.set_cons_succ])
      refine give_pure [13] 8 (.pointer (some ⟨bb, bo + k, none⟩)) hG rfl (by kernel_rfl) h6 (by kernel_rfl) ?_ ?_
      · intro wz hSw; exact exec_slot 54 (.tmp 67) (.tmp 68) (by kernel_rfl) bb bo ys.length cb k 2 (by kernel_rfl) (by kernel_rfl) ky Try.underlying54 (fun _ => by kernel_rfl)
      intro v7 h7
      clear h6 v6
      (try simp only [Act.put, List.getElem_toArray, List.getElem_cons_zero, List.getElem_cons_succ, List.setIfInBounds_toArray, List.set_cons_zero, List.set_cons_succ])
      refine give_pure [13] 9 (.int .i64 v) hG rfl (by kernel_rfl) h7 (by kernel_rfl) ?_ ?_
      · intro wz hSw; have hcc := hcb.out wz (bnext HI.out.below hSw); (first | (go_simp; done) | (go_simp; with_reducible rfl))
      intro v8 h8
      clear h7 v7
      (try simp only [Act.put, List.getElem_toArray, List.getElem_cons_zero, List.getElem_cons_succ, List.setIfInBounds_toArray, List.set_cons_zero, List.set_cons_succ])
      refine give_pure [13] 0 (.agg (bv z)) hG rfl (by kernel_rfl) h8 (by kernel_rfl) ?_ ?_
      · intro wz hSw; exact exec_load_row 27 (.tmp 13) (by kernel_rfl) (B2 + 1) (by kernel_rfl) _ _ _ _ (BigAt.below hSw HI.out.rs) Try.underlying27 (by kernel_rfl) (bv_info _)
      intro v9 h9
      clear h8 v8
      (try simp only [Act.put, List.getElem_toArray, List.getElem_cons_zero, List.getElem_cons_succ, List.setIfInBounds_toArray, List.set_cons_zero, List.set_cons_succ])
      refine give_call [13] 5 12 #[.int .i64 u] (.agg (bv u)) hG rfl (by kernel_rfl) h9 (by kernel_rfl) ?_ (cOu.out) ?_
      · intro wz; (first | (go_simp; done) | (go_simp; with_reducible rfl))
      intro v10 h10
      clear h9 v9
      (try simp only [Act.put, List.getElem_toArray, List.getElem_cons_zero, List.getElem_cons_succ, List.setIfInBounds_toArray, List.set_cons_zero, List.set_cons_succ])
      refine give_call [13] 10 12 #[.int .i64 v] (.agg (bv v)) hG rfl (by kernel_rfl) h10 (by kernel_rfl) ?_ (cOv.out) ?_
      · intro wz; (first | (go_simp; done) | (go_simp; with_reducible rfl))
      intro v11 h11
      clear h10 v10
      (try simp only [Act.put, List.getElem_toArray, List.getElem_cons_zero, List.getElem_cons_succ, List.setIfInBounds_toArray, List.set_cons_zero, List.set_cons_succ])
      refine give_call [13] 11 11 #[.agg (bv u), .agg (bv v)] (.agg (bv p)) hG rfl (by kernel_rfl) h11 (by kernel_rfl) ?_ (cM.out) ?_
      · intro wz; (first | (go_simp; done) | (go_simp; with_reducible rfl))
      intro v12 h12
      clear h11 v11
      (try simp only [Act.put, List.getElem_toArray, List.getElem_cons_zero, List.getElem_cons_succ, List.setIfInBounds_toArray, List.set_cons_zero, List.set_cons_succ])
      refine give_call [13] 12 15 #[.agg (bv z), .agg (bv p)] (.agg (bv z2)) hG rfl (by kernel_rfl) h12 (by kernel_rfl) ?_ (cA.out) ?_
      · intro wz; (first | (go_simp; done) | (go_simp; with_reducible rfl))
      intro v13 h13
      clear h12 v12
      (try simp only [Act.put, List.getElem_toArray, List.getElem_cons_zero, List.getElem_cons_succ, List.setIfInBounds_toArray, List.set_cons_zero, List.set_cons_succ])
      have hI4 := HI.out.up h13
      refine give_step 13 (by kernel_rfl) rfl (fun K hK => ?_)
      rw [if_pos (by kernel_rfl)]
      refine wpIn_store_row (fun _ => trivial) 27 (.tmp 13) (.tmp 73) (by kernel_rfl) (B2 + 1) _ _ (bv z2) (by kernel_rfl) (by kernel_rfl) (hI4.rs) (bv_info _) (bv_same _ _) (bv_one _) ?_
      refine hK.out _ _ (fun h => by cases h) (fun x4 hx4 => ?_)
      clear hK K
      (try simp only [Act.put, List.getElem_toArray, List.getElem_cons_zero, List.getElem_cons_succ, List.setIfInBounds_toArray, List.set_cons_zero, List.set_cons_succ])
      have I5 := Lib.hid ((hI4.put z2).up hx4)
      refine give_done (by kernel_rfl) (?_) _
      refine hK12 _ _ ?_
      clear hI4 hx4 hK12 hG HI cOu cOv cM cA h13 v13
      go_wp2_with (refine wpList_load_row rfl 27 (.tmp 13) rfl (B2 + 1) rfl _ _ _ _ I5.out.rs Try.underlying27 rfl (bv_info _) ?_)
      refine (cC.out _).mono ?_
      rintro e w5 ⟨h5, l5, rfl, ha5, hb5⟩
      have I6 := I5.out.up hb5
      have I7 := Lib.hid (I6.up (V := w5.alloc (.cells #[.int .i64 h5, .int .u64 l5] 24)) (by go_grown))
      clear I6 hb5 ha5 I5
      go_wp2_with fail
      go_roundg (min xs.length ys.length - (k + 1))
      case measure => omega
      case rel => exact ⟨k + 1, z2, _, rfl, by go_num, rfl, by have := HK.out; omega, rfl, HZ2.out, HR.out, I7.out⟩
    · have hend := tx_end HSM.out (fun h => by
        by_cases h2 : k < min xs.length ys.length
        · exact absurd ⟨h2, h⟩ hgo
        · omega)
      have HEND : Hid (smE (sm xs ys (min xs.length ys.length)) = er ∧ smV (sm xs ys (min xs.length ys.length)) = valE z) := Lib.hid (by rw [HER.out]; exact hend)
      have cC : Hid (∀ w, Calls Try.prog 14 #[.agg (bv z)] w (RetE z w)) := Lib.hid fun w => cut_z z w (by
        have e18 : (65536 : Nat) ^ 18 = 497323236409786642155382248146820840100456150797347717440463976893159497012533375533056 := by decide
        have := HZB.out
        rw [e18]; omega)
      have cS2 : Hid (∀ W, Below w.heap.size w W → Calls Try.prog 30 #[.slice oa xs.length ca, .slice ob ys.length cb] W fun e w' => e = .returned (.tuple #[.agg #[.int .i64 sh, .int .u64 sl], .int .i64 er]) ∧ Below W.heap.size W w') := by
        have := cS
        rw [HEND.out.1] at this
        exact this
      have hA2 : Hid (At (valE z) sh sl) := by
        have := hAt
        rw [HEND.out.2] at this
        exact this
      have hthird : (k : Int) < (xs.length : Int) → (k : Int) < (ys.length : Int) → er = 20 := fun h1 h2 => by
        rw [HER.out]
        exact errE_no fun h => hgo ⟨by omega, h⟩
      have HTH := Lib.hid hthird
      clear hend hthird HEND cS hAt HSM HZB HX HY BX BY hgo hkn HER
      by_cases k1 : (k : Int) < (xs.length : Int)
      · by_cases k2 : (k : Int) < (ys.length : Int)
        · obtain rfl := HTH.out k1 k2
          clear HTH
          go_wp2_with (refine wpList_load_row rfl 27 (.tmp 13) rfl (B2 + 1) rfl _ _ _ _ HI.out.rs Try.underlying27 rfl (bv_info _) ?_)
          refine (cC.out _).mono ?_
          rintro e w5 ⟨h5, l5, rfl, ha5, hb5⟩
          obtain ⟨rfl, rfl⟩ := At.uniq hA2.out ha5
          have I6 := HI.out.up hb5
          have I7 := Lib.hid (I6.up (V := w5.alloc (.cells #[.int .i64 sh, .int .u64 sl] 24)) (by go_grown))
          have hz5 : B2 < w5.heap.size := by have h := I6.rz; unfold WideAt at h; exact (Array.getElem?_eq_some_iff.1 h).1
          have RW : Hid (WideAt w5.heap.size sh sl (w5.alloc (.cells #[.int .i64 sh, .int .u64 sl] 24))) := Lib.hid (heap_alloc_new _ _)
          clear I6 hb5 ha5
          go_wp2_with fail
          refine (cS2.out _ I7.out.below).mono ?_
          rintro e w6 ⟨rfl, hb6⟩
          have I8 := I7.out.up hb6
          have I9 := Lib.hid (I8.up (V := w6.alloc (.cells #[.int .i64 sh, .int .u64 sl] 24)) (by go_grown))
          have RW6 : Hid (WideAt w5.heap.size sh sl (w6.alloc (.cells #[.int .i64 sh, .int .u64 sl] 24))) := Lib.hid (step_row (WideAt.below hb6 RW.out))
          have RS6 : Hid (WideAt w6.heap.size sh sl (w6.alloc (.cells #[.int .i64 sh, .int .u64 sl] 24))) := Lib.hid (heap_alloc_new _ _)
          clear I8 hb6 I7 RW HI cS2 cC hA2
          go_wp2_with fail
          generalize (w6.alloc (.cells #[.int .i64 sh, .int .u64 sl] 24)) = V6 at I9 RW6 RS6 ⊢
          generalize w6.heap.size = B6 at RS6 ⊢
          generalize w5.heap.size = B5 at RW6 ⊢
          rename_i K14 hK14
          refine (wpIn_wide (n := 5)).1 (give_region (S := fun X => Below V6.heap.size V6 X) (Z := []) (by kernel_rfl) (by kernel_rfl) below_mono (fun d _ _ _ _ h => by cases d <;> exact h) (bdrew0 _ _ 1) (fun hG v0 h0 => ?_))
          refine give_pure [] 0 (.agg #[.int .i64 xh, .int .u64 xl]) hG rfl (by kernel_rfl) h0 (by kernel_rfl) ?_ ?_
          · intro wz hSw; exact exec_load_row 24 (.tmp 4) (by kernel_rfl) (w.heap.size) (by kernel_rfl) _ _ _ _ (WideAt.below hSw I9.out.rx) Try.underlying24 (by kernel_rfl) (by kernel_rfl)
          intro v1 h1
          clear h0 v0
          (try simp only [Act.put, List.getElem_toArray, List.getElem_cons_zero, List.getElem_cons_succ, List.setIfInBounds_toArray, List.set_cons_zero, List.set_cons_succ])
          refine give_pure [] 2 (.agg #[.int .i64 xh, .int .u64 xl]) hG rfl (by kernel_rfl) h1 (by kernel_rfl) ?_ ?_
          · intro wz hSw; exact exec_load_row 24 (.tmp 4) (by kernel_rfl) (w.heap.size) (by kernel_rfl) _ _ _ _ (WideAt.below hSw I9.out.rx) Try.underlying24 (by kernel_rfl) (by kernel_rfl)
          intro v2 h2
          clear h1 v1
          (try simp only [Act.put, List.getElem_toArray, List.getElem_cons_zero, List.getElem_cons_succ, List.setIfInBounds_toArray, List.set_cons_zero, List.set_cons_succ])
          refine give_call [] 1 31 #[.agg #[.int .i64 xh, .int .u64 xl]] (.string TX) hG rfl (by kernel_rfl) h2 (by kernel_rfl) ?_ (cT.out) ?_
          · intro wz; (first | (go_simp; done) | (go_simp; with_reducible rfl))
          intro v3 h3
          clear h2 v2
          (try simp only [Act.put, List.getElem_toArray, List.getElem_cons_zero, List.getElem_cons_succ, List.setIfInBounds_toArray, List.set_cons_zero, List.set_cons_succ])
          refine give_call [] 3 9 #[.agg #[.int .i64 xh, .int .u64 xl]] (.agg (bv x)) hG rfl (by kernel_rfl) h3 (by kernel_rfl) ?_ (cF.out) ?_
          · intro wz; (first | (go_simp; done) | (go_simp; with_reducible rfl))
          intro v4 h4
          clear h3 v3
          (try simp only [Act.put, List.getElem_toArray, List.getElem_cons_zero, List.getElem_cons_succ, List.setIfInBounds_toArray, List.set_cons_zero, List.set_cons_succ])
          refine give_call [] 4 32 #[.agg (bv x)] (.string TX) hG rfl (by kernel_rfl) h4 (by kernel_rfl) ?_ (cR.out) ?_
          · intro wz; (first | (go_simp; done) | (go_simp; with_reducible rfl))
          intro v5 h5
          clear h4 v4
          (try simp only [Act.put, List.getElem_toArray, List.getElem_cons_zero, List.getElem_cons_succ, List.setIfInBounds_toArray, List.set_cons_zero, List.set_cons_succ])
          refine give_pure [] 5 (?_) hG rfl (by kernel_rfl) h5 (by kernel_rfl) ?_ ?_
          rotate_left
          · intro wz hSw; (first | (go_simp; done) | (go_simp; with_reducible rfl))
          intro v6 h6
          clear h5 v5
          (try simp only [Act.put, List.getElem_toArray, List.getElem_cons_zero, List.getElem_cons_succ, List.setIfInBounds_toArray, List.set_cons_zero, List.set_cons_succ])
          refine give_pure [] 6 (?_) hG rfl (by kernel_rfl) h6 (by kernel_rfl) ?_ ?_
          rotate_left
          · intro wz hSw; (first | (go_simp; done) | (go_simp; with_reducible rfl))
          intro v7 h7
          clear h6 v6
          (try simp only [Act.put, List.getElem_toArray, List.getElem_cons_zero, List.getElem_cons_succ, List.setIfInBounds_toArray, List.set_cons_zero, List.set_cons_succ])
          refine give_pure [] 7 (.agg #[.int .i64 ph, .int .u64 pl]) hG rfl (by kernel_rfl) h7 (by kernel_rfl) ?_ ?_
          · intro wz hSw; exact exec_load_row 24 (.tmp 9) (by kernel_rfl) (B1) (by kernel_rfl) _ _ _ _ (WideAt.below hSw I9.out.ry) Try.underlying24 (by kernel_rfl) (by kernel_rfl)
          intro v8 h8
          clear h7 v7
          (try simp only [Act.put, List.getElem_toArray, List.getElem_cons_zero, List.getElem_cons_succ, List.setIfInBounds_toArray, List.set_cons_zero, List.set_cons_succ])
          refine give_pure [] 8 (.agg #[.int .i64 ph, .int .u64 pl]) hG rfl (by kernel_rfl) h8 (by kernel_rfl) ?_ ?_
          · intro wz hSw; exact exec_load_row 24 (.tmp 11) (by kernel_rfl) (B2) (by kernel_rfl) _ _ _ _ (WideAt.below hSw I9.out.rz) Try.underlying24 (by kernel_rfl) (by kernel_rfl)
          intro v9 h9
          clear h8 v8
          (try simp only [Act.put, List.getElem_toArray, List.getElem_cons_zero, List.getElem_cons_succ, List.setIfInBounds_toArray, List.set_cons_zero, List.set_cons_succ])
          refine give_pure [] 9 (?_) hG rfl (by kernel_rfl) h9 (by kernel_rfl) ?_ ?_
          rotate_left
          · intro wz hSw; (first | (go_simp; done) | (go_simp; with_reducible rfl))
          intro v10 h10
          clear h9 v9
          (try simp only [Act.put, List.getElem_toArray, List.getElem_cons_zero, List.getElem_cons_succ, List.setIfInBounds_toArray, List.set_cons_zero, List.set_cons_succ])
          refine give_pure [] 10 (?_) hG rfl (by kernel_rfl) h10 (by kernel_rfl) ?_ ?_
          rotate_left
          · intro wz hSw; (first | (go_simp; done) | (go_simp; with_reducible rfl))
          intro v11 h11
          clear h10 v10
          (try simp only [Act.put, List.getElem_toArray, List.getElem_cons_zero, List.getElem_cons_succ, List.setIfInBounds_toArray, List.set_cons_zero, List.set_cons_succ])
          refine give_pure [] 11 (?_) hG rfl (by kernel_rfl) h11 (by kernel_rfl) ?_ ?_
          rotate_left
          · intro wz hSw; (first | (go_simp; done) | (go_simp; with_reducible rfl))
          intro v12 h12
          clear h11 v11
          (try simp only [Act.put, List.getElem_toArray, List.getElem_cons_zero, List.getElem_cons_succ, List.setIfInBounds_toArray, List.set_cons_zero, List.set_cons_succ])
          refine give_pure [] 12 (?_) hG rfl (by kernel_rfl) h12 (by kernel_rfl) ?_ ?_
          rotate_left
          · intro wz hSw; (first | (go_simp; done) | (go_simp; with_reducible rfl))
          intro v13 h13
          clear h12 v12
          (try simp only [Act.put, List.getElem_toArray, List.getElem_cons_zero, List.getElem_cons_succ, List.setIfInBounds_toArray, List.set_cons_zero, List.set_cons_succ])
          refine give_pure [] 13 (?_) hG rfl (by kernel_rfl) h13 (by kernel_rfl) ?_ ?_
          rotate_left
          · intro wz hSw; (first | (go_simp; done) | (go_simp; with_reducible rfl))
          intro v14 h14
          clear h13 v13
          (try simp only [Act.put, List.getElem_toArray, List.getElem_cons_zero, List.getElem_cons_succ, List.setIfInBounds_toArray, List.set_cons_zero, List.set_cons_succ])
          refine give_pure [] 14 (?_) hG rfl (by kernel_rfl) h14 (by kernel_rfl) ?_ ?_
          rotate_left
          · intro wz hSw; (first | (go_simp; done) | (go_simp; with_reducible rfl))
          intro v15 h15
          clear h14 v14
          (try simp only [Act.put, List.getElem_toArray, List.getElem_cons_zero, List.getElem_cons_succ, List.setIfInBounds_toArray, List.set_cons_zero, List.set_cons_succ])
          refine give_pure [] 15 (?_) hG rfl (by kernel_rfl) h15 (by kernel_rfl) ?_ ?_
          rotate_left
          · intro wz hSw; (first | (go_simp; done) | (go_simp; with_reducible rfl))
          intro v16 h16
          clear h15 v15
          (try simp only [Act.put, List.getElem_toArray, List.getElem_cons_zero, List.getElem_cons_succ, List.setIfInBounds_toArray, List.set_cons_zero, List.set_cons_succ])
          refine give_pure [] 16 (?_) hG rfl (by kernel_rfl) h16 (by kernel_rfl) ?_ ?_
          rotate_left
          · intro wz hSw; (first | (go_simp; done) | (go_simp; with_reducible rfl))
          intro v17 h17
          clear h16 v16
          (try simp only [Act.put, List.getElem_toArray, List.getElem_cons_zero, List.getElem_cons_succ, List.setIfInBounds_toArray, List.set_cons_zero, List.set_cons_succ])
          refine give_pure [] 17 (?_) hG rfl (by kernel_rfl) h17 (by kernel_rfl) ?_ ?_
          rotate_left
          · intro wz hSw; (first | (go_simp; done) | (go_simp; with_reducible rfl))
          intro v18 h18
          clear h17 v17
          (try simp only [Act.put, List.getElem_toArray, List.getElem_cons_zero, List.getElem_cons_succ, List.setIfInBounds_toArray, List.set_cons_zero, List.set_cons_succ])
          refine give_pure [] 18 (?_) hG rfl (by kernel_rfl) h18 (by kernel_rfl) ?_ ?_
          rotate_left
          · intro wz hSw; (first | (go_simp; done) | (go_simp; with_reducible rfl))
          intro v19 h19
          clear h18 v18
          (try simp only [Act.put, List.getElem_toArray, List.getElem_cons_zero, List.getElem_cons_succ, List.setIfInBounds_toArray, List.set_cons_zero, List.set_cons_succ])
          refine give_pure [] 19 (?_) hG rfl (by kernel_rfl) h19 (by kernel_rfl) ?_ ?_
          rotate_left
          · intro wz hSw; (first | (go_simp; done) | (go_simp; with_reducible rfl))
          intro v20 h20
          clear h19 v19
          (try simp only [Act.put, List.getElem_toArray, List.getElem_cons_zero, List.getElem_cons_succ, List.setIfInBounds_toArray, List.set_cons_zero, List.set_cons_succ])
          refine give_pure [] 20 (?_) hG rfl (by kernel_rfl) h20 (by kernel_rfl) ?_ ?_
          rotate_left
          · intro wz hSw; (first | (go_simp; done) | (go_simp; with_reducible rfl))
          intro v21 h21
          clear h20 v20
          (try simp only [Act.put, List.getElem_toArray, List.getElem_cons_zero, List.getElem_cons_succ, List.setIfInBounds_toArray, List.set_cons_zero, List.set_cons_succ])
          refine give_pure [] 21 (?_) hG rfl (by kernel_rfl) h21 (by kernel_rfl) ?_ ?_
          rotate_left
          · intro wz hSw; (first | (go_simp; done) | (go_simp; with_reducible rfl))
          intro v22 h22
          clear h21 v21
          (try simp only [Act.put, List.getElem_toArray, List.getElem_cons_zero, List.getElem_cons_succ, List.setIfInBounds_toArray, List.set_cons_zero, List.set_cons_succ])
          refine give_pure [] 22 (.agg #[.int .i64 sh, .int .u64 sl]) hG rfl (by kernel_rfl) h22 (by kernel_rfl) ?_ ?_
          · intro wz hSw; exact exec_load_row 24 (.tmp 20) (by kernel_rfl) (B6) (by kernel_rfl) _ _ _ _ (WideAt.below hSw RS6.out) Try.underlying24 (by kernel_rfl) (by kernel_rfl)
          intro v23 h23
          clear h22 v22
          (try simp only [Act.put, List.getElem_toArray, List.getElem_cons_zero, List.getElem_cons_succ, List.setIfInBounds_toArray, List.set_cons_zero, List.set_cons_succ])
          refine give_pure [] 23 (.agg #[.int .i64 sh, .int .u64 sl]) hG rfl (by kernel_rfl) h23 (by kernel_rfl) ?_ ?_
          · intro wz hSw; exact exec_load_row 24 (.tmp 18) (by kernel_rfl) (B5) (by kernel_rfl) _ _ _ _ (WideAt.below hSw RW6.out) Try.underlying24 (by kernel_rfl) (by kernel_rfl)
          intro v24 h24
          clear h23 v23
          (try simp only [Act.put, List.getElem_toArray, List.getElem_cons_zero, List.getElem_cons_succ, List.setIfInBounds_toArray, List.set_cons_zero, List.set_cons_succ])
          refine give_pure [] 24 (?_) hG rfl (by kernel_rfl) h24 (by kernel_rfl) ?_ ?_
          rotate_left
          · intro wz hSw; (first | (go_simp; done) | (go_simp; with_reducible rfl))
          intro v25 h25
          clear h24 v24
          (try simp only [Act.put, List.getElem_toArray, List.getElem_cons_zero, List.getElem_cons_succ, List.setIfInBounds_toArray, List.set_cons_zero, List.set_cons_succ])
          refine give_pure [] 25 (?_) hG rfl (by kernel_rfl) h25 (by kernel_rfl) ?_ ?_
          rotate_left
          · intro wz hSw; (first | (go_simp; done) | (go_simp; with_reducible rfl))
          intro v26 h26
          clear h25 v25
          (try simp only [Act.put, List.getElem_toArray, List.getElem_cons_zero, List.getElem_cons_succ, List.setIfInBounds_toArray, List.set_cons_zero, List.set_cons_succ])
          refine give_pure [] 26 (?_) hG rfl (by kernel_rfl) h26 (by kernel_rfl) ?_ ?_
          rotate_left
          · intro wz hSw; (first | (go_simp; done) | (go_simp; with_reducible rfl))
          intro v27 h27
          clear h26 v26
          (try simp only [Act.put, List.getElem_toArray, List.getElem_cons_zero, List.getElem_cons_succ, List.setIfInBounds_toArray, List.set_cons_zero, List.set_cons_succ])
          refine give_done (by kernel_rfl) (?_) _
          refine hK14 _ _ ?_
          have HE := Lib.hid (bnext I9.out.below h27)
          clear h27 hK14 hG
          go_wp2_with fail
          go_ret
          exact ⟨rfl, HE.out⟩
        · clear HTH
          go_wp2_with (refine wpList_load_row rfl 27 (.tmp 13) rfl (B2 + 1) rfl _ _ _ _ HI.out.rs Try.underlying27 rfl (bv_info _) ?_)
          refine (cC.out _).mono ?_
          rintro e w5 ⟨h5, l5, rfl, ha5, hb5⟩
          obtain ⟨rfl, rfl⟩ := At.uniq hA2.out ha5
          have I6 := HI.out.up hb5
          have I7 := Lib.hid (I6.up (V := w5.alloc (.cells #[.int .i64 sh, .int .u64 sl] 24)) (by go_grown))
          have hz5 : B2 < w5.heap.size := by have h := I6.rz; unfold WideAt at h; exact (Array.getElem?_eq_some_iff.1 h).1
          have RW : Hid (WideAt w5.heap.size sh sl (w5.alloc (.cells #[.int .i64 sh, .int .u64 sl] 24))) := Lib.hid (heap_alloc_new _ _)
          clear I6 hb5 ha5
          go_wp2_with fail
          refine (cS2.out _ I7.out.below).mono ?_
          rintro e w6 ⟨rfl, hb6⟩
          have I8 := I7.out.up hb6
          have I9 := Lib.hid (I8.up (V := w6.alloc (.cells #[.int .i64 sh, .int .u64 sl] 24)) (by go_grown))
          have RW6 : Hid (WideAt w5.heap.size sh sl (w6.alloc (.cells #[.int .i64 sh, .int .u64 sl] 24))) := Lib.hid (step_row (WideAt.below hb6 RW.out))
          have RS6 : Hid (WideAt w6.heap.size sh sl (w6.alloc (.cells #[.int .i64 sh, .int .u64 sl] 24))) := Lib.hid (heap_alloc_new _ _)
          clear I8 hb6 I7 RW HI cS2 cC hA2
          go_wp2_with fail
          generalize (w6.alloc (.cells #[.int .i64 sh, .int .u64 sl] 24)) = V6 at I9 RW6 RS6 ⊢
          generalize w6.heap.size = B6 at RS6 ⊢
          generalize w5.heap.size = B5 at RW6 ⊢
          rename_i K14 hK14
          refine (wpIn_wide (n := 5)).1 (give_region (S := fun X => Below V6.heap.size V6 X) (Z := []) (by kernel_rfl) (by kernel_rfl) below_mono (fun d _ _ _ _ h => by cases d <;> exact h) (bdrew0 _ _ 1) (fun hG v0 h0 => ?_))
          refine give_pure [] 0 (.agg #[.int .i64 xh, .int .u64 xl]) hG rfl (by kernel_rfl) h0 (by kernel_rfl) ?_ ?_
          · intro wz hSw; exact exec_load_row 24 (.tmp 4) (by kernel_rfl) (w.heap.size) (by kernel_rfl) _ _ _ _ (WideAt.below hSw I9.out.rx) Try.underlying24 (by kernel_rfl) (by kernel_rfl)
          intro v1 h1
          clear h0 v0
          (try simp only [Act.put, List.getElem_toArray, List.getElem_cons_zero, List.getElem_cons_succ, List.setIfInBounds_toArray, List.set_cons_zero, List.set_cons_succ])
          refine give_pure [] 2 (.agg #[.int .i64 xh, .int .u64 xl]) hG rfl (by kernel_rfl) h1 (by kernel_rfl) ?_ ?_
          · intro wz hSw; exact exec_load_row 24 (.tmp 4) (by kernel_rfl) (w.heap.size) (by kernel_rfl) _ _ _ _ (WideAt.below hSw I9.out.rx) Try.underlying24 (by kernel_rfl) (by kernel_rfl)
          intro v2 h2
          clear h1 v1
          (try simp only [Act.put, List.getElem_toArray, List.getElem_cons_zero, List.getElem_cons_succ, List.setIfInBounds_toArray, List.set_cons_zero, List.set_cons_succ])
          refine give_call [] 1 31 #[.agg #[.int .i64 xh, .int .u64 xl]] (.string TX) hG rfl (by kernel_rfl) h2 (by kernel_rfl) ?_ (cT.out) ?_
          · intro wz; (first | (go_simp; done) | (go_simp; with_reducible rfl))
          intro v3 h3
          clear h2 v2
          (try simp only [Act.put, List.getElem_toArray, List.getElem_cons_zero, List.getElem_cons_succ, List.setIfInBounds_toArray, List.set_cons_zero, List.set_cons_succ])
          refine give_call [] 3 9 #[.agg #[.int .i64 xh, .int .u64 xl]] (.agg (bv x)) hG rfl (by kernel_rfl) h3 (by kernel_rfl) ?_ (cF.out) ?_
          · intro wz; (first | (go_simp; done) | (go_simp; with_reducible rfl))
          intro v4 h4
          clear h3 v3
          (try simp only [Act.put, List.getElem_toArray, List.getElem_cons_zero, List.getElem_cons_succ, List.setIfInBounds_toArray, List.set_cons_zero, List.set_cons_succ])
          refine give_call [] 4 32 #[.agg (bv x)] (.string TX) hG rfl (by kernel_rfl) h4 (by kernel_rfl) ?_ (cR.out) ?_
          · intro wz; (first | (go_simp; done) | (go_simp; with_reducible rfl))
          intro v5 h5
          clear h4 v4
          (try simp only [Act.put, List.getElem_toArray, List.getElem_cons_zero, List.getElem_cons_succ, List.setIfInBounds_toArray, List.set_cons_zero, List.set_cons_succ])
          refine give_pure [] 5 (?_) hG rfl (by kernel_rfl) h5 (by kernel_rfl) ?_ ?_
          rotate_left
          · intro wz hSw; (first | (go_simp; done) | (go_simp; with_reducible rfl))
          intro v6 h6
          clear h5 v5
          (try simp only [Act.put, List.getElem_toArray, List.getElem_cons_zero, List.getElem_cons_succ, List.setIfInBounds_toArray, List.set_cons_zero, List.set_cons_succ])
          refine give_pure [] 6 (?_) hG rfl (by kernel_rfl) h6 (by kernel_rfl) ?_ ?_
          rotate_left
          · intro wz hSw; (first | (go_simp; done) | (go_simp; with_reducible rfl))
          intro v7 h7
          clear h6 v6
          (try simp only [Act.put, List.getElem_toArray, List.getElem_cons_zero, List.getElem_cons_succ, List.setIfInBounds_toArray, List.set_cons_zero, List.set_cons_succ])
          refine give_pure [] 7 (.agg #[.int .i64 ph, .int .u64 pl]) hG rfl (by kernel_rfl) h7 (by kernel_rfl) ?_ ?_
          · intro wz hSw; exact exec_load_row 24 (.tmp 9) (by kernel_rfl) (B1) (by kernel_rfl) _ _ _ _ (WideAt.below hSw I9.out.ry) Try.underlying24 (by kernel_rfl) (by kernel_rfl)
          intro v8 h8
          clear h7 v7
          (try simp only [Act.put, List.getElem_toArray, List.getElem_cons_zero, List.getElem_cons_succ, List.setIfInBounds_toArray, List.set_cons_zero, List.set_cons_succ])
          refine give_pure [] 8 (.agg #[.int .i64 ph, .int .u64 pl]) hG rfl (by kernel_rfl) h8 (by kernel_rfl) ?_ ?_
          · intro wz hSw; exact exec_load_row 24 (.tmp 11) (by kernel_rfl) (B2) (by kernel_rfl) _ _ _ _ (WideAt.below hSw I9.out.rz) Try.underlying24 (by kernel_rfl) (by kernel_rfl)
          intro v9 h9
          clear h8 v8
          (try simp only [Act.put, List.getElem_toArray, List.getElem_cons_zero, List.getElem_cons_succ, List.setIfInBounds_toArray, List.set_cons_zero, List.set_cons_succ])
          refine give_pure [] 9 (?_) hG rfl (by kernel_rfl) h9 (by kernel_rfl) ?_ ?_
          rotate_left
          · intro wz hSw; (first | (go_simp; done) | (go_simp; with_reducible rfl))
          intro v10 h10
          clear h9 v9
          (try simp only [Act.put, List.getElem_toArray, List.getElem_cons_zero, List.getElem_cons_succ, List.setIfInBounds_toArray, List.set_cons_zero, List.set_cons_succ])
          refine give_pure [] 10 (?_) hG rfl (by kernel_rfl) h10 (by kernel_rfl) ?_ ?_
          rotate_left
          · intro wz hSw; (first | (go_simp; done) | (go_simp; with_reducible rfl))
          intro v11 h11
          clear h10 v10
          (try simp only [Act.put, List.getElem_toArray, List.getElem_cons_zero, List.getElem_cons_succ, List.setIfInBounds_toArray, List.set_cons_zero, List.set_cons_succ])
          refine give_pure [] 11 (?_) hG rfl (by kernel_rfl) h11 (by kernel_rfl) ?_ ?_
          rotate_left
          · intro wz hSw; (first | (go_simp; done) | (go_simp; with_reducible rfl))
          intro v12 h12
          clear h11 v11
          (try simp only [Act.put, List.getElem_toArray, List.getElem_cons_zero, List.getElem_cons_succ, List.setIfInBounds_toArray, List.set_cons_zero, List.set_cons_succ])
          refine give_pure [] 12 (?_) hG rfl (by kernel_rfl) h12 (by kernel_rfl) ?_ ?_
          rotate_left
          · intro wz hSw; (first | (go_simp; done) | (go_simp; with_reducible rfl))
          intro v13 h13
          clear h12 v12
          (try simp only [Act.put, List.getElem_toArray, List.getElem_cons_zero, List.getElem_cons_succ, List.setIfInBounds_toArray, List.set_cons_zero, List.set_cons_succ])
          refine give_pure [] 13 (?_) hG rfl (by kernel_rfl) h13 (by kernel_rfl) ?_ ?_
          rotate_left
          · intro wz hSw; (first | (go_simp; done) | (go_simp; with_reducible rfl))
          intro v14 h14
          clear h13 v13
          (try simp only [Act.put, List.getElem_toArray, List.getElem_cons_zero, List.getElem_cons_succ, List.setIfInBounds_toArray, List.set_cons_zero, List.set_cons_succ])
          refine give_pure [] 14 (?_) hG rfl (by kernel_rfl) h14 (by kernel_rfl) ?_ ?_
          rotate_left
          · intro wz hSw; (first | (go_simp; done) | (go_simp; with_reducible rfl))
          intro v15 h15
          clear h14 v14
          (try simp only [Act.put, List.getElem_toArray, List.getElem_cons_zero, List.getElem_cons_succ, List.setIfInBounds_toArray, List.set_cons_zero, List.set_cons_succ])
          refine give_pure [] 15 (?_) hG rfl (by kernel_rfl) h15 (by kernel_rfl) ?_ ?_
          rotate_left
          · intro wz hSw; (first | (go_simp; done) | (go_simp; with_reducible rfl))
          intro v16 h16
          clear h15 v15
          (try simp only [Act.put, List.getElem_toArray, List.getElem_cons_zero, List.getElem_cons_succ, List.setIfInBounds_toArray, List.set_cons_zero, List.set_cons_succ])
          refine give_pure [] 16 (?_) hG rfl (by kernel_rfl) h16 (by kernel_rfl) ?_ ?_
          rotate_left
          · intro wz hSw; (first | (go_simp; done) | (go_simp; with_reducible rfl))
          intro v17 h17
          clear h16 v16
          (try simp only [Act.put, List.getElem_toArray, List.getElem_cons_zero, List.getElem_cons_succ, List.setIfInBounds_toArray, List.set_cons_zero, List.set_cons_succ])
          refine give_pure [] 17 (?_) hG rfl (by kernel_rfl) h17 (by kernel_rfl) ?_ ?_
          rotate_left
          · intro wz hSw; (first | (go_simp; done) | (go_simp; with_reducible rfl))
          intro v18 h18
          clear h17 v17
          (try simp only [Act.put, List.getElem_toArray, List.getElem_cons_zero, List.getElem_cons_succ, List.setIfInBounds_toArray, List.set_cons_zero, List.set_cons_succ])
          refine give_pure [] 18 (?_) hG rfl (by kernel_rfl) h18 (by kernel_rfl) ?_ ?_
          rotate_left
          · intro wz hSw; (first | (go_simp; done) | (go_simp; with_reducible rfl))
          intro v19 h19
          clear h18 v18
          (try simp only [Act.put, List.getElem_toArray, List.getElem_cons_zero, List.getElem_cons_succ, List.setIfInBounds_toArray, List.set_cons_zero, List.set_cons_succ])
          refine give_pure [] 19 (?_) hG rfl (by kernel_rfl) h19 (by kernel_rfl) ?_ ?_
          rotate_left
          · intro wz hSw; (first | (go_simp; done) | (go_simp; with_reducible rfl))
          intro v20 h20
          clear h19 v19
          (try simp only [Act.put, List.getElem_toArray, List.getElem_cons_zero, List.getElem_cons_succ, List.setIfInBounds_toArray, List.set_cons_zero, List.set_cons_succ])
          refine give_pure [] 20 (?_) hG rfl (by kernel_rfl) h20 (by kernel_rfl) ?_ ?_
          rotate_left
          · intro wz hSw; (first | (go_simp; done) | (go_simp; with_reducible rfl))
          intro v21 h21
          clear h20 v20
          (try simp only [Act.put, List.getElem_toArray, List.getElem_cons_zero, List.getElem_cons_succ, List.setIfInBounds_toArray, List.set_cons_zero, List.set_cons_succ])
          refine give_pure [] 21 (?_) hG rfl (by kernel_rfl) h21 (by kernel_rfl) ?_ ?_
          rotate_left
          · intro wz hSw; (first | (go_simp; done) | (go_simp; with_reducible rfl))
          intro v22 h22
          clear h21 v21
          (try simp only [Act.put, List.getElem_toArray, List.getElem_cons_zero, List.getElem_cons_succ, List.setIfInBounds_toArray, List.set_cons_zero, List.set_cons_succ])
          refine give_pure [] 22 (.agg #[.int .i64 sh, .int .u64 sl]) hG rfl (by kernel_rfl) h22 (by kernel_rfl) ?_ ?_
          · intro wz hSw; exact exec_load_row 24 (.tmp 20) (by kernel_rfl) (B6) (by kernel_rfl) _ _ _ _ (WideAt.below hSw RS6.out) Try.underlying24 (by kernel_rfl) (by kernel_rfl)
          intro v23 h23
          clear h22 v22
          (try simp only [Act.put, List.getElem_toArray, List.getElem_cons_zero, List.getElem_cons_succ, List.setIfInBounds_toArray, List.set_cons_zero, List.set_cons_succ])
          refine give_pure [] 23 (.agg #[.int .i64 sh, .int .u64 sl]) hG rfl (by kernel_rfl) h23 (by kernel_rfl) ?_ ?_
          · intro wz hSw; exact exec_load_row 24 (.tmp 18) (by kernel_rfl) (B5) (by kernel_rfl) _ _ _ _ (WideAt.below hSw RW6.out) Try.underlying24 (by kernel_rfl) (by kernel_rfl)
          intro v24 h24
          clear h23 v23
          (try simp only [Act.put, List.getElem_toArray, List.getElem_cons_zero, List.getElem_cons_succ, List.setIfInBounds_toArray, List.set_cons_zero, List.set_cons_succ])
          refine give_pure [] 24 (?_) hG rfl (by kernel_rfl) h24 (by kernel_rfl) ?_ ?_
          rotate_left
          · intro wz hSw; (first | (go_simp; done) | (go_simp; with_reducible rfl))
          intro v25 h25
          clear h24 v24
          (try simp only [Act.put, List.getElem_toArray, List.getElem_cons_zero, List.getElem_cons_succ, List.setIfInBounds_toArray, List.set_cons_zero, List.set_cons_succ])
          refine give_pure [] 25 (?_) hG rfl (by kernel_rfl) h25 (by kernel_rfl) ?_ ?_
          rotate_left
          · intro wz hSw; (first | (go_simp; done) | (go_simp; with_reducible rfl))
          intro v26 h26
          clear h25 v25
          (try simp only [Act.put, List.getElem_toArray, List.getElem_cons_zero, List.getElem_cons_succ, List.setIfInBounds_toArray, List.set_cons_zero, List.set_cons_succ])
          refine give_pure [] 26 (?_) hG rfl (by kernel_rfl) h26 (by kernel_rfl) ?_ ?_
          rotate_left
          · intro wz hSw; (first | (go_simp; done) | (go_simp; with_reducible rfl))
          intro v27 h27
          clear h26 v26
          (try simp only [Act.put, List.getElem_toArray, List.getElem_cons_zero, List.getElem_cons_succ, List.setIfInBounds_toArray, List.set_cons_zero, List.set_cons_succ])
          refine give_done (by kernel_rfl) (?_) _
          refine hK14 _ _ ?_
          have HE := Lib.hid (bnext I9.out.below h27)
          clear h27 hK14 hG
          go_wp2_with fail
          go_ret
          exact ⟨rfl, HE.out⟩
      · clear HTH
        go_wp2_with (refine wpList_load_row rfl 27 (.tmp 13) rfl (B2 + 1) rfl _ _ _ _ HI.out.rs Try.underlying27 rfl (bv_info _) ?_)
        refine (cC.out _).mono ?_
        rintro e w5 ⟨h5, l5, rfl, ha5, hb5⟩
        obtain ⟨rfl, rfl⟩ := At.uniq hA2.out ha5
        have I6 := HI.out.up hb5
        have I7 := Lib.hid (I6.up (V := w5.alloc (.cells #[.int .i64 sh, .int .u64 sl] 24)) (by go_grown))
        have hz5 : B2 < w5.heap.size := by have h := I6.rz; unfold WideAt at h; exact (Array.getElem?_eq_some_iff.1 h).1
        have RW : Hid (WideAt w5.heap.size sh sl (w5.alloc (.cells #[.int .i64 sh, .int .u64 sl] 24))) := Lib.hid (heap_alloc_new _ _)
        clear I6 hb5 ha5
        go_wp2_with fail
        refine (cS2.out _ I7.out.below).mono ?_
        rintro e w6 ⟨rfl, hb6⟩
        have I8 := I7.out.up hb6
        have I9 := Lib.hid (I8.up (V := w6.alloc (.cells #[.int .i64 sh, .int .u64 sl] 24)) (by go_grown))
        have RW6 : Hid (WideAt w5.heap.size sh sl (w6.alloc (.cells #[.int .i64 sh, .int .u64 sl] 24))) := Lib.hid (step_row (WideAt.below hb6 RW.out))
        have RS6 : Hid (WideAt w6.heap.size sh sl (w6.alloc (.cells #[.int .i64 sh, .int .u64 sl] 24))) := Lib.hid (heap_alloc_new _ _)
        clear I8 hb6 I7 RW HI cS2 cC hA2
        go_wp2_with fail
        generalize (w6.alloc (.cells #[.int .i64 sh, .int .u64 sl] 24)) = V6 at I9 RW6 RS6 ⊢
        generalize w6.heap.size = B6 at RS6 ⊢
        generalize w5.heap.size = B5 at RW6 ⊢
        rename_i K14 hK14
        refine (wpIn_wide (n := 5)).1 (give_region (S := fun X => Below V6.heap.size V6 X) (Z := []) (by kernel_rfl) (by kernel_rfl) below_mono (fun d _ _ _ _ h => by cases d <;> exact h) (bdrew0 _ _ 1) (fun hG v0 h0 => ?_))
        refine give_pure [] 0 (.agg #[.int .i64 xh, .int .u64 xl]) hG rfl (by kernel_rfl) h0 (by kernel_rfl) ?_ ?_
        · intro wz hSw; exact exec_load_row 24 (.tmp 4) (by kernel_rfl) (w.heap.size) (by kernel_rfl) _ _ _ _ (WideAt.below hSw I9.out.rx) Try.underlying24 (by kernel_rfl) (by kernel_rfl)
        intro v1 h1
        clear h0 v0
        (try simp only [Act.put, List.getElem_toArray, List.getElem_cons_zero, List.getElem_cons_succ, List.setIfInBounds_toArray, List.set_cons_zero, List.set_cons_succ])
        refine give_pure [] 2 (.agg #[.int .i64 xh, .int .u64 xl]) hG rfl (by kernel_rfl) h1 (by kernel_rfl) ?_ ?_
        · intro wz hSw; exact exec_load_row 24 (.tmp 4) (by kernel_rfl) (w.heap.size) (by kernel_rfl) _ _ _ _ (WideAt.below hSw I9.out.rx) Try.underlying24 (by kernel_rfl) (by kernel_rfl)
        intro v2 h2
        clear h1 v1
        (try simp only [Act.put, List.getElem_toArray, List.getElem_cons_zero, List.getElem_cons_succ, List.setIfInBounds_toArray, List.set_cons_zero, List.set_cons_succ])
        refine give_call [] 1 31 #[.agg #[.int .i64 xh, .int .u64 xl]] (.string TX) hG rfl (by kernel_rfl) h2 (by kernel_rfl) ?_ (cT.out) ?_
        · intro wz; (first | (go_simp; done) | (go_simp; with_reducible rfl))
        intro v3 h3
        clear h2 v2
        (try simp only [Act.put, List.getElem_toArray, List.getElem_cons_zero, List.getElem_cons_succ, List.setIfInBounds_toArray, List.set_cons_zero, List.set_cons_succ])
        refine give_call [] 3 9 #[.agg #[.int .i64 xh, .int .u64 xl]] (.agg (bv x)) hG rfl (by kernel_rfl) h3 (by kernel_rfl) ?_ (cF.out) ?_
        · intro wz; (first | (go_simp; done) | (go_simp; with_reducible rfl))
        intro v4 h4
        clear h3 v3
        (try simp only [Act.put, List.getElem_toArray, List.getElem_cons_zero, List.getElem_cons_succ, List.setIfInBounds_toArray, List.set_cons_zero, List.set_cons_succ])
        refine give_call [] 4 32 #[.agg (bv x)] (.string TX) hG rfl (by kernel_rfl) h4 (by kernel_rfl) ?_ (cR.out) ?_
        · intro wz; (first | (go_simp; done) | (go_simp; with_reducible rfl))
        intro v5 h5
        clear h4 v4
        (try simp only [Act.put, List.getElem_toArray, List.getElem_cons_zero, List.getElem_cons_succ, List.setIfInBounds_toArray, List.set_cons_zero, List.set_cons_succ])
        refine give_pure [] 5 (?_) hG rfl (by kernel_rfl) h5 (by kernel_rfl) ?_ ?_
        rotate_left
        · intro wz hSw; (first | (go_simp; done) | (go_simp; with_reducible rfl))
        intro v6 h6
        clear h5 v5
        (try simp only [Act.put, List.getElem_toArray, List.getElem_cons_zero, List.getElem_cons_succ, List.setIfInBounds_toArray, List.set_cons_zero, List.set_cons_succ])
        refine give_pure [] 6 (?_) hG rfl (by kernel_rfl) h6 (by kernel_rfl) ?_ ?_
        rotate_left
        · intro wz hSw; (first | (go_simp; done) | (go_simp; with_reducible rfl))
        intro v7 h7
        clear h6 v6
        (try simp only [Act.put, List.getElem_toArray, List.getElem_cons_zero, List.getElem_cons_succ, List.setIfInBounds_toArray, List.set_cons_zero, List.set_cons_succ])
        refine give_pure [] 7 (.agg #[.int .i64 ph, .int .u64 pl]) hG rfl (by kernel_rfl) h7 (by kernel_rfl) ?_ ?_
        · intro wz hSw; exact exec_load_row 24 (.tmp 9) (by kernel_rfl) (B1) (by kernel_rfl) _ _ _ _ (WideAt.below hSw I9.out.ry) Try.underlying24 (by kernel_rfl) (by kernel_rfl)
        intro v8 h8
        clear h7 v7
        (try simp only [Act.put, List.getElem_toArray, List.getElem_cons_zero, List.getElem_cons_succ, List.setIfInBounds_toArray, List.set_cons_zero, List.set_cons_succ])
        refine give_pure [] 8 (.agg #[.int .i64 ph, .int .u64 pl]) hG rfl (by kernel_rfl) h8 (by kernel_rfl) ?_ ?_
        · intro wz hSw; exact exec_load_row 24 (.tmp 11) (by kernel_rfl) (B2) (by kernel_rfl) _ _ _ _ (WideAt.below hSw I9.out.rz) Try.underlying24 (by kernel_rfl) (by kernel_rfl)
        intro v9 h9
        clear h8 v8
        (try simp only [Act.put, List.getElem_toArray, List.getElem_cons_zero, List.getElem_cons_succ, List.setIfInBounds_toArray, List.set_cons_zero, List.set_cons_succ])
        refine give_pure [] 9 (?_) hG rfl (by kernel_rfl) h9 (by kernel_rfl) ?_ ?_
        rotate_left
        · intro wz hSw; (first | (go_simp; done) | (go_simp; with_reducible rfl))
        intro v10 h10
        clear h9 v9
        (try simp only [Act.put, List.getElem_toArray, List.getElem_cons_zero, List.getElem_cons_succ, List.setIfInBounds_toArray, List.set_cons_zero, List.set_cons_succ])
        refine give_pure [] 10 (?_) hG rfl (by kernel_rfl) h10 (by kernel_rfl) ?_ ?_
        rotate_left
        · intro wz hSw; (first | (go_simp; done) | (go_simp; with_reducible rfl))
        intro v11 h11
        clear h10 v10
        (try simp only [Act.put, List.getElem_toArray, List.getElem_cons_zero, List.getElem_cons_succ, List.setIfInBounds_toArray, List.set_cons_zero, List.set_cons_succ])
        refine give_pure [] 11 (?_) hG rfl (by kernel_rfl) h11 (by kernel_rfl) ?_ ?_
        rotate_left
        · intro wz hSw; (first | (go_simp; done) | (go_simp; with_reducible rfl))
        intro v12 h12
        clear h11 v11
        (try simp only [Act.put, List.getElem_toArray, List.getElem_cons_zero, List.getElem_cons_succ, List.setIfInBounds_toArray, List.set_cons_zero, List.set_cons_succ])
        refine give_pure [] 12 (?_) hG rfl (by kernel_rfl) h12 (by kernel_rfl) ?_ ?_
        rotate_left
        · intro wz hSw; (first | (go_simp; done) | (go_simp; with_reducible rfl))
        intro v13 h13
        clear h12 v12
        (try simp only [Act.put, List.getElem_toArray, List.getElem_cons_zero, List.getElem_cons_succ, List.setIfInBounds_toArray, List.set_cons_zero, List.set_cons_succ])
        refine give_pure [] 13 (?_) hG rfl (by kernel_rfl) h13 (by kernel_rfl) ?_ ?_
        rotate_left
        · intro wz hSw; (first | (go_simp; done) | (go_simp; with_reducible rfl))
        intro v14 h14
        clear h13 v13
        (try simp only [Act.put, List.getElem_toArray, List.getElem_cons_zero, List.getElem_cons_succ, List.setIfInBounds_toArray, List.set_cons_zero, List.set_cons_succ])
        refine give_pure [] 14 (?_) hG rfl (by kernel_rfl) h14 (by kernel_rfl) ?_ ?_
        rotate_left
        · intro wz hSw; (first | (go_simp; done) | (go_simp; with_reducible rfl))
        intro v15 h15
        clear h14 v14
        (try simp only [Act.put, List.getElem_toArray, List.getElem_cons_zero, List.getElem_cons_succ, List.setIfInBounds_toArray, List.set_cons_zero, List.set_cons_succ])
        refine give_pure [] 15 (?_) hG rfl (by kernel_rfl) h15 (by kernel_rfl) ?_ ?_
        rotate_left
        · intro wz hSw; (first | (go_simp; done) | (go_simp; with_reducible rfl))
        intro v16 h16
        clear h15 v15
        (try simp only [Act.put, List.getElem_toArray, List.getElem_cons_zero, List.getElem_cons_succ, List.setIfInBounds_toArray, List.set_cons_zero, List.set_cons_succ])
        refine give_pure [] 16 (?_) hG rfl (by kernel_rfl) h16 (by kernel_rfl) ?_ ?_
        rotate_left
        · intro wz hSw; (first | (go_simp; done) | (go_simp; with_reducible rfl))
        intro v17 h17
        clear h16 v16
        (try simp only [Act.put, List.getElem_toArray, List.getElem_cons_zero, List.getElem_cons_succ, List.setIfInBounds_toArray, List.set_cons_zero, List.set_cons_succ])
        refine give_pure [] 17 (?_) hG rfl (by kernel_rfl) h17 (by kernel_rfl) ?_ ?_
        rotate_left
        · intro wz hSw; (first | (go_simp; done) | (go_simp; with_reducible rfl))
        intro v18 h18
        clear h17 v17
        (try simp only [Act.put, List.getElem_toArray, List.getElem_cons_zero, List.getElem_cons_succ, List.setIfInBounds_toArray, List.set_cons_zero, List.set_cons_succ])
        refine give_pure [] 18 (?_) hG rfl (by kernel_rfl) h18 (by kernel_rfl) ?_ ?_
        rotate_left
        · intro wz hSw; (first | (go_simp; done) | (go_simp; with_reducible rfl))
        intro v19 h19
        clear h18 v18
        (try simp only [Act.put, List.getElem_toArray, List.getElem_cons_zero, List.getElem_cons_succ, List.setIfInBounds_toArray, List.set_cons_zero, List.set_cons_succ])
        refine give_pure [] 19 (?_) hG rfl (by kernel_rfl) h19 (by kernel_rfl) ?_ ?_
        rotate_left
        · intro wz hSw; (first | (go_simp; done) | (go_simp; with_reducible rfl))
        intro v20 h20
        clear h19 v19
        (try simp only [Act.put, List.getElem_toArray, List.getElem_cons_zero, List.getElem_cons_succ, List.setIfInBounds_toArray, List.set_cons_zero, List.set_cons_succ])
        refine give_pure [] 20 (?_) hG rfl (by kernel_rfl) h20 (by kernel_rfl) ?_ ?_
        rotate_left
        · intro wz hSw; (first | (go_simp; done) | (go_simp; with_reducible rfl))
        intro v21 h21
        clear h20 v20
        (try simp only [Act.put, List.getElem_toArray, List.getElem_cons_zero, List.getElem_cons_succ, List.setIfInBounds_toArray, List.set_cons_zero, List.set_cons_succ])
        refine give_pure [] 21 (?_) hG rfl (by kernel_rfl) h21 (by kernel_rfl) ?_ ?_
        rotate_left
        · intro wz hSw; (first | (go_simp; done) | (go_simp; with_reducible rfl))
        intro v22 h22
        clear h21 v21
        (try simp only [Act.put, List.getElem_toArray, List.getElem_cons_zero, List.getElem_cons_succ, List.setIfInBounds_toArray, List.set_cons_zero, List.set_cons_succ])
        refine give_pure [] 22 (.agg #[.int .i64 sh, .int .u64 sl]) hG rfl (by kernel_rfl) h22 (by kernel_rfl) ?_ ?_
        · intro wz hSw; exact exec_load_row 24 (.tmp 20) (by kernel_rfl) (B6) (by kernel_rfl) _ _ _ _ (WideAt.below hSw RS6.out) Try.underlying24 (by kernel_rfl) (by kernel_rfl)
        intro v23 h23
        clear h22 v22
        (try simp only [Act.put, List.getElem_toArray, List.getElem_cons_zero, List.getElem_cons_succ, List.setIfInBounds_toArray, List.set_cons_zero, List.set_cons_succ])
        refine give_pure [] 23 (.agg #[.int .i64 sh, .int .u64 sl]) hG rfl (by kernel_rfl) h23 (by kernel_rfl) ?_ ?_
        · intro wz hSw; exact exec_load_row 24 (.tmp 18) (by kernel_rfl) (B5) (by kernel_rfl) _ _ _ _ (WideAt.below hSw RW6.out) Try.underlying24 (by kernel_rfl) (by kernel_rfl)
        intro v24 h24
        clear h23 v23
        (try simp only [Act.put, List.getElem_toArray, List.getElem_cons_zero, List.getElem_cons_succ, List.setIfInBounds_toArray, List.set_cons_zero, List.set_cons_succ])
        refine give_pure [] 24 (?_) hG rfl (by kernel_rfl) h24 (by kernel_rfl) ?_ ?_
        rotate_left
        · intro wz hSw; (first | (go_simp; done) | (go_simp; with_reducible rfl))
        intro v25 h25
        clear h24 v24
        (try simp only [Act.put, List.getElem_toArray, List.getElem_cons_zero, List.getElem_cons_succ, List.setIfInBounds_toArray, List.set_cons_zero, List.set_cons_succ])
        refine give_pure [] 25 (?_) hG rfl (by kernel_rfl) h25 (by kernel_rfl) ?_ ?_
        rotate_left
        · intro wz hSw; (first | (go_simp; done) | (go_simp; with_reducible rfl))
        intro v26 h26
        clear h25 v25
        (try simp only [Act.put, List.getElem_toArray, List.getElem_cons_zero, List.getElem_cons_succ, List.setIfInBounds_toArray, List.set_cons_zero, List.set_cons_succ])
        refine give_pure [] 26 (?_) hG rfl (by kernel_rfl) h26 (by kernel_rfl) ?_ ?_
        rotate_left
        · intro wz hSw; (first | (go_simp; done) | (go_simp; with_reducible rfl))
        intro v27 h27
        clear h26 v26
        (try simp only [Act.put, List.getElem_toArray, List.getElem_cons_zero, List.getElem_cons_succ, List.setIfInBounds_toArray, List.set_cons_zero, List.set_cons_succ])
        refine give_done (by kernel_rfl) (?_) _
        refine hK14 _ _ ?_
        have HE := Lib.hid (bnext I9.out.below h27)
        clear h27 hK14 hG
        go_wp2_with fail
        go_ret
        exact ⟨rfl, HE.out⟩
theorem wf_at5 {h l : Int} (wh : (Lit.int .i64 h).wf = true) (wl : (Lit.int .u64 l).wf = true) : ∃ n : Nat, l = (n : Int) ∧ At (h * 18446744073709551616 + l) h n := by
  obtain ⟨a, b⟩ := bounds_i64 wh
  obtain ⟨c, d⟩ := bounds_u64 wl
  refine ⟨l.toNat, by omega, ?_⟩
  unfold At
  omega
theorem law_wideTexts (xh : Int) (wxh : (Lit.int .i64 xh).wf = true) (xl0 : Int) (wxl : (Lit.int .u64 xl0).wf = true) (s : ByteArray) (ws : s.size ≤ maxLen) (xs : List Int) (oa : Option Addr) (ca : Nat) (bx : ∀ j, -9223372036854775808 ≤ xs.getD j 0 ∧ xs.getD j 0 ≤ 9223372036854775807) (ys : List Int) (ob : Option Addr) (cb : Nat) (by0 : ∀ j, -9223372036854775808 ≤ ys.getD j 0 ∧ ys.getD j 0 ≤ 9223372036854775807) (w : World) (hx : Sl w oa xs) (hy : Sl w ob ys) :
    Calls Try.prog 5 #[.agg #[.int .i64 xh, .int .u64 xl0], .string s, .slice oa xs.length ca, .slice ob ys.length cb] w fun e w' => e = .returned (.bool true) ∧ Below w.heap.size w w' := by
  obtain ⟨xl, hxl, ax⟩ := wf_at5 wxh wxl
  subst hxl
  by_cases h : 60 < s.size ∨ 40 < xs.length ∨ 40 < ys.length
  · exact texts_over xh xl s xs ys oa ob ca cb w h
  · obtain ⟨X, hX⟩ : ∃ X, xh * 18446744073709551616 + (xl : Int) = X := ⟨_, rfl⟩
    rw [hX] at ax
    have iX := ax.inn
    have nX : X.natAbs ≤ 170141183460469231731687303715884105728 := by unfold In at iX; omega
    obtain ⟨ph, pl, ap⟩ := At.ex (pv_in s)
    have hsm : In (smV (sm xs ys (min xs.length ys.length))) := by
      cases hs : sm xs ys (min xs.length ys.length) with
      | none => show In 0; unfold In; omega
      | some z => exact sm_some hs
    obtain ⟨sh, sl, asx⟩ := At.ex hsm
    have e40 : (10 : Nat) ^ 40 = 10000000000000000000000000000000000000000 := by decide
    refine texts_walk X xh ph sh (pe s) xl pl sl s (bstr (wtx X)) xs ys oa ob ca cb w (by omega) (by omega) (by omega) bx by0 hx hy (Lib.hid fun w => ?_) (Lib.hid fun w => ?_) (Lib.hid fun w => text_any X xh xl w ax) (Lib.hid fun w => from_z X xh xl w ax) (Lib.hid fun w => ztext_z X w (by rw [e40]; omega)) (Lib.hid fun W hb => ?_) (Lib.hid asx)
    · refine (parse_any s w (by omega)).mono ?_
      rintro e w' ⟨h', l', rfl, ha, hb⟩
      obtain ⟨rfl, rfl⟩ := At.uniq ap ha
      exact ⟨rfl, hb⟩
    · refine (zparse_z s w (by omega)).mono ?_
      rintro e w' ⟨h', l', rfl, ha, hb⟩
      obtain ⟨rfl, rfl⟩ := At.uniq ap ha
      exact ⟨rfl, hb⟩
    · refine (sum_any xs ys oa ob ca cb W (by omega) (by omega) bx by0 (hx.below hb) (hy.below hb)).mono ?_
      rintro e w' ⟨h', l', rfl, ha, hb⟩
      obtain ⟨rfl, rfl⟩ := At.uniq asx ha
      exact ⟨rfl, hb⟩
end Go.Proofs.Ytgkcbadfjhicnaa.Fx
