/- matrix.numbers, walked: what it hands on. -/
import Derived.Test.YtgkglkoipocgaaaProg
import Derived.Test.YtgkglkoipocgaaaIt
import Derived.Test.YtgkglkoipocgaaaHd
import Derived.Test.YtgkglkoipocgaaaT1
import Derived.Shelf.Abstract
import Derived.Shelf.RegionOpen
import Derived.WalkKit
import Derived.OwnWalkIn
import Derived.TacticsInMore
import Derived.LoopNIn
import Derived.LoopIn
import Derived.Lib.Hide
import Derived.Outline
import Derived.Deep.QuietTactic
import Derived.BigQuiet
set_option linter.unusedVariables false
set_option linter.unusedSimpArgs false
namespace Go.Proofs.Ytgkglkoipocgaaa.Fx
open Go Go.RowKit Go.Shelf
attribute [local go_sem] Oper.semAt_some
def encI (x : Int) : Value := .int .i64 x
/-- rows of four numbers behind a slice's box -/
def RowsM (m : List Int) (n b cap A : Nat) (X : World) : Prop :=
  X.cell? ⟨A, 0, none⟩ = some (.slice (some ⟨b, 0, none⟩) n cap) ∧ ∀ j, j < 4 * n → X.cell? ⟨b, j, none⟩ = some (.int .i64 (m.getD j 0))
def numElem (m : List Int) (k : Nat) : Array Value := #[.agg #[.int .i64 ((k / 4 : Nat) : Int), .int .i64 ((k % 4 : Nat) : Int)], .int .i64 (m.getD k 0)]
theorem vec_at (x0 x1 x2 x3 : Int) (c : Nat) (h : c < 4) (w : World) : (Instr.index 23 (.agg #[.int .i64 x0, .int .i64 x1, .int .i64 x2, .int .i64 x3]) (.int .i64 (c : Int))).run Try.prog w = .ok (.int .i64 ([x0, x1, x2, x3].getD c 0)) w := by
  have hd : c = 0 ∨ c = 1 ∨ c = 2 ∨ c = 3 := by omega
  rcases hd with rfl | rfl | rfl | rfl <;> (show _ = _; kernel_rfl)
set_option maxRecDepth 100000 in
set_option maxHeartbeats 1000000 in
theorem numbers_hands (m : List Int) (n b cap A : Nat) (hn : n ≤ 4) :
    Hands Fence.wide 4 Try.prog 74 #[.pointer (some ⟨A, 0, none⟩)] (numElem m) (4 * n) (RowsM m n b cap A) := by
  intro l J Jx W hJ1 hJ2 hJB hJxB hY h0
  obtain ⟨cA, _⟩ := hJB 0 W h0
  have HY := Lib.hid hY; clear hY
  have HJ1 := Lib.hid hJ1; clear hJ1
  have HJ2 := Lib.hid hJ2; clear hJ2
  have HJB := Lib.hid hJB; clear hJB
  have HJxB := Lib.hid hJxB; clear hJxB
  refine callsIn_of_wp Try.func74 rfl trivial ?_ rfl
  simp only [Try.ntmps74, List.size_toArray, List.length_cons, List.length_nil, Nat.reduceAdd, Nat.reduceSub, Array.replicate_succ, Array.replicate_zero, List.push_toArray, List.append_toArray, List.nil_append, List.cons_append]
  gi_wp2
  gi_loopw [9] (fun v9 wr => ∃ r : Nat, v9 = .int .i64 (r : Int) ∧ r ≤ n ∧ J (r * 4) wr) (fun v9 _ => n - (intOf v9).toNat)
  case atStart => exact ⟨0, rfl, by omega, h0⟩
  case round =>
    clear cA
    obtain ⟨r, rfl, hrn, hJ⟩ := hrel
    by_cases hr : r < n
    · obtain ⟨_, hc⟩ := HJB.out _ wr hJ
      have q0 := hc (r * 4) (by omega)
      have q1 := hc (r * 4 + 1) (by omega)
      have q2 := hc (r * 4 + 2) (by omega)
      have q3 := hc (r * 4 + 3) (by omega)
      clear hc
      obtain ⟨x0, hx0⟩ : ∃ x, m.getD (r * 4) 0 = x := ⟨_, rfl⟩
      obtain ⟨x1, hx1⟩ : ∃ x, m.getD (r * 4 + 1) 0 = x := ⟨_, rfl⟩
      obtain ⟨x2, hx2⟩ : ∃ x, m.getD (r * 4 + 2) 0 = x := ⟨_, rfl⟩
      obtain ⟨x3, hx3⟩ : ∃ x, m.getD (r * 4 + 3) 0 = x := ⟨_, rfl⟩
      rw [hx0] at q0
      rw [hx1] at q1
      rw [hx2] at q2
      rw [hx3] at q3
      have hrow : ∀ c, c < 4 → m.getD (r * 4 + c) 0 = [x0, x1, x2, x3].getD c 0 := by
        intro c hc
        have hd : c = 0 ∨ c = 1 ∨ c = 2 ∨ c = 3 := by omega
        rcases hd with rfl | rfl | rfl | rfl
        · exact hx0
        · exact hx1
        · exact hx2
        · exact hx3
      have HROW := Lib.hid hrow
      clear hrow hx0 hx1 hx2 hx3
      have r0 : (0 : Int) ≤ (r : Int) := by omega
      have r1 : (r : Int) < (n : Int) := by omega
      have r2 : (r : Int) < 4 := by omega
      gi_wp2
      have hJV := HJ1.out _ _ (wr.alloc (.cells #[.int .i64 x0, .int .i64 x1, .int .i64 x2, .int .i64 x3] 23)) hJ ((Below.refl _ wr).alloc (Nat.le_refl _) _)
      generalize wr.alloc (.cells #[.int .i64 x0, .int .i64 x1, .int .i64 x2, .int .i64 x3] 23) = V at hJV ⊢
      clear q0 q1 q2 q3
      gi_loopw [15] (fun v15 wx => ∃ c : Nat, v15 = .int .i64 (c : Int) ∧ c ≤ 4 ∧ J (r * 4 + c) wx) (fun v15 _ => 4 - (intOf v15).toNat)
      case atStart => exact ⟨0, rfl, by omega, hJV⟩
      case round =>
        rename_i wx _ _ _ _ _ _ _ _ _ _ _ _ _
        obtain ⟨c, rfl, hc4, hJc⟩ := hrel
        by_cases hc : c < 4
        · obtain ⟨fn, tmps, assign, body, hy, hR⟩ := HY.out (r * 4 + c) _ (by omega) hJc
          simp only [numElem, show (r * 4 + c) / 4 = r from by omega, show (r * 4 + c) % 4 = c from by omega, HROW.out c hc] at hy
          have hix := vec_at x0 x1 x2 x3 c hc
          generalize [x0, x1, x2, x3].getD c 0 = x at hy hix
          have c0 : (0 : Int) ≤ (c : Int) := by omega
          have c1 : (c : Int) < 4 := by omega
          gi_wp2
          refine hR.mono ?_
          rintro e W3 (⟨rfl, hJ3⟩ | ⟨rfl, hJx3⟩)
          · gi_wp2
            go_roundw
            case rel => exact ⟨c + 1, by go_num, by omega, hJ3⟩
            case measure => simp [intOf]; omega
          · gi_wp2
            refine bodyPost_ret (results_none rfl _ _ _) rfl ?_
            exact ⟨⟨_, rfl⟩, .inr hJx3⟩
        · have hce : c = 4 := by omega
          subst hce
          have hJ4 : J ((r + 1) * 4) wr := by rw [show (r + 1) * 4 = r * 4 + 4 from by omega]; exact hJc
          have HJ4 := Lib.hid hJ4
          clear hJ4
          gi_wp2
          go_roundw
          case rel => exact ⟨r + 1, by go_num, by omega, HJ4.out⟩
          case measure => simp [intOf]; omega
    · have hrm : r = n := by omega
      have hnlt : ¬ (r : Int) < (n : Int) := by omega
      have HJN : Hid (J (4 * n) wr) := Lib.hid (by rw [show 4 * n = r * 4 from by omega]; exact hJ)
      clear hrm
      gi_wp2
      go_end0
      exact ⟨⟨_, rfl⟩, .inl HJN.out⟩
theorem numbers_w (oa : Option Addr) (la ca : Nat) (w : World) : Calls Try.prog 64 #[.slice oa la ca] w fun e w' =>
    e = .returned (.func (.func 74) #[] #[.pointer (some ⟨w.heap.size, 0, none⟩)]) ∧ w' = w.alloc (.cells #[.slice oa la ca] 24) := by
  go_enter Try.func64, Try.ntmps64
  go_wp2
  go_ret
  exact ⟨rfl, rfl⟩
end Go.Proofs.Ytgkglkoipocgaaa.Fx
