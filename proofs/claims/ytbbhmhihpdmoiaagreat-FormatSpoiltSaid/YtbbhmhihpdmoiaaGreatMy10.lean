import Derived.Laws.Rows
import Derived.Test.YtbbhmhihpdmoiaaGreatProg
import Derived.BigQuiet
import Derived.Deep.QuietTactic
import Derived.Laws.BytesString
import Derived.Laws.BytesArg
import Derived.Outline
import Derived.Deep.LoopGhost
import Derived.Deep.DeepCutAuto
import Derived.Shelf.Abstract
import Derived.Shelf.RegionOpen
import Derived.WalkKit
import Derived.OwnWalkIn
import Derived.TacticsInMore
import Derived.LoopNIn
import Derived.LoopIn
import Derived.Lib.Hide
import Derived.Test.YtbbhmhihpdmoiaaGreatMy00
import Derived.Test.YtbbhmhihpdmoiaaGreatMy01
import Derived.Test.YtbbhmhihpdmoiaaGreatMy08
import Derived.Test.YtbbhmhihpdmoiaaGreatMy09
/- Package wide: numbers without a sign, divided; the plain numbers of a division. -/
set_option linter.unusedVariables false
set_option linter.unusedSimpArgs false
namespace Go.Proofs.YtbbhmhihpdmoiaaGreat.Wm
/-- a quotient rounded down -/
def dv (x c : Int) : Int := if 0 < c then x / c else (-x) / (-c)
def rs (x c : Int) : Int := x - dv x c * c
theorem neg_div {N C : Nat} (hC : 0 < C) : (-(N : Int)) / (C : Int) = if N % C = 0 then -((N / C : Nat) : Int) else -((N / C + 1 : Nat) : Int) := by
  have h := Nat.div_add_mod N C
  have hr := Nat.mod_lt N hC
  generalize N / C = q at *
  generalize N % C = r at *
  have e : (C : Int) * (q : Int) + (r : Int) = (N : Int) := by rw [← h]; simp
  split
  · rename_i h0
    subst h0
    refine ((Int.ediv_emod_unique (r := 0) (by omega)).2 ⟨?_, by omega, by omega⟩).1
    rw [Int.mul_neg]
    omega
  · rename_i h0
    refine ((Int.ediv_emod_unique (r := (C : Int) - (r : Int)) (by omega)).2 ⟨?_, by omega, by omega⟩).1
    rw [Int.mul_neg, Int.natCast_add, Int.mul_add]
    omega
/-- the same signs -/
theorem dv_like {x c : Int} (hc : c ≠ 0) (h : x < 0 ↔ c < 0) : dv x c = ((x.natAbs / c.natAbs : Nat) : Int) ∧ rs x c = if c < 0 then -((x.natAbs % c.natAbs : Nat) : Int) else ((x.natAbs % c.natAbs : Nat) : Int) := by
  have e := Nat.div_add_mod x.natAbs c.natAbs
  have e2 : (c.natAbs : Int) * ((x.natAbs / c.natAbs : Nat) : Int) + ((x.natAbs % c.natAbs : Nat) : Int) = (x.natAbs : Int) := by rw [← Int.natCast_mul, ← Int.natCast_add, e]
  have d : dv x c = ((x.natAbs / c.natAbs : Nat) : Int) := by
    unfold dv
    by_cases c0 : c < 0
    · rw [if_neg (by omega), Int.natCast_ediv, show -x = (x.natAbs : Int) from by omega, show -c = (c.natAbs : Int) from by omega]
    · rw [if_pos (by omega), Int.natCast_ediv, show (x.natAbs : Int) = x from by omega, show (c.natAbs : Int) = c from by omega]
  refine ⟨d, ?_⟩
  unfold rs
  rw [d]
  generalize x.natAbs / c.natAbs = q at *
  generalize x.natAbs % c.natAbs = r at *
  by_cases c0 : c < 0
  · rw [if_pos c0]
    have : (c.natAbs : Int) = -c := by omega
    rw [this, Int.neg_mul] at e2
    rw [Int.mul_comm]
    omega
  · rw [if_neg c0]
    have : (c.natAbs : Int) = c := by omega
    rw [this] at e2
    rw [Int.mul_comm]
    omega
theorem dv_unlike {x c : Int} (hc : c ≠ 0) (h : ¬ (x < 0 ↔ c < 0)) :
    (x.natAbs % c.natAbs = 0 → dv x c = -((x.natAbs / c.natAbs : Nat) : Int) ∧ rs x c = 0) ∧
    (x.natAbs % c.natAbs ≠ 0 → dv x c = -((x.natAbs / c.natAbs + 1 : Nat) : Int) ∧ rs x c = if c < 0 then -((c.natAbs - x.natAbs % c.natAbs : Nat) : Int) else ((c.natAbs - x.natAbs % c.natAbs : Nat) : Int)) := by
  have hp : 0 < c.natAbs := by omega
  have e := Nat.div_add_mod x.natAbs c.natAbs
  have hr := Nat.mod_lt x.natAbs hp
  have e2 : (c.natAbs : Int) * ((x.natAbs / c.natAbs : Nat) : Int) + ((x.natAbs % c.natAbs : Nat) : Int) = (x.natAbs : Int) := by rw [← Int.natCast_mul, ← Int.natCast_add, e]
  have d : dv x c = (-(x.natAbs : Int)) / (c.natAbs : Int) := by
    unfold dv
    by_cases c0 : c < 0
    · rw [if_neg (by omega), show -x = -(x.natAbs : Int) from by omega, show -c = (c.natAbs : Int) from by omega]
    · rw [if_pos (by omega), show -(x.natAbs : Int) = x from by omega, show (c.natAbs : Int) = c from by omega]
  rw [neg_div hp] at d
  generalize x.natAbs / c.natAbs = q at *
  generalize x.natAbs % c.natAbs = r at *
  refine ⟨fun h0 => ?_, fun h0 => ?_⟩
  · rw [if_pos h0] at d
    refine ⟨d, ?_⟩
    unfold rs
    rw [d, Int.neg_mul, Int.mul_comm]
    by_cases c0 : c < 0
    · rw [show (c.natAbs : Int) = -c from by omega, Int.neg_mul] at e2
      omega
    · rw [show (c.natAbs : Int) = c from by omega] at e2
      omega
  · rw [if_neg h0] at d
    refine ⟨d, ?_⟩
    unfold rs
    rw [d, Int.neg_mul, Int.mul_comm, Int.natCast_add, Int.mul_add]
    by_cases c0 : c < 0
    · rw [if_pos c0]
      rw [show (c.natAbs : Int) = -c from by omega, Int.neg_mul] at e2
      omega
    · rw [if_neg c0]
      rw [show (c.natAbs : Int) = c from by omega] at e2
      omega
end Go.Proofs.YtbbhmhihpdmoiaaGreat.Wm
namespace Go.Proofs.YtbbhmhihpdmoiaaGreat.Fx
open Go Go.RowKit Wm
theorem wrap_nat {n : Nat} (h : n < 18446744073709551616) : IntKind.u64.wrap (n : Int) = (n : Int) := by rw [IntKind.wrap_u64]; omega
theorem bdrewN {B : Nat} {a w : World} (n : Nat) (h : Below B a w) : Below B a (w.drewN n) := ⟨h.os, h.tape, h.output, h.size, h.block⟩
/-- answers the quotient q and the rest r -/
def RetQ (q r : Nat) (w : World) (e : Ending) (w' : World) : Prop := ∃ h l : Nat, e = .returned (.tuple #[.agg #[.int .u64 h, .int .u64 l], .int .u64 r]) ∧ Na q h l ∧ Below w.heap.size w w'
theorem by_w (h l c q r a b : Nat) (w : World) (hc : ¬ (c : Int) = 0) (e1 : (h : Int) / (c : Int) = (q : Int)) (e2 : (h : Int) % (c : Int) = (r : Int)) (e3 : IntKind.u64.wrap (q : Int) = (q : Int))
    (hd : ∀ w, Calls Tryz.prog 185 #[.int .u64 r, .int .u64 l, .int .u64 c] w fun e w' => e = .returned (.tuple #[.int .u64 (a : Int), .int .u64 (b : Int)]) ∧ ∃ n, w' = w.drewN n) :
    Calls Tryz.prog 175 #[.agg #[.int .u64 h, .int .u64 l], .int .u64 c] w fun e w' => e = .returned (.tuple #[.agg #[.int .u64 q, .int .u64 a], .int .u64 b]) ∧ Below w.heap.size w w' := by
  have HD := Lib.hid hd
  clear hd
  go_enter Tryz.func175, Tryz.ntmps175
  go_wp2
  go_quiet (fail)
  go_wp2_with fail
  refine (HD.out _).mono ?_
  rintro e w' ⟨rfl, n, rfl⟩
  go_wp2
  refine bodyPost_ret (v := .tuple #[.agg #[.int .u64 q, .int .u64 a], .int .u64 b]) (by simp [results, Tryz.results175, go_sem, *]) rfl ⟨rfl, ?_⟩
  repeat' (first | (with_reducible exact Below.refl _ _) | (with_reducible assumption) | (with_reducible refine Below.drew ?_) | (with_reducible refine bdrewN _ ?_) | (with_reducible refine Below.setCell ?_ ?_ _) | (with_reducible refine bnext ?_ (by assumption)) | (with_reducible refine Below.alloc ?_ ?_ _) | go_size)
theorem by_any (x h l c : Nat) (w : World) (a : Na x h l) (hc : 0 < c) (hc2 : c < 18446744073709551616) :
    Calls Tryz.prog 175 #[.agg #[.int .u64 h, .int .u64 l], .int .u64 c] w (RetQ (x / c) (x % c) w) := by
  have D := na_div a hc hc2
  have hl := a.2.1
  have hr := Nat.mod_lt h hc
  have hq : h / c < 18446744073709551616 := Nat.lt_of_le_of_lt (Nat.div_le_self _ _) a.2.2
  rw [D.2]
  exact (by_w h l c (h / c) (h % c) _ _ w (by omega) (Int.natCast_ediv h c).symm (Int.natCast_emod h c).symm (wrap_nat hq)
    (fun w => div_any (h % c) l c w (fun w => Tryz.bits_LeadingZeros64 (c : Int) w (by omega) (by omega)) hc2 hl hr)).mono fun e w' ⟨he, hb⟩ => ⟨_, _, he, D.1, hb⟩
/-- answers a quotient, a rest and an error -/
def RetD (q : Int) (r s : Int) (w : World) (e : Ending) (w' : World) : Prop := ∃ h : Int, ∃ l : Nat, e = .returned (.tuple #[.agg #[.int .i64 h, .int .u64 l], .int .i64 r, .int .i64 s]) ∧ At q h l ∧ Below w.heap.size w w'
end Go.Proofs.YtbbhmhihpdmoiaaGreat.Fx


/- A number's text: plain; the closure that lays a letter. 
  wide.Text, walked. -/
set_option linter.unusedVariables false
set_option linter.unusedSimpArgs false
namespace Go.Proofs.YtbbhmhihpdmoiaaGreat.Fx
open Go Go.RowKit Wm
def encB (x : Int) : Value := .int .u8 x
/-- the string that bytes make -/
def bstr (l : List Int) : ByteArray := ⟨(l.map fun n => UInt8.ofNat n.toNat).toArray⟩
theorem frozen_row {w : World} {g j : Nat} {cs : Array Value} {t : TypeId} (hg : w.heap[g]? = some (.cells cs t (0, 0))) : w.frozen? ⟨g, j, none⟩ = false := by
  simp [World.frozen?, hg]
end Go.Proofs.YtbbhmhihpdmoiaaGreat.Fx
set_option linter.unusedVariables false
set_option linter.unusedSimpArgs false
namespace Go.Proofs.YtbbhmhihpdmoiaaGreat.Fx
open Go Go.RowKit Wm
theorem keep_row {w w' : World} {b : Nat} {o : Obj} (hb : Below w.heap.size w w') (h : w.heap[b]? = some o) : w'.heap[b]? = some o := by
  rw [hb.block b (Array.getElem?_eq_some_iff.1 h).1]
  exact h
theorem step_row {w : World} {o : Obj} {b : Nat} {x : Obj} (h : w.heap[b]? = some x) : (w.alloc o).heap[b]? = some x := by
  rw [heap_alloc_old _ _ (Array.getElem?_eq_some_iff.1 h).1]
  exact h
end Go.Proofs.YtbbhmhihpdmoiaaGreat.Fx


/- wide.pairs, walked: what it hands on. -/
set_option linter.unusedVariables false
set_option linter.unusedSimpArgs false
namespace Go.Proofs.YtbbhmhihpdmoiaaGreat.Fx
open Go Go.RowKit Go.Shelf
attribute [local go_sem] Oper.semAt_some
/-- a list of numbers behind a slice's address -/
def Sl (W : World) (o : Option Addr) (xs : List Int) : Prop :=
  ∀ j, j < xs.length → ∃ b off, o = some ⟨b, off, none⟩ ∧ W.cell? ⟨b, off + j, none⟩ = some (.int .i64 (xs.getD j 0))
theorem Sl.below {w W : World} (h : Below w.heap.size w W) {o : Option Addr} {xs : List Int} (s : Sl w o xs) : Sl W o xs := fun j hj =>
  let ⟨b, off, e, hc⟩ := s j hj
  ⟨b, off, e, keep_cell h hc⟩
def PairM (xs ys : List Int) (oa ob : Option Addr) (ca cb A B : Nat) (X : World) : Prop :=
  X.cell? ⟨A, 0, none⟩ = some (.slice oa xs.length ca) ∧ X.cell? ⟨B, 0, none⟩ = some (.slice ob ys.length cb) ∧ Sl X oa xs ∧ Sl X ob ys
def pairElem (xs ys : List Int) (k : Nat) : Array Value := #[.int .i64 (xs.getD k 0), .int .i64 (ys.getD k 0)]
set_option maxRecDepth 100000 in
set_option maxHeartbeats 1000000 in
theorem pairs_hands (xs ys : List Int) (oa ob : Option Addr) (ca cb A B : Nat) (lx : xs.length ≤ 1000000) (ly : ys.length ≤ 1000000) :
    Hands Fence.wide 4 Tryz.prog 181 #[.pointer (some ⟨A, 0, none⟩), .pointer (some ⟨B, 0, none⟩)] (pairElem xs ys) (min xs.length ys.length) (PairM xs ys oa ob ca cb A B) := by
  intro l J Jx W hJ1 hJ2 hJB hJxB hY h0
  obtain ⟨ca', cb', _, _⟩ := hJB 0 W h0
  have HY := Lib.hid hY; clear hY
  have HJ1 := Lib.hid hJ1; clear hJ1
  have HJ2 := Lib.hid hJ2; clear hJ2
  have HJB := Lib.hid hJB; clear hJB
  have HJxB := Lib.hid hJxB; clear hJxB
  refine callsIn_of_wp Tryz.func181 rfl trivial ?_ rfl
  simp only [Tryz.ntmps181, List.size_toArray, List.length_cons, List.length_nil, Nat.reduceAdd, Nat.reduceSub, Array.replicate_succ, Array.replicate_zero, List.push_toArray, List.append_toArray, List.nil_append, List.cons_append]
  gi_wp2
  gi_loopw [10] (fun v10 wr => ∃ k : Nat, v10 = .int .i64 (k : Int) ∧ k ≤ min xs.length ys.length ∧ J k wr) (fun v10 _ => min xs.length ys.length - (intOf v10).toNat)
  case atStart => exact ⟨0, rfl, by omega, h0⟩
  case round =>
    obtain ⟨k, rfl, hkN, hJ⟩ := hrel
    by_cases hk : k < min xs.length ys.length
    · obtain ⟨_, _, sx, sy⟩ := HJB.out k wr hJ
      obtain ⟨b, off, rfl, hcx⟩ := sx k (by omega)
      obtain ⟨b2, off2, rfl, hcy⟩ := sy k (by omega)
      clear sx sy hcx hcy
      have k1 : (k : Int) < (xs.length : Int) := by omega
      have k2 : (k : Int) < (ys.length : Int) := by omega
      have hJd := HJ1.out k wr wr.drew hJ (bdrew0 _ wr 1)
      obtain ⟨fn, tmps, assign, body, hy, hR⟩ := HY.out k wr.drew hk hJd
      dsimp only [pairElem] at hy
      have HS : ∀ X, PairM xs ys (some ⟨b, off, none⟩) (some ⟨b2, off2, none⟩) ca cb A B X → X.cell? ⟨A, 0, none⟩ = some (.slice (some ⟨b, off, none⟩) xs.length ca) ∧ X.cell? ⟨B, 0, none⟩ = some (.slice (some ⟨b2, off2, none⟩) ys.length cb) ∧ X.cell? ⟨b, off + k, none⟩ = some (.int .i64 (xs.getD k 0)) ∧ X.cell? ⟨b2, off2 + k, none⟩ = some (.int .i64 (ys.getD k 0)) := fun X ⟨h1, h2, h3, h4⟩ =>
        ⟨h1, h2, by obtain ⟨_, _, e, h⟩ := h3 k (by omega); cases e; exact h, by obtain ⟨_, _, e, h⟩ := h4 k (by omega); cases e; exact h⟩
      obtain ⟨x, hxk⟩ : ∃ x, xs.getD k 0 = x := ⟨_, rfl⟩
      obtain ⟨y, hyk⟩ : ∃ y, ys.getD k 0 = y := ⟨_, rfl⟩
      rw [hxk] at hy HS
      rw [hyk] at hy HS
      have HSH := Lib.hid HS
      have HKX := Lib.hid hxk
      have HKY := Lib.hid hyk
      have n0 : (0 : Int) ≤ (k : Int) := by omega
      clear ca' cb' HS hxk hyk
      gi_wp2
      refine held_region (S := fun X => X.cell? ⟨A, 0, none⟩ = some (.slice (some ⟨b, off, none⟩) xs.length ca) ∧ X.cell? ⟨B, 0, none⟩ = some (.slice (some ⟨b2, off2, none⟩) ys.length cb) ∧ X.cell? ⟨b, off + k, none⟩ = some (.int .i64 x) ∧ X.cell? ⟨b2, off2 + k, none⟩ = some (.int .i64 y)) (by kernel_rfl) (HSH.out _ (HJB.out _ _ hJd)) (fun hHeld => ?_)
      refine held_take (fun _ => trivial) (by kernel_rfl) (i := 0) (oi := _) (v := ?_) rfl (by kernel_rfl) (by kernel_rfl) (by kernel_rfl) (fun _ _ _ h => h) (by assumption) (Or.inl ⟨by kernel_rfl, ?_⟩) ?_
      rotate_left
      · intro wz hSw; obtain ⟨c1, c2, c3, c4⟩ := hSw; (first | (go_simp; done) | (go_simp; with_reducible rfl))
      (try simp only [Act.put, List.setIfInBounds_toArray, List.set_cons_zero, List.set_cons_succ])
      refine held_take (fun _ => trivial) (by kernel_rfl) (i := 1) (oi := _) (v := ?_) rfl (by kernel_rfl) (by kernel_rfl) (by kernel_rfl) (fun _ _ _ h => h) (by assumption) (Or.inl ⟨by kernel_rfl, ?_⟩) ?_
      rotate_left
      · intro wz hSw; obtain ⟨c1, c2, c3, c4⟩ := hSw; (first | (go_simp; done) | (go_simp; with_reducible rfl))
      (try simp only [Act.put, List.setIfInBounds_toArray, List.set_cons_zero, List.set_cons_succ])
      refine held_take (fun _ => trivial) (by kernel_rfl) (i := 2) (oi := _) (v := ?_) rfl (by kernel_rfl) (by kernel_rfl) (by kernel_rfl) (fun _ _ _ h => h) (by assumption) (Or.inl ⟨by kernel_rfl, ?_⟩) ?_
      rotate_left
      · intro wz hSw; obtain ⟨c1, c2, c3, c4⟩ := hSw; (first | (go_simp; done) | (go_simp; with_reducible rfl))
      (try simp only [Act.put, List.setIfInBounds_toArray, List.set_cons_zero, List.set_cons_succ])
      refine held_take (fun _ => trivial) (by kernel_rfl) (i := 3) (oi := _) (v := ?_) rfl (by kernel_rfl) (by kernel_rfl) (by kernel_rfl) (fun _ _ _ h => h) (by assumption) (Or.inl ⟨by kernel_rfl, ?_⟩) ?_
      rotate_left
      · intro wz hSw; obtain ⟨c1, c2, c3, c4⟩ := hSw; (first | (go_simp; done) | (go_simp; with_reducible rfl))
      (try simp only [Act.put, List.setIfInBounds_toArray, List.set_cons_zero, List.set_cons_succ])
      refine held_take (fun _ => trivial) (by kernel_rfl) (i := 4) (oi := _) (v := ?_) rfl (by kernel_rfl) (by kernel_rfl) (by kernel_rfl) (fun _ _ _ h => h) (by assumption) (Or.inl ⟨by kernel_rfl, ?_⟩) ?_
      rotate_left
      · intro wz hSw; obtain ⟨c1, c2, c3, c4⟩ := hSw; (first | (go_simp; done) | (go_simp; with_reducible rfl))
      (try simp only [Act.put, List.setIfInBounds_toArray, List.set_cons_zero, List.set_cons_succ])
      refine held_take (fun _ => trivial) (by kernel_rfl) (i := 5) (oi := _) (v := ?_) rfl (by kernel_rfl) (by kernel_rfl) (by kernel_rfl) (fun _ _ _ h => h) (by assumption) (Or.inl ⟨by kernel_rfl, ?_⟩) ?_
      rotate_left
      · intro wz hSw; obtain ⟨c1, c2, c3, c4⟩ := hSw; (first | (go_simp; done) | (go_simp; with_reducible rfl))
      (try simp only [Act.put, List.setIfInBounds_toArray, List.set_cons_zero, List.set_cons_succ])
      refine held_take (fun _ => trivial) (by kernel_rfl) (i := 6) (oi := _) (v := ?_) rfl (by kernel_rfl) (by kernel_rfl) (by kernel_rfl) (fun _ _ _ h => h) (by assumption) (Or.inl ⟨by kernel_rfl, ?_⟩) ?_
      rotate_left
      · intro wz hSw; obtain ⟨c1, c2, c3, c4⟩ := hSw; (first | (go_simp; done) | (go_simp; with_reducible rfl))
      (try simp only [Act.put, List.setIfInBounds_toArray, List.set_cons_zero, List.set_cons_succ])
      refine held_take (fun _ => trivial) (by kernel_rfl) (i := 7) (oi := _) (v := ?_) rfl (by kernel_rfl) (by kernel_rfl) (by kernel_rfl) (fun _ _ _ h => h) (by assumption) (Or.inl ⟨by kernel_rfl, ?_⟩) ?_
      rotate_left
      · intro wz hSw; obtain ⟨c1, c2, c3, c4⟩ := hSw; (first | (go_simp; done) | (go_simp; with_reducible rfl))
      (try simp only [Act.put, List.setIfInBounds_toArray, List.set_cons_zero, List.set_cons_succ])
      refine held_take (fun _ => trivial) (by kernel_rfl) (i := 8) (oi := _) (v := ?_) rfl (by kernel_rfl) (by kernel_rfl) (by kernel_rfl) (fun _ _ _ h => h) (by assumption) (Or.inl ⟨by kernel_rfl, ?_⟩) ?_
      rotate_left
      · intro wz hSw; obtain ⟨c1, c2, c3, c4⟩ := hSw; (first | (go_simp; done) | (go_simp; with_reducible rfl))
      (try simp only [Act.put, List.setIfInBounds_toArray, List.set_cons_zero, List.set_cons_succ])
      refine held_step (fun _ => trivial) (i := 9) (o := _) (by kernel_rfl) rfl (fun K hK => ?_)
      go_simp
      refine hR.mono ?_
      rintro e W3 (⟨rfl, hJ3⟩ | ⟨rfl, hJx3⟩)
      · refine hK.out _ _ (HSH.out _ (HJB.out _ _ hJ3)) (fun hHeld => ?_)
        clear hK K
        refine held_take (fun _ => trivial) (by kernel_rfl) (i := 10) (oi := _) (v := ?_) rfl (by kernel_rfl) (by kernel_rfl) (by kernel_rfl) (fun _ _ _ h => h) (by assumption) (Or.inl ⟨by kernel_rfl, ?_⟩) ?_
        rotate_left
        · intro wz hSw; obtain ⟨c1, c2, c3, c4⟩ := hSw; (first | (go_simp; done) | (go_simp; with_reducible rfl))
        (try simp only [Act.put, List.setIfInBounds_toArray, List.set_cons_zero, List.set_cons_succ])
        refine held_done (by kernel_rfl) ?_ _
        clear hHeld
        gi_wp2
        go_roundw
        case rel => exact ⟨k + 1, by go_num, by omega, hJ3⟩
        case measure => simp [intOf]; omega
      · refine hK.out _ _ (HSH.out _ (HJxB.out _ hJx3)) (fun hHeld => ?_)
        clear hK K
        refine held_take (fun _ => trivial) (by kernel_rfl) (i := 10) (oi := _) (v := ?_) rfl (by kernel_rfl) (by kernel_rfl) (by kernel_rfl) (fun _ _ _ h => h) (by assumption) (Or.inl ⟨by kernel_rfl, ?_⟩) ?_
        rotate_left
        · intro wz hSw; obtain ⟨c1, c2, c3, c4⟩ := hSw; (first | (go_simp; done) | (go_simp; with_reducible rfl))
        (try simp only [Act.put, List.setIfInBounds_toArray, List.set_cons_zero, List.set_cons_succ])
        refine held_done (by kernel_rfl) ?_ _
        clear hHeld
        gi_wp2
        refine bodyPost_ret (results_none rfl _ _ _) rfl ?_
        exact ⟨⟨_, rfl⟩, .inr hJx3⟩
    · have hkm : k = min xs.length ys.length := by omega
      have hnlt : ¬ (k : Int) < min (xs.length : Int) (ys.length : Int) := by omega
      have HKM := Lib.hid hkm
      clear hkm
      gi_wp2
      go_end0
      exact ⟨⟨_, rfl⟩, .inl (by rw [← HKM.out]; exact hJ)⟩
theorem pairs_w (oa ob : Option Addr) (la lb ca cb : Nat) (w : World) : Calls Tryz.prog 171 #[.slice oa la ca, .slice ob lb cb] w fun e w' =>
    e = .returned (.func (.func 181) #[] #[.pointer (some ⟨w.heap.size, 0, none⟩), .pointer (some ⟨w.heap.size + 1, 0, none⟩)]) ∧ w' = (w.alloc (.cells #[.slice oa la ca] 196)).alloc (.cells #[.slice ob lb cb] 196) := by
  go_enter Tryz.func171, Tryz.ntmps171
  go_wp2
  go_ret
  exact ⟨rfl, rfl⟩
end Go.Proofs.YtbbhmhihpdmoiaaGreat.Fx

