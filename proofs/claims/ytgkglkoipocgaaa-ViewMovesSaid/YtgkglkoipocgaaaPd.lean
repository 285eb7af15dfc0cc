/- matrix.product, walked: row by column, by One, rounded down once. -/
import Derived.Test.YtgkglkoipocgaaaProg
import Derived.Test.YtgkglkoipocgaaaHd
import Derived.Test.YtgkglkoipocgaaaSm
import Derived.Test.YtgkglkoipocgaaaAc
import Derived.Test.YtgkglkoipocgaaaW6
import Derived.Shelf.Abstract
import Derived.Shelf.RegionOpen
import Derived.WalkKit
import Derived.OwnWalkIn
import Derived.TacticsInMore
import Derived.Lib.Hide
import Derived.Outline
import Derived.WalkMore
import Derived.Deep.RegionHeld3
set_option linter.unusedVariables false
set_option linter.unusedSimpArgs false
namespace Go.Proofs.Ytgkglkoipocgaaa.Fx
open Go Go.RowKit Go.Shelf Wm
/-- may numbers be? -/
def May (m : List Int) : Prop := ∀ j, -4611686018427387904 ≤ m.getD j 0 ∧ m.getD j 0 ≤ 4611686018427387904
def dot (r c : List Int) : Int := r.getD 0 0 * c.getD 0 0 + r.getD 1 0 * c.getD 1 0 + r.getD 2 0 * c.getD 2 0 + r.getD 3 0 * c.getD 3 0
theorem prod_le {a b : Int} (a0 : -4611686018427387904 ≤ a) (a1 : a ≤ 4611686018427387904) (b0 : -4611686018427387904 ≤ b) (b1 : b ≤ 4611686018427387904) :
    -21267647932558653966460912964485513216 ≤ a * b ∧ a * b ≤ 21267647932558653966460912964485513216 := by
  have h : a.natAbs * b.natAbs ≤ 4611686018427387904 * 4611686018427387904 := Nat.mul_le_mul (by omega) (by omega)
  have e := Int.natAbs_mul a b
  omega
theorem dot_in {r c : List Int} (hr : May r) (hc : May c) : -85070591730234615865843651857942052864 ≤ dot r c ∧ dot r c ≤ 85070591730234615865843651857942052864 := by
  have h0 := prod_le (hr 0).1 (hr 0).2 (hc 0).1 (hc 0).2
  have h1 := prod_le (hr 1).1 (hr 1).2 (hc 1).1 (hc 1).2
  have h2 := prod_le (hr 2).1 (hr 2).2 (hc 2).1 (hc 2).2
  have h3 := prod_le (hr 3).1 (hr 3).2 (hc 3).1 (hc 3).2
  unfold dot
  omega
theorem sm_succ {xs ys : List Int} {k : Nat} {s : Int} (h : sm xs ys k = some s) (hi : In (s + xs.getD k 0 * ys.getD k 0)) : sm xs ys (k + 1) = some (s + xs.getD k 0 * ys.getD k 0) := by
  simp only [sm, h]
  rw [if_pos hi]
theorem sm_four {r c : List Int} (hr : May r) (hc : May c) : sm r c 4 = some (dot r c) := by
  have h0 := prod_le (hr 0).1 (hr 0).2 (hc 0).1 (hc 0).2
  have h1 := prod_le (hr 1).1 (hr 1).2 (hc 1).1 (hc 1).2
  have h2 := prod_le (hr 2).1 (hr 2).2 (hc 2).1 (hc 2).2
  have h3 := prod_le (hr 3).1 (hr 3).2 (hc 3).1 (hc 3).2
  unfold dot
  have e1 : sm r c 1 = some _ := sm_succ (xs := r) (ys := c) (k := 0) (s := 0) rfl (by unfold In; omega)
  have e2 : sm r c 2 = some _ := sm_succ (k := 1) e1 (by unfold In; omega)
  have e3 : sm r c 3 = some _ := sm_succ (k := 2) e2 (by unfold In; omega)
  have e4 : sm r c 4 = some _ := sm_succ (k := 3) e3 (by unfold In; omega)
  rw [e4, Int.zero_add]
theorem fours_of {w : World} {g n : Nat} {m : List Int} {t : TypeId} (h : w.heap[g]? = some (.cells (mC m) t (0, 0))) (hn : 4 * n ≤ m.length) : Fours m n g w := fun j hj => by rw [cell_of_row _ _ _ _ _ _ h, mC_at _ _ (by omega)]
theorem sl_of {w : World} {g : Nat} {m : List Int} {t : TypeId} (h : w.heap[g]? = some (.cells (mC m) t (0, 0))) : Sl w (some ⟨g, 0, none⟩) m := fun j hj => ⟨g, 0, rfl, by rw [Nat.zero_add, cell_of_row _ _ _ _ _ _ h, mC_at _ _ hj]⟩
def pq (r c : List Int) : Int := dot r c / 65536
set_option maxRecDepth 100000 in
set_option maxHeartbeats 2000000 in
theorem product_w (r c : List Int) (w : World) (lr : r.length = 4) (lc : c.length = 4) (S q : Int)
    (hS : ∀ w oa ob, Sl w oa r → Sl w ob c → Calls Try.prog 65 #[.slice oa 4 4, .slice ob 4 4] w fun e w' => ∃ h : Int, ∃ l : Nat, e = .returned (.tuple #[.agg #[.int .i64 h, .int .u64 l], .int .i64 0]) ∧ At S h l ∧ Below w.heap.size w w')
    (hD : ∀ w h l, At S h l → Calls Try.prog 51 #[.agg #[.int .i64 h, .int .u64 l], .int .i64 65536] w fun e w' => ∃ h : Int, ∃ l : Nat, ∃ r : Int, e = .returned (.tuple #[.agg #[.int .i64 h, .int .u64 l], .int .i64 r, .int .i64 0]) ∧ At q h l ∧ Below w.heap.size w w') (x y : Int)
    (hI : ∀ w h l, At q h l → Calls Try.prog 53 #[.agg #[.int .i64 h, .int .u64 l]] w fun e w' => e = .returned (.tuple #[.int .i64 x, .int .i64 y]) ∧ Below w.heap.size w w') :
    Calls Try.prog 48 #[.agg (mC r), .agg (mC c)] w fun e w' => e = .returned (.tuple #[.int .i64 x, .int .i64 y]) ∧ Below w.heap.size w w' := by
  have HS := Lib.hid hS
  have HD := Lib.hid hD
  have HI := Lib.hid hI
  have LR := Lib.hid lr
  have LC := Lib.hid lc
  clear hS hD hI lr lc
  go_enter Try.func48, Try.ntmps48
  go_wp2_with fail
  obtain ⟨V, hV⟩ : ∃ V, (w.alloc (.cells (mC r) 23)).alloc (.cells (mC c) 23) = V := ⟨_, rfl⟩
  have hB0 : Below w.heap.size w V := by rw [← hV]; go_grown
  have s1 : Sl V (some ⟨w.heap.size, 0, none⟩) r := sl_of (t := 23) (by rw [← hV]; exact step_row (heap_alloc_new _ _))
  have s2 : Sl V (some ⟨w.heap.size + 1, 0, none⟩) c := sl_of (t := 23) (by rw [← hV]; have := heap_alloc_new (w.alloc (.cells (mC r) 23)) (.cells (mC c) 23); rw [World.size_alloc] at this; exact this)
  have S1 := Lib.hid s1
  have S2 := Lib.hid s2
  rw [hV]
  clear hV s1 s2
  refine (wpIn_wide (n := 5)).1 (held_region (F := Fence.wide) (S := fun _ => True) (by kernel_rfl) trivial (fun hHeld => ?_))
  refine held_take (fun _ => trivial) (by kernel_rfl) (i := 0) (oi := _) (v := ?_) rfl (by kernel_rfl) (by kernel_rfl) (by kernel_rfl) (fun _ _ _ h => h) (by assumption) (Or.inl ⟨by kernel_rfl, ?_⟩) ?_
  rotate_left
  · intro wz hSw; (first | (go_simp; done) | (go_simp; with_reducible rfl))
  (try simp only [Act.put, List.getElem_toArray, List.getElem_cons_zero, List.getElem_cons_succ, List.setIfInBounds_toArray, List.set_cons_zero, List.set_cons_succ])
  refine held_take (fun _ => trivial) (by kernel_rfl) (i := 1) (oi := _) (v := ?_) rfl (by kernel_rfl) (by kernel_rfl) (by kernel_rfl) (fun _ _ _ h => h) (by assumption) (Or.inl ⟨by kernel_rfl, ?_⟩) ?_
  rotate_left
  · intro wz hSw; (first | (go_simp; done) | (go_simp; with_reducible rfl))
  (try simp only [Act.put, List.getElem_toArray, List.getElem_cons_zero, List.getElem_cons_succ, List.setIfInBounds_toArray, List.set_cons_zero, List.set_cons_succ])
  refine held_step2 (fun _ => trivial) (i := 2) (j := 6) (o := _) (o2 := _) (by kernel_rfl) rfl rfl (fun K hK => ?_) (fun K hK => ?_)
  · go_simp
    refine ⟨trivial, callsIn_wide.2 ((HS.out _ _ _ (S1.out.below (bdrew0 _ _ 1)) (S2.out.below (bdrew0 _ _ 1))).mono ?_)⟩
    rintro e w1 ⟨h, l, rfl, hat, hb⟩
    dsimp only
    have hb1 : Below V.heap.size V w1 := bdrew 1 hb
    refine hK.out _ _ trivial (fun hHeld => ?_)
    clear hK K
    (try simp only [Act.put, List.getElem_toArray, List.getElem_cons_zero, List.getElem_cons_succ, List.setIfInBounds_toArray, List.set_cons_zero, List.set_cons_succ])
    refine held_take (fun _ => trivial) (by kernel_rfl) (i := 3) (oi := _) (v := ?_) rfl (by kernel_rfl) (by kernel_rfl) (by kernel_rfl) (fun _ _ _ h => h) (by assumption) (Or.inl ⟨by kernel_rfl, ?_⟩) ?_
    rotate_left
    · intro wz hSw; (first | (go_simp; done) | (go_simp; with_reducible rfl))
    (try simp only [Act.put, List.getElem_toArray, List.getElem_cons_zero, List.getElem_cons_succ, List.setIfInBounds_toArray, List.set_cons_zero, List.set_cons_succ])
    refine held_take (fun _ => trivial) (by kernel_rfl) (i := 4) (oi := _) (v := ?_) rfl (by kernel_rfl) (by kernel_rfl) (by kernel_rfl) (fun _ _ _ h => h) (by assumption) (Or.inl ⟨by kernel_rfl, ?_⟩) ?_
    rotate_left
    · intro wz hSw; (first | (go_simp; done) | (go_simp; with_reducible rfl))
    (try simp only [Act.put, List.getElem_toArray, List.getElem_cons_zero, List.getElem_cons_succ, List.setIfInBounds_toArray, List.set_cons_zero, List.set_cons_succ])
    refine held_take (fun _ => trivial) (by kernel_rfl) (i := 5) (oi := _) (v := ?_) rfl (by kernel_rfl) (by kernel_rfl) (by kernel_rfl) (fun _ _ _ h => h) (by assumption) (Or.inl ⟨by kernel_rfl, ?_⟩) ?_
    rotate_left
    · intro wz hSw; (first | (go_simp; done) | (go_simp; with_reducible rfl))
    (try simp only [Act.put, List.getElem_toArray, List.getElem_cons_zero, List.getElem_cons_succ, List.setIfInBounds_toArray, List.set_cons_zero, List.set_cons_succ])
    refine held_step (fun _ => trivial) (i := 6) (o := _) (by kernel_rfl) rfl (fun K hK => ?_)
    go_simp
    refine hK.out _ _ trivial (fun hHeld => ?_)
    clear hK K
    (try simp only [Act.put, List.getElem_toArray, List.getElem_cons_zero, List.getElem_cons_succ, List.setIfInBounds_toArray, List.set_cons_zero, List.set_cons_succ])
    refine held_step (fun _ => trivial) (i := 7) (o := _) (by kernel_rfl) rfl (fun K hK => ?_)
    go_simp
    refine hK.out _ _ trivial (fun hHeld => ?_)
    clear hK K
    (try simp only [Act.put, List.getElem_toArray, List.getElem_cons_zero, List.getElem_cons_succ, List.setIfInBounds_toArray, List.set_cons_zero, List.set_cons_succ])
    refine held_take (fun _ => trivial) (by kernel_rfl) (i := 8) (oi := _) (v := ?_) rfl (by kernel_rfl) (by kernel_rfl) (by kernel_rfl) (fun _ _ _ h => h) (by assumption) (Or.inl ⟨by kernel_rfl, ?_⟩) ?_
    rotate_left
    · intro wz hSw; (first | (go_simp; done) | (go_simp; with_reducible rfl))
    (try simp only [Act.put, List.getElem_toArray, List.getElem_cons_zero, List.getElem_cons_succ, List.setIfInBounds_toArray, List.set_cons_zero, List.set_cons_succ])
    refine held_done (by kernel_rfl) ?_ _
    clear hHeld
    have x0 : (w1.alloc (.cells #[.int .i64 h, .int .u64 l] 85)).cell? ⟨w1.heap.size, 0, none⟩ = some (.int .i64 h) := by simp [go_sem]
    have x1 : (w1.alloc (.cells #[.int .i64 h, .int .u64 l] 85)).cell? ⟨w1.heap.size, 1, none⟩ = some (.int .u64 l) := by simp [go_sem]
    have hXV : Below V.heap.size V (w1.alloc (.cells #[.int .i64 h, .int .u64 l] 85)) := hb1.alloc hb1.size _
    generalize (w1.alloc (.cells #[.int .i64 h, .int .u64 l] 85)) = X at x0 x1 hXV ⊢
    have hBX : Below w.heap.size w X := bnext hB0 hXV
    go_wp2_with fail
    refine (HD.out _ _ _ hat).mono ?_
    rintro e w2 ⟨h2, l2, r2, rfl, hat2, hb2⟩
    have hs2 := (hBX.trans (hb2.mono hBX.size)).size
    go_wp2_with fail
    refine (HI.out _ _ _ hat2).mono ?_
    rintro e w3 ⟨rfl, hb3⟩
    go_wp2_with fail
    go_ret2
    exact ⟨rfl, by (repeat' (first | (with_reducible exact Below.refl _ _) | (with_reducible assumption) | (with_reducible refine Below.drew ?_) | (with_reducible refine Below.setCell ?_ ?_ _) | (with_reducible refine bnext ?_ (by assumption)) | (with_reducible refine Below.alloc ?_ ?_ _) | go_size))⟩
  · go_simp
    refine hK.out _ _ trivial (fun hHeld => ?_)
    clear hK K
    (try simp only [Act.put, List.getElem_toArray, List.getElem_cons_zero, List.getElem_cons_succ, List.setIfInBounds_toArray, List.set_cons_zero, List.set_cons_succ])
    refine held_step (fun _ => trivial) (i := 2) (o := _) (by kernel_rfl) rfl (fun K hK => ?_)
    go_simp
    have hA : Below V.heap.size V (V.drew.alloc (.cells #[.int .i64 0, .int .u64 0] 85)) := by go_grown
    refine ⟨trivial, callsIn_wide.2 ((HS.out _ _ _ (S1.out.below (by go_grown)) (S2.out.below (by go_grown))).mono ?_)⟩
    rintro e w1 ⟨h, l, rfl, hat, hb⟩
    dsimp only
    have z0 : w1.cell? ⟨V.heap.size, 0, none⟩ = some (.int .i64 0) := keep_cell hb (by simp [go_sem])
    have z1 : w1.cell? ⟨V.heap.size, 1, none⟩ = some (.int .u64 0) := keep_cell hb (by simp [go_sem])
    have z2 : w1.frozen? ⟨V.heap.size, 0, none⟩ = false := keep_free hb (by simp) (by simp [go_sem])
    have z3 : w1.frozen? ⟨V.heap.size, 1, none⟩ = false := keep_free hb (by simp) (by simp [go_sem])
    have hb1 : Below V.heap.size V w1 := hA.trans (hb.mono (by simp))
    refine hK.out _ _ trivial (fun hHeld => ?_)
    clear hK K
    (try simp only [Act.put, List.getElem_toArray, List.getElem_cons_zero, List.getElem_cons_succ, List.setIfInBounds_toArray, List.set_cons_zero, List.set_cons_succ])
    refine held_take (fun _ => trivial) (by kernel_rfl) (i := 3) (oi := _) (v := ?_) rfl (by kernel_rfl) (by kernel_rfl) (by kernel_rfl) (fun _ _ _ h => h) (by assumption) (Or.inl ⟨by kernel_rfl, ?_⟩) ?_
    rotate_left
    · intro wz hSw; (first | (go_simp; done) | (go_simp; with_reducible rfl))
    (try simp only [Act.put, List.getElem_toArray, List.getElem_cons_zero, List.getElem_cons_succ, List.setIfInBounds_toArray, List.set_cons_zero, List.set_cons_succ])
    refine held_take (fun _ => trivial) (by kernel_rfl) (i := 4) (oi := _) (v := ?_) rfl (by kernel_rfl) (by kernel_rfl) (by kernel_rfl) (fun _ _ _ h => h) (by assumption) (Or.inl ⟨by kernel_rfl, ?_⟩) ?_
    rotate_left
    · intro wz hSw; (first | (go_simp; done) | (go_simp; with_reducible rfl))
    (try simp only [Act.put, List.getElem_toArray, List.getElem_cons_zero, List.getElem_cons_succ, List.setIfInBounds_toArray, List.set_cons_zero, List.set_cons_succ])
    refine held_take (fun _ => trivial) (by kernel_rfl) (i := 5) (oi := _) (v := ?_) rfl (by kernel_rfl) (by kernel_rfl) (by kernel_rfl) (fun _ _ _ h => h) (by assumption) (Or.inl ⟨by kernel_rfl, ?_⟩) ?_
    rotate_left
    · intro wz hSw; (first | (go_simp; done) | (go_simp; with_reducible rfl))
    (try simp only [Act.put, List.getElem_toArray, List.getElem_cons_zero, List.getElem_cons_succ, List.setIfInBounds_toArray, List.set_cons_zero, List.set_cons_succ])
    refine held_step (fun _ => trivial) (i := 7) (o := _) (by kernel_rfl) rfl (fun K hK => ?_)
    go_simp
    refine hK.out _ _ trivial (fun hHeld => ?_)
    clear hK K
    (try simp only [Act.put, List.getElem_toArray, List.getElem_cons_zero, List.getElem_cons_succ, List.setIfInBounds_toArray, List.set_cons_zero, List.set_cons_succ])
    refine held_take (fun _ => trivial) (by kernel_rfl) (i := 8) (oi := _) (v := ?_) rfl (by kernel_rfl) (by kernel_rfl) (by kernel_rfl) (fun _ _ _ h => h) (by assumption) (Or.inl ⟨by kernel_rfl, ?_⟩) ?_
    rotate_left
    · intro wz hSw; (first | (go_simp; done) | (go_simp; with_reducible rfl))
    (try simp only [Act.put, List.getElem_toArray, List.getElem_cons_zero, List.getElem_cons_succ, List.setIfInBounds_toArray, List.set_cons_zero, List.set_cons_succ])
    refine held_done (by kernel_rfl) ?_ _
    clear hHeld
    have x0 : ((w1.setCell ⟨V.heap.size, 0, none⟩ (.int .i64 h)).setCell ⟨V.heap.size, 1, none⟩ (.int .u64 l)).cell? ⟨V.heap.size, 0, none⟩ = some (.int .i64 h) := by simp [go_sem, *]
    have x1 : ((w1.setCell ⟨V.heap.size, 0, none⟩ (.int .i64 h)).setCell ⟨V.heap.size, 1, none⟩ (.int .u64 l)).cell? ⟨V.heap.size, 1, none⟩ = some (.int .u64 l) := by simp [go_sem, *]
    have hXV : Below V.heap.size V ((w1.setCell ⟨V.heap.size, 0, none⟩ (.int .i64 h)).setCell ⟨V.heap.size, 1, none⟩ (.int .u64 l)) := (hb1.setCell (p := ⟨V.heap.size, 0, none⟩) (Nat.le_refl _) _).setCell (p := ⟨V.heap.size, 1, none⟩) (Nat.le_refl _) _
    generalize ((w1.setCell ⟨V.heap.size, 0, none⟩ (.int .i64 h)).setCell ⟨V.heap.size, 1, none⟩ (.int .u64 l)) = X at x0 x1 hXV ⊢
    clear z0 z1 z2 z3
    have hBX : Below w.heap.size w X := bnext hB0 hXV
    go_wp2_with fail
    refine (HD.out _ _ _ hat).mono ?_
    rintro e w2 ⟨h2, l2, r2, rfl, hat2, hb2⟩
    have hs2 := (hBX.trans (hb2.mono hBX.size)).size
    go_wp2_with fail
    refine (HI.out _ _ _ hat2).mono ?_
    rintro e w3 ⟨rfl, hb3⟩
    go_wp2_with fail
    go_ret2
    exact ⟨rfl, by (repeat' (first | (with_reducible exact Below.refl _ _) | (with_reducible assumption) | (with_reducible refine Below.drew ?_) | (with_reducible refine Below.setCell ?_ ?_ _) | (with_reducible refine bnext ?_ (by assumption)) | (with_reducible refine Below.alloc ?_ ?_ _) | go_size))⟩
theorem product_any (r c : List Int) (w : World) (lr : r.length = 4) (lc : c.length = 4) (hr : May r) (hc : May c) :
    Calls Try.prog 48 #[.agg (mC r), .agg (mC c)] w fun e w' => e = .returned (.tuple #[.int .i64 (if In64 (pq r c) then pq r c else 0), .int .i64 (if In64 (pq r c) then 0 else 20)]) ∧ Below w.heap.size w w' := by
  have hd := dot_in hr hc
  have hdv : dv (dot r c) 65536 = pq r c := by unfold dv pq; rw [if_pos (by omega)]
  have hin : In (pq r c) := by unfold In pq; omega
  refine product_w r c w lr lc (dot r c) (pq r c) ?_ ?_ _ _ ?_
  · intro w oa ob s1 s2
    have h := sum_any r c oa ob 4 4 w (by omega) (by omega) (fun j => ⟨by have := hr j; omega, by have := hr j; omega⟩) (fun j => ⟨by have := hc j; omega, by have := hc j; omega⟩) s1 s2
    rw [lr, lc] at h
    refine h.mono ?_
    rintro e w' ⟨a, b, rfl, hat, hb⟩
    rw [show min 4 4 = 4 from rfl, sm_four hr hc] at hat ⊢
    exact ⟨a, b, rfl, hat, hb⟩
  · intro w h l hat
    refine (wdiv_any (dot r c) h 65536 l w hat (by omega) (by omega) (by omega)).mono ?_
    rintro e w' ⟨a, b, rfl, ha, hb⟩
    rw [hdv, valE, if_pos hin] at ha
    simp only [hdv, errE, if_pos hin]
    exact ⟨a, b, _, rfl, ha, hb⟩
  · intro w h l hat
    exact int_any (pq r c) h l w hat
end Go.Proofs.Ytgkglkoipocgaaa.Fx
