/- The statements' read, walked. -/
import Derived.Test.YtpbidfmijliehaaProg
import Derived.Test.YtpbidfmijliehaaDh
set_option linter.unusedVariables false
set_option linter.unusedSimpArgs false
namespace Go.Proofs.Ytpbidfmijliehaa.Fx
open Go Go.RowKit
theorem x_cells {W : World} {b : Nat} {k u i n m is v : Value} (h : W.heap[b]? = some (.cells #[k, u, i, n, m, is, v] 32 (0, 0))) :
    W.cell? ⟨b, 0, none⟩ = some k ∧ W.cell? ⟨b, 4, none⟩ = some m := ⟨(cell_of_row _ _ 0 _ _ _ h).trans rfl, (cell_of_row _ _ 4 _ _ _ h).trans rfl⟩
def ReadPost (o : Option Addr) (c : Nat) (oz : Option Addr) (cz : Nat) (l : List Nat) (p z : Nat) (w : World) (e : Ending) (w' : World) : Prop :=
  e = .returned (.bool true) ∧ RE o c oz cz l p z w' ∧ Touch p z w w'
theorem OwnI.at {W : World} {B n cap : Nat} {o : Option Addr} {zs : List Int} (s : OwnI W B (.slice o n cap) zs) : ∀ j, j < zs.length → ∃ g, o = some ⟨g, 0, none⟩ ∧ W.cell? ⟨g, j, none⟩ = some (.int .i64 (zs.getD j 0)) := by
  intro j hj
  obtain ⟨h1, h2⟩ := s
  rcases h2 with ⟨e, h0⟩ | ⟨g, cap, cur, e, hb, hg, hc, hm, hs, ht⟩
  · omega
  · cases e
    refine ⟨g, rfl, ?_⟩
    rw [cell_of_row _ _ _ _ _ _ hg]
    have h3 : (cur.toList.take (zs.length * 1))[j]? = some (encI (zs.getD j 0)) := by rw [ht]; simp [hj, List.getD]
    rw [List.getElem?_take, if_pos (by omega)] at h3
    simpa [encI] using h3
set_option maxRecDepth 100000 in
set_option maxHeartbeats 8000000 in
theorem read_0 (o : Option Addr) (c : Nat) (oz : Option Addr) (cz : Nat) (l : List Nat) (p z : Nat) (A : AP o oz l.length p z) (hby : By l) (hlen : l.length ≤ 1000000000) (hqz : l.length ≤ cz ∧ (oz = none → cz = 0)) (hsz : 0 < cz → ∀ a, oz = some a → a.spot = none)
    (kind u i n most : Int) (is : Bool) (bo : Option Addr) (bn bc : Nat) (hmost : most ≤ 9223372036854775807) (hk : kind = 0) (w : World) (h : RE o c oz cz l p z w) :
    Calls Try.prog 22 #[.pointer (some ⟨p, 0, none⟩), .pointer (some ⟨z, 0, none⟩), .agg #[.int .i64 kind, .int .u64 u, .int .i64 i, .int .i64 n, .int .i64 most, .bool is, .slice bo bn bc]] w (ReadPost o c oz cz l p z w) := by
  obtain ⟨a0, a1, lost, rb⟩ := h
  obtain ⟨W1, hW1⟩ : ∃ W1, w.alloc (.cells #[.int .i64 kind, .int .u64 u, .int .i64 i, .int .i64 n, .int .i64 most, .bool is, .slice bo bn bc] 32) = W1 := ⟨_, rfl⟩
  have hb1 : Below w.heap.size w W1 := by rw [← hW1]; exact (Below.refl _ _).alloc (Nat.le_refl _) _
  have hrow : W1.heap[w.heap.size]? = some (.cells #[.int .i64 kind, .int .u64 u, .int .i64 i, .int .i64 n, .int .i64 most, .bool is, .slice bo bn bc] 32 (0, 0)) := by rw [← hW1]; exact heap_alloc_new _ _
  have HPZ : Hid (w.heap.size ≠ p ∧ w.heap.size ≠ z) := Lib.hid ⟨by have := rb.pr.lt; omega, by have := rb.zr.lt; omega⟩
  have HW1 := Lib.hid hW1
  have HROW := Lib.hid hrow
  have HB1 := Lib.hid hb1
  have HRB := Lib.hid (rb.below hb1)
  have HK0 : Hid (RdOk l a0) := Lib.hid ⟨hby, hlen, rb.h0⟩
  have HK1 : Hid (RdOk l a1) := Lib.hid ⟨hby, hlen, rb.h1⟩
  have HA := Lib.hid A
  clear rb hb1 hrow hW1 A hby
  have tk : kind = 0 := hk
  subst tk
  have d0 := (x_cells HROW.out).1
  have hc := RB.num (f := 29) (g := 50) (xs := #[.pointer (some ⟨p, 0, none⟩)]) (ys := #[.pointer (some ⟨z, 0, none⟩)]) HRB.out HA.out (in_rq HRB.out.h0) (pruint_any o c l p a0 lost W1 HK0.out HRB.out.pr) (fun X hz => by
    have h := zruint_any oz cz l z a1 lost X HK1.out hz
    rw [rq_same HRB.out.eq] at h
    exact h)
  generalize ((upV (rq lost 18446744073709551615 (l.drop a0)) : Nat) : Int) = ans at hc
  have HC := Lib.hid hc
  clear hc HRB HK0 HK1 hk
  go_enter Try.func22, Try.ntmps22
  go_wp2_with fail
  (try rw [HW1.out])
  refine HC.out.mono ?_
  rintro e X ⟨rfl, tx, hc2⟩
  have HC2 := Lib.hid hc2
  clear tx hc2 HC
  go_wp2_with fail
  refine HC2.out.mono ?_
  rintro e Y ⟨rfl, re, ty⟩
  have HE : Hid (ReadPost o c oz cz l p z w (.returned (.bool true)) Y) := Lib.hid ⟨rfl, re, (Touch.of_below HB1.out).trans ty⟩
  clear re ty HC2
  go_wp2_with fail
  go_ret
  exact HE.out
set_option maxRecDepth 100000 in
set_option maxHeartbeats 8000000 in
theorem read_1 (o : Option Addr) (c : Nat) (oz : Option Addr) (cz : Nat) (l : List Nat) (p z : Nat) (A : AP o oz l.length p z) (hby : By l) (hlen : l.length ≤ 1000000000) (hqz : l.length ≤ cz ∧ (oz = none → cz = 0)) (hsz : 0 < cz → ∀ a, oz = some a → a.spot = none)
    (kind u i n most : Int) (is : Bool) (bo : Option Addr) (bn bc : Nat) (hmost : most ≤ 9223372036854775807) (hk : kind = 1) (w : World) (h : RE o c oz cz l p z w) :
    Calls Try.prog 22 #[.pointer (some ⟨p, 0, none⟩), .pointer (some ⟨z, 0, none⟩), .agg #[.int .i64 kind, .int .u64 u, .int .i64 i, .int .i64 n, .int .i64 most, .bool is, .slice bo bn bc]] w (ReadPost o c oz cz l p z w) := by
  obtain ⟨a0, a1, lost, rb⟩ := h
  obtain ⟨W1, hW1⟩ : ∃ W1, w.alloc (.cells #[.int .i64 kind, .int .u64 u, .int .i64 i, .int .i64 n, .int .i64 most, .bool is, .slice bo bn bc] 32) = W1 := ⟨_, rfl⟩
  have hb1 : Below w.heap.size w W1 := by rw [← hW1]; exact (Below.refl _ _).alloc (Nat.le_refl _) _
  have hrow : W1.heap[w.heap.size]? = some (.cells #[.int .i64 kind, .int .u64 u, .int .i64 i, .int .i64 n, .int .i64 most, .bool is, .slice bo bn bc] 32 (0, 0)) := by rw [← hW1]; exact heap_alloc_new _ _
  have HPZ : Hid (w.heap.size ≠ p ∧ w.heap.size ≠ z) := Lib.hid ⟨by have := rb.pr.lt; omega, by have := rb.zr.lt; omega⟩
  have HW1 := Lib.hid hW1
  have HROW := Lib.hid hrow
  have HB1 := Lib.hid hb1
  have HRB := Lib.hid (rb.below hb1)
  have HK0 : Hid (RdOk l a0) := Lib.hid ⟨hby, hlen, rb.h0⟩
  have HK1 : Hid (RdOk l a1) := Lib.hid ⟨hby, hlen, rb.h1⟩
  have HA := Lib.hid A
  clear rb hb1 hrow hW1 A hby
  have tk : kind = 1 := hk
  subst tk
  have e0 : (((1 : Int)) == 0) = false := rfl
  have d0 := (x_cells HROW.out).1
  have hc := RB.num (f := 39) (g := 51) (xs := #[.pointer (some ⟨p, 0, none⟩)]) (ys := #[.pointer (some ⟨z, 0, none⟩)]) HRB.out HA.out (in_rq HRB.out.h0) (print_any o c l p a0 lost W1 HK0.out HRB.out.pr) (fun X hz => by
    have h := zrint_any oz cz l z a1 lost X HK1.out hz
    rw [rq_same HRB.out.eq] at h
    exact h)
  generalize unf (upV (rq lost 18446744073709551615 (l.drop a0))) = ans at hc
  have HC := Lib.hid hc
  clear hc HRB HK0 HK1 hk
  go_enter Try.func22, Try.ntmps22
  go_wp2_with fail
  (try rw [HW1.out])
  refine HC.out.mono ?_
  rintro e X ⟨rfl, tx, hc2⟩
  have HC2 := Lib.hid hc2
  clear tx hc2 HC
  go_wp2_with fail
  refine HC2.out.mono ?_
  rintro e Y ⟨rfl, re, ty⟩
  have HE : Hid (ReadPost o c oz cz l p z w (.returned (.bool true)) Y) := Lib.hid ⟨rfl, re, (Touch.of_below HB1.out).trans ty⟩
  clear re ty HC2
  go_wp2_with fail
  go_ret
  exact HE.out
set_option maxRecDepth 100000 in
set_option maxHeartbeats 8000000 in
theorem read_3 (o : Option Addr) (c : Nat) (oz : Option Addr) (cz : Nat) (l : List Nat) (p z : Nat) (A : AP o oz l.length p z) (hby : By l) (hlen : l.length ≤ 1000000000) (hqz : l.length ≤ cz ∧ (oz = none → cz = 0)) (hsz : 0 < cz → ∀ a, oz = some a → a.spot = none)
    (kind u i n most : Int) (is : Bool) (bo : Option Addr) (bn bc : Nat) (hmost : most ≤ 9223372036854775807) (hk : kind = 3) (w : World) (h : RE o c oz cz l p z w) :
    Calls Try.prog 22 #[.pointer (some ⟨p, 0, none⟩), .pointer (some ⟨z, 0, none⟩), .agg #[.int .i64 kind, .int .u64 u, .int .i64 i, .int .i64 n, .int .i64 most, .bool is, .slice bo bn bc]] w (ReadPost o c oz cz l p z w) := by
  obtain ⟨a0, a1, lost, rb⟩ := h
  obtain ⟨W1, hW1⟩ : ∃ W1, w.alloc (.cells #[.int .i64 kind, .int .u64 u, .int .i64 i, .int .i64 n, .int .i64 most, .bool is, .slice bo bn bc] 32) = W1 := ⟨_, rfl⟩
  have hb1 : Below w.heap.size w W1 := by rw [← hW1]; exact (Below.refl _ _).alloc (Nat.le_refl _) _
  have hrow : W1.heap[w.heap.size]? = some (.cells #[.int .i64 kind, .int .u64 u, .int .i64 i, .int .i64 n, .int .i64 most, .bool is, .slice bo bn bc] 32 (0, 0)) := by rw [← hW1]; exact heap_alloc_new _ _
  have HPZ : Hid (w.heap.size ≠ p ∧ w.heap.size ≠ z) := Lib.hid ⟨by have := rb.pr.lt; omega, by have := rb.zr.lt; omega⟩
  have HW1 := Lib.hid hW1
  have HROW := Lib.hid hrow
  have HB1 := Lib.hid hb1
  have HRB := Lib.hid (rb.below hb1)
  have HK0 : Hid (RdOk l a0) := Lib.hid ⟨hby, hlen, rb.h0⟩
  have HK1 : Hid (RdOk l a1) := Lib.hid ⟨hby, hlen, rb.h1⟩
  have HA := Lib.hid A
  clear rb hb1 hrow hW1 A hby
  have tk : kind = 3 := hk
  subst tk
  have e0 : (((3 : Int)) == 0) = false := rfl
  have e1 : (((3 : Int)) == 1) = false := rfl
  have e2 : (((3 : Int)) == 2) = false := rfl
  have d0 := (x_cells HROW.out).1
  have hc := RB.num (f := 31) (g := 53) (xs := #[.pointer (some ⟨p, 0, none⟩)]) (ys := #[.pointer (some ⟨z, 0, none⟩)]) HRB.out HA.out (in_rq HRB.out.h0) (prbit_any o c l p a0 lost W1 HK0.out HRB.out.pr) (fun X hz => by
    have h := zrbit_any oz cz l z a1 lost X HK1.out hz
    rw [rq_same HRB.out.eq] at h
    exact h)
  generalize (upV (rq lost 1 (l.drop a0)) == 1) = ans at hc
  have HC := Lib.hid hc
  clear hc HRB HK0 HK1 hk
  go_enter Try.func22, Try.ntmps22
  go_wp2_with fail
  (try rw [HW1.out])
  refine HC.out.mono ?_
  rintro e X ⟨rfl, tx, hc2⟩
  have HC2 := Lib.hid hc2
  clear tx hc2 HC
  go_wp2_with fail
  refine HC2.out.mono ?_
  rintro e Y ⟨rfl, re, ty⟩
  have HE : Hid (ReadPost o c oz cz l p z w (.returned (.bool true)) Y) := Lib.hid ⟨rfl, re, (Touch.of_below HB1.out).trans ty⟩
  clear re ty HC2
  go_wp2_with fail
  go_ret
  exact HE.out
set_option maxRecDepth 100000 in
set_option maxHeartbeats 8000000 in
theorem read_2 (o : Option Addr) (c : Nat) (oz : Option Addr) (cz : Nat) (l : List Nat) (p z : Nat) (A : AP o oz l.length p z) (hby : By l) (hlen : l.length ≤ 1000000000) (hqz : l.length ≤ cz ∧ (oz = none → cz = 0)) (hsz : 0 < cz → ∀ a, oz = some a → a.spot = none)
    (kind u i n most : Int) (is : Bool) (bo : Option Addr) (bn bc : Nat) (hmost : most ≤ 9223372036854775807) (hk : kind = 2) (w : World) (h : RE o c oz cz l p z w) :
    Calls Try.prog 22 #[.pointer (some ⟨p, 0, none⟩), .pointer (some ⟨z, 0, none⟩), .agg #[.int .i64 kind, .int .u64 u, .int .i64 i, .int .i64 n, .int .i64 most, .bool is, .slice bo bn bc]] w (ReadPost o c oz cz l p z w) := by
  obtain ⟨a0, a1, lost, rb⟩ := h
  obtain ⟨W1, hW1⟩ : ∃ W1, w.alloc (.cells #[.int .i64 kind, .int .u64 u, .int .i64 i, .int .i64 n, .int .i64 most, .bool is, .slice bo bn bc] 32) = W1 := ⟨_, rfl⟩
  have hb1 : Below w.heap.size w W1 := by rw [← hW1]; exact (Below.refl _ _).alloc (Nat.le_refl _) _
  have hrow : W1.heap[w.heap.size]? = some (.cells #[.int .i64 kind, .int .u64 u, .int .i64 i, .int .i64 n, .int .i64 most, .bool is, .slice bo bn bc] 32 (0, 0)) := by rw [← hW1]; exact heap_alloc_new _ _
  have HPZ : Hid (w.heap.size ≠ p ∧ w.heap.size ≠ z) := Lib.hid ⟨by have := rb.pr.lt; omega, by have := rb.zr.lt; omega⟩
  have HW1 := Lib.hid hW1
  have HROW := Lib.hid hrow
  have HB1 := Lib.hid hb1
  have HRB := Lib.hid (rb.below hb1)
  have HK0 : Hid (RdOk l a0) := Lib.hid ⟨hby, hlen, rb.h0⟩
  have HK1 : Hid (RdOk l a1) := Lib.hid ⟨hby, hlen, rb.h1⟩
  have HA := Lib.hid A
  clear rb hb1 hrow hW1 A hby
  have tk : kind = 2 := hk
  subst tk
  have e0 : (((2 : Int)) == 0) = false := rfl
  have e1 : (((2 : Int)) == 1) = false := rfl
  have d0 := (x_cells HROW.out).1
  have d4 := (x_cells HROW.out).2
  have HRD := Lib.hid (HRB.out.below (bdrew0 _ W1 1))
  have HROWD : Hid (W1.drew.heap[w.heap.size]? = some (.cells #[.int .i64 2, .int .u64 u, .int .i64 i, .int .i64 n, .int .i64 most, .bool is, .slice bo bn bc] 32 (0, 0))) := Lib.hid HROW.out
  have hc := RB.num (W := W1.drew) (f := 34) (g := 52) (xs := #[.pointer (some ⟨p, 0, none⟩), .int .i64 most]) (ys := #[.pointer (some ⟨z, 0, none⟩), .int .i64 most]) HRD.out HA.out (in_rz HRB.out.h0) (prsmall_any o c l p a0 most lost W1.drew HK0.out hmost HRD.out.pr) (fun X hz => by
    have h := zrsmall_any oz cz l z a1 most lost X HK1.out hmost hz
    rw [rz_same HRB.out.eq] at h
    exact h)
  generalize ((upV (rz lost most (l.drop a0)) : Nat) : Int) = ans at hc
  have HC := Lib.hid hc
  clear hc HRB HK0 HK1 hk
  go_enter Try.func22, Try.ntmps22
  go_wp2_with fail
  (try rw [HW1.out])
  rename_i K3 hK3
  refine wp_region_noPanic ?_
  refine (wpIn_wide (n := 5)).1 ?_
  refine heldz_region (S := fun X => X.cell? ⟨w.heap.size, 4, none⟩ = some (.int .i64 most)) (Z := []) (by kernel_rfl) ?_
  refine heldz_take (fun _ => trivial) [] 0 (?_) (by kernel_rfl) rfl (by kernel_rfl) (fun _ _ _ h => h) d4 (by kernel_rfl) ?_ ?_
  rotate_left
  · intro wz hSw; (first | (go_simp; done) | (go_simp; with_reducible rfl))
  (try simp only [Act.put, List.getElem_toArray, List.getElem_cons_zero, List.getElem_cons_succ, List.setIfInBounds_toArray, List.set_cons_zero, List.set_cons_succ])
  refine heldz_take (fun _ => trivial) [] 1 (?_) (by kernel_rfl) rfl (by kernel_rfl) (fun _ _ _ h => h) d4 (by kernel_rfl) ?_ ?_
  rotate_left
  · intro wz hSw; (first | (go_simp; done) | (go_simp; with_reducible rfl))
  (try simp only [Act.put, List.getElem_toArray, List.getElem_cons_zero, List.getElem_cons_succ, List.setIfInBounds_toArray, List.set_cons_zero, List.set_cons_succ])
  refine heldz_take (fun _ => trivial) [] 2 (.int .i64 most) (by kernel_rfl) rfl (by kernel_rfl) (fun _ _ _ h => h) d4 (by kernel_rfl) ?_ ?_
  · intro wz hSw; (first | (go_simp; done) | (go_simp; with_reducible rfl))
  (try simp only [Act.put, List.getElem_toArray, List.getElem_cons_zero, List.getElem_cons_succ, List.setIfInBounds_toArray, List.set_cons_zero, List.set_cons_succ])
  refine heldz_take (fun _ => trivial) [] 4 (?_) (by kernel_rfl) rfl (by kernel_rfl) (fun _ _ _ h => h) d4 (by kernel_rfl) ?_ ?_
  rotate_left
  · intro wz hSw; (first | (go_simp; done) | (go_simp; with_reducible rfl))
  (try simp only [Act.put, List.getElem_toArray, List.getElem_cons_zero, List.getElem_cons_succ, List.setIfInBounds_toArray, List.set_cons_zero, List.set_cons_succ])
  refine heldz_take (fun _ => trivial) [] 5 (?_) (by kernel_rfl) rfl (by kernel_rfl) (fun _ _ _ h => h) d4 (by kernel_rfl) ?_ ?_
  rotate_left
  · intro wz hSw; (first | (go_simp; done) | (go_simp; with_reducible rfl))
  (try simp only [Act.put, List.getElem_toArray, List.getElem_cons_zero, List.getElem_cons_succ, List.setIfInBounds_toArray, List.set_cons_zero, List.set_cons_succ])
  refine heldz_take (fun _ => trivial) [] 6 (.int .i64 most) (by kernel_rfl) rfl (by kernel_rfl) (fun _ _ _ h => h) d4 (by kernel_rfl) ?_ ?_
  · intro wz hSw; (first | (go_simp; done) | (go_simp; with_reducible rfl))
  (try simp only [Act.put, List.getElem_toArray, List.getElem_cons_zero, List.getElem_cons_succ, List.setIfInBounds_toArray, List.set_cons_zero, List.set_cons_succ])
  refine heldz_step (fun _ => trivial) 3 (by kernel_rfl) rfl (fun K hK => ?_)
  go_simp
  refine ⟨trivial, callsIn_wide.2 (HC.out.mono ?_)⟩
  rintro e X ⟨rfl, tx, hc2⟩
  dsimp only
  have dX := (x_cells (tx.row HROWD.out HPZ.out.1 HPZ.out.2)).2
  have HC2 := Lib.hid hc2
  clear tx hc2
  refine hK.out _ _ (fun _ => dX) ?_
  clear hK K
  (try simp only [Act.put, List.getElem_toArray, List.getElem_cons_zero, List.getElem_cons_succ, List.setIfInBounds_toArray, List.set_cons_zero, List.set_cons_succ])
  refine heldz_step (fun _ => trivial) 7 (by kernel_rfl) rfl (fun K hK => ?_)
  go_simp
  refine ⟨trivial, callsIn_wide.2 (HC2.out.mono ?_)⟩
  rintro e Y ⟨rfl, re, ty⟩
  dsimp only
  have dY := (x_cells (ty.row HROWD.out HPZ.out.1 HPZ.out.2)).2
  refine hK.out _ _ (fun _ => dY) ?_
  clear hK K
  (try simp only [Act.put, List.getElem_toArray, List.getElem_cons_zero, List.getElem_cons_succ, List.setIfInBounds_toArray, List.set_cons_zero, List.set_cons_succ])
  refine heldz_take (fun _ => trivial) [] 8 (.bool true) (by kernel_rfl) rfl (by kernel_rfl) (fun _ _ _ h => h) dY (by kernel_rfl) ?_ ?_
  · intro wz hSw; (first | (go_simp; done) | (go_simp; with_reducible rfl))
  (try simp only [Act.put, List.getElem_toArray, List.getElem_cons_zero, List.getElem_cons_succ, List.setIfInBounds_toArray, List.set_cons_zero, List.set_cons_succ])
  refine heldz_take (fun _ => trivial) [] 9 (?_) (by kernel_rfl) rfl (by kernel_rfl) (fun _ _ _ h => h) dY (by kernel_rfl) ?_ ?_
  rotate_left
  · intro wz hSw; (first | (go_simp; done) | (go_simp; with_reducible rfl))
  (try simp only [Act.put, List.getElem_toArray, List.getElem_cons_zero, List.getElem_cons_succ, List.setIfInBounds_toArray, List.set_cons_zero, List.set_cons_succ])
  refine heldz_done (by kernel_rfl) ?_ _
  refine NoPanic.normal ?_
  refine hK3 _ _ ?_
  have HE : Hid (ReadPost o c oz cz l p z w (.returned (.bool true)) Y) := Lib.hid ⟨rfl, re, (Touch.of_below (bdrewN 1 HB1.out)).trans ty⟩
  clear re ty HC2 HC dX dY hK3
  go_wp2_with fail
  go_ret
  exact HE.out
set_option maxRecDepth 100000 in
set_option maxHeartbeats 8000000 in
theorem read_5 (o : Option Addr) (c : Nat) (oz : Option Addr) (cz : Nat) (l : List Nat) (p z : Nat) (A : AP o oz l.length p z) (hby : By l) (hlen : l.length ≤ 1000000000) (hqz : l.length ≤ cz ∧ (oz = none → cz = 0)) (hsz : 0 < cz → ∀ a, oz = some a → a.spot = none)
    (kind u i n most : Int) (is : Bool) (bo : Option Addr) (bn bc : Nat) (hmost : most ≤ 9223372036854775807) (hk : kind = 5) (w : World) (h : RE o c oz cz l p z w) :
    Calls Try.prog 22 #[.pointer (some ⟨p, 0, none⟩), .pointer (some ⟨z, 0, none⟩), .agg #[.int .i64 kind, .int .u64 u, .int .i64 i, .int .i64 n, .int .i64 most, .bool is, .slice bo bn bc]] w (ReadPost o c oz cz l p z w) := by
  obtain ⟨a0, a1, lost, rb⟩ := h
  obtain ⟨W1, hW1⟩ : ∃ W1, w.alloc (.cells #[.int .i64 kind, .int .u64 u, .int .i64 i, .int .i64 n, .int .i64 most, .bool is, .slice bo bn bc] 32) = W1 := ⟨_, rfl⟩
  have hb1 : Below w.heap.size w W1 := by rw [← hW1]; exact (Below.refl _ _).alloc (Nat.le_refl _) _
  have hrow : W1.heap[w.heap.size]? = some (.cells #[.int .i64 kind, .int .u64 u, .int .i64 i, .int .i64 n, .int .i64 most, .bool is, .slice bo bn bc] 32 (0, 0)) := by rw [← hW1]; exact heap_alloc_new _ _
  have HPZ : Hid (w.heap.size ≠ p ∧ w.heap.size ≠ z) := Lib.hid ⟨by have := rb.pr.lt; omega, by have := rb.zr.lt; omega⟩
  have HW1 := Lib.hid hW1
  have HROW := Lib.hid hrow
  have HB1 := Lib.hid hb1
  have HRB := Lib.hid (rb.below hb1)
  have HK0 : Hid (RdOk l a0) := Lib.hid ⟨hby, hlen, rb.h0⟩
  have HK1 : Hid (RdOk l a1) := Lib.hid ⟨hby, hlen, rb.h1⟩
  have HA := Lib.hid A
  clear rb hb1 hrow hW1 A hby
  have tk : kind = 5 := hk
  subst tk
  have e0 : (((5 : Int)) == 0) = false := rfl
  have e1 : (((5 : Int)) == 1) = false := rfl
  have e2 : (((5 : Int)) == 2) = false := rfl
  have e3 : (((5 : Int)) == 3) = false := rfl
  have e4 : (((5 : Int)) == 4) = false := rfl
  have d0 := (x_cells HROW.out).1
  have HL := Lib.hid (pleft_any o c l p a0 lost W1 HK0.out HRB.out.pr)
  have hlv := left_eq (lost := lost) HRB.out.h0
  have hsm := left_same (l := l) HRB.out.eq
  rw [hlv] at HL
  have HZL := Lib.hid (fun X hb => zleft_any oz cz l z a1 lost X HK1.out (HRB.out.zr.below hb))
  rw [hsm] at HZL
  generalize leftV lost l.length a0 = ans at *
  clear hk
  go_enter Try.func22, Try.ntmps22
  go_wp2_with fail
  (try rw [HW1.out])
  refine HL.out.mono ?_
  rintro e X ⟨rfl, hbx⟩
  have HBX := Lib.hid hbx
  clear hbx HL
  go_wp2_with fail
  refine (HZL.out _ HBX.out).mono ?_
  rintro e Y ⟨rfl, hby2⟩
  have HBY := Lib.hid (bnext HBX.out hby2)
  have HE : Hid (ReadPost o c oz cz l p z w (.returned (.bool true)) Y) := Lib.hid ⟨rfl, ⟨_, _, _, HRB.out.below HBY.out⟩, Touch.of_below (bnext HB1.out HBY.out)⟩
  clear hby2 HZL HBX HBY HRB
  go_wp2_with fail
  go_ret
  exact HE.out
set_option maxRecDepth 100000 in
set_option maxHeartbeats 8000000 in
theorem read_6 (o : Option Addr) (c : Nat) (oz : Option Addr) (cz : Nat) (l : List Nat) (p z : Nat) (A : AP o oz l.length p z) (hby : By l) (hlen : l.length ≤ 1000000000) (hqz : l.length ≤ cz ∧ (oz = none → cz = 0)) (hsz : 0 < cz → ∀ a, oz = some a → a.spot = none)
    (kind u i n most : Int) (is : Bool) (bo : Option Addr) (bn bc : Nat) (hmost : most ≤ 9223372036854775807) (hk : kind = 6) (w : World) (h : RE o c oz cz l p z w) :
    Calls Try.prog 22 #[.pointer (some ⟨p, 0, none⟩), .pointer (some ⟨z, 0, none⟩), .agg #[.int .i64 kind, .int .u64 u, .int .i64 i, .int .i64 n, .int .i64 most, .bool is, .slice bo bn bc]] w (ReadPost o c oz cz l p z w) := by
  obtain ⟨a0, a1, lost, rb⟩ := h
  obtain ⟨W1, hW1⟩ : ∃ W1, w.alloc (.cells #[.int .i64 kind, .int .u64 u, .int .i64 i, .int .i64 n, .int .i64 most, .bool is, .slice bo bn bc] 32) = W1 := ⟨_, rfl⟩
  have hb1 : Below w.heap.size w W1 := by rw [← hW1]; exact (Below.refl _ _).alloc (Nat.le_refl _) _
  have hrow : W1.heap[w.heap.size]? = some (.cells #[.int .i64 kind, .int .u64 u, .int .i64 i, .int .i64 n, .int .i64 most, .bool is, .slice bo bn bc] 32 (0, 0)) := by rw [← hW1]; exact heap_alloc_new _ _
  have HPZ : Hid (w.heap.size ≠ p ∧ w.heap.size ≠ z) := Lib.hid ⟨by have := rb.pr.lt; omega, by have := rb.zr.lt; omega⟩
  have HW1 := Lib.hid hW1
  have HROW := Lib.hid hrow
  have HB1 := Lib.hid hb1
  have HRB := Lib.hid (rb.below hb1)
  have HK0 : Hid (RdOk l a0) := Lib.hid ⟨hby, hlen, rb.h0⟩
  have HK1 : Hid (RdOk l a1) := Lib.hid ⟨hby, hlen, rb.h1⟩
  have HA := Lib.hid A
  clear rb hb1 hrow hW1 A hby
  have tk : kind = 6 := hk
  subst tk
  have e0 : (((6 : Int)) == 0) = false := rfl
  have e1 : (((6 : Int)) == 1) = false := rfl
  have e2 : (((6 : Int)) == 2) = false := rfl
  have e3 : (((6 : Int)) == 3) = false := rfl
  have e4 : (((6 : Int)) == 4) = false := rfl
  have e5 : (((6 : Int)) == 5) = false := rfl
  have d0 := (x_cells HROW.out).1
  have HS := Lib.hid (pspoil_any o c l p a0 lost W1 HRB.out.pr)
  clear hk
  go_enter Try.func22, Try.ntmps22
  go_wp2_with fail
  (try rw [HW1.out])
  refine HS.out.mono ?_
  rintro e X ⟨rfl, hp, hg⟩
  have hz := HRB.out.left HA.out hg
  obtain ⟨_, _, z2, _, f2⟩ := hz.facts
  have hg2 := grown_cell X z 2 (.bool true)
  have HE : Hid (ReadPost o c oz cz l p z w (.returned (.bool true)) (X.setCell ⟨z, 2, none⟩ (.bool true))) := Lib.hid ⟨rfl, ⟨a0, a1, true, hp.right HA.out hg2, hz.put2 true, (fun h => by cases h), HRB.out.h0, HRB.out.h1⟩, ((Touch.of_below HB1.out).trans (Touch.one hg)).trans (Touch.two hg2)⟩
  clear hp hg hz hg2 HS HRB
  go_wp2_with fail
  go_ret
  exact HE.out
set_option maxRecDepth 100000 in
set_option maxHeartbeats 8000000 in
theorem read_8 (o : Option Addr) (c : Nat) (oz : Option Addr) (cz : Nat) (l : List Nat) (p z : Nat) (A : AP o oz l.length p z) (hby : By l) (hlen : l.length ≤ 1000000000) (hqz : l.length ≤ cz ∧ (oz = none → cz = 0)) (hsz : 0 < cz → ∀ a, oz = some a → a.spot = none)
    (kind u i n most : Int) (is : Bool) (bo : Option Addr) (bn bc : Nat) (hmost : most ≤ 9223372036854775807) (hk : ¬ kind = 0 ∧ ¬ kind = 1 ∧ ¬ kind = 2 ∧ ¬ kind = 3 ∧ ¬ kind = 4 ∧ ¬ kind = 5 ∧ ¬ kind = 6 ∧ ¬ kind = 7) (w : World) (h : RE o c oz cz l p z w) :
    Calls Try.prog 22 #[.pointer (some ⟨p, 0, none⟩), .pointer (some ⟨z, 0, none⟩), .agg #[.int .i64 kind, .int .u64 u, .int .i64 i, .int .i64 n, .int .i64 most, .bool is, .slice bo bn bc]] w (ReadPost o c oz cz l p z w) := by
  obtain ⟨a0, a1, lost, rb⟩ := h
  obtain ⟨W1, hW1⟩ : ∃ W1, w.alloc (.cells #[.int .i64 kind, .int .u64 u, .int .i64 i, .int .i64 n, .int .i64 most, .bool is, .slice bo bn bc] 32) = W1 := ⟨_, rfl⟩
  have hb1 : Below w.heap.size w W1 := by rw [← hW1]; exact (Below.refl _ _).alloc (Nat.le_refl _) _
  have hrow : W1.heap[w.heap.size]? = some (.cells #[.int .i64 kind, .int .u64 u, .int .i64 i, .int .i64 n, .int .i64 most, .bool is, .slice bo bn bc] 32 (0, 0)) := by rw [← hW1]; exact heap_alloc_new _ _
  have HPZ : Hid (w.heap.size ≠ p ∧ w.heap.size ≠ z) := Lib.hid ⟨by have := rb.pr.lt; omega, by have := rb.zr.lt; omega⟩
  have HW1 := Lib.hid hW1
  have HROW := Lib.hid hrow
  have HB1 := Lib.hid hb1
  have HRB := Lib.hid (rb.below hb1)
  have HK0 : Hid (RdOk l a0) := Lib.hid ⟨hby, hlen, rb.h0⟩
  have HK1 : Hid (RdOk l a1) := Lib.hid ⟨hby, hlen, rb.h1⟩
  have HA := Lib.hid A
  clear rb hb1 hrow hW1 A hby
  have d0 := (x_cells HROW.out).1
  have e0 : (kind == 0) = false := by simpa using hk.1
  have e1 : (kind == 1) = false := by simpa using hk.2.1
  have e2 : (kind == 2) = false := by simpa using hk.2.2.1
  have e3 : (kind == 3) = false := by simpa using hk.2.2.2.1
  have e4 : (kind == 4) = false := by simpa using hk.2.2.2.2.1
  have e5 : (kind == 5) = false := by simpa using hk.2.2.2.2.2.1
  have e6 : (kind == 6) = false := by simpa using hk.2.2.2.2.2.2.1
  have e7 : (kind == 7) = false := by simpa using hk.2.2.2.2.2.2.2
  have HE : Hid (ReadPost o c oz cz l p z w (.returned (.bool true)) W1) := Lib.hid ⟨rfl, ⟨_, _, _, HRB.out⟩, Touch.of_below HB1.out⟩
  clear hk HRB
  go_enter Try.func22, Try.ntmps22
  go_wp2_with fail
  (try rw [HW1.out])
  go_wp2_with fail
  go_ret
  exact HE.out
end Go.Proofs.Ytpbidfmijliehaa.Fx
