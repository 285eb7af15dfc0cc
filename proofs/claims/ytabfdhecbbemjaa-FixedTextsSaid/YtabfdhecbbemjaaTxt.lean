/- fixed.Text, walked up to its range. -/
import Derived.Test.YtabfdhecbbemjaaProg
import Derived.Test.YtabfdhecbbemjaaFx1
import Derived.Test.YtabfdhecbbemjaaRange
import Derived.Test.YtabfdhecbbemjaaDig
import Derived.Test.YtabfdhecbbemjaaRev
import Derived.RangeFuncBox
import Derived.Maps.AppendAt
import Derived.Shelf.Abstract
import Derived.Shelf.RegionOpen
import Derived.WalkKit
import Derived.OwnWalkIn
import Derived.TacticsInMore
import Derived.LoopNIn
import Derived.LoopIn
import Derived.Lib.Hide
import Derived.Outline
import Derived.WalkMore



set_option linter.unusedVariables false
set_option linter.unusedSimpArgs false
namespace Go.Proofs.Ytabfdhecbbemjaa.Fx
open Go.RowKit Go.Shelf
attribute [local go_sem] Oper.semAt_some

/-- what lies there backwards behind k rounds -/
def bw (s : Nat) : Nat → List Nat
  | 0 => []
  | k + 1 => bw s k ++ [num (dgt s k)] ++ (if k = 3 then [46] else [])
theorem bw_len (s : Nat) : ∀ k, (bw s k).length = if k ≤ 3 then k else k + 1
  | 0 => rfl
  | k + 1 => by
    simp only [bw, List.length_append, bw_len s k, List.length_singleton]
    by_cases h3 : k = 3
    · subst h3; rfl
    · rw [if_neg h3]
      by_cases h : k ≤ 3
      · rw [if_pos h, if_pos (by omega)]; rfl
      · rw [if_neg h, if_neg (by omega)]; rfl
def cellsOf (l : List Nat) : List Value := l.map encB
theorem cells_snoc (l : List Nat) (x : Nat) : cellsOf (l ++ [x]) = cellsOf l ++ [.int .u8 (x : Int)] := by simp [cellsOf, encB]
theorem info5 : (Try.prog.info? 5).map (fun i => (i.zero, i.size, i.bytes)) = some (some (.int .u8 0), 1, 1) := by kernel_rfl
theorem dig_any (s : Nat) (w : World) : Calls Try.prog 38 #[.int .u64 (s : Int)] w fun e w' => e = .returned (.func (.func 49) #[] #[.pointer (some ⟨w.heap.size, 0, none⟩)]) ∧ w' = w.alloc (.cells #[.int .u64 (s : Int)] 56) := by
  go_enter Try.func38, Try.ntmps38
  go_wp2
  go_ret
  exact ⟨rfl, rfl⟩
/-- what the box and the row hold behind k rounds: first, a new block's cell -/
theorem newcell (w1 : World) (p : Addr) (u x : Value) (t : TypeId) : ∀ j v, [x][j]? = some v → ((w1.setCell p u).alloc (.cells #[x] t)).cell? ((⟨w1.heap.size, 0, none⟩ : Addr).add j) = some v := by
  have h := cell_one_new (w1.setCell p u) x t
  rw [World.size_setCell] at h
  exact h
def TRow (w : World) (s k : Nat) (W : World) : Prop := (∃ v, Boxed W w.heap.size 52 v ∧ W.ownsRow w.heap.size 5 1 v (bw s k).length (cellsOf (bw s k)) ∧ True) ∧ Below w.heap.size w W
theorem trow_own (w : World) (s B : Nat) (hB : w.heap.size ≤ B) : OwnFrom B (fun k W => TRow w s k W) :=
  OwnFrom.and (Own.from (holdsRow_own w.heap.size w.heap.size 52 5 1 (fun k => (bw s k).length) (fun k => cellsOf (bw s k)) (fun _ _ => True)) _) (ownFrom_below (Nat.le_refl _) hB)
def TI (w : World) (s k : Nat) (W : World) : Prop := (k ≤ 4 ∨ lft s k ≠ 0) ∧ TRow w s k W
def TX (w : World) (s : Nat) (W : World) : Prop := ∃ m, (5 ≤ m ∧ lft s m = 0 ∧ (m = 5 ∨ lft s (m - 1) ≠ 0)) ∧ TRow w s m W
theorem ti_own (w : World) (s B : Nat) (hB : w.heap.size ≤ B) : OwnFrom B (fun k W => TI w s k W) :=
  fun k X Y row h hg hr => ⟨h.1, trow_own w s B hB k X Y row h.2 hg hr⟩
theorem tx_own (w : World) (s B : Nat) (hB : w.heap.size ≤ B) : OwnFrom B (fun (_ : Unit) W => TX w s W) :=
  fun _ X Y row ⟨m, hm, h⟩ hg hr => ⟨m, hm, trow_own w s B hB m X Y row h hg hr⟩
theorem lft_low (s : Nat) : ∀ j, lft s (4 + j) = s / 65536 / 10 ^ j
  | 0 => by simp [lft, baseAt, Nat.div_div_eq_div_mul]
  | j + 1 => by
    show lft s (4 + j) / baseAt (4 + j) = _
    rw [lft_low s j, show baseAt (4 + j) = 10 from if_neg (by omega), Nat.div_div_eq_div_mul, Nat.pow_succ]
theorem lft_lt {s k : Nat} (hs : s ≤ 4611686018427387904) (h : lft s k ≠ 0) : k < 18 := by
  refine Nat.lt_of_not_le fun hk => h ?_
  obtain ⟨j, rfl⟩ : ∃ j, k = 4 + (14 + j) := ⟨k - 18, by omega⟩
  rw [lft_low, Nat.pow_add, ← Nat.div_div_eq_div_mul]
  have : s / 65536 / 10 ^ 14 = 0 := by omega
  rw [this]; simp
theorem ti_lt {w : World} {s k : Nat} {W : World} (hs : s ≤ 4611686018427387904) (h : TI w s k W) : k < 18 := by
  rcases h.1 with h | h
  · omega
  · exact lft_lt hs h

/-- what fixed.Text of a number comes to: m is how many digits there are -/
def TextPost (a : Int) (s : Nat) (w : World) (e : Ending) (w' : World) : Prop :=
  (∃ m, (5 ≤ m ∧ lft s m = 0 ∧ (m = 5 ∨ lft s (m - 1) ≠ 0)) ∧ e = .returned (.tuple #[.string (bstr (bw s m ++ (if a < 0 then [45] else [])).reverse), .int .i64 0])) ∧ Below w.heap.size w w'
theorem row_at {W : World} {n₀ : Nat} {e : TypeId} {v : Value} {n : Nat} {xs : List Value} (h : W.ownsRow n₀ e 1 v n xs) (hn : 0 < n) : ∃ g cap, v = .slice (some ⟨g, 0, none⟩) n cap ∧ n₀ ≤ g := by
  rcases h.2 with ⟨_, h0⟩ | ⟨g, cap, cur, hv, hg, _⟩
  · omega
  · exact ⟨g, cap, hv, hg⟩
set_option maxRecDepth 100000 in
set_option maxHeartbeats 2000000 in
theorem text_in (a : Int) (w : World) (a0 : -4611686018427387904 ≤ a) (a1 : a ≤ 4611686018427387904) :
    Calls Try.prog 23 #[.int .i64 a] w (TextPost a a.natAbs w) := by
  obtain ⟨i0, hi, hz0, hz1, hz2⟩ := info_parts info5
  have hS := size_any a
  obtain ⟨s, hs⟩ : ∃ s, a.natAbs = s := ⟨_, rfl⟩
  rw [hs] at hS ⊢
  have hs2 : s ≤ 4611686018427387904 := by omega
  clear hs
  refine (callsIn_wide (n := 5)).1 ?_
  refine callsIn_of_wp_marks Try.func23 rfl trivial ?_ rfl
  simp only [Try.ntmps23, List.size_toArray, List.length_cons, List.length_nil, Nat.reduceAdd, Nat.reduceSub, Array.replicate_succ, Array.replicate_zero, List.push_toArray, List.append_toArray, List.nil_append, List.cons_append]
  refine wpIn_wide.2 ?_
  go_wp2_with fail
  go_step3
  go_wp2_with fail
  refine (within_yes a 4611686018427387904 _ (by omega) (by omega) (by omega)).mono ?_
  rintro e w' ⟨rfl, rfl⟩
  go_wp2_with fail
  go_step3
  go_wp2_with fail
  refine (hS _ (by omega) (by omega)).mono ?_
  rintro e w' ⟨rfl, rfl⟩
  go_wp2_with fail
  refine (dig_any s _).mono ?_
  rintro e w' ⟨rfl, rfl⟩
  go_wp2_with fail
  have bO := Boxed.new w 52 (.slice none 0 0)
  have bS := Boxed.new (w.alloc (.cells #[.slice none 0 0] 52)) 56 (.int .u64 (s : Int))
  rw [World.size_alloc] at bS
  have hB0 : Below w.heap.size w ((w.alloc (.cells #[.slice none 0 0] 52)).alloc (.cells #[.int .u64 (s : Int)] 56)) := ((Below.refl _ w).alloc (Nat.le_refl _) _).alloc (by simp) _
  have hT0 : TI w s 0 ((w.alloc (.cells #[.slice none 0 0] 52)).alloc (.cells #[.int .u64 (s : Int)] 56)) := ⟨.inl (by omega), ⟨_, bO.alloc _, World.ownsRow_nil _ _ _ _, trivial⟩, hB0⟩
  have hsz : ((w.alloc (.cells #[.slice none 0 0] 52)).alloc (.cells #[.int .u64 (s : Int)] 56)).heap.size = w.heap.size + 2 := by simp
  refine wpIn_wide.1 (wpIn_range_upto (F := Fence.wide) (n := 5) rfl (by omega) (gf := 49) (lb := #[.pointer (some ⟨w.heap.size + 1, 0, none⟩)]) rfl trivial (enters_of Try.func49 (by kernel_rfl) rfl)
    (digits_counts Fence.wide 4 trivial rfl (by omega) s (w.heap.size + 1) _ hs2 (by simp) bS.cell) (fun _ => rfl) 18 0 (by omega) (TI w s) (TX w s) (ti_own w s _ (by omega)) (tx_own w s _ (by omega)) hT0 (fun k W h => ti_lt hs2 h)
    (fun k => { tmps := #[.int .i64 a, undef, .string ⟨#[]⟩, .int .i64 0, .pointer (some ⟨w.heap.size, 0, none⟩), .int .u8 ((num (dgt s k) : Nat) : Int), .int .u64 ((lft s (k + 1) : Nat) : Int), .int .i64 a, .bool true, .bool false, .int .i64 a, .int .u64 (s : Int), .func (.func 49) #[] #[.pointer (some ⟨w.heap.size + 1, 0, none⟩)], .int .u8 ((num (dgt s k) : Nat) : Int), .int .u64 ((lft s (k + 1) : Nat) : Int), undef, undef, undef, undef, undef, undef, undef, undef, undef, undef, undef, undef, undef, undef, undef, undef, undef, undef, undef, undef, undef, undef, undef, undef, undef, undef, undef, undef], defers := [] }) ?assign ?body ?stop)
  case assign =>
    intro l k W C hC
    simp only [digitElem]
    gi_wp2
    exact hC
  case body =>
    rintro l k W ⟨hk, ⟨v, hv, hrow, _⟩, hB⟩
    have hk18 : k < 18 := ti_lt hs2 ⟨hk, ⟨v, hv, hrow, trivial⟩, hB⟩
    have hlen := bw_len s k
    have hbw : bw s (k + 1) = bw s k ++ [num (dgt s k)] ++ (if k = 3 then [46] else []) := rfl
    have hc := hv.cell
    obtain ⟨dg, hdg⟩ : ∃ dg, num (dgt s k) = dg := ⟨_, rfl⟩
    obtain ⟨L, hL⟩ : ∃ L, lft s (k + 1) = L := ⟨_, rfl⟩
    obtain ⟨N, hN⟩ : ∃ N, (bw s k).length = N := ⟨_, rfl⟩
    obtain ⟨xs, hxs⟩ : ∃ xs, cellsOf (bw s k) = xs := ⟨_, rfl⟩
    rw [hN] at hlen hrow
    rw [hxs] at hrow
    rw [hdg] at hbw
    simp only [hdg, hL]
    have HL := Lib.hid hL; clear hL
    have HN := Lib.hid hN; clear hN
    have HX := Lib.hid hxs; clear hxs
    have HB := Lib.hid hbw; clear hbw
    clear hdg
    have HK := Lib.hid hk; clear hk
    have hB1 := hB
    have tok1 : True := trivial
    by_cases hk3 : k < 3
    · have hN' : N = k := by rw [hlen, if_pos (by omega)]
      subst hN'
      clear hlen
      have t1 : ((N : Int) + 1 == 4) = false := by simp; omega
      have t2 : ¬ (4 : Int) < (N : Int) + 1 := by omega
      have t2' : (N : Int) + 1 ≤ 4 := by omega
      gi_wp2_with (have _t := tok1; gi_at_builtin; refine wpListIn_append_own _ rfl _ _ 52 rfl w.heap.size 5 i0 (.int .u8 0) 1 1 Try.underlying52 hi hz0 hz1 hz2 rfl (by decide) _ _ _ rfl (hrow.alloc _) ⟨W.heap.size, 0, none⟩ 1 1 [.int .u8 (dg : Int)] rfl rfl (cell_one_new _ _ _) (by simp [Value.oneCell']) (by unfold maxLen; omega) (by omega) (by have := hB1.size; simp at this ⊢; omega) ?_; intro v1 w1 hown1 hgrow1 _; obtain ⟨g1, cap1, rfl⟩ := ownsRow_succ hown1; obtain ⟨hv1, hv1', hr1, hk1, hb1⟩ := hv.appended (by decide) hrow (by have := hB1.size; simp at this ⊢; omega) (Nat.le_refl _) hown1 hgrow1; have hc1 := hv1.cell; have hf1 := hv1.frozen; have hd1 := hv1'.cell; have hB1' := hB1.trans hb1; clear tok1)
      refine ⟨hk1.from _, .inl (by omega), ⟨_, hv1', ?_, trivial⟩, hB1'⟩
      have e := HB.out
      rw [if_neg (by omega), List.append_nil] at e
      rw [e, cells_snoc, HX.out, List.length_append, HN.out]
      exact hr1
    · by_cases hk4 : k = 3
      · subst hk4
        have hN' : N = 3 := by rw [hlen, if_pos (by omega)]
        have n0 : 3 ≤ N := by omega
        have n1 : N ≤ 3 := by omega
        have t1 : ((N : Int) + 1 == 4) = true := by simp; omega
        have HN3 := Lib.hid hN'; clear hN'
        clear hlen
        have tok2 : True := trivial
        gi_wp2_with (first | (have _t := tok1; gi_at_builtin; refine wpListIn_append_own _ rfl _ _ 52 rfl w.heap.size 5 i0 (.int .u8 0) 1 1 Try.underlying52 hi hz0 hz1 hz2 rfl (by decide) _ _ _ rfl (hrow.alloc _) ⟨W.heap.size, 0, none⟩ 1 1 [.int .u8 (dg : Int)] rfl rfl (cell_one_new _ _ _) (by simp [Value.oneCell']) (by unfold maxLen; omega) (by omega) (by have := hB1.size; simp at this ⊢; omega) ?_; intro v1 w1 hown1 hgrow1 _; obtain ⟨g1, cap1, rfl⟩ := ownsRow_succ hown1; obtain ⟨hv1, hv1', hr1, hk1, hb1⟩ := hv.appended (by decide) hrow (by have := hB1.size; simp at this ⊢; omega) (Nat.le_refl _) hown1 hgrow1; have hc1 := hv1.cell; have hf1 := hv1.frozen; have hd1 := hv1'.cell; have hB1' := hB1.trans hb1; clear tok1) | (have _t := tok2; gi_at_builtin; refine wpListIn_append_own _ rfl _ _ 52 rfl w.heap.size 5 i0 (.int .u8 0) 1 1 Try.underlying52 hi hz0 hz1 hz2 rfl (by decide) _ _ _ rfl (hr1.alloc _) ⟨w1.heap.size, 0, none⟩ 1 1 [.int .u8 46] rfl rfl ?d1 (by simp [Value.oneCell']) (by unfold maxLen; omega) (by omega) (by have := hB1'.size; simp at this ⊢; omega) ?_; (case d1 => exact newcell _ _ _ _ _); intro v2 w2 hown2 hgrow2 _; obtain ⟨g2, cap2, rfl⟩ := ownsRow_succ hown2; obtain ⟨hv2, hv2', hr2, hk2, hb2⟩ := hv1'.appended (by decide) hr1 (by have := hB1'.size; simp at this ⊢; omega) (Nat.le_refl _) hown2 hgrow2; have hc2 := hv2.cell; have hf2 := hv2.frozen; have hd2 := hv2'.cell; have hB2' := hB1'.trans hb2; clear tok2))
        refine ⟨(hk1.trans hk2).from _, .inl (by omega), ⟨_, hv2', ?_, trivial⟩, hB2'⟩
        have e := HB.out
        simp only [if_true] at e
        rw [e, cells_snoc, cells_snoc, HX.out, List.length_append, List.length_append, HN.out]
        exact hr2
      · have hN' : N = k + 1 := by rw [hlen, if_neg (by omega)]
        subst hN'
        clear hlen
        have t1 : ((k : Int) + 1 + 1 == 4) = false := by simp; omega
        have t2 : (4 : Int) < (k : Int) + 1 + 1 := by omega
        have fin : bw s (k + 1) = bw s k ++ [dg] := by have e := HB.out; rw [if_neg (by omega), List.append_nil] at e; exact e
        have FIN := Lib.hid fin; clear fin
        by_cases hL0 : L = 0
        · subst hL0
          gi_wp2_with (have _t := tok1; gi_at_builtin; refine wpListIn_append_own _ rfl _ _ 52 rfl w.heap.size 5 i0 (.int .u8 0) 1 1 Try.underlying52 hi hz0 hz1 hz2 rfl (by decide) _ _ _ rfl (hrow.alloc _) ⟨W.heap.size, 0, none⟩ 1 1 [.int .u8 (dg : Int)] rfl rfl (cell_one_new _ _ _) (by simp [Value.oneCell']) (by unfold maxLen; omega) (by omega) (by have := hB1.size; simp at this ⊢; omega) ?_; intro v1 w1 hown1 hgrow1 _; obtain ⟨g1, cap1, rfl⟩ := ownsRow_succ hown1; obtain ⟨hv1, hv1', hr1, hk1, hb1⟩ := hv.appended (by decide) hrow (by have := hB1.size; simp at this ⊢; omega) (Nat.le_refl _) hown1 hgrow1; have hc1 := hv1.cell; have hf1 := hv1.frozen; have hd1 := hv1'.cell; have hB1' := hB1.trans hb1; clear tok1)
          refine ⟨rfl, hk1.from _, k + 1, ⟨by omega, HL.out, ?_⟩, ⟨_, hv1', ?_, trivial⟩, hB1'⟩
          · rcases HK.out with h | h
            · left; omega
            · right; exact h
          · rw [FIN.out, cells_snoc, HX.out, List.length_append, HN.out]
            exact hr1
        · have t3 : ((L : Int) == 0) = false := by simp; omega
          gi_wp2_with (have _t := tok1; gi_at_builtin; refine wpListIn_append_own _ rfl _ _ 52 rfl w.heap.size 5 i0 (.int .u8 0) 1 1 Try.underlying52 hi hz0 hz1 hz2 rfl (by decide) _ _ _ rfl (hrow.alloc _) ⟨W.heap.size, 0, none⟩ 1 1 [.int .u8 (dg : Int)] rfl rfl (cell_one_new _ _ _) (by simp [Value.oneCell']) (by unfold maxLen; omega) (by omega) (by have := hB1.size; simp at this ⊢; omega) ?_; intro v1 w1 hown1 hgrow1 _; obtain ⟨g1, cap1, rfl⟩ := ownsRow_succ hown1; obtain ⟨hv1, hv1', hr1, hk1, hb1⟩ := hv.appended (by decide) hrow (by have := hB1.size; simp at this ⊢; omega) (Nat.le_refl _) hown1 hgrow1; have hc1 := hv1.cell; have hf1 := hv1.frozen; have hd1 := hv1'.cell; have hB1' := hB1.trans hb1; clear tok1)
          refine ⟨hk1.from _, .inr (by rw [HL.out]; exact hL0), ⟨_, hv1', ?_, trivial⟩, hB1'⟩
          rw [FIN.out, cells_snoc, HX.out, List.length_append, HN.out]
          exact hr1
  case stop =>
    rintro D W hD ⟨m, hm, ⟨v, hv, hrow, _⟩, hB⟩ hdef
    rw [hsz] at hD
    refine wpIn_wide.2 ?_
    have hm18 : m ≤ 18 := by
      rcases hm.2.2 with h | h
      · omega
      · have := lft_lt hs2 h
        omega
    have hlen := bw_len s m
    rw [if_neg (by omega)] at hlen
    obtain ⟨l, hl⟩ : ∃ l, bw s m = l := ⟨_, rfl⟩
    rw [hl] at hlen hrow
    have hl0 : 0 < l.length := by omega
    have hl1 : l.length ≤ 19 := by omega
    clear hlen
    have Hl := Lib.hid hl; clear hl
    have hc := hv.cell
    clear bO bS hB0 hT0 hS hsz
    by_cases hneg : a < 0
    · have tok1 : True := trivial
      have hB1 := hB
      go_wp2_with (have _t := tok1; at_builtin; refine wpList_append_own _ rfl _ _ 52 rfl w.heap.size 5 i0 (.int .u8 0) 1 1 Try.underlying52 hi hz0 hz1 hz2 rfl (by decide) _ _ _ rfl (hrow.alloc _) ⟨W.heap.size, 0, none⟩ 1 1 [.int .u8 45] rfl rfl (cell_one_new _ _ _) (by simp [Value.oneCell']) (by unfold maxLen; omega) (by omega) (by have := hB1.size; simp at this ⊢; omega) ?_; intro v1 w1 hown1 hgrow1 _; obtain ⟨g1, cap1, rfl⟩ := ownsRow_succ hown1; obtain ⟨hv1, hv1', hr1, hk1, hb1⟩ := hv.appended (by decide) hrow (by have := hB1.size; simp at this ⊢; omega) (Nat.le_refl _) hown1 hgrow1; have hc1 := hv1.cell; have hf1 := hv1.frozen; have hd1 := hv1'.cell; have hB1' := hB1.trans hb1; clear tok1)
      have hvb := hv1'
      obtain ⟨_, _, hgl, hg⟩ := row_at hr1 (by omega)
      cases hgl
      have hlx : (l ++ [45]).length = l.length + 1 := by simp
      have hrow2 : (w1.setCell ⟨w.heap.size, 0, none⟩ (.slice (some ⟨g1, 0, none⟩) (l.length + 1) cap1)).ownsRow w.heap.size 5 1 (.slice (some ⟨g1, 0, none⟩) (l ++ [45]).length cap1) (l ++ [45]).length ((l ++ [45]).map encB) := by
        rw [hlx, List.map_append]; exact hr1
      have hdef' : (w1.setCell ⟨w.heap.size, 0, none⟩ (.slice (some ⟨g1, 0, none⟩) (l.length + 1) cap1)).heap[D]? = some (.deferred (some [])) := hk1.same D _ hdef rfl
      have hDg : D ≠ g1 := by
        rintro rfl
        obtain ⟨_, ⟨h, _⟩ | ⟨g', cap', cur, h, _, hgg, _⟩⟩ := hr1
        · cases h
        · cases h; rw [hdef'] at hgg; cases hgg
      generalize hW1 : w1.setCell ⟨w.heap.size, 0, none⟩ (.slice (some ⟨g1, 0, none⟩) (l.length + 1) cap1) = W1 at *
      obtain ⟨l', hl'⟩ : ∃ l', l ++ [45] = l' := ⟨_, rfl⟩
      rw [hl'] at hrow2 hlx
      rw [← hlx] at hvb ⊢
      have Hl' := Lib.hid hl'; clear hl'
      have hl2 : l'.length ≤ 20 := by omega
      clear hlx
      refine (rev_own l' w.heap.size cap1 g1 W1 (by omega) hrow2).mono ?_
      rintro e W2 ⟨rfl, hg2, hcl⟩
      have hv2 := (hvb.kept hg2 (hvb.not_row (by decide) hrow2)).cell
      have hcv := conv_own l'.reverse g1 cap1 W2 hcl
      rw [List.length_reverse] at hcv
      have hdef2 : W2.heap[D]? = some (.deferred (some [])) := (hg2.block D (Array.getElem?_eq_some_iff.1 hdef').1 (fun h => by simp at h; exact hDg h)).trans hdef'
      go_wp2_with fail
      rw [Exit.noGoto_ret]
      refine ⟨by simp, .inl ⟨_, _, rfl, run_takeDeferred hdef2, ?_⟩⟩
      have hBB : Below w.heap.size w W1 := hB1'
      have hB3 : Below w.heap.size w W2 := hBB.grown hg2 hBB.size (fun k e => by cases e; exact hg)
      exact ⟨_, results_tmp2 rfl _ _ _, ⟨m, hm, by rw [Hl.out, if_pos (by omega), Hl'.out]; rfl⟩, hB3.trans (belowK_b (w := w) (Nat.le_refl _) W2 D _ _ (by omega) hdef2 rfl rfl)⟩
    · obtain ⟨g, cap, rfl, hg⟩ := row_at hrow hl0
      have hvb := hv
      have hrow2 : W.ownsRow w.heap.size 5 1 (.slice (some ⟨g, 0, none⟩) l.length cap) l.length (l.map encB) := hrow
      have hdef' := hdef
      have hDg : D ≠ g := by
        rintro rfl
        obtain ⟨_, ⟨h, _⟩ | ⟨g', cap', cur, h, _, hgg, _⟩⟩ := hrow
        · cases h
        · cases h; rw [hdef] at hgg; cases hgg
      go_wp2_with fail
      refine (rev_own l w.heap.size cap g W (by omega) hrow2).mono ?_
      rintro e W2 ⟨rfl, hg2, hcl⟩
      have hv2 := (hvb.kept hg2 (hvb.not_row (by decide) hrow2)).cell
      have hcv := conv_own l.reverse g cap W2 hcl
      rw [List.length_reverse] at hcv
      have hdef2 : W2.heap[D]? = some (.deferred (some [])) := (hg2.block D (Array.getElem?_eq_some_iff.1 hdef').1 (fun h => by simp at h; exact hDg h)).trans hdef'
      go_wp2_with fail
      rw [Exit.noGoto_ret]
      refine ⟨by simp, .inl ⟨_, _, rfl, run_takeDeferred hdef2, ?_⟩⟩
      have hBB : Below w.heap.size w W := hB
      have hB3 : Below w.heap.size w W2 := hBB.grown hg2 hBB.size (fun k e => by cases e; exact hg)
      exact ⟨_, results_tmp2 rfl _ _ _, ⟨m, hm, by rw [Hl.out, if_neg (by omega), List.append_nil]; rfl⟩, hB3.trans (belowK_b (w := w) (Nat.le_refl _) W2 D _ _ (by omega) hdef2 rfl rfl)⟩
end Go.Proofs.Ytabfdhecbbemjaa.Fx
