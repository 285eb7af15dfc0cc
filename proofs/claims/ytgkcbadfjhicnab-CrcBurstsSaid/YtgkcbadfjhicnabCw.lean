/- The document's Twin, Seal and Open, walked. -/
import Derived.Test.YtgkcbadfjhicnabProg
import Derived.Test.YtgkcbadfjhicnabHd
import Derived.Test.YtgkcbadfjhicnabCn
import Derived.Laws.AppendOwnNone
import Derived.WalkKit
import Derived.Lib.Hide
import Derived.Outline
import Derived.Shelf.Abstract
import Derived.Shelf.RegionOpen
import Derived.OwnWalkIn
import Derived.TacticsInMore
import Derived.Deep.QuietTactic
import Derived.BigQuiet
set_option linter.unusedVariables false
set_option linter.unusedSimpArgs false
namespace Go.Proofs.Ytgkcbadfjhicnab.Fx
open Go Go.RowKit Go.Shelf
attribute [local go_sem] Oper.semAt_some
theorem nil_of {W : World} {l : List Nat} (h : Bs W none l) : l = [] := by
  cases l with
  | nil => rfl
  | cons x l => obtain ⟨_, _, e, _⟩ := h 0 (by simp); cases e
set_option maxHeartbeats 1600000 in
theorem twin_any (l : List Nat) (o : Option Addr) (cap : Nat) (w : World) (hlen : l.length ≤ 100000) (hq : o = none → cap = 0) (hb : Bs w o l) :
    Calls Try.prog 14 #[.slice o l.length cap] w fun e w' => (∃ v, e = .returned v ∧ Own w' w.heap.size v l) ∧ Below w.heap.size w w' := by
  obtain ⟨i0, hi, hz0, hz1, hz2⟩ := info_parts info5
  cases o with
  | none =>
    obtain rfl := nil_of hb
    obtain rfl := hq rfl
    go_enter Try.func14, Try.ntmps14
    go_wp2_with (at_builtin; refine wpList_append_own_none rfl _ _ 22 rfl w.heap.size 5 i0 1 Try.underlying22 hi (.slice none 0 0) 0 [] rfl (World.ownsRow_nil _ _ _ _) rfl ?_)
    go_ret
    exact ⟨⟨_, rfl, World.ownsRow_nil _ _ _ _⟩, Below.refl _ _⟩
  | some a =>
    have HN := Lib.hid (news_any hb a rfl)
    clear hb
    go_enter Try.func14, Try.ntmps14
    go_wp2_with (at_builtin; refine wpList_append_own _ rfl _ _ 22 rfl w.heap.size 5 i0 (.int .u8 0) 1 1 Try.underlying22 hi hz0 hz1 hz2 rfl (by decide) (.slice none 0 0) 0 [] rfl (World.ownsRow_nil _ _ _ _) a l.length cap (l.map encB) rfl (by simp) HN.out (news_one l) (by unfold maxLen; omega) (by omega) (by simp) ?_; intro v' w1 hown hgrow _)
    have HO : Hid (Own w1 w.heap.size v' l) := Lib.hid (by
      unfold Own
      rw [Nat.zero_add, List.nil_append] at hown
      exact hown)
    have HB : Hid (Below w.heap.size w w1) := Lib.hid ((Below.refl _ w).grown hgrow (Nat.le_refl _) (by intro k hk; cases hk))
    clear hown hgrow
    go_ret
    exact ⟨⟨v', rfl, HO.out⟩, HB.out⟩
/-- the four bytes of a sum, as they are reckoned -/
theorem le4_row (s : Nat) (hs : s < 4294967296) : bR (le4 s) = #[.int .u8 ((s : Int) % 256), .int .u8 ((s : Int) / 256 % 256), .int .u8 ((s : Int) / 65536 % 256), .int .u8 ((s : Int) / 16777216)] := by
  have e : ((s / 16777216 % 256 : Nat) : Int) = (s : Int) / 16777216 := by omega
  simp only [bR, le4, List.map_cons, List.map_nil, e]
  simp
set_option maxRecDepth 100000 in
set_option maxHeartbeats 1600000 in
theorem rseal_any (l : List Nat) (o : Option Addr) (cap : Nat) (w : World) (hl : By l) (hlen : l.length ≤ 99000) (hq : o = none → cap = 0) (hb : Bs w o l) :
    Calls Try.prog 17 #[.slice o l.length cap] w fun e w' => (∃ v, e = .returned v ∧ Own w' w.heap.size v (l ++ le4 (more 0 l))) ∧ Below w.heap.size w w' := by
  obtain ⟨i0, hi, hz0, hz1, hz2⟩ := info_parts info5
  have hs := more_lt hl (show 0 < 4294967296 by omega)
  have hs1 : ((more 0 l : Nat) : Int) ≤ 4294967295 := by omega
  have H0 := Lib.hid (fun W h => rsum_any l o cap W hl (by omega) h)
  have H1 := Lib.hid (fun W h => twin_any l o cap W (by omega) hq h)
  have HBS := Lib.hid hb
  have HR := Lib.hid (le4_row (more 0 l) hs)
  have HL4 : Hid ((le4 (more 0 l)).length = 4) := Lib.hid rfl
  clear hb hl
  generalize more 0 l = s at *
  go_enter Try.func17, Try.ntmps17
  go_wp2_with fail
  refine (H0.out _ HBS.out).mono ?_
  rintro e w' ⟨rfl, rfl⟩
  go_wp2_with fail
  refine (H1.out _ HBS.out).mono ?_
  rintro e w2 ⟨⟨v, rfl, hown⟩, hb2⟩
  have HOW := Lib.hid hown
  have HB2 := Lib.hid hb2
  clear hown hb2
  go_wp2_with (at_builtin; refine wpList_append_own _ rfl _ _ 22 rfl w'.heap.size 5 i0 (.int .u8 0) 1 1 Try.underlying22 hi hz0 hz1 hz2 rfl (by decide) v l.length (l.map encB) rfl (HOW.out.alloc _) ⟨w2.heap.size, 0, none⟩ 4 4 ((le4 s).map encB) rfl (by simp [le4]) (news_of (Bs.row (by rw [HR.out]; exact heap_alloc_new w2 _))) (news_one _) (by unfold maxLen; omega) (by omega) (by have := HB2.out.size; simp; omega) ?_; intro v' w3 hown hgrow _)
  have HO : Hid (Own w3 w'.heap.size v' (l ++ le4 s)) := Lib.hid (by
    unfold Own
    rw [List.map_append, List.length_append, HL4.out]
    exact hown)
  have HB3 : Hid (Below w'.heap.size w' w3) := Lib.hid ((HB2.out.alloc (HB2.out.size) _).grown hgrow (by have := HB2.out.size; simp; omega) (fun k hk => (HOW.out.lt k hk).1))
  clear hown hgrow
  go_ret
  exact ⟨⟨v', rfl, HO.out⟩, HB3.out⟩
set_option maxHeartbeats 1600000 in
theorem ropen_short (n : Nat) (o : Option Addr) (cap : Nat) (w : World) (hn : n < 4) :
    Calls Try.prog 18 #[.slice o n cap] w (No w) := by
  have t1 : (n : Int) - 4 < 0 := by omega
  go_enter Try.func18, Try.ntmps18
  go_wp2_with fail
  go_ret2
  exact ⟨rfl, Below.refl _ _⟩
theorem le4_val {c0 c1 c2 c3 s : Nat} (h0 : c0 < 256) (h1 : c1 < 256) (h2 : c2 < 256) (h3 : c3 < 256) (hs : s < 4294967296) : (c0 + 256 * c1 + 65536 * c2 + 16777216 * c3 = s) ↔ [c0, c1, c2, c3] = le4 s := by
  simp only [le4, List.cons.injEq, and_true]
  omega
set_option maxRecDepth 100000 in
set_option maxHeartbeats 2000000 in
theorem ropen_long (l : List Nat) (c0 c1 c2 c3 b off cap : Nat) (w : World) (hl : By l) (k0 : c0 < 256) (k1 : c1 < 256) (k2 : c2 < 256) (k3 : c3 < 256) (hlen : l.length ≤ 99000) (hcap : l.length + 4 ≤ cap) (hcap2 : cap ≤ 9223372036854775807) (hb : Bs w (some ⟨b, off, none⟩) l)
    (h0 : w.cell? ⟨b, off + l.length, none⟩ = some (.int .u8 (c0 : Int))) (h1 : w.cell? ⟨b, off + (l.length + 1), none⟩ = some (.int .u8 (c1 : Int))) (h2 : w.cell? ⟨b, off + (l.length + 2), none⟩ = some (.int .u8 (c2 : Int))) (h3 : w.cell? ⟨b, off + (l.length + 3), none⟩ = some (.int .u8 (c3 : Int))) :
    Calls Try.prog 18 #[.slice (some ⟨b, off, none⟩) (l.length + 4) cap] w fun e w' =>
      if ([c0, c1, c2, c3] == le4 (more 0 l)) = true then (∃ v, e = .returned (.tuple #[v, .int .i64 0]) ∧ Own w' w.heap.size v l) ∧ Below w.heap.size w w' else No w e w' := by
  have hs := more_lt hl (show 0 < 4294967296 by omega)
  have H0 := Lib.hid (fun W h => rsum_any l (some ⟨b, off, none⟩) cap W hl (by omega) h)
  have H2 := Lib.hid (fun W h => twin_any l (some ⟨b, off, none⟩) cap W (by omega) (by intro h; cases h) h)
  have HCQ : Hid ((c0 + 256 * c1 + 65536 * c2 + 16777216 * c3 = more 0 l) ↔ ([c0, c1, c2, c3] == le4 (more 0 l)) = true) := Lib.hid (by rw [le4_val k0 k1 k2 k3 hs]; simp)
  have HBS := Lib.hid hb
  have HC0 := Lib.hid h0; have HC1 := Lib.hid h1; have HC2 := Lib.hid h2; have HC3 := Lib.hid h3
  have hc1 : (l.length : Int) ≤ (cap : Int) := by omega
  have hc2 : (l.length : Int) + 4 ≤ (cap : Int) := by omega
  have hc3 : (l.length : Int) ≤ (l.length : Int) + 4 := by omega
  have hl0 : (0 : Int) ≤ (l.length : Int) := by omega
  have i0 : (l.length : Int) < (l.length : Int) + 4 := by omega
  have i1 : (l.length : Int) + 1 < (l.length : Int) + 4 := by omega
  have i2 : (l.length : Int) + 2 < (l.length : Int) + 4 := by omega
  have i3 : (l.length : Int) + 3 < (l.length : Int) + 4 := by omega
  have p0 : (l.length : Int) ≤ 99000 := by omega
  have q0 : (c0 : Int) ≤ 255 := by omega
  have q1 : (c1 : Int) ≤ 255 := by omega
  have q2 : (c2 : Int) ≤ 255 := by omega
  have q3 : (c3 : Int) ≤ 255 := by omega
  have z1 : IntKind.i64.wrap ((l.length : Int) + 1) = (l.length : Int) + 1 := IntWalk.i64_in _ ⟨by omega, by omega⟩
  have z2 : IntKind.i64.wrap ((l.length : Int) + 2) = (l.length : Int) + 2 := IntWalk.i64_in _ ⟨by omega, by omega⟩
  have z3 : IntKind.i64.wrap ((l.length : Int) + 3) = (l.length : Int) + 3 := IntWalk.i64_in _ ⟨by omega, by omega⟩
  have n1 : ((l.length : Int) + 1).toNat = l.length + 1 := by omega
  have n2 : ((l.length : Int) + 2).toNat = l.length + 2 := by omega
  have n3 : ((l.length : Int) + 3).toNat = l.length + 3 := by omega
  have g1 : (0 : Int) ≤ (l.length : Int) + 1 := by omega
  have g2 : (0 : Int) ≤ (l.length : Int) + 2 := by omega
  have g3 : (0 : Int) ≤ (l.length : Int) + 3 := by omega
  have uw : ∀ z : Int, 0 ≤ z → z < 4294967296 → IntKind.u32.wrap z = z := fun z a b => by rw [IntKind.wrap_u32']; omega
  have e0 : IntKind.u32.wrap (c0 : Int) = (c0 : Int) := uw _ (by omega) (by omega)
  have e1 : IntKind.u32.wrap (c1 : Int) = (c1 : Int) := uw _ (by omega) (by omega)
  have e2 : IntKind.u32.wrap (c2 : Int) = (c2 : Int) := uw _ (by omega) (by omega)
  have e3 : IntKind.u32.wrap (c3 : Int) = (c3 : Int) := uw _ (by omega) (by omega)
  have m1 : IntKind.u32.wrap (256 * (c1 : Int)) = 256 * (c1 : Int) := uw _ (by omega) (by omega)
  have m2 : IntKind.u32.wrap (65536 * (c2 : Int)) = 65536 * (c2 : Int) := uw _ (by omega) (by omega)
  have m3 : IntKind.u32.wrap (16777216 * (c3 : Int)) = 16777216 * (c3 : Int) := uw _ (by omega) (by omega)
  have a1 : IntKind.u32.wrap ((c0 : Int) + 256 * (c1 : Int)) = (c0 : Int) + 256 * (c1 : Int) := uw _ (by omega) (by omega)
  have a2 : IntKind.u32.wrap ((c0 : Int) + 256 * (c1 : Int) + 65536 * (c2 : Int)) = (c0 : Int) + 256 * (c1 : Int) + 65536 * (c2 : Int) := uw _ (by omega) (by omega)
  have a3 : IntKind.u32.wrap ((c0 : Int) + 256 * (c1 : Int) + 65536 * (c2 : Int) + 16777216 * (c3 : Int)) = (c0 : Int) + 256 * (c1 : Int) + 65536 * (c2 : Int) + 16777216 * (c3 : Int) := uw _ (by omega) (by omega)
  clear hb h0 h1 h2 h3 hs hl uw
  generalize more 0 l = s at *
  generalize ([c0, c1, c2, c3] == le4 s) = q at *
  go_enter Try.func18, Try.ntmps18
  go_wp2_with fail
  refine (wpIn_wide (n := 5)).1 (held_region (F := Fence.wide) (S := fun X => Below w.heap.size w X) (by kernel_rfl) (bdrew0 _ _ 1) (fun hHeld => ?_))
  refine held_take (fun _ => trivial) (by kernel_rfl) (i := 0) (oi := _) (v := ?_) rfl (by kernel_rfl) (by kernel_rfl) (by kernel_rfl) (fun _ _ _ h => h) (by assumption) (Or.inl ⟨by kernel_rfl, ?_⟩) ?_
  rotate_left
  · intro wz hSw; have d0 := keep_cell hSw HC0.out; have d1 := keep_cell hSw HC1.out; have d2 := keep_cell hSw HC2.out; have d3 := keep_cell hSw HC3.out; (first | (go_simp; done) | (go_simp; with_reducible rfl))
  (try simp only [Act.put, List.getElem_toArray, List.getElem_cons_zero, List.getElem_cons_succ, List.setIfInBounds_toArray, List.set_cons_zero, List.set_cons_succ])
  refine held_take (fun _ => trivial) (by kernel_rfl) (i := 1) (oi := _) (v := ?_) rfl (by kernel_rfl) (by kernel_rfl) (by kernel_rfl) (fun _ _ _ h => h) (by assumption) (Or.inl ⟨by kernel_rfl, ?_⟩) ?_
  rotate_left
  · intro wz hSw; have d0 := keep_cell hSw HC0.out; have d1 := keep_cell hSw HC1.out; have d2 := keep_cell hSw HC2.out; have d3 := keep_cell hSw HC3.out; (first | (go_simp; done) | (go_simp; with_reducible rfl))
  (try simp only [Act.put, List.getElem_toArray, List.getElem_cons_zero, List.getElem_cons_succ, List.setIfInBounds_toArray, List.set_cons_zero, List.set_cons_succ])
  refine held_take (fun _ => trivial) (by kernel_rfl) (i := 2) (oi := _) (v := ?_) rfl (by kernel_rfl) (by kernel_rfl) (by kernel_rfl) (fun _ _ _ h => h) (by assumption) (Or.inl ⟨by kernel_rfl, ?_⟩) ?_
  rotate_left
  · intro wz hSw; have d0 := keep_cell hSw HC0.out; have d1 := keep_cell hSw HC1.out; have d2 := keep_cell hSw HC2.out; have d3 := keep_cell hSw HC3.out; (first | (go_simp; done) | (go_simp; with_reducible rfl))
  (try simp only [Act.put, List.getElem_toArray, List.getElem_cons_zero, List.getElem_cons_succ, List.setIfInBounds_toArray, List.set_cons_zero, List.set_cons_succ])
  refine held_take (fun _ => trivial) (by kernel_rfl) (i := 3) (oi := _) (v := ?_) rfl (by kernel_rfl) (by kernel_rfl) (by kernel_rfl) (fun _ _ _ h => h) (by assumption) (Or.inl ⟨by kernel_rfl, ?_⟩) ?_
  rotate_left
  · intro wz hSw; have d0 := keep_cell hSw HC0.out; have d1 := keep_cell hSw HC1.out; have d2 := keep_cell hSw HC2.out; have d3 := keep_cell hSw HC3.out; (first | (go_simp; done) | (go_simp; with_reducible rfl))
  (try simp only [Act.put, List.getElem_toArray, List.getElem_cons_zero, List.getElem_cons_succ, List.setIfInBounds_toArray, List.set_cons_zero, List.set_cons_succ])
  refine held_take (fun _ => trivial) (by kernel_rfl) (i := 4) (oi := _) (v := ?_) rfl (by kernel_rfl) (by kernel_rfl) (by kernel_rfl) (fun _ _ _ h => h) (by assumption) (Or.inl ⟨by kernel_rfl, ?_⟩) ?_
  rotate_left
  · intro wz hSw; have d0 := keep_cell hSw HC0.out; have d1 := keep_cell hSw HC1.out; have d2 := keep_cell hSw HC2.out; have d3 := keep_cell hSw HC3.out; (first | (go_simp; done) | (go_simp; with_reducible rfl))
  (try simp only [Act.put, List.getElem_toArray, List.getElem_cons_zero, List.getElem_cons_succ, List.setIfInBounds_toArray, List.set_cons_zero, List.set_cons_succ])
  refine held_take (fun _ => trivial) (by kernel_rfl) (i := 5) (oi := _) (v := ?_) rfl (by kernel_rfl) (by kernel_rfl) (by kernel_rfl) (fun _ _ _ h => h) (by assumption) (Or.inl ⟨by kernel_rfl, ?_⟩) ?_
  rotate_left
  · intro wz hSw; have d0 := keep_cell hSw HC0.out; have d1 := keep_cell hSw HC1.out; have d2 := keep_cell hSw HC2.out; have d3 := keep_cell hSw HC3.out; (first | (go_simp; done) | (go_simp; with_reducible rfl))
  (try simp only [Act.put, List.getElem_toArray, List.getElem_cons_zero, List.getElem_cons_succ, List.setIfInBounds_toArray, List.set_cons_zero, List.set_cons_succ])
  refine held_take (fun _ => trivial) (by kernel_rfl) (i := 6) (oi := _) (v := ?_) rfl (by kernel_rfl) (by kernel_rfl) (by kernel_rfl) (fun _ _ _ h => h) (by assumption) (Or.inl ⟨by kernel_rfl, ?_⟩) ?_
  rotate_left
  · intro wz hSw; have d0 := keep_cell hSw HC0.out; have d1 := keep_cell hSw HC1.out; have d2 := keep_cell hSw HC2.out; have d3 := keep_cell hSw HC3.out; (first | (go_simp; done) | (go_simp; with_reducible rfl))
  (try simp only [Act.put, List.getElem_toArray, List.getElem_cons_zero, List.getElem_cons_succ, List.setIfInBounds_toArray, List.set_cons_zero, List.set_cons_succ])
  refine held_take (fun _ => trivial) (by kernel_rfl) (i := 7) (oi := _) (v := ?_) rfl (by kernel_rfl) (by kernel_rfl) (by kernel_rfl) (fun _ _ _ h => h) (by assumption) (Or.inl ⟨by kernel_rfl, ?_⟩) ?_
  rotate_left
  · intro wz hSw; have d0 := keep_cell hSw HC0.out; have d1 := keep_cell hSw HC1.out; have d2 := keep_cell hSw HC2.out; have d3 := keep_cell hSw HC3.out; (first | (go_simp; done) | (go_simp; with_reducible rfl))
  (try simp only [Act.put, List.getElem_toArray, List.getElem_cons_zero, List.getElem_cons_succ, List.setIfInBounds_toArray, List.set_cons_zero, List.set_cons_succ])
  refine held_take (fun _ => trivial) (by kernel_rfl) (i := 8) (oi := _) (v := ?_) rfl (by kernel_rfl) (by kernel_rfl) (by kernel_rfl) (fun _ _ _ h => h) (by assumption) (Or.inl ⟨by kernel_rfl, ?_⟩) ?_
  rotate_left
  · intro wz hSw; have d0 := keep_cell hSw HC0.out; have d1 := keep_cell hSw HC1.out; have d2 := keep_cell hSw HC2.out; have d3 := keep_cell hSw HC3.out; (first | (go_simp; done) | (go_simp; with_reducible rfl))
  (try simp only [Act.put, List.getElem_toArray, List.getElem_cons_zero, List.getElem_cons_succ, List.setIfInBounds_toArray, List.set_cons_zero, List.set_cons_succ])
  refine held_take (fun _ => trivial) (by kernel_rfl) (i := 9) (oi := _) (v := ?_) rfl (by kernel_rfl) (by kernel_rfl) (by kernel_rfl) (fun _ _ _ h => h) (by assumption) (Or.inl ⟨by kernel_rfl, ?_⟩) ?_
  rotate_left
  · intro wz hSw; have d0 := keep_cell hSw HC0.out; have d1 := keep_cell hSw HC1.out; have d2 := keep_cell hSw HC2.out; have d3 := keep_cell hSw HC3.out; (first | (go_simp; done) | (go_simp; with_reducible rfl))
  (try simp only [Act.put, List.getElem_toArray, List.getElem_cons_zero, List.getElem_cons_succ, List.setIfInBounds_toArray, List.set_cons_zero, List.set_cons_succ])
  refine held_take (fun _ => trivial) (by kernel_rfl) (i := 10) (oi := _) (v := ?_) rfl (by kernel_rfl) (by kernel_rfl) (by kernel_rfl) (fun _ _ _ h => h) (by assumption) (Or.inl ⟨by kernel_rfl, ?_⟩) ?_
  rotate_left
  · intro wz hSw; have d0 := keep_cell hSw HC0.out; have d1 := keep_cell hSw HC1.out; have d2 := keep_cell hSw HC2.out; have d3 := keep_cell hSw HC3.out; (first | (go_simp; done) | (go_simp; with_reducible rfl))
  (try simp only [Act.put, List.getElem_toArray, List.getElem_cons_zero, List.getElem_cons_succ, List.setIfInBounds_toArray, List.set_cons_zero, List.set_cons_succ])
  refine held_take (fun _ => trivial) (by kernel_rfl) (i := 11) (oi := _) (v := ?_) rfl (by kernel_rfl) (by kernel_rfl) (by kernel_rfl) (fun _ _ _ h => h) (by assumption) (Or.inl ⟨by kernel_rfl, ?_⟩) ?_
  rotate_left
  · intro wz hSw; have d0 := keep_cell hSw HC0.out; have d1 := keep_cell hSw HC1.out; have d2 := keep_cell hSw HC2.out; have d3 := keep_cell hSw HC3.out; (first | (go_simp; done) | (go_simp; with_reducible rfl))
  (try simp only [Act.put, List.getElem_toArray, List.getElem_cons_zero, List.getElem_cons_succ, List.setIfInBounds_toArray, List.set_cons_zero, List.set_cons_succ])
  refine held_take (fun _ => trivial) (by kernel_rfl) (i := 12) (oi := _) (v := ?_) rfl (by kernel_rfl) (by kernel_rfl) (by kernel_rfl) (fun _ _ _ h => h) (by assumption) (Or.inl ⟨by kernel_rfl, ?_⟩) ?_
  rotate_left
  · intro wz hSw; have d0 := keep_cell hSw HC0.out; have d1 := keep_cell hSw HC1.out; have d2 := keep_cell hSw HC2.out; have d3 := keep_cell hSw HC3.out; (first | (go_simp; done) | (go_simp; with_reducible rfl))
  (try simp only [Act.put, List.getElem_toArray, List.getElem_cons_zero, List.getElem_cons_succ, List.setIfInBounds_toArray, List.set_cons_zero, List.set_cons_succ])
  refine held_take (fun _ => trivial) (by kernel_rfl) (i := 13) (oi := _) (v := ?_) rfl (by kernel_rfl) (by kernel_rfl) (by kernel_rfl) (fun _ _ _ h => h) (by assumption) (Or.inl ⟨by kernel_rfl, ?_⟩) ?_
  rotate_left
  · intro wz hSw; have d0 := keep_cell hSw HC0.out; have d1 := keep_cell hSw HC1.out; have d2 := keep_cell hSw HC2.out; have d3 := keep_cell hSw HC3.out; (first | (go_simp; done) | (go_simp; with_reducible rfl))
  (try simp only [Act.put, List.getElem_toArray, List.getElem_cons_zero, List.getElem_cons_succ, List.setIfInBounds_toArray, List.set_cons_zero, List.set_cons_succ])
  refine held_take (fun _ => trivial) (by kernel_rfl) (i := 14) (oi := _) (v := ?_) rfl (by kernel_rfl) (by kernel_rfl) (by kernel_rfl) (fun _ _ _ h => h) (by assumption) (Or.inl ⟨by kernel_rfl, ?_⟩) ?_
  rotate_left
  · intro wz hSw; have d0 := keep_cell hSw HC0.out; have d1 := keep_cell hSw HC1.out; have d2 := keep_cell hSw HC2.out; have d3 := keep_cell hSw HC3.out; (first | (go_simp; done) | (go_simp; with_reducible rfl))
  (try simp only [Act.put, List.getElem_toArray, List.getElem_cons_zero, List.getElem_cons_succ, List.setIfInBounds_toArray, List.set_cons_zero, List.set_cons_succ])
  refine held_take (fun _ => trivial) (by kernel_rfl) (i := 15) (oi := _) (v := ?_) rfl (by kernel_rfl) (by kernel_rfl) (by kernel_rfl) (fun _ _ _ h => h) (by assumption) (Or.inl ⟨by kernel_rfl, ?_⟩) ?_
  rotate_left
  · intro wz hSw; have d0 := keep_cell hSw HC0.out; have d1 := keep_cell hSw HC1.out; have d2 := keep_cell hSw HC2.out; have d3 := keep_cell hSw HC3.out; (first | (go_simp; done) | (go_simp; with_reducible rfl))
  (try simp only [Act.put, List.getElem_toArray, List.getElem_cons_zero, List.getElem_cons_succ, List.setIfInBounds_toArray, List.set_cons_zero, List.set_cons_succ])
  refine held_take (fun _ => trivial) (by kernel_rfl) (i := 16) (oi := _) (v := ?_) rfl (by kernel_rfl) (by kernel_rfl) (by kernel_rfl) (fun _ _ _ h => h) (by assumption) (Or.inl ⟨by kernel_rfl, ?_⟩) ?_
  rotate_left
  · intro wz hSw; have d0 := keep_cell hSw HC0.out; have d1 := keep_cell hSw HC1.out; have d2 := keep_cell hSw HC2.out; have d3 := keep_cell hSw HC3.out; (first | (go_simp; done) | (go_simp; with_reducible rfl))
  (try simp only [Act.put, List.getElem_toArray, List.getElem_cons_zero, List.getElem_cons_succ, List.setIfInBounds_toArray, List.set_cons_zero, List.set_cons_succ])
  refine held_take (fun _ => trivial) (by kernel_rfl) (i := 17) (oi := _) (v := ?_) rfl (by kernel_rfl) (by kernel_rfl) (by kernel_rfl) (fun _ _ _ h => h) (by assumption) (Or.inl ⟨by kernel_rfl, ?_⟩) ?_
  rotate_left
  · intro wz hSw; have d0 := keep_cell hSw HC0.out; have d1 := keep_cell hSw HC1.out; have d2 := keep_cell hSw HC2.out; have d3 := keep_cell hSw HC3.out; (first | (go_simp; done) | (go_simp; with_reducible rfl))
  (try simp only [Act.put, List.getElem_toArray, List.getElem_cons_zero, List.getElem_cons_succ, List.setIfInBounds_toArray, List.set_cons_zero, List.set_cons_succ])
  refine held_take (fun _ => trivial) (by kernel_rfl) (i := 18) (oi := _) (v := ?_) rfl (by kernel_rfl) (by kernel_rfl) (by kernel_rfl) (fun _ _ _ h => h) (by assumption) (Or.inl ⟨by kernel_rfl, ?_⟩) ?_
  rotate_left
  · intro wz hSw; have d0 := keep_cell hSw HC0.out; have d1 := keep_cell hSw HC1.out; have d2 := keep_cell hSw HC2.out; have d3 := keep_cell hSw HC3.out; (first | (go_simp; done) | (go_simp; with_reducible rfl))
  (try simp only [Act.put, List.getElem_toArray, List.getElem_cons_zero, List.getElem_cons_succ, List.setIfInBounds_toArray, List.set_cons_zero, List.set_cons_succ])
  refine held_take (fun _ => trivial) (by kernel_rfl) (i := 19) (oi := _) (v := ?_) rfl (by kernel_rfl) (by kernel_rfl) (by kernel_rfl) (fun _ _ _ h => h) (by assumption) (Or.inl ⟨by kernel_rfl, ?_⟩) ?_
  rotate_left
  · intro wz hSw; have d0 := keep_cell hSw HC0.out; have d1 := keep_cell hSw HC1.out; have d2 := keep_cell hSw HC2.out; have d3 := keep_cell hSw HC3.out; (first | (go_simp; done) | (go_simp; with_reducible rfl))
  (try simp only [Act.put, List.getElem_toArray, List.getElem_cons_zero, List.getElem_cons_succ, List.setIfInBounds_toArray, List.set_cons_zero, List.set_cons_succ])
  refine held_take (fun _ => trivial) (by kernel_rfl) (i := 20) (oi := _) (v := ?_) rfl (by kernel_rfl) (by kernel_rfl) (by kernel_rfl) (fun _ _ _ h => h) (by assumption) (Or.inl ⟨by kernel_rfl, ?_⟩) ?_
  rotate_left
  · intro wz hSw; have d0 := keep_cell hSw HC0.out; have d1 := keep_cell hSw HC1.out; have d2 := keep_cell hSw HC2.out; have d3 := keep_cell hSw HC3.out; (first | (go_simp; done) | (go_simp; with_reducible rfl))
  (try simp only [Act.put, List.getElem_toArray, List.getElem_cons_zero, List.getElem_cons_succ, List.setIfInBounds_toArray, List.set_cons_zero, List.set_cons_succ])
  refine held_take (fun _ => trivial) (by kernel_rfl) (i := 21) (oi := _) (v := ?_) rfl (by kernel_rfl) (by kernel_rfl) (by kernel_rfl) (fun _ _ _ h => h) (by assumption) (Or.inl ⟨by kernel_rfl, ?_⟩) ?_
  rotate_left
  · intro wz hSw; have d0 := keep_cell hSw HC0.out; have d1 := keep_cell hSw HC1.out; have d2 := keep_cell hSw HC2.out; have d3 := keep_cell hSw HC3.out; (first | (go_simp; done) | (go_simp; with_reducible rfl))
  (try simp only [Act.put, List.getElem_toArray, List.getElem_cons_zero, List.getElem_cons_succ, List.setIfInBounds_toArray, List.set_cons_zero, List.set_cons_succ])
  refine held_take (fun _ => trivial) (by kernel_rfl) (i := 22) (oi := _) (v := ?_) rfl (by kernel_rfl) (by kernel_rfl) (by kernel_rfl) (fun _ _ _ h => h) (by assumption) (Or.inl ⟨by kernel_rfl, ?_⟩) ?_
  rotate_left
  · intro wz hSw; have d0 := keep_cell hSw HC0.out; have d1 := keep_cell hSw HC1.out; have d2 := keep_cell hSw HC2.out; have d3 := keep_cell hSw HC3.out; (first | (go_simp; done) | (go_simp; with_reducible rfl))
  (try simp only [Act.put, List.getElem_toArray, List.getElem_cons_zero, List.getElem_cons_succ, List.setIfInBounds_toArray, List.set_cons_zero, List.set_cons_succ])
  refine held_take (fun _ => trivial) (by kernel_rfl) (i := 23) (oi := _) (v := ?_) rfl (by kernel_rfl) (by kernel_rfl) (by kernel_rfl) (fun _ _ _ h => h) (by assumption) (Or.inl ⟨by kernel_rfl, ?_⟩) ?_
  rotate_left
  · intro wz hSw; have d0 := keep_cell hSw HC0.out; have d1 := keep_cell hSw HC1.out; have d2 := keep_cell hSw HC2.out; have d3 := keep_cell hSw HC3.out; (first | (go_simp; done) | (go_simp; with_reducible rfl))
  (try simp only [Act.put, List.getElem_toArray, List.getElem_cons_zero, List.getElem_cons_succ, List.setIfInBounds_toArray, List.set_cons_zero, List.set_cons_succ])
  refine held_take (fun _ => trivial) (by kernel_rfl) (i := 24) (oi := _) (v := ?_) rfl (by kernel_rfl) (by kernel_rfl) (by kernel_rfl) (fun _ _ _ h => h) (by assumption) (Or.inl ⟨by kernel_rfl, ?_⟩) ?_
  rotate_left
  · intro wz hSw; have d0 := keep_cell hSw HC0.out; have d1 := keep_cell hSw HC1.out; have d2 := keep_cell hSw HC2.out; have d3 := keep_cell hSw HC3.out; (first | (go_simp; done) | (go_simp; with_reducible rfl))
  (try simp only [Act.put, List.getElem_toArray, List.getElem_cons_zero, List.getElem_cons_succ, List.setIfInBounds_toArray, List.set_cons_zero, List.set_cons_succ])
  refine held_take (fun _ => trivial) (by kernel_rfl) (i := 25) (oi := _) (v := ?_) rfl (by kernel_rfl) (by kernel_rfl) (by kernel_rfl) (fun _ _ _ h => h) (by assumption) (Or.inl ⟨by kernel_rfl, ?_⟩) ?_
  rotate_left
  · intro wz hSw; have d0 := keep_cell hSw HC0.out; have d1 := keep_cell hSw HC1.out; have d2 := keep_cell hSw HC2.out; have d3 := keep_cell hSw HC3.out; (first | (go_simp; done) | (go_simp; with_reducible rfl))
  (try simp only [Act.put, List.getElem_toArray, List.getElem_cons_zero, List.getElem_cons_succ, List.setIfInBounds_toArray, List.set_cons_zero, List.set_cons_succ])
  refine held_take (fun _ => trivial) (by kernel_rfl) (i := 26) (oi := _) (v := ?_) rfl (by kernel_rfl) (by kernel_rfl) (by kernel_rfl) (fun _ _ _ h => h) (by assumption) (Or.inl ⟨by kernel_rfl, ?_⟩) ?_
  rotate_left
  · intro wz hSw; have d0 := keep_cell hSw HC0.out; have d1 := keep_cell hSw HC1.out; have d2 := keep_cell hSw HC2.out; have d3 := keep_cell hSw HC3.out; (first | (go_simp; done) | (go_simp; with_reducible rfl))
  (try simp only [Act.put, List.getElem_toArray, List.getElem_cons_zero, List.getElem_cons_succ, List.setIfInBounds_toArray, List.set_cons_zero, List.set_cons_succ])
  refine held_take (fun _ => trivial) (by kernel_rfl) (i := 27) (oi := _) (v := ?_) rfl (by kernel_rfl) (by kernel_rfl) (by kernel_rfl) (fun _ _ _ h => h) (by assumption) (Or.inl ⟨by kernel_rfl, ?_⟩) ?_
  rotate_left
  · intro wz hSw; have d0 := keep_cell hSw HC0.out; have d1 := keep_cell hSw HC1.out; have d2 := keep_cell hSw HC2.out; have d3 := keep_cell hSw HC3.out; (first | (go_simp; done) | (go_simp; with_reducible rfl))
  (try simp only [Act.put, List.getElem_toArray, List.getElem_cons_zero, List.getElem_cons_succ, List.setIfInBounds_toArray, List.set_cons_zero, List.set_cons_succ])
  refine held_take (fun _ => trivial) (by kernel_rfl) (i := 28) (oi := _) (v := ?_) rfl (by kernel_rfl) (by kernel_rfl) (by kernel_rfl) (fun _ _ _ h => h) (by assumption) (Or.inl ⟨by kernel_rfl, ?_⟩) ?_
  rotate_left
  · intro wz hSw; have d0 := keep_cell hSw HC0.out; have d1 := keep_cell hSw HC1.out; have d2 := keep_cell hSw HC2.out; have d3 := keep_cell hSw HC3.out; (first | (go_simp; done) | (go_simp; with_reducible rfl))
  (try simp only [Act.put, List.getElem_toArray, List.getElem_cons_zero, List.getElem_cons_succ, List.setIfInBounds_toArray, List.set_cons_zero, List.set_cons_succ])
  refine held_take (fun _ => trivial) (by kernel_rfl) (i := 29) (oi := _) (v := ?_) rfl (by kernel_rfl) (by kernel_rfl) (by kernel_rfl) (fun _ _ _ h => h) (by assumption) (Or.inl ⟨by kernel_rfl, ?_⟩) ?_
  rotate_left
  · intro wz hSw; have d0 := keep_cell hSw HC0.out; have d1 := keep_cell hSw HC1.out; have d2 := keep_cell hSw HC2.out; have d3 := keep_cell hSw HC3.out; (first | (go_simp; done) | (go_simp; with_reducible rfl))
  (try simp only [Act.put, List.getElem_toArray, List.getElem_cons_zero, List.getElem_cons_succ, List.setIfInBounds_toArray, List.set_cons_zero, List.set_cons_succ])
  refine held_done (by kernel_rfl) ?_ _
  have HH := Lib.hid hHeld
  have HBZ := Lib.hid (HBS.out.below hHeld)
  clear hHeld
  rw [show ((c0 : Int) + 256 * (c1 : Int) + 65536 * (c2 : Int) + 16777216 * (c3 : Int)) = ((c0 + 256 * c1 + 65536 * c2 + 16777216 * c3 : Nat) : Int) by simp]
  rw [show decide ((l.length : Int) < 0) = false from decide_eq_false (by omega)]
  clear e0 e1 e2 e3 m1 m2 m3 a1 a2 a3 z1 z2 z3 n1 n2 n3 g1 g2 g3 q0 q1 q2 q3 i1 i2 i3
  generalize c0 + 256 * c1 + 65536 * c2 + 16777216 * c3 = z at *
  go_wp2_with fail
  refine (H0.out _ HBZ.out).mono ?_
  rintro e wz ⟨rfl, rfl⟩
  by_cases hzs : z = s
  · obtain rfl := HCQ.out.1 hzs
    subst hzs
    go_wp2_with fail
    refine (H2.out _ HBZ.out).mono ?_
    rintro e w5 ⟨⟨v, rfl, hown⟩, hb5⟩
    go_wp2_with fail
    go_ret2
    exact ⟨⟨_, rfl, Own.mono HH.out.size hown⟩, bnext HH.out hb5⟩
  · obtain rfl : q = false := by
      cases q
      · rfl
      · exact absurd (HCQ.out.2 rfl) hzs
    have hzi : ¬ ((z : Int) = (s : Int)) := by omega
    go_wp2_with fail
    go_ret2
    exact ⟨rfl, HH.out⟩
end Go.Proofs.Ytgkcbadfjhicnab.Fx
