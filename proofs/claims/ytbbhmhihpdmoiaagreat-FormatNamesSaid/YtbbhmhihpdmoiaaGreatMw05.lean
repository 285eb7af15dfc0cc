import Derived.Laws.Rows
import Derived.Test.YtbbhmhihpdmoiaaGreatProg
import Derived.Laws.ShiftsVar
import Derived.Shelf.Abstract
import Derived.Shelf.RegionOpen
import Derived.OwnWalkIn
import Derived.TacticsInMore
import Derived.LoopNIn
import Derived.LoopIn
import Derived.WalkMore
import Derived.Deep.RegionHeld3
import Derived.Test.YtbbhmhihpdmoiaaGreatMw00
import Derived.Test.YtbbhmhihpdmoiaaGreatMw01
import Derived.Test.YtbbhmhihpdmoiaaGreatMw03
import Derived.Test.YtbbhmhihpdmoiaaGreatMw04
set_option linter.unusedVariables false
set_option linter.unusedSimpArgs false
namespace Go.Proofs.YtbbhmhihpdmoiaaGreat.Pk
open Go Go.RowKit
def valF : Nat → Nat → List Nat → Nat
 | _, n, [] => n
 | k, n, c :: s => if c < 128 then n + c % 128 * 128 ^ k % 18446744073709551616 else valF (k + 1) (n + c % 128 * 128 ^ k % 18446744073709551616) s
def valN (s : List Nat) : Nat := valF 0 0 (s.take 10)
theorem pow7 (k : Nat) : (2 : Nat) ^ (7 * k) = 128 ^ k := by rw [Nat.pow_mul]
theorem or_part {n c k : Nat} (hn : n < 128 ^ k) (hk : k ≤ 9) : n ||| (c % 128 * 128 ^ k % 18446744073709551616) = n + c % 128 * 128 ^ k % 18446744073709551616 := by
 have e : c % 128 * 128 ^ k % 18446744073709551616 = 2 ^ (7 * k) * (c % 128 % 2 ^ (64 - 7 * k)) := by
  rw [← pow7, Nat.mul_comm, show (18446744073709551616 : Nat) = 2 ^ (7 * k) * 2 ^ (64 - 7 * k) by rw [← Nat.pow_add, show 7 * k + (64 - 7 * k) = 64 by omega], Nat.mul_mod_mul_left]
 rw [e, Nat.or_comm, ← Nat.two_pow_add_eq_or_of_lt (by rw [pow7]; exact hn), Nat.add_comm]
theorem part_lt {n c k : Nat} (hn : n < 128 ^ k) (hk : k ≤ 8) : n + c % 128 * 128 ^ k % 18446744073709551616 < 128 ^ (k + 1) := by
 have h1 : c % 128 * 128 ^ k % 18446744073709551616 ≤ c % 128 * 128 ^ k := Nat.mod_le _ _
 have h2 : c % 128 * 128 ^ k ≤ 127 * 128 ^ k := Nat.mul_le_mul_right _ (by omega)
 rw [Nat.pow_succ]
 omega
theorem part_lt9 {n c : Nat} (hn : n < 128 ^ 9) : n + c % 128 * 128 ^ 9 % 18446744073709551616 < 18446744073709551616 := by
 have h9 : (128 : Nat) ^ 9 = 9223372036854775808 := by decide
 rw [h9] at hn ⊢
 omega
theorem part64 {n c k : Nat} (hn : n < 128 ^ k) (hk : k ≤ 9) : n + c % 128 * 128 ^ k % 18446744073709551616 < 18446744073709551616 := by
 rcases Nat.lt_or_ge k 9 with h | h
 ·have h1 := part_lt (c := c) hn (show k ≤ 8 by omega)
  have h2 : (128 : Nat) ^ (k + 1) ≤ 128 ^ 9 := Nat.pow_le_pow_right (by omega) (by omega)
  have h9 : (128 : Nat) ^ 9 = 9223372036854775808 := by decide
  omega
 ·obtain rfl : k = 9 := by omega
  exact part_lt9 hn
theorem valF_lt : ∀ (s : List Nat) (k n : Nat), k + s.length ≤ 10 → n < 128 ^ k → n < 18446744073709551616 → valF k n s < 18446744073709551616
 | [], _, _, _, _, h => h
 | c :: s, k, n, hk, hn, _ => by
  simp only [List.length_cons] at hk
  rw [valF]
  have h64 := part64 (c := c) hn (show k ≤ 9 by omega)
  split
  ·exact h64
  ·cases s with
   | nil => exact h64
   | cons d s =>
    simp only [List.length_cons] at hk
    exact valF_lt _ _ _ (by simp; omega) (part_lt hn (by omega)) h64
theorem valN_lt (s : List Nat) : valN s < 18446744073709551616 := valF_lt _ _ _ (by simp; omega) (by simp) (by omega)
theorem valF_form : ∀ (f m k a : Nat) (t : List Nat), m < 128 ^ f → a + m * 128 ^ k < 18446744073709551616 → valF k a (form m ++ t) = a + m * 128 ^ k
 | 0, m, k, a, t, hf, h => by
  have hm0 : m = 0 := by simpa using hf
  subst hm0
  rw [form_small (by omega)]
  simp [valF]
 | f + 1, m, k, a, t, hf, h => by
  by_cases h128 : m < 128
  ·rw [form_small h128]
   simp only [List.cons_append, List.nil_append, valF]
   rw [if_pos h128, Nat.mod_eq_of_lt h128, Nat.mod_eq_of_lt (by omega)]
  ·have hm64 : m < 18446744073709551616 := by
    have : m * 1 ≤ m * 128 ^ k := Nat.mul_le_mul_left _ (Nat.pow_pos (by omega))
    omega
   rw [form_big h128 hm64]
   have hc : (128 + m % 128) % 128 = m % 128 := by omega
   have hsum : a + m % 128 * 128 ^ k + m / 128 * 128 ^ (k + 1) = a + m * 128 ^ k := by
    rw [Nat.pow_succ]
    have e : m = m % 128 + 128 * (m / 128) := by omega
    have : m * 128 ^ k = (m % 128 + 128 * (m / 128)) * 128 ^ k := by rw [← e]
    rw [this, Nat.add_mul, Nat.add_assoc]
    congr 2
    rw [Nat.mul_comm (128 ^ k) 128, ← Nat.mul_assoc, Nat.mul_comm (m / 128) 128]
   simp only [List.cons_append, valF]
   rw [if_neg (by omega), hc, Nat.mod_eq_of_lt (by omega), valF_form f (m / 128) (k + 1) _ t (by rw [Nat.pow_succ] at hf; omega) (by rw [hsum]; exact h), hsum]
theorem rdG_le10 : ∀ {s : List Nat} {most k n a j : Nat}, k ≤ 9 → rdG most k n s = some (a, j) → j ≤ 10
 | [], _, _, _, _, _, _, h => by simp [rdG] at h
 | c :: s, most, k, n, a, j, hk, h => by
  rw [rdG] at h
  split at h
  ·cases h
  ·rename_i h9
   split at h
   ·rename_i h128
    exact rdG_le10 (by omega) h
   ·split at h
    ·cases h
    ·cases h
     omega
theorem form_len10 {n : Nat} (h : n < 18446744073709551616) : (form n).length ≤ 10 := by
 have hr := rd_form n M64 [] h (by unfold M64; omega)
 have := rdG_le10 (by omega) hr
 simpa using this
theorem valN_form {n : Nat} (t : List Nat) (hn : n < 18446744073709551616) : valN (form n ++ t) = n := by
 unfold valN
 rw [List.take_append, List.take_of_length_le (form_len10 hn)]
 have h1 : (128 : Nat) ^ 10 = 1180591620717411303424 := by decide
 have := valF_form 10 n 0 0 (t.take (10 - (form n).length)) (by rw [h1]; omega) (by simpa using hn)
 simpa using this
theorem rd_val (s : List Nat) (hb : By s) : rd M64 s = if (form (valN s)).isPrefixOf s then some (valN s, (form (valN s)).length) else none := by
 cases h : rd M64 s with
 | none =>
  rw [if_neg]
  intro hp
  obtain ⟨t, ht⟩ := List.isPrefixOf_iff_prefix.1 hp
  have := rd_form (valN s) M64 t (valN_lt s) (by have := valN_lt s; unfold M64; omega)
  rw [ht, h] at this
  cases this
 | some r =>
  obtain ⟨n, j⟩ := r
  obtain ⟨h1, h2, h3⟩ := rd_has hb h
  have hs : form n ++ s.drop j = s := by rw [← h1]; exact List.take_append_drop j s
  have hv : valN s = n := by
   have := valN_form (s.drop j) h2
   rw [hs] at this
   exact this
  rw [hv, if_pos (List.isPrefixOf_iff_prefix.2 ⟨_, hs⟩), h3]
theorem rdG_most : ∀ {s : List Nat} {most k a : Nat}, most ≤ M64 → rdG most k a s = match rdG M64 k a s with | none => none | some (v, j) => if v ≤ most then some (v, j) else none
 | [], _, _, _, _ => by simp [rdG]
 | c :: s, most, k, a, hm => by
  rw [rdG, rdG]
  split
  ·rfl
  ·split
   ·exact rdG_most hm
   ·by_cases h0 : 0 < k ∧ c = 0
    ·rw [if_pos (.inl h0), if_pos (.inl h0)]
    ·by_cases h1 : M64 < a + c % 128 * 128 ^ k
     ·rw [if_pos (.inr (by omega)), if_pos (.inr h1)]
     ·rw [if_neg (show ¬((0 < k ∧ c = 0) ∨ M64 < a + c % 128 * 128 ^ k) by rintro (h | h); exact h0 h; exact h1 h)]
      dsimp only
      by_cases h2 : a + c % 128 * 128 ^ k ≤ most
      ·rw [if_pos h2, if_neg (by rintro (h | h); exact h0 h; omega)]
      ·rw [if_neg h2, if_pos (.inr (by omega))]
theorem rd_most (s : List Nat) {most : Nat} (hm : most ≤ M64) : rd most s = match rd M64 s with | none => none | some (v, j) => if v ≤ most then some (v, j) else none := rdG_most hm
end Go.Proofs.YtbbhmhihpdmoiaaGreat.Pk

set_option linter.unusedVariables false
set_option linter.unusedSimpArgs false
namespace Go.Proofs.YtbbhmhihpdmoiaaGreat.Pk
open Go Go.RowKit
set_option maxRecDepth 100000 in
theorem u8_less128 (x : Nat) (h : x < 256) : bits .andNot .u8 (x : Int) 128 = ((x % 128 : Nat) : Int) := by
 have h0 : ∀ x : Fin 256, bits .andNot .u8 ((x.val : Nat) : Int) 128 = ((x.val % 128 : Nat) : Int) := by decide
 exact h0 ⟨x, h⟩
set_option maxRecDepth 100000 in
set_option maxHeartbeats 2000000 in
theorem value_any (o : Option Addr) (c : Nat) (l : List Nat) (w : World) (hby : By l) (hlen : l.length ≤ 1000000000) (hc : l.length ≤ c ∧ c ≤ 9223372036854775807 ∧ (o = none → c = 0)) (hb : Bs w o l) :
  Calls Tryz.prog 138 #[.slice o l.length c] w fun e w' => e = .returned (.int .u64 ((valN l : Nat) : Int)) ∧ w = w' := by
 obtain ⟨hc1, hc2, hc3⟩ := hc
 obtain ⟨s, hs⟩ : ∃ s, l.take 10 = s := ⟨_, rfl⟩
 obtain ⟨N, hN⟩ : ∃ N, s.length = N := ⟨_, rfl⟩
 have hN10 : N ≤ 10 := by rw [← hN, ← hs]; simp; omega
 have hNl : N ≤ l.length := by rw [← hN, ← hs, List.length_take]; omega
 have hmin : min (l.length : Int) 10 = (N : Int) := by rw [← hN, ← hs, List.length_take]; omega
 have hmax : max (N : Int) 0 = (N : Int) := by omega
 have hV : valF 0 0 s = valN l := by unfold valN; rw [hs]
 have hbs := hb.take 10
 rw [hs] at hbs
 have hbsy : By s := by rw [← hs]; exact hby.take 10
 have HBS := Lib.hid hbs
 have HBY := Lib.hid hbsy
 have HN := Lib.hid hN
 have HV := Lib.hid hV
 obtain ⟨V, hVV⟩ : ∃ V, valN l = V := ⟨_, rfl⟩
 rw [hVV] at HV ⊢
 clear hs hN hb hbs hbsy hV hVV hby
 go_enter Tryz.func138, Tryz.ntmps138
 go_wp2_with fail
 go_loopg [3, 12] 10 (fun g s3 s12 wr => ∃ (k n : Nat), g = 10 - k ∧ k ≤ N ∧ s12 = .int .i64 (k : Int) ∧ s3 = .int .u64 (n : Int) ∧ n < 128 ^ k ∧ n < 18446744073709551616 ∧ valF k n (s.drop k) = V ∧ wr = w)
 case atStart => exact ⟨0, 0, rfl, by omega, rfl, rfl, by simp, by omega, HV.out, rfl⟩
 case round =>
  obtain ⟨k, n, hg, hk, rfl, rfl, hn, hn64, hv, rfl⟩ := hrel
  subst hg
  have k0 : (0 : Int) ≤ (k : Int) := by omega
  have HVV := Lib.hid hv
  have HNN := Lib.hid hn
  clear hv hn HV
  by_cases hkN : k < N
  ·have k1 : (k : Int) < (N : Int) := by omega
   have k9 : k ≤ 9 := by omega
   have hkl : k < s.length := by rw [HN.out]; exact hkN
   obtain ⟨b, off, rfl, hcell⟩ := HBS.out k hkl
   obtain ⟨x, hx⟩ : ∃ x, s.getD k 0 = x := ⟨_, rfl⟩
   have hx256 := HBY.out.get k
   have hdrop : s.drop k = x :: s.drop (k + 1) := by
    rw [List.drop_eq_getElem_cons hkl, ← hx]
    simp [List.getD, hkl]
   rw [hx] at hcell hx256
   have HX := HVV.out
   rw [hdrop, valF] at HX
   have HX := Lib.hid HX
   have hand := u8_less128 x hx256
   have hwr : IntKind.u64.wrap ((x : Int) % 128 * 2 ^ (7 * k)) = ((x % 128 * 128 ^ k % 18446744073709551616 : Nat) : Int) := by
    rw [IntKind.wrap_u64, ← pow7]
    simp
   have hor := u64_or_nat n (x % 128 * 128 ^ k % 18446744073709551616) hn64 (by omega)
   rw [or_part HNN.out k9] at hor
   have hp := part64 (c := x) HNN.out k9
   have hp8 : k ≤ 8 → n + x % 128 * 128 ^ k % 18446744073709551616 < 128 ^ (k + 1) := fun h => part_lt HNN.out h
   have HP8 := Lib.hid hp8
   have hmul : IntKind.i64.wrap (7 * (k : Int)) = 7 * (k : Int) := by rw [IntKind.wrap_i64]; omega
   clear hx hdrop HVV hp8
   generalize x % 128 * 128 ^ k % 18446744073709551616 = M at *
   obtain ⟨Y, hY⟩ : ∃ Y, n + M = Y := ⟨_, rfl⟩
   rw [hY] at hor hp HP8 HX
   have HPP := Lib.hid hp
   clear hY hp
   by_cases h128 : x < 128
   ·have t1 : (x : Int) < 128 := by omega
    have hV2 : Y = V := by
     have := HX.out
     rw [if_pos h128] at this
     exact this
    subst hV2
    clear HX HP8
    go_wp2_with fail
    go_ret
    exact ⟨rfl, rfl⟩
   ·have t1 : ¬ (x : Int) < 128 := by omega
    have HV2 : Hid (valF (k + 1) Y (s.drop (k + 1)) = V) := Lib.hid (by
     have := HX.out
     rw [if_neg h128] at this
     exact this)
    have HP9 : Hid (Y < 128 ^ (k + 1)) := Lib.hid (by
     rcases Nat.lt_or_ge k 9 with h | h
     ·exact HP8.out (by omega)
     ·obtain rfl : k = 9 := by omega
      have h10 : (128 : Nat) ^ (9 + 1) = 1180591620717411303424 := by decide
      have := HPP.out
      omega)
    clear HX HP8
    go_wp2_with fail
    go_roundg (10 - (k + 1))
    case measure => omega
    case rel => exact ⟨k + 1, Y, rfl, by omega, by go_num, rfl, HP9.out, HPP.out, HV2.out, rfl⟩
  ·have k1 : ¬ (k : Int) < (N : Int) := by omega
   have hkk : k = s.length := by rw [HN.out]; omega
   have hV2 : n = V := by
    have := HVV.out
    rw [hkk, List.drop_length, valF] at this
    exact this
   subst hV2
   clear HVV hkk
   go_wp2_with fail
   go_ret
   exact ⟨rfl, rfl⟩
end Go.Proofs.YtbbhmhihpdmoiaaGreat.Pk

set_option linter.unusedVariables false
set_option linter.unusedSimpArgs false
namespace Go.Proofs.YtbbhmhihpdmoiaaGreat.Pk
open Go.Proofs.YtbbhmhihpdmoiaaGreat.Fx (Kept heldz_done heldz_region heldz_step heldz_take wpIn_range_jump)
open Go Go.RowKit Go.Shelf
attribute [local go_sem] Oper.semAt_some
structure FS (o : Option Addr) (c : Nat) (l : List Nat) (n k : Nat) (x y : Int) (w W : World) : Prop where
 box : W.heap[w.heap.size]? = some (.cells #[.slice o l.length c] 31 (0, 0))
 r1 : W.heap[w.heap.size + 1]? = some (.cells #[.int .u64 x] 89 (0, 0))
 r2 : W.heap[w.heap.size + 1 + 1]? = some (.cells #[.int .i64 y] 3 (0, 0))
 len : W.heap[w.heap.size + 1 + 1 + 1]? = some (.cells #[.int .i64 (k : Int)] 3 (0, 0))
 frm : W.heap[w.heap.size + 1 + 1 + 1 + 1]? = some (.cells #[.int .u64 (n : Int)] 89 (0, 0))
 below : Below w.heap.size w W
theorem FS.kept {o : Option Addr} {c : Nat} {l : List Nat} {n k B : Nat} {x y : Int} {w W X : World} (hB : w.heap.size ≤ B) (h : Kept B W X) (s : FS o c l n k x y w W) : FS o c l n k x y w X :=
 ⟨h.cells s.box, h.cells s.r1, h.cells s.r2, h.cells s.len, h.cells s.frm, h.below hB s.below⟩
theorem FS.drew {o : Option Addr} {c : Nat} {l : List Nat} {n k : Nat} {x y : Int} {w W : World} (s : FS o c l n k x y w W) : FS o c l n k x y w W.drew := ⟨s.box, s.r1, s.r2, s.len, s.frm, ⟨s.below.os, s.below.tape, s.below.output, s.below.size, s.below.block⟩⟩
theorem FS.facts {o : Option Addr} {c : Nat} {l : List Nat} {n k : Nat} {x y : Int} {w W : World} (s : FS o c l n k x y w W) :
  W.cell? ⟨w.heap.size, 0, none⟩ = some (.slice o l.length c) ∧ W.cell? ⟨w.heap.size + 1, 0, none⟩ = some (.int .u64 x) ∧ W.cell? ⟨w.heap.size + 1 + 1, 0, none⟩ = some (.int .i64 y) ∧ W.cell? ⟨w.heap.size + 1 + 1 + 1, 0, none⟩ = some (.int .i64 (k : Int)) ∧
  W.frozen? ⟨w.heap.size + 1, 0, none⟩ = false ∧ W.frozen? ⟨w.heap.size + 1 + 1, 0, none⟩ = false ∧ W.frozen? ⟨w.heap.size + 1 + 1 + 1, 0, none⟩ = false :=
 ⟨by rw [cell_of_row _ _ _ _ _ _ s.box]; rfl, by rw [cell_of_row _ _ _ _ _ _ s.r1]; rfl, by rw [cell_of_row _ _ _ _ _ _ s.r2]; rfl, by rw [cell_of_row _ _ _ _ _ _ s.len]; rfl, frozen_row s.r1, frozen_row s.r2, frozen_row s.len⟩
theorem FS.reads {o : Option Addr} {c : Nat} {l : List Nat} {n k : Nat} {x y : Int} {w W : World} (s : FS o c l n k x y w W) : FrmM n (w.heap.size + 1 + 1 + 1 + 1) W := by
 unfold FrmM
 rw [cell_of_row _ _ _ _ _ _ s.frm]
 rfl
theorem FS.next {o : Option Addr} {c : Nat} {l : List Nat} {n k : Nat} {x y : Int} {w W : World} (s : FS o c l n k x y w W) (j : Nat) (z : Int) (hz : z = (j : Int)) : FS o c l n j x y w (W.setCell ⟨w.heap.size + 1 + 1 + 1, 0, none⟩ (.int .i64 z)) := by
 subst hz
 exact ⟨by rw [heap_setCell_other _ _ _ _ (by show _ ≠ w.heap.size + 1 + 1 + 1; omega)]; exact s.box, by rw [heap_setCell_other _ _ _ _ (by show _ ≠ w.heap.size + 1 + 1 + 1; omega)]; exact s.r1, by rw [heap_setCell_other _ _ _ _ (by show _ ≠ w.heap.size + 1 + 1 + 1; omega)]; exact s.r2,
  heap_setCell_same _ _ 0 _ _ _ s.len, by rw [heap_setCell_other _ _ _ _ (by show _ ≠ w.heap.size + 1 + 1 + 1; omega)]; exact s.frm, s.below.setCell (p := ⟨w.heap.size + 1 + 1 + 1, 0, none⟩) (by show _ ≤ w.heap.size + 1 + 1 + 1; omega) _⟩
theorem FS.put {o : Option Addr} {c : Nat} {l : List Nat} {n k : Nat} {x y x2 y2 : Int} {w W : World} (s : FS o c l n k x y w W) : FS o c l n k x2 y2 w ((W.setCell ⟨w.heap.size + 1, 0, none⟩ (.int .u64 x2)).setCell ⟨w.heap.size + 1 + 1, 0, none⟩ (.int .i64 y2)) := by
 have a1 := heap_setCell_same W _ 0 _ _ (.int .u64 x2) s.r1
 have o1 : ∀ {g : Nat} {ob : Obj}, g ≠ w.heap.size + 1 → g ≠ w.heap.size + 1 + 1 → W.heap[g]? = some ob → ((W.setCell ⟨w.heap.size + 1, 0, none⟩ (.int .u64 x2)).setCell ⟨w.heap.size + 1 + 1, 0, none⟩ (.int .i64 y2)).heap[g]? = some ob := fun h1 h2 h => by
  rw [heap_setCell_other _ _ _ _ h2, heap_setCell_other _ _ _ _ h1]
  exact h
 refine ⟨o1 (by omega) (by omega) s.box, ?_, ?_, o1 (by omega) (by omega) s.len, o1 (by omega) (by omega) s.frm, (s.below.setCell (p := ⟨w.heap.size + 1, 0, none⟩) (by show _ ≤ w.heap.size + 1; omega) _).setCell (p := ⟨w.heap.size + 1 + 1, 0, none⟩) (by show _ ≤ w.heap.size + 1 + 1; omega) _⟩
 ·rw [heap_setCell_other _ _ _ _ (by show _ ≠ w.heap.size + 1 + 1; omega)]
  exact a1
 ·have a2 : (W.setCell ⟨w.heap.size + 1, 0, none⟩ (.int .u64 x2)).heap[w.heap.size + 1 + 1]? = some (.cells #[.int .i64 y] 3 (0, 0)) := by
   rw [heap_setCell_other _ _ _ _ (by show _ ≠ w.heap.size + 1; omega)]
   exact s.r2
  exact heap_setCell_same _ _ 0 _ _ (.int .i64 y2) a2
def FI (o : Option Addr) (c : Nat) (l : List Nat) (n : Nat) (w : World) (k : Nat) (W : World) : Prop := FS o c l n k 0 0 w W ∧ k ≤ l.length ∧ l.take k = (form n).take k
def FX (o : Option Addr) (c : Nat) (l : List Nat) (n : Nat) (w : World) (W : World) : Prop := (∃ k, FS o c l n k 0 0 w W) ∧ (form n).isPrefixOf l = false
def FA (o : Option Addr) (c : Nat) (l : List Nat) (n : Nat) (w : World) (k : Nat) (a : Act) : Prop :=
 a = { tmps := #[.slice o l.length c, .pointer (some ⟨w.heap.size, 0, none⟩), .pointer (some ⟨w.heap.size + 1, 0, none⟩), .pointer (some ⟨w.heap.size + 1 + 1, 0, none⟩), .int .u64 (n : Int), .pointer (some ⟨w.heap.size + 1 + 1 + 1, 0, none⟩), .int .u8 (((form n).getD k 0 : Nat) : Int),
  .slice o l.length c, .int .u64 (n : Int), .int .u64 (n : Int), .func (.func 139) #[] #[.pointer (some ⟨w.heap.size + 1 + 1 + 1 + 1, 0, none⟩)], .int .u8 (((form n).getD k 0 : Nat) : Int), undef, undef, undef, undef, undef, undef, undef, undef, undef, undef, undef, undef, undef, undef, undef, undef], defers := [] }
theorem pre_all {l m : List Nat} {k : Nat} (hk : k = m.length) (h : l.take k = m.take k) : m.isPrefixOf l = true := by
 subst hk
 rw [List.take_length] at h
 exact List.isPrefixOf_iff_prefix.2 ⟨l.drop m.length, by
  have := List.take_append_drop m.length l
  rw [h] at this
  exact this⟩
theorem pre_short {l m : List Nat} {k : Nat} (hk : k < m.length) (h : k = l.length) : m.isPrefixOf l = false := by
 rw [Bool.eq_false_iff]
 intro hp
 have := (List.isPrefixOf_iff_prefix.1 hp).length_le
 omega
theorem pre_ne {l m : List Nat} {k : Nat} (hk : k < m.length) (hl : k < l.length) (h : l.getD k 0 ≠ m.getD k 0) : m.isPrefixOf l = false := by
 rw [Bool.eq_false_iff]
 intro hp
 obtain ⟨t, rfl⟩ := List.isPrefixOf_iff_prefix.1 hp
 apply h
 simp [List.getD, List.getElem?_append_left hk]
theorem take_eq {l m : List Nat} {k : Nat} (hk : k < m.length) (hl : k < l.length) (h : l.getD k 0 = m.getD k 0) (ht : l.take k = m.take k) : l.take (k + 1) = m.take (k + 1) := by
 rw [take_get hk, take_get hl, h, ht]
def fsV (r : Option (Nat × Nat)) : Value := .tuple #[.int .u64 ((upV r : Nat) : Int), .int .i64 (((r.map (·.2)).getD 0 : Nat) : Int)]
def FirstPost (l : List Nat) (w : World) (e : Ending) (w' : World) : Prop := e = .returned (fsV (rd M64 l)) ∧ Below w.heap.size w w'
set_option maxRecDepth 100000 in
set_option maxHeartbeats 4000000 in
theorem first_any (o : Option Addr) (c : Nat) (l : List Nat) (w : World) (hby : By l) (hlen : l.length ≤ 1000000000) (hc : l.length ≤ c ∧ c ≤ 9223372036854775807 ∧ (o = none → c = 0)) (hb : Bs w o l) :
  Calls Tryz.prog 114 #[.slice o l.length c] w (FirstPost l w) := by
 have hrd := rd_val l hby
 obtain ⟨n, hn⟩ : ∃ n, valN l = n := ⟨_, rfl⟩
 have hn64 : n < 18446744073709551616 := by rw [← hn]; exact valN_lt l
 have HVAL : Hid (∀ W : World, Below w.heap.size w W → Calls Tryz.prog 138 #[.slice o l.length c] W fun e w' => e = .returned (.int .u64 (n : Int)) ∧ W = w') := Lib.hid (fun W h => by
  have := value_any o c l W hby hlen hc (hb.below h)
  rw [hn] at this
  exact this)
 rw [hn] at hrd
 have HRD := Lib.hid hrd
 have HBS := Lib.hid hb
 have HBY := Lib.hid hby
 have HLEN := Lib.hid hlen
 clear hrd hn hb hby hlen hc
 obtain ⟨W1, hW1⟩ : ∃ W1, ((w.alloc (.cells #[.slice o l.length c] 31)).alloc (.cells #[.int .u64 0] 89)).alloc (.cells #[.int .i64 0] 3) = W1 := ⟨_, rfl⟩
 have b1 : Below w.heap.size w W1 := by rw [← hW1]; exact (((Below.refl _ w).alloc (Nat.le_refl _) _).alloc (by simp) _).alloc (by simp; omega) _
 have HV := Lib.hid (HVAL.out W1 b1)
 obtain ⟨W0, hW0⟩ : ∃ W0, (W1.alloc (.cells #[.int .i64 0] 3)).alloc (.cells #[.int .u64 (n : Int)] 89) = W0 := ⟨_, rfl⟩
 have hs1 : W1.heap.size = w.heap.size + 1 + 1 + 1 := by rw [← hW1]; simp
 have h12 : Below W1.heap.size W1 W0 := by rw [← hW0]; exact ((Below.refl _ W1).alloc (Nat.le_refl _) _).alloc (by simp) _
 have F0 : FS o c l n 0 0 0 w W0 := by
  obtain ⟨x1, x2, x3⟩ := block3s w (.cells #[.slice o l.length c] 31) (.cells #[.int .u64 0] 89) (.cells #[.int .i64 0] 3)
  rw [hW1] at x1 x2 x3
  refine ⟨keep_row h12 x1, keep_row h12 x2, keep_row h12 x3, ?_, ?_, bnext b1 h12⟩
  ·rw [← hW0, ← hs1]
   exact step_row (heap_alloc_new _ _)
  ·rw [← hW0, ← hs1]
   have := heap_alloc_new (W1.alloc (.cells #[.int .i64 0] 3)) (.cells #[.int .u64 (n : Int)] 89)
   rw [World.size_alloc] at this
   exact this
 have HF0 : Hid (FI o c l n w 0 W0) := Lib.hid ⟨F0, Nat.zero_le _, rfl⟩
 have HS0 : Hid (W0.heap.size = w.heap.size + 5) := Lib.hid (by rw [← hW0]; simp [hs1])
 have HW1 := Lib.hid hW1
 have HW0 := Lib.hid hW0
 clear F0 h12 b1 HVAL hW1 hW0
 refine (callsIn_wide (n := 5)).1 ?_
 refine callsIn_of_wp_marks Tryz.func114 rfl trivial ?_ rfl
 simp only [Tryz.ntmps114, List.size_toArray, List.length_cons, List.length_nil, Nat.reduceAdd, Nat.reduceSub, Array.replicate_succ, Array.replicate_zero, List.push_toArray, List.append_toArray, List.nil_append, List.cons_append]
 refine wpIn_wide.2 ?_
 go_wp2_with fail
 rw [HW1.out]
 refine HV.out.mono ?_
 rintro e w1 ⟨rfl, rfl⟩
 clear HV
 go_wp2_with fail
 refine (form_w _ _).mono ?_
 rintro e w' ⟨rfl, rfl⟩
 go_wp2_with fail
 rw [HW0.out]
 refine wpIn_wide.1 (wpIn_range_jump (F := Fence.wide) (n := 5) rfl (by omega) (gf := 139) (lb := #[.pointer (some ⟨w.heap.size + 1 + 1 + 1 + 1, 0, none⟩)]) rfl trivial (enters_of Tryz.func139 (by kernel_rfl) rfl)
  (form_hands n (w.heap.size + 1 + 1 + 1 + 1) hn64) (fun _ => rfl) .ret (FI o c l n w) (FX o c l n w) (fun j a' W => FA o c l n w j a' ∧ FI o c l n w j W)
  ?i1 ?i2 ?i3 ?i4 ?i5 HF0.out ?assign ?body ?done ?stop)
 case i1 => rintro j W X ⟨h1, h2⟩ hk; exact ⟨h1.kept (by have := HS0.out; omega) hk, h2⟩
 case i2 => rintro W X ⟨⟨k, h1⟩, h2⟩ hk; exact ⟨⟨k, h1.kept (by have := HS0.out; omega) hk⟩, h2⟩
 case i3 => rintro j a W X ⟨h0, h1, h2⟩ hk; exact ⟨h0, h1.kept (by have := HS0.out; omega) hk, h2⟩
 case i4 => rintro j W h4; exact h4.1.reads
 case i5 => rintro W ⟨⟨k, h⟩, _⟩; exact h.reads
 case assign =>
  intro l1 j W C hk hI hC
  obtain ⟨x, hx⟩ : ∃ x, (form n).getD j 0 = x := ⟨_, rfl⟩
  simp only [frmElem]
  rw [hx]
  have HX := Lib.hid hx
  clear hx
  gi_wp2
  exact hC _ _ (KeepsFrom.refl _ _) ⟨by unfold FA; rw [HX.out], hI⟩
 case body =>
  rintro l1 j a' W hk ⟨ha, fs, hjl, htk⟩
  unfold FA at ha
  subst ha
  obtain ⟨y, hy⟩ : ∃ y, (form n).getD j 0 = y := ⟨_, rfl⟩
  rw [hy]
  obtain ⟨c0, c1, c2, c3, f1, f2, f3⟩ := fs.facts
  have HK := Lib.hid hk
  have HY := Lib.hid hy
  have HT := Lib.hid htk
  have HS := Lib.hid fs
  have HB := Lib.hid (HBS.out.below fs.below)
  have hl9 := HLEN.out
  clear hk hy htk fs
  have j0 : (0 : Int) ≤ (j : Int) := by omega
  by_cases hj : j = l.length
  ·have t1 : (j : Int) = (l.length : Int) := by omega
   have HE : Hid (FX o c l n w ((W.setCell ⟨w.heap.size + 1, 0, none⟩ (.int .u64 0)).setCell ⟨w.heap.size + 1 + 1, 0, none⟩ (.int .i64 0))) := Lib.hid ⟨⟨j, HS.out.put⟩, pre_short HK.out hj⟩
   have HKF : Hid (KeepsFrom W0.heap.size W ((W.setCell ⟨w.heap.size + 1, 0, none⟩ (.int .u64 0)).setCell ⟨w.heap.size + 1 + 1, 0, none⟩ (.int .i64 0))) := Lib.hid (((KeepsOthers.setCell _ _ _).trans (KeepsOthers.setCell _ _ _)).from _)
   clear hj HS HB
   gi_wp2
   exact ⟨rfl, HKF.out, HE.out⟩
  ·have hj2 : j < l.length := by omega
   have t1 : ¬ (j : Int) = (l.length : Int) := by omega
   have t2 : (j : Int) < (l.length : Int) := by omega
   obtain ⟨b, off, rfl, hcell⟩ := HB.out j hj2
   obtain ⟨x, hx⟩ : ∃ x, l.getD j 0 = x := ⟨_, rfl⟩
   rw [hx] at hcell
   have HX := Lib.hid hx
   clear hx
   by_cases hxy : x = y
   ·subst hxy
    have HE : Hid (∀ z : Int, z = ((j + 1 : Nat) : Int) → FI (some ⟨b, off, none⟩) c l n w (j + 1) (W.setCell ⟨w.heap.size + 1 + 1 + 1, 0, none⟩ (.int .i64 z))) := Lib.hid (fun z hz => ⟨HS.out.next (j + 1) z hz, by omega, take_eq HK.out hj2 (by rw [HX.out, HY.out]) HT.out⟩)
    have hw : IntKind.i64.wrap ((j : Int) + 1) = (j : Int) + 1 := by rw [IntKind.wrap_i64]; omega
    clear HS HB hj
    gi_wp2
    exact ⟨(KeepsOthers.setCell _ _ _).from _, HE.out _ (by omega)⟩
   ·have hxy2 : ¬ (x : Int) = (y : Int) := by omega
    have hne : ((x : Int) != (y : Int)) = true := by simpa using hxy2
    have hbq : ((j : Int) == (l.length : Int)) = false := by simpa using t1
    have HE : Hid (FX (some ⟨b, off, none⟩) c l n w ((W.setCell ⟨w.heap.size + 1, 0, none⟩ (.int .u64 0)).setCell ⟨w.heap.size + 1 + 1, 0, none⟩ (.int .i64 0))) := Lib.hid ⟨⟨j, HS.out.put⟩, pre_ne HK.out hj2 (by rw [HX.out, HY.out]; exact hxy)⟩
    have HKF : Hid (KeepsFrom W0.heap.size W ((W.setCell ⟨w.heap.size + 1, 0, none⟩ (.int .u64 0)).setCell ⟨w.heap.size + 1 + 1, 0, none⟩ (.int .i64 0))) := Lib.hid (((KeepsOthers.setCell _ _ _).trans (KeepsOthers.setCell _ _ _)).from _)
    clear hj HS HB
    gi_wp2
    exact ⟨rfl, HKF.out, HE.out⟩
 case done =>
  rintro D W hD ⟨fs, hjl, htk⟩ hdef
  have hr : rd M64 l = some (n, (form n).length) := by rw [HRD.out, if_pos (pre_all rfl htk)]
  obtain ⟨L, hL⟩ : ∃ L, (form n).length = L := ⟨_, rfl⟩
  rw [hL] at fs hr
  obtain ⟨c0, c1, c2, c3, f1, f2, f3⟩ := fs.facts
  have HS := Lib.hid fs
  have HR := Lib.hid hr
  have HDD : Hid (w.heap.size + 5 ≤ D) := Lib.hid (by have := HS0.out; omega)
  clear fs hjl htk hr hL hD
  go_wp2_with fail
  refine wp_region_noPanic ?_
  refine (wpIn_wide (n := 5)).1 ?_
  refine heldz_region (S := fun X => X.cell? ⟨w.heap.size + 1 + 1 + 1, 0, none⟩ = some (.int .i64 (L : Int))) (Z := []) (by kernel_rfl) ?_
  refine heldz_take (fun _ => trivial) [] 0 (?_) (by kernel_rfl) rfl (by kernel_rfl) (fun _ _ _ h => h) c3 (by kernel_rfl) ?_ ?_
  rotate_left
  ·intro wz hSw; (first | (go_simp; done) | (go_simp; with_reducible rfl))
  (try simp only [Act.put, List.getElem_toArray, List.getElem_cons_zero, List.getElem_cons_succ, List.setIfInBounds_toArray, List.set_cons_zero, List.set_cons_succ])
  refine heldz_take (fun _ => trivial) [] 1 (.int .i64 (L : Int)) (by kernel_rfl) rfl (by kernel_rfl) (fun _ _ _ h => h) c3 (by kernel_rfl) ?_ ?_
  ·intro wz hSw; (first | (go_simp; done) | (go_simp; with_reducible rfl))
  (try simp only [Act.put, List.getElem_toArray, List.getElem_cons_zero, List.getElem_cons_succ, List.setIfInBounds_toArray, List.set_cons_zero, List.set_cons_succ])
  refine heldz_step (fun _ => trivial) 2 (by kernel_rfl) rfl (fun K hK => ?_)
  go_simp
  refine hK.out _ _ (fun _ => by simp [go_sem, *]) ?_
  clear hK K
  (try simp only [Act.put, List.getElem_toArray, List.getElem_cons_zero, List.getElem_cons_succ, List.setIfInBounds_toArray, List.set_cons_zero, List.set_cons_succ])
  refine heldz_step (fun _ => trivial) 3 (by kernel_rfl) rfl (fun K hK => ?_)
  go_simp
  refine hK.out _ _ (fun _ => by simp [go_sem, *]) ?_
  clear hK K
  (try simp only [Act.put, List.getElem_toArray, List.getElem_cons_zero, List.getElem_cons_succ, List.setIfInBounds_toArray, List.set_cons_zero, List.set_cons_succ])
  refine heldz_done (by kernel_rfl) ?_ _
  refine NoPanic.normal ?_
  go_wp2_with fail
  have hdf : (((W.setCell ⟨w.heap.size + 1, 0, none⟩ (.int .u64 (n : Int))).setCell ⟨w.heap.size + 1 + 1, 0, none⟩ (.int .i64 (L : Int))).drew).heap[D]? = some (.deferred (some [])) := (((KeepsOthers.setCell W ⟨w.heap.size + 1, 0, none⟩ (.int .u64 (n : Int))).trans (KeepsOthers.setCell _ ⟨w.heap.size + 1 + 1, 0, none⟩ (.int .i64 (L : Int)))).same D _ hdef rfl)
  have fs2 := ((HS.out.put (x2 := (n : Int)) (y2 := (L : Int))).drew).kept (B := w.heap.size) (Nat.le_refl _) (Kept.putObj (.deferred none) (by have := HDD.out; omega) hdf rfl)
  refine ⟨by simp, .inl ⟨_, _, rfl, run_takeDeferred hdf, ?_⟩⟩
  have hv : fsV (rd M64 l) = .tuple #[.int .u64 (n : Int), .int .i64 (L : Int)] := by rw [HR.out]; rfl
  generalize ((((W.setCell ⟨w.heap.size + 1, 0, none⟩ (.int .u64 (n : Int))).setCell ⟨w.heap.size + 1 + 1, 0, none⟩ (.int .i64 (L : Int))).drew).putObj D (.deferred none)) = Y at fs2 ⊢
  obtain ⟨_, d1, d2, _, _, _, _⟩ := fs2.facts
  have HBL := Lib.hid fs2.below
  clear fs2 hdf hdef c0 c1 c2 c3 f1 f2 f3
  refine ⟨.tuple #[.int .u64 (n : Int), .int .i64 (L : Int)], ?_, by rw [hv], HBL.out⟩
  clear hv
  simp [results, Tryz.results114, go_sem, *]
 case stop =>
  rintro D W hD ⟨⟨k, fs⟩, hpre⟩ hdef
  have hr : rd M64 l = none := by rw [HRD.out, hpre]; rfl
  have HR := Lib.hid hr
  have HS := Lib.hid fs
  have HDD : Hid (w.heap.size + 5 ≤ D) := Lib.hid (by have := HS0.out; omega)
  clear fs hr hpre hD
  refine wpIn_wide.2 ?_
  go_wp2_with fail
  have fs2 := HS.out.kept (B := w.heap.size) (Nat.le_refl _) (Kept.putObj (.deferred none) (by have := HDD.out; omega) hdef rfl)
  refine ⟨by simp, .inl ⟨_, _, rfl, run_takeDeferred hdef, ?_⟩⟩
  have hv : fsV (rd M64 l) = .tuple #[.int .u64 0, .int .i64 0] := by rw [HR.out]; rfl
  generalize W.putObj D (.deferred none) = Y at fs2 ⊢
  obtain ⟨_, d1, d2, _, _, _, _⟩ := fs2.facts
  have HBL := Lib.hid fs2.below
  clear fs2 hdef
  refine ⟨.tuple #[.int .u64 0, .int .i64 0], ?_, by rw [hv], HBL.out⟩
  clear hv
  simp [results, Tryz.results114, go_sem, *]
end Go.Proofs.YtbbhmhihpdmoiaaGreat.Pk
