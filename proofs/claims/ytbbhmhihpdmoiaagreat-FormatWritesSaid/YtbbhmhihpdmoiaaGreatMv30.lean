import Derived.Laws.Rows
import Derived.Test.YtbbhmhihpdmoiaaGreatProg
import Derived.Lib.SlBytesRow
import Derived.Laws.ShiftsVar
import Derived.Shelf.Abstract
import Derived.Shelf.RegionOpen
import Derived.OwnWalkIn
import Derived.TacticsInMore
import Derived.LoopNIn
import Derived.LoopIn
import Derived.WalkMore
import Derived.Deep.RegionHeld3
import Derived.WalkKit
import Derived.ProofKit
import Derived.OpenShut
import Derived.Carry
import Derived.Deep.Slices
import Derived.Lib.SmallJoins
import Derived.Test.YtbbhmhihpdmoiaaGreatMv00
import Derived.Test.YtbbhmhihpdmoiaaGreatMv01
import Derived.Test.YtbbhmhihpdmoiaaGreatMv17
import Derived.Test.YtbbhmhihpdmoiaaGreatMv28
import Derived.Test.YtbbhmhihpdmoiaaGreatMv29
set_option linter.unusedVariables false
set_option linter.unusedSimpArgs false
namespace Go.Proofs.YtbbhmhihpdmoiaaGreat.Pk
open Go.Proofs.YtbbhmhihpdmoiaaGreat.Fx (below_mono give_done give_pure give_region)
open Go Go.RowKit
def rdG (most : Nat) : Nat → Nat → List Nat → Option (Nat × Nat)
 | _, _, [] => none
 | k, n, c :: s => if k = 9 ∧ 1 < c then none else if 128 ≤ c then rdG most (k + 1) (n + c % 128 * 128 ^ k) s else if (0 < k ∧ c = 0) ∨ most < n + c % 128 * 128 ^ k then none else some (n + c % 128 * 128 ^ k, k + 1)
def rd (most : Nat) (s : List Nat) : Option (Nat × Nat) := rdG most 0 0 s
def upV (r : Option (Nat × Nat)) : Nat := match r with | some (n, _) => n | none => 0
def upA (r : Option (Nat × Nat)) (at0 : Nat) : Nat := match r with | some (_, j) => at0 + j | none => at0
def upB (r : Option (Nat × Nat)) : Bool := r.isNone
structure ZR (o : Option Addr) (c : Nat) (l : List Nat) (p at0 : Nat) (lost : Bool) (W : World) : Prop where
 row : W.heap[p]? = some (.cells #[.slice o l.length c, .int .i64 (at0 : Int), .bool lost] 106 (0, 0))
 bs : Bs W o l
theorem ZR.below {o : Option Addr} {c : Nat} {l : List Nat} {p at0 : Nat} {lost : Bool} {W X : World} (h : ZR o c l p at0 lost W) (hb : Below W.heap.size W X) : ZR o c l p at0 lost X := ⟨keep_row hb h.row, h.bs.below hb⟩
theorem ZR.facts {o : Option Addr} {c : Nat} {l : List Nat} {p at0 : Nat} {lost : Bool} {W : World} (h : ZR o c l p at0 lost W) :
  W.cell? ⟨p, 0, none⟩ = some (.slice o l.length c) ∧ W.cell? ⟨p, 1, none⟩ = some (.int .i64 (at0 : Int)) ∧ W.cell? ⟨p, 2, none⟩ = some (.bool lost) ∧ W.frozen? ⟨p, 1, none⟩ = false ∧ W.frozen? ⟨p, 2, none⟩ = false :=
 ⟨by rw [cell_of_row _ _ _ _ _ _ h.row]; rfl, by rw [cell_of_row _ _ _ _ _ _ h.row]; rfl, by rw [cell_of_row _ _ _ _ _ _ h.row]; rfl, frozen_row h.row, frozen_row h.row⟩
theorem ZR.lt {o : Option Addr} {c : Nat} {l : List Nat} {p at0 : Nat} {lost : Bool} {W : World} (h : ZR o c l p at0 lost W) : p < W.heap.size := (Array.getElem?_eq_some_iff.1 h.row).1
theorem ZR.apart {o : Option Addr} {c : Nat} {l : List Nat} {p at0 : Nat} {lost : Bool} {W : World} (h : ZR o c l p at0 lost W) : ∀ b off, o = some ⟨b, off, none⟩ → 0 < l.length → b ≠ p := by
 rintro b off e hm rfl
 obtain ⟨b', off', e', hc⟩ := h.bs 0 hm
 rw [e] at e'
 cases e'
 rw [cell_of_row _ _ _ _ _ _ h.row] at hc
 obtain h0 | h0 | h0 | h0 : off + 0 = 0 ∨ off + 0 = 1 ∨ off + 0 = 2 ∨ 3 ≤ off + 0 := by omega
 ·rw [h0] at hc
  simp at hc
 ·rw [h0] at hc
  simp at hc
 ·rw [h0] at hc
  simp at hc
 ·rw [Array.getElem?_eq_none (by simpa using h0)] at hc
  cases hc
theorem ZR.put1 {o : Option Addr} {c : Nat} {l : List Nat} {p at0 : Nat} {lost : Bool} {W : World} (h : ZR o c l p at0 lost W) (a : Nat) : ZR o c l p a lost (W.setCell ⟨p, 1, none⟩ (.int .i64 (a : Int))) :=
 ⟨heap_setCell_same _ _ 1 _ _ (.int .i64 (a : Int)) h.row, h.bs.set _ h.apart⟩
theorem ZR.put2 {o : Option Addr} {c : Nat} {l : List Nat} {p at0 : Nat} {lost : Bool} {W : World} (h : ZR o c l p at0 lost W) (b : Bool) : ZR o c l p at0 b (W.setCell ⟨p, 2, none⟩ (.bool b)) :=
 ⟨heap_setCell_same _ _ 2 _ _ (.bool b) h.row, h.bs.set _ h.apart⟩
end Go.Proofs.YtbbhmhihpdmoiaaGreat.Pk

set_option linter.unusedVariables false
set_option linter.unusedSimpArgs false
namespace Go.Proofs.YtbbhmhihpdmoiaaGreat.Pk
open Go Go.RowKit
theorem rdG_le {most : Nat} : ∀ {s : List Nat} {k n a j : Nat}, rdG most k n s = some (a, j) → a ≤ most ∧ k < j ∧ j ≤ k + s.length
 | [], _, _, _, _, h => by simp [rdG] at h
 | c :: s, k, n, a, j, h => by
  rw [rdG] at h
  split at h
  ·cases h
  ·split at h
   ·have := rdG_le h
    simp
    omega
   ·split at h
    ·cases h
    ·cases h
     simp
     omega
theorem rd_le {most : Nat} {s : List Nat} {a j : Nat} (h : rd most s = some (a, j)) : a ≤ most ∧ 0 < j ∧ j ≤ s.length := by
 have := rdG_le h
 omega
def rq (lost : Bool) (most : Nat) (s : List Nat) : Option (Nat × Nat) := if lost = true then none else rd most s
structure RdOk (l : List Nat) (at0 : Nat) : Prop where
 by' : By l
 len : l.length ≤ 1000000000
 at' : at0 ≤ l.length
def unf (n : Nat) : Int := if n % 2 = 0 then ((n / 2 : Nat) : Int) else -((n / 2 : Nat) : Int) - 1
end Go.Proofs.YtbbhmhihpdmoiaaGreat.Pk

set_option linter.unusedVariables false
set_option linter.unusedSimpArgs false
namespace Go.Proofs.YtbbhmhihpdmoiaaGreat.Pk
open Go.Proofs.YtbbhmhihpdmoiaaGreat.Fx (below_mono give_done give_no give_pure give_region)
open Go Go.RowKit
end Go.Proofs.YtbbhmhihpdmoiaaGreat.Pk

set_option linter.unusedVariables false
set_option linter.unusedSimpArgs false
namespace Go.Proofs.YtbbhmhihpdmoiaaGreat.Pk
open Go Go.RowKit
def cutA (o : Option Addr) (c l : Nat) : Option Addr := o.map fun a => if c = l then a else ⟨a.block, a.off + l, none⟩
theorem Bs.cut {W : World} {o : Option Addr} {m : List Nat} {c l h : Nat} (hb : Bs W o m) (hl : l ≤ h) (hh : h ≤ m.length) (hc : m.length ≤ c) : Bs W (cutA o c l) ((m.drop l).take (h - l)) := fun j hj => by
 have hj1 : j < h - l := by simp at hj; omega
 obtain ⟨b, off, e, hcell⟩ := hb (l + j) (by omega)
 subst e
 refine ⟨b, off + l, ?_, ?_⟩
 ·unfold cutA
  simp only [Option.map_some]
  rw [if_neg (by omega)]
 ·rw [show off + l + j = off + (l + j) by omega, hcell]
  congr 3
  simp [List.getD, List.getElem?_take, List.getElem?_drop, hj1]
end Go.Proofs.YtbbhmhihpdmoiaaGreat.Pk

set_option linter.unusedVariables false
namespace Go.Proofs.YtbbhmhihpdmoiaaGreat.Pk
open Go Go.RowKit
theorem pow_k {k : Nat} (h : k ≤ 8) : (2 : Nat) ^ (64 - 7 * k) = 128 * 2 ^ (64 - 7 * (k + 1)) := pow_cut k (by omega)
theorem rdG_form : ∀ (f m most k a : Nat) (t : List Nat), m < 128 ^ f → m < 2 ^ (64 - 7 * k) → k ≤ 9 → (k = 0 ∨ m ≠ 0) → a + m * 128 ^ k ≤ most → rdG most k a (form m ++ t) = some (a + m * 128 ^ k, k + (form m).length)
 | 0, m, most, k, a, t, hf, hm, hk, h0, hle => by
  have hm0 : m = 0 := by simpa using hf
  subst hm0
  have hk0 : k = 0 := by rcases h0 with h | h; · exact h
                         ·exact absurd rfl h
  subst hk0
  rw [form_small (by omega)]
  simp [rdG]
  simpa using hle
 | f + 1, m, most, k, a, t, hf, hm, hk, h0, hle => by
  by_cases h128 : m < 128
  ·rw [form_small h128]
   have h9 : ¬ (k = 9 ∧ 1 < m) := by
    rintro ⟨rfl, h1⟩
    simp at hm
    omega
   have hmod : m % 128 = m := Nat.mod_eq_of_lt h128
   simp only [List.cons_append, List.nil_append, rdG]
   rw [if_neg h9, if_neg (by omega), if_neg (by rw [hmod]; rintro (⟨h1, h2⟩ | h1) <;> omega), hmod]
   simp
  ·have hk8 : k ≤ 8 := by
    rcases Nat.lt_or_ge k 9 with h | h
    ·omega
    ·have e : k = 9 := by omega
     subst e
     simp at hm
     omega
   have hm64 : m < 18446744073709551616 := by
    have h1 : (2 : Nat) ^ (64 - 7 * k) ≤ 2 ^ 64 := Nat.pow_le_pow_right (by omega) (by omega)
    have h2 : (2 : Nat) ^ 64 = 18446744073709551616 := by decide
    omega
   rw [form_big h128 hm64]
   have hc : (128 + m % 128) % 128 = m % 128 := by omega
   have hsum : a + m % 128 * 128 ^ k + m / 128 * 128 ^ (k + 1) = a + m * 128 ^ k := by
    rw [Nat.pow_succ]
    have e : m = m % 128 + 128 * (m / 128) := by omega
    have : m * 128 ^ k = (m % 128 + 128 * (m / 128)) * 128 ^ k := by rw [← e]
    rw [this, Nat.add_mul, Nat.add_assoc]
    congr 2
    rw [Nat.mul_comm (128 ^ k) 128, ← Nat.mul_assoc, Nat.mul_comm (m / 128) 128]
   simp only [List.cons_append, rdG]
   rw [if_neg (by omega), if_pos (by omega), hc, rdG_form f (m / 128) most (k + 1) _ t (by rw [Nat.pow_succ] at hf; omega) (by rw [pow_k hk8] at hm; exact Nat.div_lt_of_lt_mul hm) (by omega) (Or.inr (by omega)) (by rw [hsum]; exact hle), hsum]
   simp
   omega
theorem rd_form (n most : Nat) (t : List Nat) (hn : n < 18446744073709551616) (hm : n ≤ most) : rd most (form n ++ t) = some (n, (form n).length) := by
 have h1 : (128 : Nat) ^ 10 = 1180591620717411303424 := by decide
 have h2 : (2 : Nat) ^ (64 - 7 * 0) = 18446744073709551616 := by decide
 have := rdG_form 10 n most 0 0 t (by rw [h1]; omega) (by rw [h2]; exact hn) (by omega) (Or.inl rfl) (by simpa using hm)
 unfold rd
 rw [this]
 simp
theorem rdG_has : ∀ {s : List Nat} {most k a v j : Nat}, By s → k ≤ 9 → rdG most k a s = some (v, j) → ∃ m, v = a + m * 128 ^ k ∧ s.take (j - k) = form m ∧ m < 2 ^ (64 - 7 * k) ∧ (k = 0 ∨ m ≠ 0) ∧ k < j
 | [], _, _, _, _, _, _, _, h => by simp [rdG] at h
 | c :: s, most, k, a, v, j, hb, hk, h => by
  have hc : c < 256 := hb c (by simp)
  rw [rdG] at h
  split at h
  ·cases h
  ·rename_i h9
   split at h
   ·rename_i h128
    have hk8 : k ≤ 8 := by omega
    obtain ⟨m, hv, ht, hm, h0, hlt⟩ := rdG_has (fun x hx => hb x (by simp [hx])) (by omega) h
    have hm0 : m ≠ 0 := by rcases h0 with h | h; · omega
                           ·exact h
    have hm1 : c % 128 + 128 * m < 2 ^ (64 - 7 * k) := by rw [pow_k hk8]; omega
    refine ⟨c % 128 + 128 * m, ?_, ?_, hm1, Or.inr (by omega), by omega⟩
    ·rw [hv, Nat.pow_succ, Nat.add_mul, Nat.add_assoc]
     congr 2
     rw [Nat.mul_comm (128 ^ k) 128, ← Nat.mul_assoc, Nat.mul_comm m 128]
    ·have hm64 : c % 128 + 128 * m < 18446744073709551616 := by
      have h1 : (2 : Nat) ^ (64 - 7 * k) ≤ 2 ^ 64 := Nat.pow_le_pow_right (by omega) (by omega)
      have h2 : (2 : Nat) ^ 64 = 18446744073709551616 := by decide
      omega
     rw [form_big (by omega) hm64, show j - k = (j - (k + 1)) + 1 by omega, List.take_succ_cons, ht]
     congr 1
     ·omega
     ·congr 1
      omega
   ·rename_i h128
    split at h
    ·cases h
    ·rename_i hz
     cases h
     refine ⟨c, by rw [Nat.mod_eq_of_lt (by omega)], ?_, ?_, by omega, by omega⟩
     ·rw [show k + 1 - k = 1 by omega, form_small (by omega)]
      simp
     ·rcases Nat.lt_or_ge k 9 with h | h
      ·have : (2 : Nat) ^ 8 ≤ 2 ^ (64 - 7 * k) := Nat.pow_le_pow_right (by omega) (by omega)
       omega
      ·have e : k = 9 := by omega
       subst e
       simp
       omega
theorem rd_has {s : List Nat} {most n j : Nat} (hb : By s) (h : rd most s = some (n, j)) : s.take j = form n ∧ n < 18446744073709551616 ∧ j = (form n).length := by
 obtain ⟨m, hv, ht, hm, _, hj⟩ := rdG_has hb (by omega) h
 have e : n = m := by simpa using hv
 subst e
 have h2 : (2 : Nat) ^ (64 - 7 * 0) = 18446744073709551616 := by decide
 have hl := (rd_le h).2.2
 have ht' : s.take j = form n := by simpa using ht
 refine ⟨ht', by rw [h2] at hm; exact hm, ?_⟩
 rw [← ht', List.length_take]
 omega
theorem unf_fold {z : Int} (h0 : -9223372036854775808 ≤ z) (h1 : z ≤ 9223372036854775807) : unf (fold z) = z := by
 unfold unf fold
 split <;> split <;> omega
theorem fold_unf {n : Nat} (h : n < 18446744073709551616) : fold (unf n) = n := by
 unfold unf fold
 split <;> split <;> omega
end Go.Proofs.YtbbhmhihpdmoiaaGreat.Pk

set_option linter.unusedVariables false
set_option linter.unusedSimpArgs false
namespace Go.Proofs.YtbbhmhihpdmoiaaGreat.Pk
open Go Go.RowKit
def encI (x : Int) : Value := .int .i64 x
def OwnI (W : World) (B : Nat) (v : Value) (l : List Int) : Prop := W.ownsRow B 2 1 v l.length (l.map encI)
theorem OwnI.below {w W : World} {B : Nat} {v : Value} {l : List Int} (h : Below w.heap.size w W) (s : OwnI w B v l) : OwnI W B v l := by
 obtain ⟨h1, h2⟩ := s
 refine ⟨h1, ?_⟩
 rcases h2 with h2 | ⟨g, cap, cur, e, hb, hg, h3⟩
 ·exact Or.inl h2
 ·exact Or.inr ⟨g, cap, cur, e, hb, keep_row h hg, h3⟩
theorem OwnI.alloc {w : World} {B : Nat} {v : Value} {l : List Int} (s : OwnI w B v l) (o : Obj) : OwnI (w.alloc o) B v l := by
 obtain ⟨h1, h2⟩ := s
 refine ⟨h1, ?_⟩
 rcases h2 with h2 | ⟨g, cap, cur, e, hb, hg, h3⟩
 ·exact Or.inl h2
 ·exact Or.inr ⟨g, cap, cur, e, hb, step_row hg, h3⟩
theorem OwnI.blk {w : World} {B : Nat} {v : Value} {l : List Int} (s : OwnI w B v l) : ∀ k, v.ownBlock = some k → B ≤ k := by
 intro k hk
 obtain ⟨h1, h2⟩ := s
 rcases h2 with ⟨rfl, _⟩ | ⟨g, cap, cur, rfl, hb, _⟩
 ·cases hk
 ·cases hk
  exact hb
theorem OwnI.apart {W : World} {B p : Nat} {v : Value} {l : List Int} {cs : Array Value} {t : TypeId} {fr : Nat × Nat} (s : OwnI W B v l) (h : W.heap[p]? = some (.cells cs t fr)) (ht : t ≠ 2) : ∀ k, v.ownBlock = some k → k ≠ p := by
 intro k hk e
 subst e
 obtain ⟨h1, h2⟩ := s
 rcases h2 with ⟨rfl, _⟩ | ⟨g, cap, cur, rfl, hb, hg, _⟩
 ·cases hk
 ·cases hk
  rw [h] at hg
  injection hg with hg
  injection hg with _ hg
  exact ht hg
theorem OwnI.grown {W X : World} {B : Nat} {v : Value} {l : List Int} {row : Option Nat} (s : OwnI W B v l) (hg : W.grownBy X row) (hr : ∀ k, v.ownBlock = some k → some k ≠ row) : OwnI X B v l := by
 obtain ⟨h1, h2⟩ := s
 refine ⟨h1, ?_⟩
 rcases h2 with h2 | ⟨g, cap, cur, rfl, hb, hgg, h3⟩
 ·exact Or.inl h2
 ·exact Or.inr ⟨g, cap, cur, rfl, hb, by rw [hg.block g (Array.getElem?_eq_some_iff.1 hgg).1 (hr g rfl)]; exact hgg, h3⟩
theorem ZR.grown {o : Option Addr} {c : Nat} {l : List Nat} {p at0 : Nat} {lost : Bool} {W X : World} {row : Option Nat} (h : ZR o c l p at0 lost W) (hg : W.grownBy X row) (hp : some p ≠ row) (hr : ∀ b off, o = some ⟨b, off, none⟩ → 0 < l.length → some b ≠ row) : ZR o c l p at0 lost X :=
 ⟨by rw [hg.block p h.lt hp]; exact h.row, h.bs.grown hg hr⟩
def M64 : Nat := 18446744073709551615
end Go.Proofs.YtbbhmhihpdmoiaaGreat.Pk

set_option linter.unusedVariables false
set_option linter.unusedSimpArgs false
namespace Go.Proofs.YtbbhmhihpdmoiaaGreat.Pk
open Go Go.RowKit
theorem rdG_most : ∀ {s : List Nat} {most k a : Nat}, most ≤ M64 → rdG most k a s = match rdG M64 k a s with | none => none | some (v, j) => if v ≤ most then some (v, j) else none
 | [], _, _, _, _ => by simp [rdG]
 | c :: s, most, k, a, hm => by
  rw [rdG, rdG]
  split
  ·rfl
  ·split
   ·exact rdG_most hm
   ·by_cases h0 : 0 < k ∧ c = 0
    ·rw [if_pos (.inl h0), if_pos (.inl h0)]
    ·by_cases h1 : M64 < a + c % 128 * 128 ^ k
     ·rw [if_pos (.inr (by omega)), if_pos (.inr h1)]
     ·rw [if_neg (show ¬((0 < k ∧ c = 0) ∨ M64 < a + c % 128 * 128 ^ k) by rintro (h | h); exact h0 h; exact h1 h)]
      dsimp only
      by_cases h2 : a + c % 128 * 128 ^ k ≤ most
      ·rw [if_pos h2, if_neg (by rintro (h | h); exact h0 h; omega)]
      ·rw [if_neg h2, if_pos (.inr (by omega))]
theorem rd_most (s : List Nat) {most : Nat} (hm : most ≤ M64) : rd most s = match rd M64 s with | none => none | some (v, j) => if v ≤ most then some (v, j) else none := rdG_most hm
end Go.Proofs.YtbbhmhihpdmoiaaGreat.Pk

set_option linter.unusedVariables false
set_option linter.unusedSimpArgs false
namespace Go.Proofs.YtbbhmhihpdmoiaaGreat.Pk
open Go Go.RowKit
end Go.Proofs.YtbbhmhihpdmoiaaGreat.Pk

set_option linter.unusedVariables false
set_option linter.unusedSimpArgs false
namespace Go.Proofs.YtbbhmhihpdmoiaaGreat.Pk
open Go.Proofs.YtbbhmhihpdmoiaaGreat.Fx (Kept heldz_done heldz_region heldz_step heldz_take wpIn_range_jump)
open Go Go.RowKit Go.Shelf
attribute [local go_sem] Oper.semAt_some
structure FS (o : Option Addr) (c : Nat) (l : List Nat) (n k : Nat) (x y : Int) (w W : World) : Prop where
 box : W.heap[w.heap.size]? = some (.cells #[.slice o l.length c] 31 (0, 0))
 r1 : W.heap[w.heap.size + 1]? = some (.cells #[.int .u64 x] 89 (0, 0))
 r2 : W.heap[w.heap.size + 1 + 1]? = some (.cells #[.int .i64 y] 3 (0, 0))
 len : W.heap[w.heap.size + 1 + 1 + 1]? = some (.cells #[.int .i64 (k : Int)] 3 (0, 0))
 frm : W.heap[w.heap.size + 1 + 1 + 1 + 1]? = some (.cells #[.int .u64 (n : Int)] 89 (0, 0))
 below : Below w.heap.size w W
theorem FS.kept {o : Option Addr} {c : Nat} {l : List Nat} {n k B : Nat} {x y : Int} {w W X : World} (hB : w.heap.size ≤ B) (h : Kept B W X) (s : FS o c l n k x y w W) : FS o c l n k x y w X :=
 ⟨h.cells s.box, h.cells s.r1, h.cells s.r2, h.cells s.len, h.cells s.frm, h.below hB s.below⟩
theorem FS.drew {o : Option Addr} {c : Nat} {l : List Nat} {n k : Nat} {x y : Int} {w W : World} (s : FS o c l n k x y w W) : FS o c l n k x y w W.drew := ⟨s.box, s.r1, s.r2, s.len, s.frm, ⟨s.below.os, s.below.tape, s.below.output, s.below.size, s.below.block⟩⟩
theorem FS.facts {o : Option Addr} {c : Nat} {l : List Nat} {n k : Nat} {x y : Int} {w W : World} (s : FS o c l n k x y w W) :
  W.cell? ⟨w.heap.size, 0, none⟩ = some (.slice o l.length c) ∧ W.cell? ⟨w.heap.size + 1, 0, none⟩ = some (.int .u64 x) ∧ W.cell? ⟨w.heap.size + 1 + 1, 0, none⟩ = some (.int .i64 y) ∧ W.cell? ⟨w.heap.size + 1 + 1 + 1, 0, none⟩ = some (.int .i64 (k : Int)) ∧
  W.frozen? ⟨w.heap.size + 1, 0, none⟩ = false ∧ W.frozen? ⟨w.heap.size + 1 + 1, 0, none⟩ = false ∧ W.frozen? ⟨w.heap.size + 1 + 1 + 1, 0, none⟩ = false :=
 ⟨by rw [cell_of_row _ _ _ _ _ _ s.box]; rfl, by rw [cell_of_row _ _ _ _ _ _ s.r1]; rfl, by rw [cell_of_row _ _ _ _ _ _ s.r2]; rfl, by rw [cell_of_row _ _ _ _ _ _ s.len]; rfl, frozen_row s.r1, frozen_row s.r2, frozen_row s.len⟩
theorem FS.reads {o : Option Addr} {c : Nat} {l : List Nat} {n k : Nat} {x y : Int} {w W : World} (s : FS o c l n k x y w W) : FrmM n (w.heap.size + 1 + 1 + 1 + 1) W := by
 unfold FrmM
 rw [cell_of_row _ _ _ _ _ _ s.frm]
 rfl
theorem FS.next {o : Option Addr} {c : Nat} {l : List Nat} {n k : Nat} {x y : Int} {w W : World} (s : FS o c l n k x y w W) (j : Nat) (z : Int) (hz : z = (j : Int)) : FS o c l n j x y w (W.setCell ⟨w.heap.size + 1 + 1 + 1, 0, none⟩ (.int .i64 z)) := by
 subst hz
 exact ⟨by rw [heap_setCell_other _ _ _ _ (by show _ ≠ w.heap.size + 1 + 1 + 1; omega)]; exact s.box, by rw [heap_setCell_other _ _ _ _ (by show _ ≠ w.heap.size + 1 + 1 + 1; omega)]; exact s.r1, by rw [heap_setCell_other _ _ _ _ (by show _ ≠ w.heap.size + 1 + 1 + 1; omega)]; exact s.r2,
  heap_setCell_same _ _ 0 _ _ _ s.len, by rw [heap_setCell_other _ _ _ _ (by show _ ≠ w.heap.size + 1 + 1 + 1; omega)]; exact s.frm, s.below.setCell (p := ⟨w.heap.size + 1 + 1 + 1, 0, none⟩) (by show _ ≤ w.heap.size + 1 + 1 + 1; omega) _⟩
theorem FS.put {o : Option Addr} {c : Nat} {l : List Nat} {n k : Nat} {x y x2 y2 : Int} {w W : World} (s : FS o c l n k x y w W) : FS o c l n k x2 y2 w ((W.setCell ⟨w.heap.size + 1, 0, none⟩ (.int .u64 x2)).setCell ⟨w.heap.size + 1 + 1, 0, none⟩ (.int .i64 y2)) := by
 have a1 := heap_setCell_same W _ 0 _ _ (.int .u64 x2) s.r1
 have o1 : ∀ {g : Nat} {ob : Obj}, g ≠ w.heap.size + 1 → g ≠ w.heap.size + 1 + 1 → W.heap[g]? = some ob → ((W.setCell ⟨w.heap.size + 1, 0, none⟩ (.int .u64 x2)).setCell ⟨w.heap.size + 1 + 1, 0, none⟩ (.int .i64 y2)).heap[g]? = some ob := fun h1 h2 h => by
  rw [heap_setCell_other _ _ _ _ h2, heap_setCell_other _ _ _ _ h1]
  exact h
 refine ⟨o1 (by omega) (by omega) s.box, ?_, ?_, o1 (by omega) (by omega) s.len, o1 (by omega) (by omega) s.frm, (s.below.setCell (p := ⟨w.heap.size + 1, 0, none⟩) (by show _ ≤ w.heap.size + 1; omega) _).setCell (p := ⟨w.heap.size + 1 + 1, 0, none⟩) (by show _ ≤ w.heap.size + 1 + 1; omega) _⟩
 ·rw [heap_setCell_other _ _ _ _ (by show _ ≠ w.heap.size + 1 + 1; omega)]
  exact a1
 ·have a2 : (W.setCell ⟨w.heap.size + 1, 0, none⟩ (.int .u64 x2)).heap[w.heap.size + 1 + 1]? = some (.cells #[.int .i64 y] 3 (0, 0)) := by
   rw [heap_setCell_other _ _ _ _ (by show _ ≠ w.heap.size + 1; omega)]
   exact s.r2
  exact heap_setCell_same _ _ 0 _ _ (.int .i64 y2) a2
end Go.Proofs.YtbbhmhihpdmoiaaGreat.Pk

set_option linter.unusedVariables false
set_option linter.unusedSimpArgs false
namespace Go.Proofs.YtbbhmhihpdmoiaaGreat.Pk
open Go.Proofs.YtbbhmhihpdmoiaaGreat.Fx (HeldG Sound below_mono give_done give_pure give_region give_take okTake)
open Go Go.RowKit
structure Sok (o : Option Addr) (c : Nat) (l : List Nat) : Prop where
 le : l.length ≤ c
 up : c ≤ 9223372036854775807
 nil : o = none → c = 0
 spot : ∀ a, o = some a → a.spot = none
structure PR (o : Option Addr) (c : Nat) (l : List Nat) (p at0 : Nat) (lost : Bool) (W : World) : Prop where
 row : W.heap[p]? = some (.cells #[.bool true, .bool lost, .slice o l.length c, .int .i64 (at0 : Int)] 144 (0, 0))
 bs : Bs W o l
 ok : Sok o c l
theorem PR.below {o : Option Addr} {c : Nat} {l : List Nat} {p at0 : Nat} {lost : Bool} {W X : World} (h : PR o c l p at0 lost W) (hb : Below W.heap.size W X) : PR o c l p at0 lost X := ⟨keep_row hb h.row, h.bs.below hb, h.ok⟩
theorem PR.facts {o : Option Addr} {c : Nat} {l : List Nat} {p at0 : Nat} {lost : Bool} {W : World} (h : PR o c l p at0 lost W) :
  W.cell? ⟨p, 0, none⟩ = some (.bool true) ∧ W.cell? ⟨p, 1, none⟩ = some (.bool lost) ∧ W.cell? ⟨p, 2, none⟩ = some (.slice o l.length c) ∧ W.cell? ⟨p, 3, none⟩ = some (.int .i64 (at0 : Int)) ∧ W.frozen? ⟨p, 1, none⟩ = false ∧ W.frozen? ⟨p, 3, none⟩ = false :=
 ⟨by rw [cell_of_row _ _ _ _ _ _ h.row]; rfl, by rw [cell_of_row _ _ _ _ _ _ h.row]; rfl, by rw [cell_of_row _ _ _ _ _ _ h.row]; rfl, by rw [cell_of_row _ _ _ _ _ _ h.row]; rfl, frozen_row h.row, frozen_row h.row⟩
theorem PR.lt {o : Option Addr} {c : Nat} {l : List Nat} {p at0 : Nat} {lost : Bool} {W : World} (h : PR o c l p at0 lost W) : p < W.heap.size := (Array.getElem?_eq_some_iff.1 h.row).1
theorem PR.apart {o : Option Addr} {c : Nat} {l : List Nat} {p at0 : Nat} {lost : Bool} {W : World} (h : PR o c l p at0 lost W) : ∀ b off, o = some ⟨b, off, none⟩ → 0 < l.length → b ≠ p := by
 rintro b off e hm rfl
 obtain ⟨b', off', e', hc⟩ := h.bs 0 hm
 rw [e] at e'
 cases e'
 rw [cell_of_row _ _ _ _ _ _ h.row] at hc
 obtain h0 | h0 | h0 | h0 | h0 : off + 0 = 0 ∨ off + 0 = 1 ∨ off + 0 = 2 ∨ off + 0 = 3 ∨ 4 ≤ off + 0 := by omega
 ·rw [h0] at hc
  simp at hc
 ·rw [h0] at hc
  simp at hc
 ·rw [h0] at hc
  simp at hc
 ·rw [h0] at hc
  simp at hc
 ·rw [Array.getElem?_eq_none (by simpa using h0)] at hc
  cases hc
theorem PR.spoil {o : Option Addr} {c : Nat} {l : List Nat} {p at0 : Nat} {lost : Bool} {W : World} (h : PR o c l p at0 lost W) : PR o c l p at0 true (W.setCell ⟨p, 1, none⟩ (.bool true)) :=
 ⟨heap_setCell_same _ _ 1 _ _ (.bool true) h.row, h.bs.set _ h.apart, h.ok⟩
theorem PR.grown {o : Option Addr} {c : Nat} {l : List Nat} {p at0 : Nat} {lost : Bool} {W X : World} {row : Option Nat} (h : PR o c l p at0 lost W) (hg : W.grownBy X row) (hp : some p ≠ row) (hr : ∀ b off, o = some ⟨b, off, none⟩ → 0 < l.length → some b ≠ row) : PR o c l p at0 lost X :=
 ⟨by rw [hg.block p h.lt hp]; exact h.row, h.bs.grown hg hr, h.ok⟩
end Go.Proofs.YtbbhmhihpdmoiaaGreat.Pk

set_option linter.unusedVariables false
set_option linter.unusedSimpArgs false
namespace Go.Proofs.YtbbhmhihpdmoiaaGreat.Pk
open Go.Proofs.YtbbhmhihpdmoiaaGreat.Fx (below_mono give_done give_pure give_region)
open Go Go.RowKit
end Go.Proofs.YtbbhmhihpdmoiaaGreat.Pk

set_option linter.unusedVariables false
set_option linter.unusedSimpArgs false
namespace Go.Proofs.YtbbhmhihpdmoiaaGreat.Pk
open Go Go.RowKit
end Go.Proofs.YtbbhmhihpdmoiaaGreat.Pk

set_option linter.unusedVariables false
set_option linter.unusedSimpArgs false
namespace Go.Proofs.YtbbhmhihpdmoiaaGreat.Pk
open Go.Proofs.YtbbhmhihpdmoiaaGreat.Fx (below_mono give_done give_no give_pure give_region give_step)
open Go Go.RowKit
end Go.Proofs.YtbbhmhihpdmoiaaGreat.Pk

set_option linter.unusedVariables false
set_option linter.unusedSimpArgs false
namespace Go.Proofs.YtbbhmhihpdmoiaaGreat.Pk
open Go.Proofs.YtbbhmhihpdmoiaaGreat.Fx (below_mono give_done give_pure give_region give_step)
open Go Go.RowKit
end Go.Proofs.YtbbhmhihpdmoiaaGreat.Pk

set_option linter.unusedVariables false
set_option linter.unusedSimpArgs false
namespace Go.Proofs.YtbbhmhihpdmoiaaGreat.Pk
open Go Go.RowKit
end Go.Proofs.YtbbhmhihpdmoiaaGreat.Pk

set_option linter.unusedVariables false
namespace Go.Proofs.YtbbhmhihpdmoiaaGreat.Pk
open Go Go.RowKit Go.ChangeShapes Go.WideShapes
structure OpR where
 kind : Int
 u : Int
 i : Int
 n : Int
 most : Int
 is : Bool
 bo : Option Addr
 bl : List Nat
 bc : Nat
structure OpAt (W : World) (b j : Nat) (x : OpR) : Prop where
 c0 : W.cell? ⟨b, j, none⟩ = some (.int .i64 x.kind)
 c1 : W.cell? ⟨b, j + 1, none⟩ = some (.int .u64 x.u)
 c2 : W.cell? ⟨b, j + 2, none⟩ = some (.int .i64 x.i)
 c3 : W.cell? ⟨b, j + 3, none⟩ = some (.int .i64 x.n)
 c4 : W.cell? ⟨b, j + 4, none⟩ = some (.int .i64 x.most)
 c5 : W.cell? ⟨b, j + 5, none⟩ = some (.bool x.is)
 c6 : W.cell? ⟨b, j + 6, none⟩ = some (.slice x.bo x.bl.length x.bc)
 bs : Bs W x.bo x.bl
structure OpWf (x : OpR) : Prop where
 kind : -9223372036854775808 ≤ x.kind ∧ x.kind ≤ 9223372036854775807
 u : 0 ≤ x.u ∧ x.u < 18446744073709551616
 i : -9223372036854775808 ≤ x.i ∧ x.i ≤ 9223372036854775807
 n : -9223372036854775808 ≤ x.n ∧ x.n ≤ 9223372036854775807
 most : -9223372036854775808 ≤ x.most ∧ x.most ≤ 9223372036854775807
 by' : By x.bl
 len : x.bl.length ≤ x.bc ∧ x.bc ≤ 9223372036854775807
 none' : x.bo = none → x.bc = 0
 spot : 0 < x.bc → ∀ a, x.bo = some a → a.spot = none
def OpsAt (W : World) (o : Option Addr) (xs : List OpR) : Prop := ∀ k x, xs[k]? = some x → ∃ b off, o = some ⟨b, off, none⟩ ∧ OpAt W b (off + k * 7) x ∧ OpWf x
theorem OpAt.below {w W : World} {b j : Nat} {x : OpR} (hb : Below w.heap.size w W) (h : OpAt w b j x) : OpAt W b j x :=
 ⟨keep_cell hb h.c0, keep_cell hb h.c1, keep_cell hb h.c2, keep_cell hb h.c3, keep_cell hb h.c4, keep_cell hb h.c5, keep_cell hb h.c6, h.bs.below hb⟩
theorem OpsAt.below {w W : World} {o : Option Addr} {xs : List OpR} (hb : Below w.heap.size w W) (h : OpsAt w o xs) : OpsAt W o xs := fun k x hk => by
 obtain ⟨b, off, e, ha, hw⟩ := h k x hk
 exact ⟨b, off, e, ha.below hb, hw⟩
theorem laidOut : laidOutB Tryz.prog = true := by kernel_rfl
section
variable {H : Type} {enc : TypeId × Value → H} {w : World} {base : Nat} {held : Bool}
end
end Go.Proofs.YtbbhmhihpdmoiaaGreat.Pk

set_option linter.unusedVariables false
set_option linter.unusedSimpArgs false
namespace Go.Proofs.YtbbhmhihpdmoiaaGreat.Pk
open Go Go.RowKit
end Go.Proofs.YtbbhmhihpdmoiaaGreat.Pk

set_option linter.unusedVariables false
set_option linter.unusedSimpArgs false
namespace Go.Proofs.YtbbhmhihpdmoiaaGreat.Pk
open Go Go.RowKit
def n16 (n : Int) : Nat := (n % 65536).toNat
theorem Turn.below {p : Nat} {v v' : Value} {l : List Nat} {lost : Bool} {w W X : World} (t : Turn p v v' W X) (hb : Below w.heap.size w W) (hp : w.heap.size ≤ p) (hw : PW w.heap.size p v l lost W) : Below w.heap.size w X :=
 ⟨t.os.trans hb.os, t.tape.trans hb.tape, t.output.trans hb.output, Nat.le_trans hb.size t.size, fun k hk => (t.block k (Nat.lt_of_lt_of_le hk hb.size) (by omega) (fun h => by have := hw.own.blk k h; omega)).trans (hb.block k hk)⟩
theorem PW.mono {B C p : Nat} {v : Value} {l : List Nat} {lost : Bool} {W : World} (hB : B ≤ C) (h : PW C p v l lost W) : PW B p v l lost W := ⟨h.row, h.own.mono hB⟩
end Go.Proofs.YtbbhmhihpdmoiaaGreat.Pk

set_option linter.unusedVariables false
set_option linter.unusedSimpArgs false
namespace Go.Proofs.YtbbhmhihpdmoiaaGreat.Pk
open Go.Proofs.YtbbhmhihpdmoiaaGreat.Fx (below_mono give_done give_pure give_region)
open Go Go.RowKit
theorem PW.grown {B p : Nat} {v : Value} {l : List Nat} {lost : Bool} {W X : World} {row : Option Nat} (h : PW B p v l lost W) (hg : W.grownBy X row) (hp : some p ≠ row) (hr : ∀ k, v.ownBlock = some k → some k ≠ row) : PW B p v l lost X :=
 ⟨by rw [hg.block p h.lt hp]; exact h.row, h.own.grown hg hr⟩
theorem PR.turn {o : Option Addr} {c : Nat} {l : List Nat} {pr at0 p : Nat} {lost : Bool} {v v' : Value} {W X : World} (h : PR o c l pr at0 lost W) (t : Turn p v v' W X) (hp : pr ≠ p) (hv : v.ownBlock ≠ some pr) (hb : ∀ b off, o = some ⟨b, off, none⟩ → 0 < l.length → b ≠ p ∧ v.ownBlock ≠ some b) : PR o c l pr at0 lost X :=
 ⟨by rw [t.block pr h.lt hp hv]; exact h.row, h.bs.turn t hb, h.ok⟩
def AW (o2 : Option Addr) (n p : Nat) (l : List Nat) (B : Nat) (W : World) : Prop := ∃ v, PW B p v l false W ∧ ∀ b off, o2 = some ⟨b, off, none⟩ → 0 < n → v.ownBlock ≠ some b
theorem AW.below {o2 : Option Addr} {n p B : Nat} {l : List Nat} {W X : World} (h : AW o2 n p l B W) (hb : Below W.heap.size W X) : AW o2 n p l B X := by
 obtain ⟨v, h1, h2⟩ := h
 exact ⟨v, h1.below hb, h2⟩
theorem AW.read {o2 : Option Addr} {c2 n p B pr at0 : Nat} {l a0 : List Nat} {lost : Bool} {W X : World} (h : AW o2 n p l B W) (hr : PR o2 c2 a0 pr at0 lost W) (hg : W.grownBy X (some pr)) (hne : pr ≠ p) : AW o2 n p l B X := by
 obtain ⟨v, h1, h2⟩ := h
 exact ⟨v, h1.grown hg (fun e => hne (Option.some.inj e).symm) (fun k hk e => h1.own.apart hr.row (by decide) k hk (Option.some.inj e)), h2⟩
end Go.Proofs.YtbbhmhihpdmoiaaGreat.Pk

set_option linter.unusedVariables false
set_option linter.unusedSimpArgs false
namespace Go.Proofs.YtbbhmhihpdmoiaaGreat.Pk
open Go Go.RowKit
def ZNew (p : Nat) (w w' : World) : Prop := ∀ v x, w.heap[p]? = some (.cells #[v, x] 81 (0, 0)) → ∃ v' x', w'.heap[p]? = some (.cells #[v', x'] 81 (0, 0)) ∧ (v' = v ∨ ∀ k, v'.ownBlock = some k → w.heap.size ≤ k)
theorem ZNew.below {p : Nat} {w w1 w2 : World} (h : ZNew p w1 w2) (hb : Below w.heap.size w w1) (hp : p < w.heap.size) : ZNew p w w2 := fun v x hx => by
 obtain ⟨v', x', h1, h2⟩ := h v x (keep_row hb hx)
 exact ⟨v', x', h1, h2.imp id (fun g k hk => Nat.le_trans hb.size (g k hk))⟩
def ZCallN (B p : Nat) (l : List Nat) (lost : Bool) (w : World) (e : Ending) (w' : World) : Prop := e = .returned undef ∧ ZW B p l lost w' ∧ w.grownBy w' (some p) ∧ ZNew p w w'
end Go.Proofs.YtbbhmhihpdmoiaaGreat.Pk
