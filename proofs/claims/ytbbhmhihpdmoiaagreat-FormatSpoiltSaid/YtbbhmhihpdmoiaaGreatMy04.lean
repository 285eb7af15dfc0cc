import Derived.Laws.Rows
import Derived.Test.YtbbhmhihpdmoiaaGreatProg
import Derived.Lib.SlBytesRow
import Derived.Laws.ShiftsVar
import Derived.Test.YtbbhmhihpdmoiaaGreatMy02
import Derived.Test.YtbbhmhihpdmoiaaGreatMy03
/- The document's reader, walked. -/
set_option linter.unusedVariables false
set_option linter.unusedSimpArgs false
namespace Go.Proofs.YtbbhmhihpdmoiaaGreat.Pk
open Go.Proofs.YtbbhmhihpdmoiaaGreat.Fx (below_mono give_done give_pure give_region)
open Go Go.RowKit
/-- the number whose form stands at the head of bytes, of at most a size, and of how many bytes it is -/
def rdG (most : Nat) : Nat → Nat → List Nat → Option (Nat × Nat)
  | _, _, [] => none
  | k, n, c :: s => if k = 9 ∧ 1 < c then none else if 128 ≤ c then rdG most (k + 1) (n + c % 128 * 128 ^ k) s else if (0 < k ∧ c = 0) ∨ most < n + c % 128 * 128 ^ k then none else some (n + c % 128 * 128 ^ k, k + 1)
def rd (most : Nat) (s : List Nat) : Option (Nat × Nat) := rdG most 0 0 s
def upV (r : Option (Nat × Nat)) : Nat := match r with | some (n, _) => n | none => 0
def upA (r : Option (Nat × Nat)) (at0 : Nat) : Nat := match r with | some (_, j) => at0 + j | none => at0
def upB (r : Option (Nat × Nat)) : Bool := r.isNone
/-- the document's reader at p: its bytes, its place, whether it is spoilt -/
structure ZR (o : Option Addr) (c : Nat) (l : List Nat) (p at0 : Nat) (lost : Bool) (W : World) : Prop where
  row : W.heap[p]? = some (.cells #[.slice o l.length c, .int .i64 (at0 : Int), .bool lost] 106 (0, 0))
  bs : Bs W o l
theorem ZR.below {o : Option Addr} {c : Nat} {l : List Nat} {p at0 : Nat} {lost : Bool} {W X : World} (h : ZR o c l p at0 lost W) (hb : Below W.heap.size W X) : ZR o c l p at0 lost X := ⟨keep_row hb h.row, h.bs.below hb⟩
theorem ZR.facts {o : Option Addr} {c : Nat} {l : List Nat} {p at0 : Nat} {lost : Bool} {W : World} (h : ZR o c l p at0 lost W) :
    W.cell? ⟨p, 0, none⟩ = some (.slice o l.length c) ∧ W.cell? ⟨p, 1, none⟩ = some (.int .i64 (at0 : Int)) ∧ W.cell? ⟨p, 2, none⟩ = some (.bool lost) ∧ W.frozen? ⟨p, 1, none⟩ = false ∧ W.frozen? ⟨p, 2, none⟩ = false :=
  ⟨by rw [cell_of_row _ _ _ _ _ _ h.row]; rfl, by rw [cell_of_row _ _ _ _ _ _ h.row]; rfl, by rw [cell_of_row _ _ _ _ _ _ h.row]; rfl, frozen_row h.row, frozen_row h.row⟩
theorem ZR.lt {o : Option Addr} {c : Nat} {l : List Nat} {p at0 : Nat} {lost : Bool} {W : World} (h : ZR o c l p at0 lost W) : p < W.heap.size := (Array.getElem?_eq_some_iff.1 h.row).1
theorem ZR.apart {o : Option Addr} {c : Nat} {l : List Nat} {p at0 : Nat} {lost : Bool} {W : World} (h : ZR o c l p at0 lost W) : ∀ b off, o = some ⟨b, off, none⟩ → 0 < l.length → b ≠ p := by
  rintro b off e hm rfl
  obtain ⟨b', off', e', hc⟩ := h.bs 0 hm
  rw [e] at e'
  cases e'
  rw [cell_of_row _ _ _ _ _ _ h.row] at hc
  obtain h0 | h0 | h0 | h0 : off + 0 = 0 ∨ off + 0 = 1 ∨ off + 0 = 2 ∨ 3 ≤ off + 0 := by omega
  · rw [h0] at hc
    simp at hc
  · rw [h0] at hc
    simp at hc
  · rw [h0] at hc
    simp at hc
  · rw [Array.getElem?_eq_none (by simpa using h0)] at hc
    cases hc
theorem ZR.put1 {o : Option Addr} {c : Nat} {l : List Nat} {p at0 : Nat} {lost : Bool} {W : World} (h : ZR o c l p at0 lost W) (a : Nat) : ZR o c l p a lost (W.setCell ⟨p, 1, none⟩ (.int .i64 (a : Int))) :=
  ⟨heap_setCell_same _ _ 1 _ _ (.int .i64 (a : Int)) h.row, h.bs.set _ h.apart⟩
theorem ZR.put2 {o : Option Addr} {c : Nat} {l : List Nat} {p at0 : Nat} {lost : Bool} {W : World} (h : ZR o c l p at0 lost W) (b : Bool) : ZR o c l p at0 b (W.setCell ⟨p, 2, none⟩ (.bool b)) :=
  ⟨heap_setCell_same _ _ 2 _ _ (.bool b) h.row, h.bs.set _ h.apart⟩
end Go.Proofs.YtbbhmhihpdmoiaaGreat.Pk


/- The calls of the document's reader, walked. -/
set_option linter.unusedVariables false
set_option linter.unusedSimpArgs false
namespace Go.Proofs.YtbbhmhihpdmoiaaGreat.Pk
open Go Go.RowKit
theorem rdG_le {most : Nat} : ∀ {s : List Nat} {k n a j : Nat}, rdG most k n s = some (a, j) → a ≤ most ∧ k < j ∧ j ≤ k + s.length
  | [], _, _, _, _, h => by simp [rdG] at h
  | c :: s, k, n, a, j, h => by
    rw [rdG] at h
    split at h
    · cases h
    · split at h
      · have := rdG_le h
        simp
        omega
      · split at h
        · cases h
        · cases h
          simp
          omega
theorem rd_le {most : Nat} {s : List Nat} {a j : Nat} (h : rd most s = some (a, j)) : a ≤ most ∧ 0 < j ∧ j ≤ s.length := by
  have := rdG_le h
  omega
/-- a number of a reader that may be spoilt -/
def rq (lost : Bool) (most : Nat) (s : List Nat) : Option (Nat × Nat) := if lost = true then none else rd most s
def rz (lost : Bool) (most : Int) (s : List Nat) : Option (Nat × Nat) := if lost = true ∨ most < 0 then none else rd most.toNat s
theorem rq_le {lost : Bool} {most : Nat} {s : List Nat} : upV (rq lost most s) ≤ most := by
  unfold rq
  split
  · exact Nat.zero_le _
  · cases h : rd most s with
    | none => exact Nat.zero_le _
    | some r => obtain ⟨a, j⟩ := r; exact (rd_le h).1
structure RdOk (l : List Nat) (at0 : Nat) : Prop where
  by' : By l
  len : l.length ≤ 1000000000
  at' : at0 ≤ l.length
/-- a number without a sign as a signed one -/
def unf (n : Nat) : Int := if n % 2 = 0 then ((n / 2 : Nat) : Int) else -((n / 2 : Nat) : Int) - 1
end Go.Proofs.YtbbhmhihpdmoiaaGreat.Pk


/- What the document's reader tells of its place, walked. -/
set_option linter.unusedVariables false
set_option linter.unusedSimpArgs false
namespace Go.Proofs.YtbbhmhihpdmoiaaGreat.Pk
open Go.Proofs.YtbbhmhihpdmoiaaGreat.Fx (below_mono give_done give_no give_pure give_region)
open Go Go.RowKit
def endV (lost : Bool) (n at0 : Nat) : Int := if lost = true ∨ at0 < n then 50 else 0
end Go.Proofs.YtbbhmhihpdmoiaaGreat.Pk


/- A part of a slice; an append, in a region that draws its order. -/
set_option linter.unusedVariables false
set_option linter.unusedSimpArgs false
namespace Go.Proofs.YtbbhmhihpdmoiaaGreat.Pk
open Go Go.RowKit
def cutA (o : Option Addr) (c l : Nat) : Option Addr := o.map fun a => if c = l then a else ⟨a.block, a.off + l, none⟩
theorem Bs.cut {W : World} {o : Option Addr} {m : List Nat} {c l h : Nat} (hb : Bs W o m) (hl : l ≤ h) (hh : h ≤ m.length) (hc : m.length ≤ c) : Bs W (cutA o c l) ((m.drop l).take (h - l)) := fun j hj => by
  have hj1 : j < h - l := by simp at hj; omega
  obtain ⟨b, off, e, hcell⟩ := hb (l + j) (by omega)
  subst e
  refine ⟨b, off + l, ?_, ?_⟩
  · unfold cutA
    simp only [Option.map_some]
    rw [if_neg (by omega)]
  · rw [show off + l + j = off + (l + j) by omega, hcell]
    congr 3
    simp [List.getD, List.getElem?_take, List.getElem?_drop, hj1]
theorem run_cut (W : World) (o : Option Addr) (n c l h : Nat) (hl : l ≤ h) (hh : h ≤ c) (ho : o = none → c = 0) (hs : 0 < c → ∀ a, o = some a → a.spot = none) :
    (Instr.slice 31 (.slice o n c) (some (.int .i64 (l : Int))) (some (.int .i64 (h : Int))) none).run Tryz.prog W = .ok (.slice (cutA o c l) (h - l) (c - l)) W := by
  have ht : Tryz.prog.underlying 31 = some (.slice 5) := Tryz.underlying31
  have hz : ∀ w, (Go.sizeOf 5).run Tryz.prog w = .ok 1 w := fun _ => by kernel_rfl
  have ht' : Tryz.prog.underlying 31 = some (.slice (Tryz.prog.elem 31)) := by simp [Program.elem, ht]
  have he : Tryz.prog.elem 31 = 5 := by simp [Program.elem, ht]
  rw [run_slice_lh W 31 _ _ _ ht' .i64 .i64 _ _ (by omega) (by omega) (by omega), he, hz]
  cases o with
  | none =>
    obtain rfl := ho rfl
    obtain rfl : h = 0 := by omega
    obtain rfl : l = 0 := by omega
    simp [Result.andThen, sliced, cutA]
  | some a =>
    obtain ⟨b, off, spot⟩ := a
    by_cases hcl : c = l
    · subst hcl
      simp [Result.andThen, sliced, Addr.add, cutA]
    · obtain rfl : spot = none := hs (by omega) _ rfl
      by_cases h0 : l = 0
      · subst h0
        simp [Result.andThen, sliced, Addr.add, cutA, hcl]
      · simp [Result.andThen, sliced, Addr.add, cutA, hcl, h0]
end Go.Proofs.YtbbhmhihpdmoiaaGreat.Pk


/- Forms, plain: what was written is read; what is read has one form; none begins another one. -/
set_option linter.unusedVariables false
namespace Go.Proofs.YtbbhmhihpdmoiaaGreat.Pk
open Go Go.RowKit
theorem pow_k {k : Nat} (h : k ≤ 8) : (2 : Nat) ^ (64 - 7 * k) = 128 * 2 ^ (64 - 7 * (k + 1)) := pow_cut k (by omega)
theorem rdG_form : ∀ (f m most k a : Nat) (t : List Nat), m < 128 ^ f → m < 2 ^ (64 - 7 * k) → k ≤ 9 → (k = 0 ∨ m ≠ 0) → a + m * 128 ^ k ≤ most → rdG most k a (form m ++ t) = some (a + m * 128 ^ k, k + (form m).length)
  | 0, m, most, k, a, t, hf, hm, hk, h0, hle => by
    have hm0 : m = 0 := by simpa using hf
    subst hm0
    have hk0 : k = 0 := by rcases h0 with h | h; · exact h
                           · exact absurd rfl h
    subst hk0
    rw [form_small (by omega)]
    simp [rdG]
    simpa using hle
  | f + 1, m, most, k, a, t, hf, hm, hk, h0, hle => by
    by_cases h128 : m < 128
    · rw [form_small h128]
      have h9 : ¬ (k = 9 ∧ 1 < m) := by
        rintro ⟨rfl, h1⟩
        simp at hm
        omega
      have hmod : m % 128 = m := Nat.mod_eq_of_lt h128
      simp only [List.cons_append, List.nil_append, rdG]
      rw [if_neg h9, if_neg (by omega), if_neg (by rw [hmod]; rintro (⟨h1, h2⟩ | h1) <;> omega), hmod]
      simp
    · have hk8 : k ≤ 8 := by
        rcases Nat.lt_or_ge k 9 with h | h
        · omega
        · have e : k = 9 := by omega
          subst e
          simp at hm
          omega
      have hm64 : m < 18446744073709551616 := by
        have h1 : (2 : Nat) ^ (64 - 7 * k) ≤ 2 ^ 64 := Nat.pow_le_pow_right (by omega) (by omega)
        have h2 : (2 : Nat) ^ 64 = 18446744073709551616 := by decide
        omega
      rw [form_big h128 hm64]
      have hc : (128 + m % 128) % 128 = m % 128 := by omega
      have hsum : a + m % 128 * 128 ^ k + m / 128 * 128 ^ (k + 1) = a + m * 128 ^ k := by
        rw [Nat.pow_succ]
        have e : m = m % 128 + 128 * (m / 128) := by omega
        have : m * 128 ^ k = (m % 128 + 128 * (m / 128)) * 128 ^ k := by rw [← e]
        rw [this, Nat.add_mul, Nat.add_assoc]
        congr 2
        rw [Nat.mul_comm (128 ^ k) 128, ← Nat.mul_assoc, Nat.mul_comm (m / 128) 128]
      simp only [List.cons_append, rdG]
      rw [if_neg (by omega), if_pos (by omega), hc, rdG_form f (m / 128) most (k + 1) _ t (by rw [Nat.pow_succ] at hf; omega) (by rw [pow_k hk8] at hm; exact Nat.div_lt_of_lt_mul hm) (by omega) (Or.inr (by omega)) (by rw [hsum]; exact hle), hsum]
      simp
      omega
/-- what was written is read -/
theorem rd_form (n most : Nat) (t : List Nat) (hn : n < 18446744073709551616) (hm : n ≤ most) : rd most (form n ++ t) = some (n, (form n).length) := by
  have h1 : (128 : Nat) ^ 10 = 1180591620717411303424 := by decide
  have h2 : (2 : Nat) ^ (64 - 7 * 0) = 18446744073709551616 := by decide
  have := rdG_form 10 n most 0 0 t (by rw [h1]; omega) (by rw [h2]; exact hn) (by omega) (Or.inl rfl) (by simpa using hm)
  unfold rd
  rw [this]
  simp
theorem rdG_has : ∀ {s : List Nat} {most k a v j : Nat}, By s → k ≤ 9 → rdG most k a s = some (v, j) → ∃ m, v = a + m * 128 ^ k ∧ s.take (j - k) = form m ∧ m < 2 ^ (64 - 7 * k) ∧ (k = 0 ∨ m ≠ 0) ∧ k < j
  | [], _, _, _, _, _, _, _, h => by simp [rdG] at h
  | c :: s, most, k, a, v, j, hb, hk, h => by
    have hc : c < 256 := hb c (by simp)
    rw [rdG] at h
    split at h
    · cases h
    · rename_i h9
      split at h
      · rename_i h128
        have hk8 : k ≤ 8 := by omega
        obtain ⟨m, hv, ht, hm, h0, hlt⟩ := rdG_has (fun x hx => hb x (by simp [hx])) (by omega) h
        have hm0 : m ≠ 0 := by rcases h0 with h | h; · omega
                               · exact h
        have hm1 : c % 128 + 128 * m < 2 ^ (64 - 7 * k) := by rw [pow_k hk8]; omega
        refine ⟨c % 128 + 128 * m, ?_, ?_, hm1, Or.inr (by omega), by omega⟩
        · rw [hv, Nat.pow_succ, Nat.add_mul, Nat.add_assoc]
          congr 2
          rw [Nat.mul_comm (128 ^ k) 128, ← Nat.mul_assoc, Nat.mul_comm m 128]
        · have hm64 : c % 128 + 128 * m < 18446744073709551616 := by
            have h1 : (2 : Nat) ^ (64 - 7 * k) ≤ 2 ^ 64 := Nat.pow_le_pow_right (by omega) (by omega)
            have h2 : (2 : Nat) ^ 64 = 18446744073709551616 := by decide
            omega
          rw [form_big (by omega) hm64, show j - k = (j - (k + 1)) + 1 by omega, List.take_succ_cons, ht]
          congr 1
          · omega
          · congr 1
            omega
      · rename_i h128
        split at h
        · cases h
        · rename_i hz
          cases h
          refine ⟨c, by rw [Nat.mod_eq_of_lt (by omega)], ?_, ?_, by omega, by omega⟩
          · rw [show k + 1 - k = 1 by omega, form_small (by omega)]
            simp
          · rcases Nat.lt_or_ge k 9 with h | h
            · have : (2 : Nat) ^ 8 ≤ 2 ^ (64 - 7 * k) := Nat.pow_le_pow_right (by omega) (by omega)
              omega
            · have e : k = 9 := by omega
              subst e
              simp
              omega
/-- what is read has one form -/
theorem rd_has {s : List Nat} {most n j : Nat} (hb : By s) (h : rd most s = some (n, j)) : s.take j = form n ∧ n < 18446744073709551616 ∧ j = (form n).length := by
  obtain ⟨m, hv, ht, hm, _, hj⟩ := rdG_has hb (by omega) h
  have e : n = m := by simpa using hv
  subst e
  have h2 : (2 : Nat) ^ (64 - 7 * 0) = 18446744073709551616 := by decide
  have hl := (rd_le h).2.2
  have ht' : s.take j = form n := by simpa using ht
  refine ⟨ht', by rw [h2] at hm; exact hm, ?_⟩
  rw [← ht', List.length_take]
  omega
theorem unf_fold {z : Int} (h0 : -9223372036854775808 ≤ z) (h1 : z ≤ 9223372036854775807) : unf (fold z) = z := by
  unfold unf fold
  split <;> split <;> omega
theorem fold_unf {n : Nat} (h : n < 18446744073709551616) : fold (unf n) = n := by
  unfold unf fold
  split <;> split <;> omega
end Go.Proofs.YtbbhmhihpdmoiaaGreat.Pk


/- Lists of numbers of 64 bits that a call made itself; the statements' many, of the document's reader, walked. -/
set_option linter.unusedVariables false
set_option linter.unusedSimpArgs false
namespace Go.Proofs.YtbbhmhihpdmoiaaGreat.Pk
open Go Go.RowKit
def encI (x : Int) : Value := .int .i64 x
def OwnI (W : World) (B : Nat) (v : Value) (l : List Int) : Prop := W.ownsRow B 2 1 v l.length (l.map encI)
theorem OwnI.below {w W : World} {B : Nat} {v : Value} {l : List Int} (h : Below w.heap.size w W) (s : OwnI w B v l) : OwnI W B v l := by
  obtain ⟨h1, h2⟩ := s
  refine ⟨h1, ?_⟩
  rcases h2 with h2 | ⟨g, cap, cur, e, hb, hg, h3⟩
  · exact Or.inl h2
  · exact Or.inr ⟨g, cap, cur, e, hb, keep_row h hg, h3⟩
theorem OwnI.alloc {w : World} {B : Nat} {v : Value} {l : List Int} (s : OwnI w B v l) (o : Obj) : OwnI (w.alloc o) B v l := by
  obtain ⟨h1, h2⟩ := s
  refine ⟨h1, ?_⟩
  rcases h2 with h2 | ⟨g, cap, cur, e, hb, hg, h3⟩
  · exact Or.inl h2
  · exact Or.inr ⟨g, cap, cur, e, hb, step_row hg, h3⟩
theorem OwnI.blk {w : World} {B : Nat} {v : Value} {l : List Int} (s : OwnI w B v l) : ∀ k, v.ownBlock = some k → B ≤ k := by
  intro k hk
  obtain ⟨h1, h2⟩ := s
  rcases h2 with ⟨rfl, _⟩ | ⟨g, cap, cur, rfl, hb, _⟩
  · cases hk
  · cases hk
    exact hb
theorem OwnI.apart {W : World} {B p : Nat} {v : Value} {l : List Int} {cs : Array Value} {t : TypeId} {fr : Nat × Nat} (s : OwnI W B v l) (h : W.heap[p]? = some (.cells cs t fr)) (ht : t ≠ 2) : ∀ k, v.ownBlock = some k → k ≠ p := by
  intro k hk e
  subst e
  obtain ⟨h1, h2⟩ := s
  rcases h2 with ⟨rfl, _⟩ | ⟨g, cap, cur, rfl, hb, hg, _⟩
  · cases hk
  · cases hk
    rw [h] at hg
    injection hg with hg
    injection hg with _ hg
    exact ht hg
theorem OwnI.grown {W X : World} {B : Nat} {v : Value} {l : List Int} {row : Option Nat} (s : OwnI W B v l) (hg : W.grownBy X row) (hr : ∀ k, v.ownBlock = some k → some k ≠ row) : OwnI X B v l := by
  obtain ⟨h1, h2⟩ := s
  refine ⟨h1, ?_⟩
  rcases h2 with h2 | ⟨g, cap, cur, rfl, hb, hgg, h3⟩
  · exact Or.inl h2
  · exact Or.inr ⟨g, cap, cur, rfl, hb, by rw [hg.block g (Array.getElem?_eq_some_iff.1 hgg).1 (hr g rfl)]; exact hgg, h3⟩
theorem ZR.grown {o : Option Addr} {c : Nat} {l : List Nat} {p at0 : Nat} {lost : Bool} {W X : World} {row : Option Nat} (h : ZR o c l p at0 lost W) (hg : W.grownBy X row) (hp : some p ≠ row) (hr : ∀ b off, o = some ⟨b, off, none⟩ → 0 < l.length → some b ≠ row) : ZR o c l p at0 lost X :=
  ⟨by rw [hg.block p h.lt hp]; exact h.row, h.bs.grown hg hr⟩
def M64 : Nat := 18446744073709551615
end Go.Proofs.YtbbhmhihpdmoiaaGreat.Pk


/- pack.value, walked: what the bytes of a form come to; plain: a number's form comes to the number. -/
set_option linter.unusedVariables false
set_option linter.unusedSimpArgs false
namespace Go.Proofs.YtbbhmhihpdmoiaaGreat.Pk
open Go Go.RowKit
def valF : Nat → Nat → List Nat → Nat
  | _, n, [] => n
  | k, n, c :: s => if c < 128 then n + c % 128 * 128 ^ k % 18446744073709551616 else valF (k + 1) (n + c % 128 * 128 ^ k % 18446744073709551616) s
/-- what bytes come to -/
def valN (s : List Nat) : Nat := valF 0 0 (s.take 10)
theorem pow7 (k : Nat) : (2 : Nat) ^ (7 * k) = 128 ^ k := by rw [Nat.pow_mul]
theorem or_part {n c k : Nat} (hn : n < 128 ^ k) (hk : k ≤ 9) : n ||| (c % 128 * 128 ^ k % 18446744073709551616) = n + c % 128 * 128 ^ k % 18446744073709551616 := by
  have e : c % 128 * 128 ^ k % 18446744073709551616 = 2 ^ (7 * k) * (c % 128 % 2 ^ (64 - 7 * k)) := by
    rw [← pow7, Nat.mul_comm, show (18446744073709551616 : Nat) = 2 ^ (7 * k) * 2 ^ (64 - 7 * k) by rw [← Nat.pow_add, show 7 * k + (64 - 7 * k) = 64 by omega], Nat.mul_mod_mul_left]
  rw [e, Nat.or_comm, ← Nat.two_pow_add_eq_or_of_lt (by rw [pow7]; exact hn), Nat.add_comm]
theorem part_lt {n c k : Nat} (hn : n < 128 ^ k) (hk : k ≤ 8) : n + c % 128 * 128 ^ k % 18446744073709551616 < 128 ^ (k + 1) := by
  have h1 : c % 128 * 128 ^ k % 18446744073709551616 ≤ c % 128 * 128 ^ k := Nat.mod_le _ _
  have h2 : c % 128 * 128 ^ k ≤ 127 * 128 ^ k := Nat.mul_le_mul_right _ (by omega)
  rw [Nat.pow_succ]
  omega
theorem part_lt9 {n c : Nat} (hn : n < 128 ^ 9) : n + c % 128 * 128 ^ 9 % 18446744073709551616 < 18446744073709551616 := by
  have h9 : (128 : Nat) ^ 9 = 9223372036854775808 := by decide
  rw [h9] at hn ⊢
  omega
theorem part64 {n c k : Nat} (hn : n < 128 ^ k) (hk : k ≤ 9) : n + c % 128 * 128 ^ k % 18446744073709551616 < 18446744073709551616 := by
  rcases Nat.lt_or_ge k 9 with h | h
  · have h1 := part_lt (c := c) hn (show k ≤ 8 by omega)
    have h2 : (128 : Nat) ^ (k + 1) ≤ 128 ^ 9 := Nat.pow_le_pow_right (by omega) (by omega)
    have h9 : (128 : Nat) ^ 9 = 9223372036854775808 := by decide
    omega
  · obtain rfl : k = 9 := by omega
    exact part_lt9 hn
theorem valF_lt : ∀ (s : List Nat) (k n : Nat), k + s.length ≤ 10 → n < 128 ^ k → n < 18446744073709551616 → valF k n s < 18446744073709551616
  | [], _, _, _, _, h => h
  | c :: s, k, n, hk, hn, _ => by
    simp only [List.length_cons] at hk
    rw [valF]
    have h64 := part64 (c := c) hn (show k ≤ 9 by omega)
    split
    · exact h64
    · cases s with
      | nil => exact h64
      | cons d s =>
        simp only [List.length_cons] at hk
        exact valF_lt _ _ _ (by simp; omega) (part_lt hn (by omega)) h64
theorem valN_lt (s : List Nat) : valN s < 18446744073709551616 := valF_lt _ _ _ (by simp; omega) (by simp) (by omega)
/-- a form comes to its number -/
theorem valF_form : ∀ (f m k a : Nat) (t : List Nat), m < 128 ^ f → a + m * 128 ^ k < 18446744073709551616 → valF k a (form m ++ t) = a + m * 128 ^ k
  | 0, m, k, a, t, hf, h => by
    have hm0 : m = 0 := by simpa using hf
    subst hm0
    rw [form_small (by omega)]
    simp [valF]
  | f + 1, m, k, a, t, hf, h => by
    by_cases h128 : m < 128
    · rw [form_small h128]
      simp only [List.cons_append, List.nil_append, valF]
      rw [if_pos h128, Nat.mod_eq_of_lt h128, Nat.mod_eq_of_lt (by omega)]
    · have hm64 : m < 18446744073709551616 := by
        have : m * 1 ≤ m * 128 ^ k := Nat.mul_le_mul_left _ (Nat.pow_pos (by omega))
        omega
      rw [form_big h128 hm64]
      have hc : (128 + m % 128) % 128 = m % 128 := by omega
      have hsum : a + m % 128 * 128 ^ k + m / 128 * 128 ^ (k + 1) = a + m * 128 ^ k := by
        rw [Nat.pow_succ]
        have e : m = m % 128 + 128 * (m / 128) := by omega
        have : m * 128 ^ k = (m % 128 + 128 * (m / 128)) * 128 ^ k := by rw [← e]
        rw [this, Nat.add_mul, Nat.add_assoc]
        congr 2
        rw [Nat.mul_comm (128 ^ k) 128, ← Nat.mul_assoc, Nat.mul_comm (m / 128) 128]
      simp only [List.cons_append, valF]
      rw [if_neg (by omega), hc, Nat.mod_eq_of_lt (by omega), valF_form f (m / 128) (k + 1) _ t (by rw [Nat.pow_succ] at hf; omega) (by rw [hsum]; exact h), hsum]
theorem rdG_le10 : ∀ {s : List Nat} {most k n a j : Nat}, k ≤ 9 → rdG most k n s = some (a, j) → j ≤ 10
  | [], _, _, _, _, _, _, h => by simp [rdG] at h
  | c :: s, most, k, n, a, j, hk, h => by
    rw [rdG] at h
    split at h
    · cases h
    · rename_i h9
      split at h
      · rename_i h128
        exact rdG_le10 (by omega) h
      · split at h
        · cases h
        · cases h
          omega
theorem form_len10 {n : Nat} (h : n < 18446744073709551616) : (form n).length ≤ 10 := by
  have hr := rd_form n M64 [] h (by unfold M64; omega)
  have := rdG_le10 (by omega) hr
  simpa using this
theorem valN_form {n : Nat} (t : List Nat) (hn : n < 18446744073709551616) : valN (form n ++ t) = n := by
  unfold valN
  rw [List.take_append, List.take_of_length_le (form_len10 hn)]
  have h1 : (128 : Nat) ^ 10 = 1180591620717411303424 := by decide
  have := valF_form 10 n 0 0 (t.take (10 - (form n).length)) (by rw [h1]; omega) (by simpa using hn)
  simpa using this
/-- the number whose form stands at the head -/
theorem rd_val (s : List Nat) (hb : By s) : rd M64 s = if (form (valN s)).isPrefixOf s then some (valN s, (form (valN s)).length) else none := by
  cases h : rd M64 s with
  | none =>
    rw [if_neg]
    intro hp
    obtain ⟨t, ht⟩ := List.isPrefixOf_iff_prefix.1 hp
    have := rd_form (valN s) M64 t (valN_lt s) (by have := valN_lt s; unfold M64; omega)
    rw [ht, h] at this
    cases this
  | some r =>
    obtain ⟨n, j⟩ := r
    obtain ⟨h1, h2, h3⟩ := rd_has hb h
    have hs : form n ++ s.drop j = s := by rw [← h1]; exact List.take_append_drop j s
    have hv : valN s = n := by
      have := valN_form (s.drop j) h2
      rw [hs] at this
      exact this
    rw [hv, if_pos (List.isPrefixOf_iff_prefix.2 ⟨_, hs⟩), h3]
/-- a limit is looked at first or last -/
theorem rdG_most : ∀ {s : List Nat} {most k a : Nat}, most ≤ M64 → rdG most k a s = match rdG M64 k a s with | none => none | some (v, j) => if v ≤ most then some (v, j) else none
  | [], _, _, _, _ => by simp [rdG]
  | c :: s, most, k, a, hm => by
    rw [rdG, rdG]
    split
    · rfl
    · split
      · exact rdG_most hm
      · by_cases h0 : 0 < k ∧ c = 0
        · rw [if_pos (.inl h0), if_pos (.inl h0)]
        · by_cases h1 : M64 < a + c % 128 * 128 ^ k
          · rw [if_pos (.inr (by omega)), if_pos (.inr h1)]
          · rw [if_neg (show ¬((0 < k ∧ c = 0) ∨ M64 < a + c % 128 * 128 ^ k) by rintro (h | h); exact h0 h; exact h1 h)]
            dsimp only
            by_cases h2 : a + c % 128 * 128 ^ k ≤ most
            · rw [if_pos h2, if_neg (by rintro (h | h); exact h0 h; omega)]
            · rw [if_neg h2, if_pos (.inr (by omega))]
theorem rd_most (s : List Nat) {most : Nat} (hm : most ≤ M64) : rd most s = match rd M64 s with | none => none | some (v, j) => if v ≤ most then some (v, j) else none := rdG_most hm
end Go.Proofs.YtbbhmhihpdmoiaaGreat.Pk


/- pack.value, walked. -/
set_option linter.unusedVariables false
set_option linter.unusedSimpArgs false
namespace Go.Proofs.YtbbhmhihpdmoiaaGreat.Pk
open Go Go.RowKit
set_option maxRecDepth 100000 in
theorem u8_less128 (x : Nat) (h : x < 256) : bits .andNot .u8 (x : Int) 128 = ((x % 128 : Nat) : Int) := by
  have h0 : ∀ x : Fin 256, bits .andNot .u8 ((x.val : Nat) : Int) 128 = ((x.val % 128 : Nat) : Int) := by decide
  exact h0 ⟨x, h⟩
set_option maxRecDepth 100000 in
set_option maxHeartbeats 2000000 in
theorem value_any (o : Option Addr) (c : Nat) (l : List Nat) (w : World) (hby : By l) (hlen : l.length ≤ 1000000000) (hc : l.length ≤ c ∧ c ≤ 9223372036854775807 ∧ (o = none → c = 0)) (hb : Bs w o l) :
    Calls Tryz.prog 138 #[.slice o l.length c] w fun e w' => e = .returned (.int .u64 ((valN l : Nat) : Int)) ∧ w = w' := by
  obtain ⟨hc1, hc2, hc3⟩ := hc
  obtain ⟨s, hs⟩ : ∃ s, l.take 10 = s := ⟨_, rfl⟩
  obtain ⟨N, hN⟩ : ∃ N, s.length = N := ⟨_, rfl⟩
  have hN10 : N ≤ 10 := by rw [← hN, ← hs]; simp; omega
  have hNl : N ≤ l.length := by rw [← hN, ← hs, List.length_take]; omega
  have hmin : min (l.length : Int) 10 = (N : Int) := by rw [← hN, ← hs, List.length_take]; omega
  have hmax : max (N : Int) 0 = (N : Int) := by omega
  have hV : valF 0 0 s = valN l := by unfold valN; rw [hs]
  have hbs := hb.take 10
  rw [hs] at hbs
  have hbsy : By s := by rw [← hs]; exact hby.take 10
  have HBS := Lib.hid hbs
  have HBY := Lib.hid hbsy
  have HN := Lib.hid hN
  have HV := Lib.hid hV
  obtain ⟨V, hVV⟩ : ∃ V, valN l = V := ⟨_, rfl⟩
  rw [hVV] at HV ⊢
  clear hs hN hb hbs hbsy hV hVV hby
  go_enter Tryz.func138, Tryz.ntmps138
  go_wp2_with fail
  go_loopg [3, 12] 10 (fun g s3 s12 wr => ∃ (k n : Nat), g = 10 - k ∧ k ≤ N ∧ s12 = .int .i64 (k : Int) ∧ s3 = .int .u64 (n : Int) ∧ n < 128 ^ k ∧ n < 18446744073709551616 ∧ valF k n (s.drop k) = V ∧ wr = w)
  case atStart => exact ⟨0, 0, rfl, by omega, rfl, rfl, by simp, by omega, HV.out, rfl⟩
  case round =>
    obtain ⟨k, n, hg, hk, rfl, rfl, hn, hn64, hv, rfl⟩ := hrel
    subst hg
    have k0 : (0 : Int) ≤ (k : Int) := by omega
    have HVV := Lib.hid hv
    have HNN := Lib.hid hn
    clear hv hn HV
    by_cases hkN : k < N
    · have k1 : (k : Int) < (N : Int) := by omega
      have k9 : k ≤ 9 := by omega
      have hkl : k < s.length := by rw [HN.out]; exact hkN
      obtain ⟨b, off, rfl, hcell⟩ := HBS.out k hkl
      obtain ⟨x, hx⟩ : ∃ x, s.getD k 0 = x := ⟨_, rfl⟩
      have hx256 := HBY.out.get k
      have hdrop : s.drop k = x :: s.drop (k + 1) := by
        rw [List.drop_eq_getElem_cons hkl, ← hx]
        simp [List.getD, hkl]
      rw [hx] at hcell hx256
      have HX := HVV.out
      rw [hdrop, valF] at HX
      have HX := Lib.hid HX
      have hand := u8_less128 x hx256
      have hwr : IntKind.u64.wrap ((x : Int) % 128 * 2 ^ (7 * k)) = ((x % 128 * 128 ^ k % 18446744073709551616 : Nat) : Int) := by
        rw [IntKind.wrap_u64, ← pow7]
        simp
      have hor := u64_or_nat n (x % 128 * 128 ^ k % 18446744073709551616) hn64 (by omega)
      rw [or_part HNN.out k9] at hor
      have hp := part64 (c := x) HNN.out k9
      have hp8 : k ≤ 8 → n + x % 128 * 128 ^ k % 18446744073709551616 < 128 ^ (k + 1) := fun h => part_lt HNN.out h
      have HP8 := Lib.hid hp8
      have hmul : IntKind.i64.wrap (7 * (k : Int)) = 7 * (k : Int) := by rw [IntKind.wrap_i64]; omega
      clear hx hdrop HVV hp8
      generalize x % 128 * 128 ^ k % 18446744073709551616 = M at *
      obtain ⟨Y, hY⟩ : ∃ Y, n + M = Y := ⟨_, rfl⟩
      rw [hY] at hor hp HP8 HX
      have HPP := Lib.hid hp
      clear hY hp
      by_cases h128 : x < 128
      · have t1 : (x : Int) < 128 := by omega
        have hV2 : Y = V := by
          have := HX.out
          rw [if_pos h128] at this
          exact this
        subst hV2
        clear HX HP8
        go_wp2_with fail
        go_ret
        exact ⟨rfl, rfl⟩
      · have t1 : ¬ (x : Int) < 128 := by omega
        have HV2 : Hid (valF (k + 1) Y (s.drop (k + 1)) = V) := Lib.hid (by
          have := HX.out
          rw [if_neg h128] at this
          exact this)
        have HP9 : Hid (Y < 128 ^ (k + 1)) := Lib.hid (by
          rcases Nat.lt_or_ge k 9 with h | h
          · exact HP8.out (by omega)
          · obtain rfl : k = 9 := by omega
            have h10 : (128 : Nat) ^ (9 + 1) = 1180591620717411303424 := by decide
            have := HPP.out
            omega)
        clear HX HP8
        go_wp2_with fail
        go_roundg (10 - (k + 1))
        case measure => omega
        case rel => exact ⟨k + 1, Y, rfl, by omega, by go_num, rfl, HP9.out, HPP.out, HV2.out, rfl⟩
    · have k1 : ¬ (k : Int) < (N : Int) := by omega
      have hkk : k = s.length := by rw [HN.out]; omega
      have hV2 : n = V := by
        have := HVV.out
        rw [hkk, List.drop_length, valF] at this
        exact this
      subst hV2
      clear HVV hkk
      go_wp2_with fail
      go_ret
      exact ⟨rfl, rfl⟩
end Go.Proofs.YtbbhmhihpdmoiaaGreat.Pk

