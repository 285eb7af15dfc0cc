/- What PackBack writes, plain; and reads. -/
import Derived.Test.YtpbidfmijliehaaProg
import Derived.Test.YtpbidfmijliehaaDa
import Derived.Test.YtpbidfmijliehaaAg
set_option linter.unusedVariables false
set_option linter.unusedSimpArgs false
namespace Go.Proofs.Ytpbidfmijliehaa.Fx
open Go Go.RowKit
/-- the number that Small is given -/
def n16 (n : Int) : Nat := (n % 65536).toNat
theorem n16_le (n : Int) : n16 n ≤ 65535 := by unfold n16; omega
/-- the bytes of a call -/
def opB (x : OpR) : List Nat :=
  if x.kind = 0 then form x.u.toNat else if x.kind = 1 then form (fold x.i) else if x.kind = 2 then form (n16 x.n) else if x.kind = 3 then [if x.is = true then 1 else 0] else if x.kind = 4 then form x.bl.length ++ x.bl else []
/-- the bytes of the first k calls -/
def cat (xs : List OpR) (k : Nat) : List Nat := (xs.take k).flatMap opB
theorem cat_zero (xs : List OpR) : cat xs 0 = [] := rfl
theorem cat_next {xs : List OpR} {k : Nat} {x : OpR} (h : xs[k]? = some x) : cat xs (k + 1) = cat xs k ++ opB x := by
  unfold cat
  rw [List.take_add_one, h]
  simp
theorem cat_all {xs : List OpR} {k : Nat} (h : xs.length ≤ k) : cat xs k = xs.flatMap opB := by
  unfold cat
  rw [List.take_of_length_le h]
theorem cat_le (xs : List OpR) (k : Nat) : (cat xs k).length ≤ (xs.flatMap opB).length := by
  have h : xs.flatMap opB = (xs.take k).flatMap opB ++ (xs.drop k).flatMap opB := by rw [← List.flatMap_append, List.take_append_drop]
  rw [h]
  unfold cat
  simp
theorem cat_drop {xs : List OpR} {k : Nat} {x : OpR} (h : xs[k]? = some x) : ∃ rest, xs.flatMap opB = cat xs k ++ (opB x ++ rest) := by
  have hk := (List.getElem?_eq_some_iff.1 h).1
  refine ⟨(xs.drop (k + 1)).flatMap opB, ?_⟩
  unfold cat
  have e : xs = xs.take k ++ (x :: xs.drop (k + 1)) := by
    have h1 := List.take_append_drop k xs
    rw [List.drop_eq_getElem_cons hk] at h1
    rw [← (List.getElem?_eq_some_iff.1 h).2]
    exact h1.symm
  conv => lhs; rw [e]
  simp
structure OpS (x : OpR) : Prop where
  wf : OpWf x
  len : x.bl.length ≤ 300
theorem opB_len {x : OpR} (h : OpS x) : (opB x).length ≤ 311 := by
  have hl := h.len
  unfold opB
  split
  · have := (form_len x.u.toNat).2; omega
  · split
    · have := (form_len (fold x.i)).2; omega
    · split
      · have := (form_len (n16 x.n)).2; omega
      · split
        · simp
        · split
          · have := (form_len x.bl.length).2; simp; omega
          · simp
theorem opB_by {x : OpR} (h : OpS x) : By (opB x) := by
  have hw := h.wf
  have hl := h.len
  unfold opB
  split
  · exact form_bytes (by have := hw.u; omega)
  · split
    · exact form_bytes (fold_lt hw.i.1 hw.i.2)
    · split
      · exact form_bytes (by have := n16_le x.n; omega)
      · split
        · intro c hc
          simp at hc
          subst hc
          split <;> omega
        · split
          · exact (form_bytes (by omega)).append hw.by'
          · intro c hc; cases hc
theorem flat_len : ∀ {xs : List OpR}, (∀ x ∈ xs, OpS x) → (xs.flatMap opB).length ≤ 311 * xs.length
  | [], _ => by simp
  | x :: xs, h => by
    have h1 := opB_len (h x (by simp))
    have h2 := flat_len (xs := xs) (fun y hy => h y (by simp [hy]))
    simp only [List.flatMap_cons, List.length_append, List.length_cons]
    omega
theorem flat_by : ∀ {xs : List OpR}, (∀ x ∈ xs, OpS x) → By (xs.flatMap opB)
  | [], _ => by intro c hc; cases hc
  | x :: xs, h => by
    rw [List.flatMap_cons]
    exact (opB_by (h x (by simp))).append (flat_by (fun y hy => h y (by simp [hy])))
theorem cat_len {xs : List OpR} (h : ∀ x ∈ xs, OpS x) (hl : xs.length ≤ 200) (k : Nat) : (cat xs k).length ≤ 62200 := by
  unfold cat
  have h1 := flat_len (xs := xs.take k) (fun x hx => h x (List.mem_of_mem_take hx))
  have h2 : (xs.take k).length ≤ xs.length := by simp; omega
  omega
theorem ops_small {w : World} {o : Option Addr} {xs : List OpR} (h : OpsAt w o xs) (hg : greatB xs = false) : (∀ x ∈ xs, OpS x) ∧ xs.length ≤ 200 := by
  have hg2 := hg
  unfold greatB at hg2
  simp only [Bool.or_eq_false_iff, decide_eq_false_iff_not, List.any_eq_false] at hg2
  refine ⟨fun x hx => ?_, by have := hg2.1; omega⟩
  obtain ⟨k, hk, e⟩ := List.getElem_of_mem hx
  obtain ⟨_, _, _, _, hw⟩ := h k x (by rw [List.getElem?_eq_getElem hk, e])
  exact ⟨hw, by have := hg2.2 x hx; simp at this; omega⟩
/-- what is read of the bytes of a call -/
theorem rq_at {L pre rest : List Nat} {n : Nat} (most : Nat) (hL : L = pre ++ (form n ++ rest)) (hn : n < 18446744073709551616) (hm : n ≤ most) : rq false most (L.drop pre.length) = some (n, (form n).length) := by
  subst hL
  rw [List.drop_left]
  exact rd_form n most rest hn hm
theorem rz_at {L pre rest : List Nat} {n : Nat} (most : Int) (hL : L = pre ++ (form n ++ rest)) (hn : n < 18446744073709551616) (hm : (n : Int) ≤ most) : rz false most (L.drop pre.length) = some (n, (form n).length) := by
  subst hL
  rw [List.drop_left]
  unfold rz
  rw [if_neg (by simp; omega)]
  exact rd_form n most.toNat rest hn (by omega)
theorem tx_at {L pre rest m : List Nat} (most : Int) (hL : L = pre ++ ((form m.length ++ m) ++ rest)) (hn : m.length < 18446744073709551616) (hm : (m.length : Int) ≤ most) : txR false most L pre.length = some (m, (form m.length ++ m).length) := by
  have h := rz_at (L := L) (pre := pre) (rest := m ++ rest) most (by rw [hL, List.append_assoc]) hn hm
  unfold txR
  rw [h]
  have e : L.drop (pre.length + (form m.length).length) = m ++ rest := by
    rw [hL, ← List.drop_drop, List.drop_left, List.append_assoc, List.drop_left]
  dsimp only
  rw [e, List.take_left, if_pos]
  · simp
  · rw [hL]
    simp
    omega
theorem Turn.below {p : Nat} {v v' : Value} {l : List Nat} {lost : Bool} {w W X : World} (t : Turn p v v' W X) (hb : Below w.heap.size w W) (hp : w.heap.size ≤ p) (hw : PW w.heap.size p v l lost W) : Below w.heap.size w X :=
  ⟨t.os.trans hb.os, t.tape.trans hb.tape, t.output.trans hb.output, Nat.le_trans hb.size t.size, fun k hk => (t.block k (Nat.lt_of_lt_of_le hk hb.size) (by omega) (fun h => by have := hw.own.blk k h; omega)).trans (hb.block k hk)⟩
theorem PW.mono {B C p : Nat} {v : Value} {l : List Nat} {lost : Bool} {W : World} (hB : B ≤ C) (h : PW C p v l lost W) : PW B p v l lost W := ⟨h.row, h.own.mono hB⟩
end Go.Proofs.Ytpbidfmijliehaa.Fx
