/- The document's powers of two, walked. 
  The document's products, walked. 
  The document's comparison of two numbers, walked. 
  The number of a number of 128 bits, as the document has it, walked. 
  The number of 128 bits of a number, as the document has it, walked. 
  The document's To and Cut: their answers. 
  The document's long division: plain. -/
import Derived.Test.YtildnadkfonlhaaProg
import Derived.Test.YtildnadkfonlhaaBb
import Derived.Test.YtildnadkfonlhaaLd
import Derived.Test.YtildnadkfonlhaaW5
import Derived.Laws.ResultCell
import Derived.Test.YtildnadkfonlhaaWe
set_option linter.unusedVariables false
set_option linter.unusedSimpArgs false
namespace Go.Proofs.Ytildnadkfonlhaa.Fx
open Go Go.RowKit Wm
theorem big_put (neg : Bool) (d : List Nat) (q v : Nat) : (bigC neg d).setIfInBounds (1 + q) (.int .u64 (v : Int)) = bigC neg (d.set q v) := by
  unfold bigC
  rw [List.setIfInBounds_toArray, Nat.add_comm, List.set_cons_succ, List.map_set]
  rfl
end Go.Proofs.Ytildnadkfonlhaa.Fx
set_option linter.unusedVariables false
set_option linter.unusedSimpArgs false
namespace Go.Proofs.Ytildnadkfonlhaa.Fx
open Go Go.RowKit Wm
theorem num_set : ∀ (d : List Nat) (k v : Nat), k < d.length → num (d.set k v) + d.getD k 0 * 65536 ^ k = num d + v * 65536 ^ k
  | [], k, v, h => by simp at h
  | x :: d, 0, v, h => by
    simp only [List.set_cons_zero, num, List.getD_cons_zero, Nat.pow_zero, Nat.mul_one]
    omega
  | x :: d, k + 1, v, h => by
    have ih := num_set d k v (by simpa using h)
    simp only [List.set_cons_succ, num, List.getD_cons_succ]
    rw [Nat.pow_succ, ← Nat.mul_assoc, ← Nat.mul_assoc]
    generalize d.getD k 0 * 65536 ^ k = A at *
    generalize v * 65536 ^ k = B at *
    omega
theorem dg_set {d : List Nat} (h : Dg d) (k : Nat) {v : Nat} (hv : v < 65536) : Dg (d.set k v) := by
  refine ⟨by rw [List.length_set]; exact h.1, fun x hx => ?_⟩
  rcases List.mem_or_eq_of_mem_set hx with hx | rfl
  · exact h.2 x hx
  · exact hv
theorem dg_at_lt {d : List Nat} (h : Dg d) (k : Nat) : d.getD k 0 < 65536 := by
  rw [List.getD_eq_getElem?_getD]
  by_cases hk : k < d.length
  · rw [List.getElem?_eq_getElem hk]
    exact h.2 _ (List.getElem_mem hk)
  · rw [List.getElem?_eq_none (by omega)]
    simp
theorem getD_set_n (l : List Nat) (k p : Nat) (x : Nat) (hk : k < l.length) : (l.set k x).getD p 0 = if k = p then x else l.getD p 0 := by
  simp only [List.getD_eq_getElem?_getD, List.getElem?_set]
  split
  · subst_vars
    simp [hk]
  · rfl
/-- between two digits of a product -/
structure Pr (m n i j c : Nat) (d : List Nat) : Prop where
  hd : Dg d
  eq : num d + c * 65536 ^ (i + j) = m % 65536 ^ i * n + m / 65536 ^ i % 65536 * (n % 65536 ^ j) * 65536 ^ i
  hc : c < 65536
  up : ∀ p, i + 9 ≤ p → d.getD p 0 = 0
set_option maxRecDepth 100000 in
theorem Pr.next {m n i j c a b s : Nat} {d : List Nat} (h : Pr m n i j c d) (hij : i + j < 20) (hj : j < 9) (ha : m / 65536 ^ i % 65536 = a) (hb : n / 65536 ^ j % 65536 = b) (hs : s = d.getD (i + j) 0 + a * b + c) :
    Pr m n i (j + 1) (s / 65536) (d.set (i + j) (s % 65536)) := by
  have hz := dg_at_lt h.hd (i + j)
  have hab : a * b ≤ 65535 * 65535 := Nat.mul_le_mul (by omega) (by omega)
  have hc := h.hc
  refine ⟨dg_set h.hd _ (by omega), ?_, by omega, fun p hp => ?_⟩
  · have e1 := num_set d (i + j) (s % 65536) (by rw [h.hd.1]; exact hij)
    have e2 := h.eq
    rw [ha] at e2 ⊢
    have e3 : n % 65536 ^ (j + 1) = n % 65536 ^ j + 65536 ^ j * b := by rw [Nat.mod_pow_succ, hb]
    have e4 : a * (65536 ^ j * b) * 65536 ^ i = a * b * 65536 ^ (i + j) := by rw [Nat.pow_add]; ac_rfl
    have e5 : 65536 ^ (i + (j + 1)) = 65536 ^ (i + j) * 65536 := by rw [← Nat.pow_succ]; rfl
    rw [e3, Nat.mul_add, Nat.add_mul, e4, e5]
    have e6 : s / 65536 * (65536 ^ (i + j) * 65536) + s % 65536 * 65536 ^ (i + j) = s * 65536 ^ (i + j) := by
      rw [Nat.mul_comm (65536 ^ (i + j)) 65536, ← Nat.mul_assoc, ← Nat.add_mul, Nat.div_add_mod']
    have e7 : s * 65536 ^ (i + j) = d.getD (i + j) 0 * 65536 ^ (i + j) + a * b * 65536 ^ (i + j) + c * 65536 ^ (i + j) := by rw [hs, Nat.add_mul, Nat.add_mul]
    generalize s / 65536 * (65536 ^ (i + j) * 65536) = A1 at *
    generalize s % 65536 * 65536 ^ (i + j) = A2 at *
    generalize s * 65536 ^ (i + j) = A3 at *
    generalize d.getD (i + j) 0 * 65536 ^ (i + j) = A4 at *
    generalize a * b * 65536 ^ (i + j) = A5 at *
    generalize c * 65536 ^ (i + j) = A6 at *
    generalize a * (n % 65536 ^ j) * 65536 ^ i = A7 at *
    generalize m % 65536 ^ i * n = A8 at *
    omega
  · rw [getD_set_n _ _ _ _ (by rw [h.hd.1]; exact hij), if_neg (by omega)]
    exact h.up p hp
theorem Pr.row {m n i c : Nat} {d : List Nat} (h : Pr m n i 9 c d) (hi : i < 9) (hn : n < 65536 ^ 9) : Pr m n (i + 1) 0 0 (d.set (i + 9) c) := by
  refine ⟨dg_set h.hd _ h.hc, ?_, by omega, fun p hp => ?_⟩
  · have e1 := num_set d (i + 9) c (by rw [h.hd.1]; omega)
    have e2 := h.eq
    rw [h.up (i + 9) (by omega), Nat.zero_mul] at e1
    rw [Nat.mod_eq_of_lt hn] at e2
    rw [Nat.mod_pow_succ, Nat.zero_mul, Nat.pow_zero, Nat.mod_one, Nat.mul_zero, Nat.zero_mul, Nat.add_mul]
    have e3 : 65536 ^ i * (m / 65536 ^ i % 65536) * n = m / 65536 ^ i % 65536 * n * 65536 ^ i := by ac_rfl
    rw [e3]
    omega
  · rw [getD_set_n _ _ _ _ (by rw [h.hd.1]; omega), if_neg (by omega)]
    exact h.up p (by omega)
theorem Pr.start (m n : Nat) : Pr m n 0 0 0 zeros := by
  refine ⟨dg_dg 0, by simp [Nat.mod_one, num, zeros], by omega, fun p hp => ?_⟩
  rw [List.getD_eq_getElem?_getD, zeros, List.getElem?_replicate]
  split <;> rfl
theorem Pr.done {m n : Nat} {d : List Nat} (h : Pr m n 9 0 0 d) (hm : m < 65536 ^ 9) : d = dg (m * n) := by
  have e := h.eq
  rw [Nat.mod_eq_of_lt hm, Nat.pow_zero, Nat.mod_one, Nat.mul_zero, Nat.zero_mul, Nat.add_zero, Nat.add_zero] at e
  rw [← e]
  exact (dg_num h.hd).symm
end Go.Proofs.Ytildnadkfonlhaa.Fx
set_option linter.unusedVariables false
set_option linter.unusedSimpArgs false
namespace Go.Proofs.Ytildnadkfonlhaa.Fx
open Go Go.RowKit Wm
theorem bv_same (x z : Int) : (bv x).size = (bv z).size := big_same _ _ _ _ (dg_len _) (dg_len _)
theorem bv_one (z : Int) : (bv z).all (·.oneCell') = true := big_one _ _
theorem bv_zero : bv 0 = bigC false zeros := rfl
end Go.Proofs.Ytildnadkfonlhaa.Fx
set_option linter.unusedVariables false
set_option linter.unusedSimpArgs false
namespace Go.Proofs.Ytildnadkfonlhaa.Fx
open Go Go.RowKit Wm
end Go.Proofs.Ytildnadkfonlhaa.Fx
set_option linter.unusedVariables false
set_option linter.unusedSimpArgs false
namespace Go.Proofs.Ytildnadkfonlhaa.Fx
open Go Go.RowKit Wm
theorem results_row_tmp {P : Program} {fn : Func} {p u : Tmp} {ty : TypeId} (h : fn.results = #[.cell p ty, .tmp u]) (tmps : Array Value) (w : World) (g : Nat) (t : TypeId) (cs : Array Value) (fr : Nat × Nat) (d : TypeDesc) (v : Value)
    (hp : tmps.getD p undef = .pointer (some ⟨g, 0, none⟩)) (hg : w.heap[g]? = some (.cells cs t fr))
    (hu : P.underlying ty = some d) (hd : (match d with | .struct _ | .array _ _ => true | _ => false) = true) (hi : (P.info? ty).map (·.size) = some cs.size) (hv : tmps.getD u undef = v) :
    (results fn tmps).run P w = .ok (.tuple #[.agg cs, v]) w := by
  rw [results_cell_tmp h, hp, hv]
  simp [asAddr, Result.andThen, run_loadVar_row w g t ty cs fr d hg hu hd hi]
def WideAt (g : Nat) (h : Int) (l : Nat) (W : World) : Prop := W.heap[g]? = some (.cells #[.int .i64 h, .int .u64 l] 131 (0, 0))
theorem WideAt.below {W X : World} {g l : Nat} {h : Int} (hb : Below W.heap.size W X) (i : WideAt g h l W) : WideAt g h l X := keep_row hb i
theorem WideAt.c0 {W : World} {g l : Nat} {h : Int} (i : WideAt g h l W) : W.cell? ⟨g, 0, none⟩ = some (.int .i64 h) := by rw [cell_of_row _ _ _ _ _ _ i]; rfl
theorem WideAt.c1 {W : World} {g l : Nat} {h : Int} (i : WideAt g h l W) : W.cell? ⟨g, 1, none⟩ = some (.int .u64 (l : Int)) := by rw [cell_of_row _ _ _ _ _ _ i]; rfl
theorem WideAt.fr {W : World} {g l : Nat} {h : Int} (i : WideAt g h l W) (j : Nat) : W.frozen? ⟨g, j, none⟩ = false := frozen_row i
theorem WideAt.put2 {W : World} {g b l : Nat} {a h : Int} (i : WideAt g a b W) : WideAt g h l ((W.setCell ⟨g, 0, none⟩ (.int .i64 h)).setCell ⟨g, 1, none⟩ (.int .u64 (l : Int))) := by
  unfold WideAt
  rw [heap_setCell_same _ _ _ _ _ _ (heap_setCell_same _ _ _ _ _ _ i)]
  rfl
theorem Below.put2 {B : Nat} {v W : World} {g : Nat} (hb : Below B v W) (hg : B ≤ g) (x y : Value) : Below B v ((W.setCell ⟨g, 0, none⟩ x).setCell ⟨g, 1, none⟩ y) :=
  (hb.setCell (p := ⟨g, 0, none⟩) hg _).setCell (p := ⟨g, 1, none⟩) hg _
theorem wpIn_load_row {F : Fence} {n : Nat} {P : Program} {o : Oper} {a : Act} {w : World} {K : Act → World → Prop} {Q : Exit → Act → World → Prop} (hF : ∀ f, F.fn f) (ty : TypeId) (x : Operand) (ho : o.op = .load ty x)
    (g : Nat) (hx : a.eval x = .pointer (some ⟨g, 0, none⟩)) (t : TypeId) (cs : Array Value) (fr : Nat × Nat) (d : TypeDesc) (hg : w.heap[g]? = some (.cells cs t fr))
    (hu : P.underlying ty = some d) (hd : (match d with | .struct _ | .array _ _ => true | _ => false) = true) (hi : (P.info? ty).map (·.size) = some cs.size) (h : K (a.put o.dst (.agg cs)) w) : Oper.wpIn F n P o a w K Q := by
  unfold Oper.wpIn
  rw [Oper.semAt_plain F _ _ (by intro c e; rw [ho] at e; cases e)]
  rw [exec_load_row ty x ho g hx t cs fr d hg hu hd hi]
  exact ⟨fun f _ => hF f, h⟩
theorem to_step (y k : Nat) (hk : k < 4) : y / 65536 ^ k % 65536 ^ (4 - k) = y / 65536 ^ (k + 1) % 65536 ^ (4 - (k + 1)) * 65536 + y / 65536 ^ k % 65536 := by
  have h1 : y / 65536 ^ (k + 1) = y / 65536 ^ k / 65536 := by rw [Nat.pow_succ, Nat.div_div_eq_div_mul]
  obtain ⟨m, hm⟩ : ∃ m, 4 - (k + 1) = m := ⟨_, rfl⟩
  rw [h1, hm, show 4 - k = m + 1 by omega]
  generalize y / 65536 ^ k = q
  rw [Nat.pow_succ, Nat.mul_comm (65536 ^ m) 65536, Nat.mod_mul]
  omega
theorem to_lt (y k : Nat) (hk : 1 ≤ k) : y % 65536 ^ (4 - k) < 281474976710656 := by
  have h1 : y % 65536 ^ (4 - k) < 65536 ^ (4 - k) := Nat.mod_lt _ (Nat.pow_pos (by omega))
  have h2 : 65536 ^ (4 - k) ≤ 65536 ^ 3 := Nat.pow_le_pow_right (by omega) (by omega)
  have h3 : (65536 : Nat) ^ 3 = 281474976710656 := by decide
  omega
end Go.Proofs.Ytildnadkfonlhaa.Fx
set_option linter.unusedVariables false
set_option linter.unusedSimpArgs false
namespace Go.Proofs.Ytildnadkfonlhaa.Fx
open Go Go.RowKit Wm
def RetT (x : Int) (w : World) (e : Ending) (w' : World) : Prop := ∃ h : Int, ∃ l : Nat, e = .returned (.tuple #[.agg #[.int .i64 h, .int .u64 l], .bool (decide (In x))]) ∧ At (valE x) h l ∧ Below w.heap.size w w'
end Go.Proofs.Ytildnadkfonlhaa.Fx
set_option linter.unusedVariables false
set_option linter.unusedSimpArgs false
namespace Go.Proofs.Ytildnadkfonlhaa.Fx
open Go Go.RowKit Wm
theorem dg_inc (r b : Nat) (hb : b ≤ 1) (hr : r % 2 = 0) : (dg r).set 0 (r % 65536 + b) = dg (r + b) := by
  unfold dg
  rw [show dgF 20 r = r % 65536 :: dgF 19 (r / 65536) from rfl, show dgF 20 (r + b) = (r + b) % 65536 :: dgF 19 ((r + b) / 65536) from rfl, List.set_cons_zero, show (r + b) % 65536 = r % 65536 + b by omega, show (r + b) / 65536 = r / 65536 by omega]
theorem bv_nat (n : Nat) : bv (n : Int) = bigC false (dg n) := by
  unfold bv
  rw [decide_eq_false (by omega), Int.natAbs_natCast]
theorem dv_step {m n k q r b : Nat} (hn : 0 < n) (hq : m / 2 ^ (k + 1) / n = q) (hr : m / 2 ^ (k + 1) % n = r) (hb : m / 2 ^ k % 2 = b) :
    (r + r + b < n → m / 2 ^ k / n = q + q ∧ m / 2 ^ k % n = r + r + b) ∧ (¬ r + r + b < n → m / 2 ^ k / n = q + q + 1 ∧ m / 2 ^ k % n = r + r + b - n) := by
  have h1 : m / 2 ^ (k + 1) = m / 2 ^ k / 2 := by rw [Nat.pow_succ, Nat.div_div_eq_div_mul]
  rw [h1] at hq hr
  generalize m / 2 ^ k = M at *
  have h2 := Nat.div_add_mod (M / 2) n
  rw [hq, hr] at h2
  have hrn : r < n := by rw [← hr]; exact Nat.mod_lt _ hn
  have h3 : n * (q + q) = n * q + n * q := Nat.mul_add _ _ _
  have h4 : n * (q + q + 1) = n * q + n * q + n := by rw [Nat.mul_add, h3, Nat.mul_one]
  refine ⟨fun h => (Nat.div_mod_unique hn).2 ⟨?_, h⟩, fun h => (Nat.div_mod_unique hn).2 ⟨?_, by omega⟩⟩
  · omega
  · omega
theorem dv_bit (m k : Nat) : m / 65536 ^ (k / 16) % 65536 / 2 ^ (k % 16) % 2 = m / 2 ^ k % 2 := by
  have e1 : (65536 : Nat) ^ (k / 16) = 2 ^ (16 * (k / 16)) := by rw [show (65536 : Nat) = 2 ^ 16 by decide, ← Nat.pow_mul]
  have e2 : k = 16 * (k / 16) + k % 16 := by omega
  have e3 : m / 2 ^ k = m / 2 ^ (16 * (k / 16)) / 2 ^ (k % 16) := by
    conv => lhs; rw [e2, Nat.pow_add, ← Nat.div_div_eq_div_mul]
  rw [e1, e3]
  generalize m / 2 ^ (16 * (k / 16)) = u
  have e4 : (65536 : Nat) = 2 ^ (k % 16) * 2 ^ (16 - k % 16) := by rw [← Nat.pow_add, show k % 16 + (16 - k % 16) = 16 by omega]
  rw [e4, Nat.mod_mul_right_div_self, show 16 - k % 16 = 1 + (15 - k % 16) by omega, Nat.pow_add, Nat.pow_one, Nat.mod_mul_right_mod]
theorem dv_le {m n r k : Nat} (hn : 0 < n) (h : m / 2 ^ k % n = r) : r < n := by rw [← h]; exact Nat.mod_lt _ hn
end Go.Proofs.Ytildnadkfonlhaa.Fx
