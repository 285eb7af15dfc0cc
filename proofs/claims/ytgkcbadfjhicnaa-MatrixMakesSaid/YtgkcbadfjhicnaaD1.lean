/- The document's long division: plain. -/
import Derived.Test.YtgkcbadfjhicnaaProg
import Derived.Test.YtgkcbadfjhicnaaK4
set_option linter.unusedVariables false
set_option linter.unusedSimpArgs false
namespace Go.Proofs.Ytgkcbadfjhicnaa.Fx
open Go Go.RowKit Wm
theorem BigAt.set_sign {g : Nat} {z : Int} {W : World} (h : BigAt g z W) (b : Bool) : (W.setCell ⟨g, 0, none⟩ (.bool b)).heap[g]? = some (.cells (bigC b (dg z.natAbs)) 27 (0, 0)) := by
  rw [heap_setCell_same _ _ _ _ _ _ h]
  unfold bv
  rw [big_sign]
theorem BigAt.neg {g : Nat} {q : Nat} {W : World} (h : BigAt g (q : Int) W) (b : Bool) (z : Int) (hz : decide (z < 0) = b) (hq : z.natAbs = q) : BigAt g z (W.setCell ⟨g, 0, none⟩ (.bool b)) := by
  have := h.set_sign b
  unfold BigAt bv
  rw [hz, hq, this, Int.natAbs_natCast]
theorem dg_inc (r b : Nat) (hb : b ≤ 1) (hr : r % 2 = 0) : (dg r).set 0 (r % 65536 + b) = dg (r + b) := by
  unfold dg
  rw [show dgF 20 r = r % 65536 :: dgF 19 (r / 65536) from rfl, show dgF 20 (r + b) = (r + b) % 65536 :: dgF 19 ((r + b) / 65536) from rfl, List.set_cons_zero, show (r + b) % 65536 = r % 65536 + b by omega, show (r + b) / 65536 = r / 65536 by omega]
theorem BigAt.inc {g r b : Nat} {W : World} (h : BigAt g (r : Int) W) (hb : b ≤ 1) (hr : r % 2 = 0) : BigAt g ((r + b : Nat) : Int) (W.setCell ⟨g, 1, none⟩ (.int .u64 ((r % 65536 + b : Nat) : Int))) := by
  unfold BigAt
  rw [show (1 : Nat) = 1 + 0 from rfl, heap_setCell_same _ _ _ _ _ _ h]
  unfold bv
  rw [big_put, Int.natAbs_natCast, Int.natAbs_natCast, dg_inc r b hb hr]
  congr 3
theorem BigAt.row {g : Nat} {z : Int} {W : World} (h : BigAt g z W) (y : Int) : BigAt g y (W.setRow g (bv y)) := setRow_heap _ _ _ _ _ _ h
theorem BigAt.other {g k : Nat} {z : Int} {W : World} (h : BigAt g z W) (hk : g ≠ k) (c : Array Value) : BigAt g z (W.setRow k c) := by unfold BigAt; rw [setRow_other _ _ _ _ hk]; exact h
theorem BigAt.otherC {g k j : Nat} {z : Int} {W : World} (h : BigAt g z W) (hk : g ≠ k) (v : Value) : BigAt g z (W.setCell ⟨k, j, none⟩ v) := by unfold BigAt; rw [heap_setCell_other _ _ _ _ (by show g ≠ k; exact hk)]; exact h
theorem bv_nat (n : Nat) : bv (n : Int) = bigC false (dg n) := by
  unfold bv
  rw [decide_eq_false (by omega), Int.natAbs_natCast]
theorem more_n (a b : Nat) (w : World) : Calls Try.prog 49 #[.agg (bv (a : Int)), .agg (bv (b : Int))] w (RetZ ((a + b : Nat) : Int) w) := by
  have := more_any false false (dg a) (dg b) w (dg_dg _) (dg_dg _)
  rw [add_dg, ← bv_nat, ← bv_nat] at this
  refine this.mono ?_
  rintro e w' ⟨rfl, hb⟩
  exact ⟨by rw [bv_nat], hb⟩
theorem less_n (a b : Nat) (w : World) (ha : a < BB) (hb : b < BB) : Calls Try.prog 50 #[.agg (bv (a : Int)), .agg (bv (b : Int))] w fun e w' => e = .returned (.bool (decide (a < b))) ∧ Below w.heap.size w w' := by
  have := less_big false false (dg a) (dg b) w (dg_len _) (dg_len _)
  rw [less_dg ha hb, ← bv_nat, ← bv_nat] at this
  exact this
theorem away_n (a b : Nat) (w : World) (h : b ≤ a) : Calls Try.prog 51 #[.agg (bv (a : Int)), .agg (bv (b : Int))] w (RetZ ((a - b : Nat) : Int) w) := by
  have := away_any false false (dg a) (dg b) w (dg_dg _) (dg_dg _)
  rw [sub_dg h, ← bv_nat, ← bv_nat] at this
  refine this.mono ?_
  rintro e w' ⟨rfl, hb⟩
  exact ⟨by rw [bv_nat], hb⟩
theorem none_z (z : Int) (b : Bool) (w : World) (hz : z.natAbs < BB) (hb : decide (z = 0) = b) : Calls Try.prog 46 #[.agg (bv z)] w fun e w' => e = .returned (.bool b) ∧ Below w.heap.size w w' := by
  have := none_any (decide (z < 0)) (dg z.natAbs) w (dg_len _)
  rw [dg_zero hz] at this
  rw [show b = decide (z.natAbs = 0) by rw [← hb, decide_eq_decide]; omega]
  exact this
structure DvI (x c : Int) (n q r B : Nat) (w W : World) : Prop where
  bx : BigAt w.heap.size x W
  bc : BigAt (w.heap.size + 1) c W
  r1 : BigAt (w.heap.size + 1 + 1) 0 W
  r2 : BigAt (w.heap.size + 1 + 1 + 1) 0 W
  bq : BigAt B (q : Int) W
  br : BigAt (B + 1) (r : Int) W
  bd : BigAt (B + 1 + 1) (n : Int) W
  hB : w.heap.size + 1 + 1 + 1 < B
  below : Below w.heap.size w W
theorem DvI.up {x c : Int} {n q r B : Nat} {w W X : World} (i : DvI x c n q r B w W) (hb : Below W.heap.size W X) : DvI x c n q r B w X :=
  ⟨BigAt.below hb i.bx, BigAt.below hb i.bc, BigAt.below hb i.r1, BigAt.below hb i.r2, BigAt.below hb i.bq, BigAt.below hb i.br, BigAt.below hb i.bd, i.hB, bnext i.below hb⟩
theorem DvI.putR {x c : Int} {n q r B : Nat} {w W : World} (i : DvI x c n q r B w W) (s : Nat) : DvI x c n q s B w (W.setRow (B + 1) (bv (s : Int))) := by
  have hB := i.hB
  exact ⟨i.bx.other (by omega) _, i.bc.other (by omega) _, i.r1.other (by omega) _, i.r2.other (by omega) _, i.bq.other (by omega) _, i.br.row _, i.bd.other (by omega) _, hB, Below.row i.below (by omega) _⟩
theorem DvI.putQ {x c : Int} {n q r B : Nat} {w W : World} (i : DvI x c n q r B w W) (s : Nat) : DvI x c n s r B w (W.setRow B (bv (s : Int))) := by
  have hB := i.hB
  exact ⟨i.bx.other (by omega) _, i.bc.other (by omega) _, i.r1.other (by omega) _, i.r2.other (by omega) _, i.bq.row _, i.br.other (by omega) _, i.bd.other (by omega) _, hB, Below.row i.below (by omega) _⟩
theorem DvI.incR {x c : Int} {n q r B : Nat} {w W : World} (i : DvI x c n q r B w W) {b : Nat} (hb : b ≤ 1) (hr : r % 2 = 0) : DvI x c n q (r + b) B w (W.setCell ⟨B + 1, 1, none⟩ (.int .u64 ((r % 65536 + b : Nat) : Int))) := by
  have hB := i.hB
  exact ⟨i.bx.otherC (by omega) _, i.bc.otherC (by omega) _, i.r1.otherC (by omega) _, i.r2.otherC (by omega) _, i.bq.otherC (by omega) _, i.br.inc hb hr, i.bd.otherC (by omega) _, hB, i.below.setCell (p := ⟨B + 1, 1, none⟩) (by show _ ≤ B + 1; omega) _⟩
theorem DvI.incQ {x c : Int} {n q r B : Nat} {w W : World} (i : DvI x c n q r B w W) (hr : q % 2 = 0) : DvI x c n (q + 1) r B w (W.setCell ⟨B, 1, none⟩ (.int .u64 ((q % 65536 + 1 : Nat) : Int))) := by
  have hB := i.hB
  exact ⟨i.bx.otherC (by omega) _, i.bc.otherC (by omega) _, i.r1.otherC (by omega) _, i.r2.otherC (by omega) _, i.bq.inc (by omega) hr, i.br.otherC (by omega) _, i.bd.otherC (by omega) _, hB, i.below.setCell (p := ⟨B, 1, none⟩) (by show _ ≤ B; omega) _⟩
def DoRel (x c : Int) (m n B : Nat) (w : World) (g : Nat) (s : Value) (W : World) : Prop :=
  g ≤ 144 ∧ s = .int .i64 ((g : Int) - 1) ∧ DvI x c n (m / 2 ^ g / n) (m / 2 ^ g % n) B w W
def DiRel (x c : Int) (n q r B D e : Nat) (w : World) (g : Nat) (s11 s12 : Value) (W : World) : Prop :=
  ∃ j : Nat, g = e - j ∧ s11 = .int .u64 ((D / 2 ^ j : Nat) : Int) ∧ s12 = .int .i64 (j : Int) ∧ j ≤ e ∧ DvI x c n q r B w W
theorem dv_step {m n k q r b : Nat} (hn : 0 < n) (hq : m / 2 ^ (k + 1) / n = q) (hr : m / 2 ^ (k + 1) % n = r) (hb : m / 2 ^ k % 2 = b) :
    (r + r + b < n → m / 2 ^ k / n = q + q ∧ m / 2 ^ k % n = r + r + b) ∧ (¬ r + r + b < n → m / 2 ^ k / n = q + q + 1 ∧ m / 2 ^ k % n = r + r + b - n) := by
  have h1 : m / 2 ^ (k + 1) = m / 2 ^ k / 2 := by rw [Nat.pow_succ, Nat.div_div_eq_div_mul]
  rw [h1] at hq hr
  generalize m / 2 ^ k = M at *
  have h2 := Nat.div_add_mod (M / 2) n
  rw [hq, hr] at h2
  have hrn : r < n := by rw [← hr]; exact Nat.mod_lt _ hn
  have h3 : n * (q + q) = n * q + n * q := Nat.mul_add _ _ _
  have h4 : n * (q + q + 1) = n * q + n * q + n := by rw [Nat.mul_add, h3, Nat.mul_one]
  refine ⟨fun h => (Nat.div_mod_unique hn).2 ⟨?_, h⟩, fun h => (Nat.div_mod_unique hn).2 ⟨?_, by omega⟩⟩
  · omega
  · omega
theorem dv_bit (m k : Nat) : m / 65536 ^ (k / 16) % 65536 / 2 ^ (k % 16) % 2 = m / 2 ^ k % 2 := by
  have e1 : (65536 : Nat) ^ (k / 16) = 2 ^ (16 * (k / 16)) := by rw [show (65536 : Nat) = 2 ^ 16 by decide, ← Nat.pow_mul]
  have e2 : k = 16 * (k / 16) + k % 16 := by omega
  have e3 : m / 2 ^ k = m / 2 ^ (16 * (k / 16)) / 2 ^ (k % 16) := by
    conv => lhs; rw [e2, Nat.pow_add, ← Nat.div_div_eq_div_mul]
  rw [e1, e3]
  generalize m / 2 ^ (16 * (k / 16)) = u
  have e4 : (65536 : Nat) = 2 ^ (k % 16) * 2 ^ (16 - k % 16) := by rw [← Nat.pow_add, show k % 16 + (16 - k % 16) = 16 by omega]
  rw [e4, Nat.mod_mul_right_div_self, show 16 - k % 16 = 1 + (15 - k % 16) by omega, Nat.pow_add, Nat.pow_one, Nat.mod_mul_right_mod]
theorem dv_le {m n r k : Nat} (hn : 0 < n) (h : m / 2 ^ k % n = r) : r < n := by rw [← h]; exact Nat.mod_lt _ hn
end Go.Proofs.Ytgkcbadfjhicnaa.Fx
