/- The document's numbers of 64 bits, walked. -/
import Derived.Test.YtgkglkoipocgaaaProg
import Derived.Test.YtgkglkoipocgaaaBa
import Derived.Deep.WholeRow
set_option linter.unusedVariables false
set_option linter.unusedSimpArgs false
namespace Go.Proofs.Ytgkglkoipocgaaa.Fx
open Go Go.RowKit Wm
theorem wpList_build_to {P : Program} {ops : Array Oper} {rest : List Oper} {o : Oper} {a : Act} {w : World} {Q : Exit → Act → World → Prop} (hg : o.guard = none) (t : TypeId) (parts : Array (Nat × Operand)) (ho : o.op = .build t parts)
    (cells : Array Value) (hb : P.built t (parts.map fun (i, x) => (i, a.eval x)).toList = some cells) (h : wpList P ops Q rest (a.put o.dst (.agg cells)) w) : wpList P ops Q (o :: rest) a w :=
  wpList_build hg t parts ho (by rw [hb]; rfl) (by rw [hb]; exact h)
/-- a store of the whole of the block that was just laid -/
theorem wpList_store_new {P : Program} {ops : Array Oper} {rest : List Oper} {op : Oper} {a : Act} {w : World} {Q : Exit → Act → World → Prop} (hgd : op.guard = none) (ty : TypeId) (x y : Operand) (ho : op.op = .store ty x y)
    (g : Nat) (t : TypeId) (c c' : Array Value) (hx : a.eval x = .pointer (some ⟨g, 0, none⟩)) (hg : w.heap.size = g) (hy : a.eval y = .agg c')
    (hi : (P.info? ty).map (·.size) = some c'.size) (hs : c.size = c'.size) (h1 : c'.all (·.oneCell') = true)
    (h : wpList P ops Q rest (a.put op.dst undef) (w.alloc (.cells c' t))) : wpList P ops Q (op :: rest) a (w.alloc (.cells c t)) := by
  subst hg
  refine wpList_store_big hgd ty x y ho w.heap.size t c c' hx hy (heap_alloc_new _ _) hi hs h1 ?_
  rw [World.setRow_alloc_new]
  exact h
theorem dgF_snoc : ∀ (k n : Nat), dgF (k + 1) n = dgF k n ++ [n / 65536 ^ k % 65536]
  | 0, n => by simp [dgF]
  | k + 1, n => by
    rw [dgF, dgF_snoc k, dgF, List.cons_append, Nat.div_div_eq_div_mul, Nat.pow_succ 65536 k, Nat.mul_comm]
theorem dgF_zero : ∀ k, dgF k 0 = List.replicate k 0
  | 0 => rfl
  | k + 1 => by rw [dgF, dgF_zero k]; rfl
theorem dgF_app : ∀ (k j n : Nat), dgF (k + j) n = dgF k n ++ dgF j (n / 65536 ^ k)
  | 0, j, n => by simp [dgF]
  | k + 1, j, n => by
    rw [show k + 1 + j = (k + j) + 1 by omega, dgF, dgF_app k, dgF, List.cons_append, Nat.div_div_eq_div_mul, Nat.pow_succ 65536 k, Nat.mul_comm]
theorem pad_dgF {k n : Nat} (hk : k ≤ 20) (h : n < 65536 ^ k) : pad (dgF k n) = dg n := by
  unfold pad dg
  rw [dgF_len, show 20 = k + (20 - k) by omega, dgF_app k, Nat.div_eq_of_lt h, dgF_zero, show k + (20 - k) - k = 20 - k by omega]
structure OfI (neg : Bool) (p : List Nat) (R Z : Nat) (w W : World) : Prop where
  br : W.heap[R]? = some (.cells (bigC false zeros) 79 (0, 0))
  bz : W.heap[Z]? = some (.cells (bigC neg (pad p)) 79 (0, 0))
  ne : R ≠ Z
  wz : w.heap.size ≤ Z
  below : Below w.heap.size w W
theorem OfI.next {neg : Bool} {p : List Nat} {R Z : Nat} {w W : World} (h : OfI neg p R Z w W) (v : Nat) (hp : p.length < 20) : OfI neg (p ++ [v]) R Z w (W.setCell ⟨Z, 1 + p.length, none⟩ (.int .u64 (v : Int))) := by
  have hn := h.ne
  refine ⟨?_, ?_, hn, h.wz, h.below.setCell (p := ⟨Z, 1 + p.length, none⟩) h.wz _⟩
  · rw [heap_setCell_other _ _ _ _ (by show R ≠ Z; exact hn)]; exact h.br
  · rw [heap_setCell_same _ _ _ _ _ _ h.bz, pad_put p v neg hp]
def OfRel (neg : Bool) (u : Nat) (w : World) (g : Nat) (s4 s5 : Value) (W : World) : Prop :=
  ∃ k : Nat, g = 4 - k ∧ s4 = .int .u64 ((u / 65536 ^ k : Nat) : Int) ∧ s5 = .int .i64 (k : Int) ∧ k ≤ 4 ∧ OfI neg (dgF k u) w.heap.size (w.heap.size + 1) w W
set_option maxRecDepth 100000 in
set_option maxHeartbeats 4000000 in
theorem of_walk_true (n : Int) (u A V C : Nat) (B4 : Int) (w : World) (hB4 : Hid (B4 = 18446744073709551615)) (h1 : IntKind.u64.wrap n = (A : Int)) (hu : Hid (u < 18446744073709551616))
    (hn : n < 0) (e2 : IntKind.u64.wrap (18446744073709551615 - (A : Int)) = (V : Int)) (e3 : IntKind.u64.wrap ((V : Int) + 1) = (u : Int)) (HU : Hid (pad (dgF 4 u) = dg u)) :
    Calls Try.prog 42 #[.int .i64 n] w (RetB true (dg u) w) := by
  have HUU := hu
  have HI := Lib.hid (big_info true (dg u) (dg_len u))
  have HS := Lib.hid (big_same false true zeros (dg u) rfl (dg_len u))
  have HI0 : Hid (OfI true (dgF 0 u) w.heap.size (w.heap.size + 1) w ((w.alloc (.cells (bigC false zeros) 79)).alloc (.cells (bigC true zeros) 79))) :=
    Lib.hid ⟨step_row (heap_alloc_new _ _), heap_alloc2_new _ _ _, by omega, by omega, by go_grown⟩
  skip
  go_enter Try.func42, Try.ntmps42
  go_wp2_with (first | (refine wpList_build_to rfl 79 #[(0, .tmp 7)] rfl (bigC true zeros) (by kernel_rfl) ?_) | (refine wpList_store_new rfl 79 (.tmp 3) (.tmp 8) rfl (w.heap.size + 1) _ _ (bigC true zeros) rfl (by simp) rfl (big_info _ _ rfl) rfl (big_one _ _) ?_))
  go_loopg [4, 5] 4 (OfRel true u w)
  case atStart => exact ⟨0, rfl, by simp, rfl, by omega, HI0.out⟩
  case round =>
    clear HI0
    obtain ⟨k, rfl, rfl, rfl, hk4, I⟩ := hrel
    by_cases hk : k < 4
    · have hpl : (dgF k u).length = k := dgF_len k u
      have cz : wr.cell? ⟨w.heap.size + 1, 1 + k, none⟩ = some (.int .u64 (((pad (dgF k u)).getD k 0 : Nat) : Int)) := by rw [cell_of_row _ _ _ _ _ _ I.bz, big_at _ _ _ (by rw [pad_len _ (by rw [hpl]; omega)]; omega)]
      have fz : wr.frozen? ⟨w.heap.size + 1, 1 + k, none⟩ = false := frozen_row I.bz
      have k0 : (0 : Int) ≤ (k : Int) := by omega
      have k1 : (k : Int) < 4 := by omega
      have k2 : (k : Int) < 20 := by omega
      obtain ⟨q, hq⟩ : ∃ q, u / 65536 ^ k = q := ⟨_, rfl⟩
      have hq64 : q < 18446744073709551616 := by rw [← hq]; exact Nat.lt_of_le_of_lt (Nat.div_le_self _ _) HUU.out
      have HQ := Lib.hid hq64
      clear hq64
      have hsn : dgF (k + 1) u = dgF k u ++ [q % 65536] := by rw [dgF_snoc, hq]
      have hdv : u / 65536 ^ (k + 1) = q / 65536 := by rw [Nat.pow_succ, ← Nat.div_div_eq_div_mul, hq]
      have I2 := I.next (q % 65536) (by rw [hpl]; omega)
      rw [hpl, ← hsn] at I2
      have HI2 := Lib.hid I2
      have HDV := Lib.hid hdv
      rw [hq]
      clear I I2 hq hsn hdv hpl
      go_wp2_with fail
      go_roundg (4 - (k + 1))
      case measure => omega
      case rel =>
        refine ⟨k + 1, rfl, ?_, by go_num, by omega, ?_⟩
        · rw [HDV.out]
          have := HQ.out
          congr 1
          rw [IntKind.wrap_u64]
          omega
        · have := HI2.out
          simpa using this
    · have hke : k = 4 := by omega
      subst hke
      have bz := I.bz
      rw [HU.out] at bz
      have BZ := Lib.hid bz
      have BR := Lib.hid I.br
      have BL := Lib.hid I.below
      clear I bz
      go_wp2_with (first | (refine wpList_load_row rfl 79 (.tmp 3) rfl (w.heap.size + 1) rfl _ _ _ _ BZ.out Try.underlying79 rfl HI.out ?_) | (refine wpList_store_big rfl 79 (.tmp 2) (.tmp 27) rfl w.heap.size _ _ (bigC true (dg u)) rfl rfl BR.out HI.out HS.out (big_one _ _) ?_))
      refine bodyPost_ret (v := .agg (bigC true (dg u))) (results_cell_row rfl _ _ w.heap.size _ _ _ _ rfl (setRow_heap _ _ _ _ _ _ BR.out) Try.underlying79 rfl HI.out) rfl ?_
      exact ⟨rfl, Below.row BL.out (Nat.le_refl _) _⟩
set_option maxRecDepth 100000 in
set_option maxHeartbeats 4000000 in
theorem of_walk_false (n : Int) (u A V C : Nat) (B4 : Int) (w : World) (hB4 : Hid (B4 = 18446744073709551615)) (h1 : IntKind.u64.wrap n = (A : Int)) (hu : Hid (A < 18446744073709551616))
    (hn : 0 ≤ n) (HU : Hid (pad (dgF 4 A) = dg A)) :
    Calls Try.prog 42 #[.int .i64 n] w (RetB false (dg A) w) := by
  have HUU := hu
  have HI := Lib.hid (big_info false (dg A) (dg_len A))
  have HS := Lib.hid (big_same false false zeros (dg A) rfl (dg_len A))
  have HI0 : Hid (OfI false (dgF 0 A) w.heap.size (w.heap.size + 1) w ((w.alloc (.cells (bigC false zeros) 79)).alloc (.cells (bigC false zeros) 79))) :=
    Lib.hid ⟨step_row (heap_alloc_new _ _), heap_alloc2_new _ _ _, by omega, by omega, by go_grown⟩
  have t2 : ¬ n < 0 := by omega
  go_enter Try.func42, Try.ntmps42
  go_wp2_with (first | (refine wpList_build_to rfl 79 #[(0, .tmp 7)] rfl (bigC false zeros) (by kernel_rfl) ?_) | (refine wpList_store_new rfl 79 (.tmp 3) (.tmp 8) rfl (w.heap.size + 1) _ _ (bigC false zeros) rfl (by simp) rfl (big_info _ _ rfl) rfl (big_one _ _) ?_))
  go_loopg [4, 5] 4 (OfRel false A w)
  case atStart => exact ⟨0, rfl, by simp, rfl, by omega, HI0.out⟩
  case round =>
    clear HI0
    obtain ⟨k, rfl, rfl, rfl, hk4, I⟩ := hrel
    by_cases hk : k < 4
    · have hpl : (dgF k A).length = k := dgF_len k A
      have cz : wr.cell? ⟨w.heap.size + 1, 1 + k, none⟩ = some (.int .u64 (((pad (dgF k A)).getD k 0 : Nat) : Int)) := by rw [cell_of_row _ _ _ _ _ _ I.bz, big_at _ _ _ (by rw [pad_len _ (by rw [hpl]; omega)]; omega)]
      have fz : wr.frozen? ⟨w.heap.size + 1, 1 + k, none⟩ = false := frozen_row I.bz
      have k0 : (0 : Int) ≤ (k : Int) := by omega
      have k1 : (k : Int) < 4 := by omega
      have k2 : (k : Int) < 20 := by omega
      obtain ⟨q, hq⟩ : ∃ q, A / 65536 ^ k = q := ⟨_, rfl⟩
      have hq64 : q < 18446744073709551616 := by rw [← hq]; exact Nat.lt_of_le_of_lt (Nat.div_le_self _ _) HUU.out
      have HQ := Lib.hid hq64
      clear hq64
      have hsn : dgF (k + 1) A = dgF k A ++ [q % 65536] := by rw [dgF_snoc, hq]
      have hdv : A / 65536 ^ (k + 1) = q / 65536 := by rw [Nat.pow_succ, ← Nat.div_div_eq_div_mul, hq]
      have I2 := I.next (q % 65536) (by rw [hpl]; omega)
      rw [hpl, ← hsn] at I2
      have HI2 := Lib.hid I2
      have HDV := Lib.hid hdv
      rw [hq]
      clear I I2 hq hsn hdv hpl
      go_wp2_with fail
      go_roundg (4 - (k + 1))
      case measure => omega
      case rel =>
        refine ⟨k + 1, rfl, ?_, by go_num, by omega, ?_⟩
        · rw [HDV.out]
          have := HQ.out
          congr 1
          rw [IntKind.wrap_u64]
          omega
        · have := HI2.out
          simpa using this
    · have hke : k = 4 := by omega
      subst hke
      have bz := I.bz
      rw [HU.out] at bz
      have BZ := Lib.hid bz
      have BR := Lib.hid I.br
      have BL := Lib.hid I.below
      clear I bz
      go_wp2_with (first | (refine wpList_load_row rfl 79 (.tmp 3) rfl (w.heap.size + 1) rfl _ _ _ _ BZ.out Try.underlying79 rfl HI.out ?_) | (refine wpList_store_big rfl 79 (.tmp 2) (.tmp 27) rfl w.heap.size _ _ (bigC false (dg A)) rfl rfl BR.out HI.out HS.out (big_one _ _) ?_))
      refine bodyPost_ret (v := .agg (bigC false (dg A))) (results_cell_row rfl _ _ w.heap.size _ _ _ _ rfl (setRow_heap _ _ _ _ _ _ BR.out) Try.underlying79 rfl HI.out) rfl ?_
      exact ⟨rfl, Below.row BL.out (Nat.le_refl _) _⟩
theorem of_z (n : Int) (w : World) (h0 : -9223372036854775808 ≤ n) (h1 : n ≤ 9223372036854775807) : Calls Try.prog 42 #[.int .i64 n] w (RetZ n w) := by
  by_cases hn : n < 0
  · have hu : n.natAbs < 18446744073709551616 := by omega
    have := of_walk_true n n.natAbs (n + 18446744073709551616).toNat (-n - 1).toNat 0 _ w (Lib.hid rfl) (by rw [IntKind.wrap_u64]; omega) (Lib.hid hu) hn (by rw [IntKind.wrap_u64]; omega) (by rw [IntKind.wrap_u64]; omega) (Lib.hid (pad_dgF (by omega) (by omega)))
    refine this.mono ?_
    rintro e w' ⟨rfl, hb⟩
    exact ⟨by rw [bv_eq (z := n) (by rw [decide_eq_true hn]) rfl], hb⟩
  · have hu : n.natAbs < 18446744073709551616 := by omega
    have := of_walk_false n 0 n.natAbs 0 0 _ w (Lib.hid rfl) (by rw [IntKind.wrap_u64]; omega) (Lib.hid hu) (by omega) (Lib.hid (pad_dgF (by omega) (by omega)))
    refine this.mono ?_
    rintro e w' ⟨rfl, hb⟩
    exact ⟨by rw [bv_eq (z := n) (by rw [decide_eq_false hn]) rfl], hb⟩
end Go.Proofs.Ytgkglkoipocgaaa.Fx
