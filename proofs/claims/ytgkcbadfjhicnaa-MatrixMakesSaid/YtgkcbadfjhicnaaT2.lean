/- wide.Text, walked. -/
import Derived.Test.YtgkcbadfjhicnaaProg
import Derived.Test.YtgkcbadfjhicnaaT1
import Derived.Outline
import Derived.Deep.LoopGhost
import Derived.Deep.DeepCutAuto
set_option linter.unusedVariables false
set_option linter.unusedSimpArgs false
namespace Go.Proofs.Ytgkcbadfjhicnaa.Fx
open Go Go.RowKit Wm
theorem dgs_snoc (n : Nat) : ∀ k, dgs n (k + 1) = dgs (n / 10) k ++ [48 + ((n % 10 : Nat) : Int)]
  | 0 => by simp [dgs]
  | k + 1 => by
    rw [dgs, dgs_snoc n k]
    show _ = (48 + ((n / 10 / 10 ^ k % 10 : Nat) : Int)) :: dgs (n / 10) k ++ _
    rw [Nat.div_div_eq_div_mul, show 10 * 10 ^ k = 10 ^ (k + 1) from by rw [Nat.pow_succ, Nat.mul_comm]]
    rfl
/-- a number's decimal digits -/
def decF : Nat → Nat → List Int
  | 0, _ => []
  | f + 1, n => if n < 10 then [48 + (n : Int)] else decF f (n / 10) ++ [48 + ((n % 10 : Nat) : Int)]
theorem dgs_dec : ∀ (k f n : Nat), k ≤ f → 1 ≤ k → n / 10 ^ k = 0 → (k = 1 ∨ n / 10 ^ (k - 1) ≠ 0) → dgs n k = decF f n
  | 0, _, _, _, h, _, _ => by omega
  | k + 1, 0, _, h, _, _, _ => by omega
  | k + 1, f + 1, n, hf, _, h0, h1 => by
    by_cases hk : k = 0
    · subst hk
      have : n < 10 := by simp at h0; omega
      simp only [decF, if_pos this, dgs]
      simp [Nat.mod_eq_of_lt this]
    · have hn : ¬ n < 10 := by
        intro hn
        rcases h1 with h1 | h1
        · omega
        · exact h1 (Nat.div_eq_of_lt (Nat.lt_of_lt_of_le hn (Nat.le_self_pow hk 10)))
      rw [dgs_snoc]
      simp only [decF, if_neg hn]
      rw [dgs_dec k f (n / 10) (by omega) (by omega) (by rw [Nat.div_div_eq_div_mul, show 10 * 10 ^ k = 10 ^ (k + 1) from by rw [Nat.pow_succ, Nat.mul_comm]]; exact h0) ?_]
      rcases h1 with h1 | h1
      · omega
      · by_cases h2 : k = 1
        · exact .inl h2
        · right
          rw [Nat.div_div_eq_div_mul, show 10 * 10 ^ (k - 1) = 10 ^ k from by rw [Nat.mul_comm, ← Nat.pow_succ]; congr 1; omega]
          exact h1
/-- a number's text -/
def wtx (x : Int) : List Int := (if x < 0 then [45] else []) ++ decF 40 x.natAbs
/-- what holds ahead of each round -/
structure TInv (n : Nat) (xh : Int) (xl : Nat) (w : World) (k m D a b : Nat) (bo : Bool) (wr : World) : Prop where
  km : k + m = 39
  na : Na (n / 10 ^ k) a b
  bo : (bo = true ∧ (k = 0 ∨ n / 10 ^ k ≠ 0)) ∨ (bo = false ∧ 1 ≤ k ∧ n / 10 ^ k = 0)
  prev : k ≤ 1 ∨ n / 10 ^ (k - 1) ≠ 0
  dlt : w.heap.size + 1 + 1 < D
  dsz : D < wr.heap.size
  c0 : wr.cell? ⟨w.heap.size, 0, none⟩ = some (.int .i64 xh)
  c1 : wr.cell? ⟨w.heap.size, 1, none⟩ = some (.int .u64 (xl : Int))
  at0 : wr.cell? ⟨w.heap.size + 1 + 1, 0, none⟩ = some (.int .i64 ((m + 1 : Nat) : Int))
  fat : wr.frozen? ⟨w.heap.size + 1 + 1, 0, none⟩ = false
  row : wr.heap[w.heap.size + 1]? = some (.cells (arr (dgs n k)) 102 (0, 0))
  d0 : wr.cell? ⟨D, 0, none⟩ = some (.int .u64 (a : Int))
  d1 : wr.cell? ⟨D, 1, none⟩ = some (.int .u64 (b : Int))
  f0 : wr.frozen? ⟨D, 0, none⟩ = false
  f1 : wr.frozen? ⟨D, 1, none⟩ = false
  below : Below w.heap.size w wr
theorem keep_row {w w' : World} {b : Nat} {o : Obj} (hb : Below w.heap.size w w') (h : w.heap[b]? = some o) : w'.heap[b]? = some o := by
  rw [hb.block b (Array.getElem?_eq_some_iff.1 h).1]
  exact h
theorem row_mid (w : World) (A L C : Obj) : (((w.alloc A).alloc L).alloc C).heap[w.heap.size + 1]? = some L := by
  rw [heap_alloc_old _ _ (by simp)]
  exact heap_alloc2_new w A L
theorem step_row {w : World} {o : Obj} {b : Nat} {x : Obj} (h : w.heap[b]? = some x) : (w.alloc o).heap[b]? = some x := by
  rw [heap_alloc_old _ _ (Array.getElem?_eq_some_iff.1 h).1]
  exact h
theorem cell_alloc {w : World} {o : Obj} {a : Addr} {v : Value} (h : w.cell? a = some v) : (w.alloc o).cell? a = some v := by
  rw [World.cell?_of_block (w := w) (heap_alloc_old _ _ (block_lt_of_cell h))]
  exact h
theorem free_alloc {w : World} {o : Obj} {b k : Nat} (hs : b < w.heap.size) (h : w.frozen? ⟨b, k, none⟩ = false) : (w.alloc o).frozen? ⟨b, k, none⟩ = false := by
  rw [World.frozen?_of_block (w := w) (heap_alloc_old _ _ hs)]
  exact h
theorem na_zero {a b : Nat} (h : Na 0 a b) : a = 0 ∧ b = 0 := by unfold Na at h; omega
theorem na_pos {r a b : Nat} (h : Na r a b) (hr : r ≠ 0) : ¬ (a = 0 ∧ b = 0) := by unfold Na at h; omega
theorem ten_step (n k : Nat) : n / 10 ^ k / 10 = n / 10 ^ (k + 1) := by rw [Nat.div_div_eq_div_mul, Nat.pow_succ]
theorem ten_small {n k m : Nat} (hn : n < 10 ^ 39) (hk : n / 10 ^ k ≠ 0) (h : k + m = 39) : 1 ≤ m := by
  refine Nat.pos_of_ne_zero fun h0 => hk ?_
  subst h0
  rw [show k = 39 from by omega]
  exact Nat.div_eq_of_lt hn
theorem TInv.next {n xl k m D a b a2 b2 q d : Nat} {xh : Int} {w wr w3 : World} {bo : Bool} (I : TInv n xh xl w k (m + 1) D a b true wr) (hq : n / 10 ^ (k + 1) = q) (hna2 : Na q a2 b2) (hd : n / 10 ^ k % 10 = d)
    (P1 : w3.cell? ⟨w.heap.size + 1 + 1, 0, none⟩ = some (.int .i64 ((m + 1 : Nat) : Int))) (P2 : w3.frozen? ⟨w.heap.size + 1 + 1, 0, none⟩ = false)
    (P3 : w3.heap[w.heap.size + 1]? = some (.cells (arr ((48 + (d : Int)) :: dgs n k)) 102 (0, 0)))
    (r2 : w3.cell? ⟨w.heap.size, 0, none⟩ = some (.int .i64 xh)) (r3 : w3.cell? ⟨w.heap.size, 1, none⟩ = some (.int .u64 (xl : Int))) (hB3 : Below w.heap.size w w3) (hl : w.heap.size + 1 + 1 < w3.heap.size)
    (hbo : bo = true ∧ q ≠ 0 ∨ bo = false ∧ q = 0) : TInv n xh xl w (k + 1) m w3.heap.size a2 b2 bo (w3.alloc (.cells #[.int .u64 (a2 : Int), .int .u64 (b2 : Int)] 92)) := by
  have h1 := I.km
  have h2 := I.bo
  have h3 := hB3.size
  have e : arr ((48 + (d : Int)) :: dgs n k) = arr (dgs n (k + 1)) := by rw [dgs, hd]
  rw [e] at P3
  refine { km := (by omega), na := (by rw [hq]; exact hna2), bo := ?_, prev := ?_, dlt := hl, dsz := (by simp), c0 := cell_alloc r2, c1 := cell_alloc r3, at0 := cell_alloc P1, fat := free_alloc hl P2, row := step_row P3, d0 := (by simp [go_sem]), d1 := (by simp [go_sem]), f0 := (by simp [go_sem]), f1 := (by simp [go_sem]), below := hB3.alloc h3 _ }
  · rw [hq]
    rcases hbo with h | h
    · exact .inl ⟨h.1, .inr h.2⟩
    · exact .inr ⟨h.1, by omega, h.2⟩
  · rcases h2 with ⟨_, h⟩ | ⟨h, _⟩
    · rcases h with h | h
      · exact .inl (by omega)
      · exact .inr (by simpa using h)
    · cases h
/-- what the loop hands on -/
def TRel (n : Nat) (xh : Int) (xl : Nat) (w : World) (g : Nat) (s6 s7 : Value) (wr : World) : Prop :=
  ∃ k m D a b bo, g = m + 1 ∧ s6 = .pointer (some ⟨D, 0, none⟩) ∧ s7 = .bool bo ∧ TInv n xh xl w k m D a b bo wr
theorem slice_tail (g m : Nat) (h : m < 40) (w : World) : (Instr.sliceAt 102 (.pointer (some ⟨g, 0, none⟩)) (some (.int .i64 (m : Int))) none none).run Try.prog w = .ok (.slice (some ⟨g, m, none⟩) (40 - m) (40 - m)) w := by
  have hd : m = 0 ∨ m = 1 ∨ m = 2 ∨ m = 3 ∨ m = 4 ∨ m = 5 ∨ m = 6 ∨ m = 7 ∨ m = 8 ∨ m = 9 ∨ m = 10 ∨ m = 11 ∨ m = 12 ∨ m = 13 ∨ m = 14 ∨ m = 15 ∨ m = 16 ∨ m = 17 ∨ m = 18 ∨ m = 19 ∨ m = 20 ∨ m = 21 ∨ m = 22 ∨ m = 23 ∨ m = 24 ∨ m = 25 ∨ m = 26 ∨ m = 27 ∨ m = 28 ∨ m = 29 ∨ m = 30 ∨ m = 31 ∨ m = 32 ∨ m = 33 ∨ m = 34 ∨ m = 35 ∨ m = 36 ∨ m = 37 ∨ m = 38 ∨ m = 39 := by omega
  rcases hd with rfl | rfl | rfl | rfl | rfl | rfl | rfl | rfl | rfl | rfl | rfl | rfl | rfl | rfl | rfl | rfl | rfl | rfl | rfl | rfl | rfl | rfl | rfl | rfl | rfl | rfl | rfl | rfl | rfl | rfl | rfl | rfl | rfl | rfl | rfl | rfl | rfl | rfl | rfl | rfl <;> (show _ = _; kernel_rfl)
theorem add_at_off (g o j : Nat) : (⟨g, o, none⟩ : Addr).add j = ⟨g, o + j, none⟩ := by unfold Addr.add; split <;> simp_all
theorem conv_tail (l : List Int) (g m : Nat) (w : World) (hl : l.length + m = 40) (hg : w.heap[g]? = some (.cells (arr l) 102 (0, 0))) :
    (convert 104 9 (.slice (some ⟨g, m, none⟩) (40 - m) (40 - m))).run Try.prog w = .ok (.string (bstr l)) w := by
  have h := conv_at l g m (40 - m) w (fun j u hu => by
    rw [add_at_off, cell_of_row w g _ _ _ _ hg, show m = 40 - l.length from by omega]
    exact arr_at l j u (by omega) hu)
  rw [show l.length = 40 - m from by omega] at h
  exact h
theorem ret_str {a b : ByteArray} (h : a = b) : Ending.returned (.string a) = .returned (.string b) := by rw [h]
set_option maxHeartbeats 2000000 in
theorem text_walk (x xh : Int) (xl n : Nat) (w : World) (hx : At x xh xl) (hn : ∀ w, Calls Try.prog 56 #[.agg #[.int .i64 xh, .int .u64 xl]] w (RetN n w)) (hn2 : n < 10 ^ 39) (hnx : x.natAbs = n) :
    Calls Try.prog 31 #[.agg #[.int .i64 xh, .int .u64 xl]] w fun e w' => e = .returned (.string (bstr (wtx x))) ∧ Below w.heap.size w w' := by
  have HX := Lib.hid hx
  have HN := Lib.hid hn
  have HN2 := Lib.hid hn2
  have HNX := Lib.hid hnx
  clear hx hn hn2 hnx
  go_enter Try.func31, Try.ntmps31
  go_wp2_with fail
  refine (HN.out _).mono ?_
  rintro e w1 ⟨a, b, rfl, hna, hb1⟩
  have HNA := Lib.hid hna
  clear hna
  go_wp2_with fail
  go_loopg [6, 7] 40 (TRel n xh xl w)
  case atStart =>
    refine ⟨0, 39, w1.heap.size, a, b, true, rfl, rfl, rfl, ?_⟩
    have hs := hb1.size
    simp only [World.size_alloc] at hs
    refine { km := rfl, na := (by simpa using HNA.out), bo := .inl ⟨rfl, .inl rfl⟩, prev := .inl (by omega), dlt := (by omega), dsz := (by simp), c0 := cell_alloc (keep_cell hb1 (by simp [go_sem])), c1 := cell_alloc (keep_cell hb1 (by simp [go_sem])), at0 := cell_alloc (keep_cell hb1 (by simp [go_sem])), fat := free_alloc (by omega) (keep_free hb1 (by simp) (by simp [go_sem])), row := step_row (keep_row hb1 (row_mid _ _ _ _)), d0 := (by simp [go_sem]), d1 := (by simp [go_sem]), f0 := (by simp [go_sem]), f1 := (by simp [go_sem]), below := ?_ }
    repeat' (first | (with_reducible exact Below.refl _ _) | (with_reducible assumption) | (with_reducible refine Below.drew ?_) | (with_reducible refine Below.setCell ?_ ?_ _) | (with_reducible refine bnext ?_ (by assumption)) | (with_reducible refine Below.alloc ?_ ?_ _) | go_size)
  case round =>
    obtain ⟨k, m, D, a, b, bo, rfl, rfl, rfl, I⟩ := hrel
    have HI := Lib.hid I
    have hc0 := I.c0
    have hc1 := I.c1
    have hd0 := I.d0
    have hdd := I.d1
    have hf0 := I.f0
    have hf1 := I.f1
    have hdl := I.dlt
    have hds := I.dsz
    cases bo with
    | true =>
      obtain ⟨m, rfl⟩ : ∃ j, m = j + 1 := by
        have h1 := I.km
        rcases I.bo with ⟨_, h⟩ | ⟨h, _⟩
        · rcases h with h | h
          · exact ⟨m - 1, by omega⟩
          · have := ten_small HN2.out h h1
            exact ⟨m - 1, by omega⟩
        · cases h
      have BY := fun w => by_any (n / 10 ^ k) a b 10 w I.na (by omega) (by omega)
      obtain ⟨q, hq⟩ : ∃ q, n / 10 ^ k / 10 = q := ⟨_, rfl⟩
      obtain ⟨d, hd⟩ : ∃ d, n / 10 ^ k % 10 = d := ⟨_, rfl⟩
      have hd1 : d < 10 := by rw [← hd]; exact Nat.mod_lt _ (by omega)
      rw [hq, hd] at BY
      have HQ : Hid (n / 10 ^ (k + 1) = q) := Lib.hid (by rw [← ten_step]; exact hq)
      have HD := Lib.hid hd
      have HBY := Lib.hid BY
      clear I BY hq hd
      go_wp2_with fail
      refine (HBY.out _).mono ?_
      rintro e w2 ⟨a2, b2, rfl, hna2, hb2⟩
      have HNA2 := Lib.hid hna2
      have hB2 : Below w.heap.size w w2 := bnext HI.out.below hb2
      have hs2 := hb2.size
      have hdl2 : D < w2.heap.size := by omega
      have k0 := keep_cell hb2 HI.out.d0
      have k1 := keep_cell hb2 HI.out.d1
      have k2 := keep_cell hb2 HI.out.c0
      have k3 := keep_cell hb2 HI.out.c1
      have k4 := keep_cell hb2 HI.out.at0
      have f0 := keep_free hb2 hds HI.out.f0
      have f1 := keep_free hb2 hds HI.out.f1
      have f4 := keep_free hb2 (by omega) HI.out.fat
      have row2 := Lib.hid (keep_row hb2 HI.out.row)
      have ne1 : ¬ w.heap.size + 1 + 1 = D := by omega
      have ne2 : ¬ w.heap.size + 1 = D := by omega
      have ne3 : ¬ w.heap.size = D := by omega
      have ne4 : ¬ D = w.heap.size := by omega
      have ne4' : D ≠ w.heap.size + 1 + 1 := by omega
      have ne4'' : D ≠ w.heap.size + 1 := by omega
      clear hna2 hc0 hc1 hd0 hdd hf0 hf1
      go_wp2_with fail
      refine (put_any (48 + (d : Int)) (dgs n k) (w.heap.size + 1 + 1) (w.heap.size + 1) (m + 1) _ (by rw [dgs_len]; exact HI.out.km) (by omega) (by simp [go_sem, *]) (by simp [go_sem, *]) ?_).mono ?_
      · rw [heap_setCell_other _ _ _ _ ne2, heap_setCell_other _ _ _ _ ne2]
        exact row2.out
      rintro e w3 ⟨rfl, p1, p2, p3, p4, p5, p6⟩
      have hB3 : Below w.heap.size w w3 := ((hB2.setCell (show w.heap.size ≤ D by omega) _).setCell (show w.heap.size ≤ D by omega) _).trans (p6 _ (by omega) (by omega))
      have r0 : w3.cell? ⟨D, 0, none⟩ = some (.int .u64 (a2 : Int)) := by rw [World.cell?_of_block (p4 D ne4' ne4'')]; simp [go_sem, *]
      have r1 : w3.cell? ⟨D, 1, none⟩ = some (.int .u64 (b2 : Int)) := by rw [World.cell?_of_block (p4 D ne4' ne4'')]; simp [go_sem, *]
      have r2 : w3.cell? ⟨w.heap.size, 0, none⟩ = some (.int .i64 xh) := by rw [World.cell?_of_block (p4 w.heap.size (by omega) (by omega))]; simp [go_sem, *]
      have r3 : w3.cell? ⟨w.heap.size, 1, none⟩ = some (.int .u64 (xl : Int)) := by rw [World.cell?_of_block (p4 w.heap.size (by omega) (by omega))]; simp [go_sem, *]
      have hs3 : w3.heap.size = w2.heap.size := by rw [p5]; simp
      have hds3 : D < w3.heap.size := by omega
      have P1 := Lib.hid p1
      have P3 := Lib.hid p3
      have HS3 := Lib.hid hs3
      have NX := Lib.hid (fun bo (h : bo = true ∧ q ≠ 0 ∨ bo = false ∧ q = 0) => HI.out.next (bo := bo) HQ.out HNA2.out HD.out p1 p2 p3 r2 r3 hB3 (by omega) h)
      clear p1 p3 p4 p5 p6 hs3 k0 k1 k2 k3 k4 f0 f1 f4
      by_cases hz : q = 0
      · have NY := Lib.hid (NX.out false (.inr ⟨rfl, hz⟩))
        clear NX
        subst hz
        obtain ⟨rfl, rfl⟩ := na_zero HNA2.out
        go_wp2
        go_roundg (m + 1)
        case measure => omega
        case rel => exact ⟨_, _, _, _, _, _, rfl, rfl, rfl, NY.out⟩
      · have NY := Lib.hid (NX.out true (.inl ⟨rfl, hz⟩))
        clear NX
        have hnz := na_pos HNA2.out hz
        by_cases hza : a2 = 0
        · subst hza
          have hb1 : ((b2 : Int) == 0) = false := by simp; omega
          clear hnz
          go_wp2
          go_roundg (m + 1)
          case measure => omega
          case rel => exact ⟨_, _, _, _, _, _, rfl, rfl, rfl, NY.out⟩
        · have hb1 : ((a2 : Int) == 0) = false := by simp; omega
          clear hnz
          go_wp2
          go_roundg (m + 1)
          case measure => omega
          case rel => exact ⟨_, _, _, _, _, _, rfl, rfl, rfl, NY.out⟩
    | false =>
      have hE : 1 ≤ k ∧ n / 10 ^ k = 0 := by
        rcases I.bo with ⟨h, _⟩ | ⟨_, h⟩
        · cases h
        · exact h
      have hT : Hid (dgs n k = decF 40 n) := Lib.hid (dgs_dec k 40 n (by have := I.km; omega) hE.1 hE.2 (by have := I.prev; rcases this with h | h; exact .inl (by omega); exact .inr h))
      have hkm := I.km
      have BL := fun w b (h : Hid (decide (xh < 0) = b)) => below_val xh xl b w h
      have HBL := Lib.hid BL
      have hk1 := hE.1
      clear I BL hE
      by_cases hs : xh < 0
      · have HS := Lib.hid (decide_eq_true hs)
        clear hs
        go_wp2_with fail
        refine (HBL.out _ _ HS).mono ?_
        rintro e w2 ⟨rfl, hb2⟩
        have k4 := keep_cell hb2 HI.out.at0
        have f4 := keep_free hb2 (by omega) HI.out.fat
        have row2 := Lib.hid (keep_row hb2 HI.out.row)
        have hB2 : Below w.heap.size w w2 := bnext HI.out.below hb2
        go_wp2_with fail
        refine (put_any 45 (dgs n k) (w.heap.size + 1 + 1) (w.heap.size + 1) m _ (by rw [dgs_len]; exact HI.out.km) (by omega) (by simp [go_sem, *]) (by simp [go_sem, *]) row2.out).mono ?_
        rintro e w3 ⟨rfl, p1, p2, p3, p4, p5, p6⟩
        have hsl := slice_tail (w.heap.size + 1) m (by omega) w3
        have hcv := conv_tail (45 :: dgs n k) (w.heap.size + 1) m w3 (by rw [List.length_cons, dgs_len]; omega) p3
        have hB3 := hB2.trans (p6 w.heap.size (by omega) (by omega))
        have P3 := Lib.hid p3
        clear p3 p4 p5 p6
        go_wp2
        go_ret
        exact ⟨ret_str (by rw [wtx, if_pos (HX.out.neg.1 (of_decide_eq_true HS.out)), HNX.out, ← hT.out]; rfl), hB3⟩
      · have HS := Lib.hid (decide_eq_false hs)
        clear hs
        go_wp2_with fail
        refine (HBL.out _ _ HS).mono ?_
        rintro e w2 ⟨rfl, hb2⟩
        have k4 := keep_cell hb2 HI.out.at0
        have f4 := keep_free hb2 (by omega) HI.out.fat
        have hB2 : Below w.heap.size w w2 := bnext HI.out.below hb2
        obtain ⟨m1, hm1⟩ : ∃ m1, m + 1 = m1 := ⟨_, rfl⟩
        rw [hm1] at k4
        have hsl := slice_tail (w.heap.size + 1) m1 (by omega) w2
        have hcv := conv_tail (dgs n k) (w.heap.size + 1) m1 w2 (by rw [dgs_len]; omega) (keep_row hb2 HI.out.row)
        have HM1 := Lib.hid hm1
        clear hm1
        go_wp2
        go_ret
        exact ⟨ret_str (by rw [wtx, if_neg (fun h => (of_decide_eq_false HS.out) (HX.out.neg.2 h)), HNX.out, ← hT.out]; rfl), hB2⟩
theorem text_any (x xh : Int) (xl : Nat) (w : World) (hx : At x xh xl) :
    Calls Try.prog 31 #[.agg #[.int .i64 xh, .int .u64 xl]] w fun e w' => e = .returned (.string (bstr (wtx x))) ∧ Below w.heap.size w w' :=
  text_walk x xh xl x.natAbs w hx (fun w => sizeOf_any x xh xl w hx) (by have := hx.inn; unfold In at this; omega) rfl
end Go.Proofs.Ytgkcbadfjhicnaa.Fx
