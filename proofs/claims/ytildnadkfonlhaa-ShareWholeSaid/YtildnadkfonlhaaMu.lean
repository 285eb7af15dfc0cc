/- matrix.Mul, walked. 
  matrix.Scale, Identity, Move, Check, walked. -/
import Derived.Test.YtildnadkfonlhaaProg
import Derived.Test.YtildnadkfonlhaaAp
set_option linter.unusedVariables false
set_option linter.unusedSimpArgs false
namespace Go.Proofs.Ytildnadkfonlhaa.Fx
open Go Go.RowKit Go.Shelf Wm
theorem apO_len {m v l : List Int} (h : apO m v = some l) : l.length = 4 := by
  unfold apO at h
  split at h
  · cases h; rfl
  · cases h
theorem apply_any (m v : List Int) (w : World) (hm : m.length = 16) (hv : v.length = 4) : Calls Try.prog 61 #[.agg (mC m), .agg (mC v)] w (RetV (apO m v) w) := by
  rw [list4 hv]
  generalize v.getD 0 0 = v0
  generalize v.getD 1 0 = v1
  generalize v.getD 2 0 = v2
  generalize v.getD 3 0 = v3
  cases h1 : wB 4611686018427387904 m 16 with
  | false =>
    rw [show apO m [v0, v1, v2, v3] = none from by unfold apO; rw [if_neg (by rw [h1]; simp)]]
    exact apply_no1 m v0 v1 v2 v3 w hm h1
  | true =>
    cases h2 : wB 4611686018427387904 [v0, v1, v2, v3] 4 with
    | false =>
      rw [show apO m [v0, v1, v2, v3] = none from by unfold apO; rw [if_neg (by rw [h2]; simp)]]
      exact apply_no2 m v0 v1 v2 v3 w hm h1 h2
    | true => exact apply_go m v0 v1 v2 v3 w hm h1 h2
/-- a column of the product -/
def colO (a b : List Int) (r : Nat) : Option (List Int) := apO a (rowOf (tr b) r)
def colA (a b : List Int) (p : Nat) : Int := ((colO a b (p / 4)).getD []).getD (p % 4) 0
/-- the columns that have come -/
def csL (a b : List Int) (r : Nat) : List Int := (List.range 16).map fun p => if p / 4 < r then colA a b p else 0
def csA (a b : List Int) : List Int := (List.range 16).map fun p => colA a b p
theorem csL_len (a b : List Int) (r : Nat) : (csL a b r).length = 16 := by simp [csL]
theorem csA_len (a b : List Int) : (csA a b).length = 16 := by simp [csA]
theorem csL_end (a b : List Int) : csL a b 4 = csA a b := by
  unfold csL csA
  refine List.map_congr_left fun p hp => ?_
  rw [List.mem_range] at hp
  rw [if_pos (by omega)]
theorem csL_zero (a b : List Int) : csL a b 0 = List.replicate 16 0 := by
  unfold csL
  simp only [Nat.not_lt_zero, if_false]
  rfl
theorem csL_step {a b : List Int} {r : Nat} {q0 q1 q2 q3 : Int} (h : r < 4) (hc : colO a b r = some [q0, q1, q2, q3]) : ((((csL a b r).set (r * 4) q0).set (r * 4 + 1) q1).set (r * 4 + 2) q2).set (r * 4 + 3) q3 = csL a b (r + 1) := by
  refine List.ext_getElem (by simp [csL]) fun p h1 h2 => ?_
  have hp : p < 16 := by simpa [csL] using h2
  simp only [List.getElem_set]
  simp only [csL, List.getElem_map, List.getElem_range]
  by_cases e3 : r * 4 + 3 = p
  · rw [if_pos e3, if_pos (by omega)]
    unfold colA
    rw [show p / 4 = r by omega, show p % 4 = 3 by omega, hc]
    rfl
  rw [if_neg e3]
  by_cases e2 : r * 4 + 2 = p
  · rw [if_pos e2, if_pos (by omega)]
    unfold colA
    rw [show p / 4 = r by omega, show p % 4 = 2 by omega, hc]
    rfl
  rw [if_neg e2]
  by_cases e1 : r * 4 + 1 = p
  · rw [if_pos e1, if_pos (by omega)]
    unfold colA
    rw [show p / 4 = r by omega, show p % 4 = 1 by omega, hc]
    rfl
  rw [if_neg e1]
  by_cases e0 : r * 4 = p
  · rw [if_pos e0, if_pos (by omega)]
    unfold colA
    rw [show p / 4 = r by omega, show p % 4 = 0 by omega, hc]
    rfl
  rw [if_neg e0]
  by_cases e : p / 4 < r
  · rw [if_pos e, if_pos (by omega)]
  · rw [if_neg e, if_neg (by omega)]
def mulO (a b : List Int) : Option (List Int) := if (colO a b 0).isSome = true ∧ (colO a b 1).isSome = true ∧ (colO a b 2).isSome = true ∧ (colO a b 3).isSome = true then some (tr (csA a b)) else none
theorem mulO_none {a b : List Int} {r : Nat} (hr : r < 4) (h : colO a b r = none) : mulO a b = none := by
  unfold mulO
  rw [if_neg]
  have hd : r = 0 ∨ r = 1 ∨ r = 2 ∨ r = 3 := by omega
  rintro ⟨h0, h1, h2, h3⟩
  rcases hd with rfl | rfl | rfl | rfl
  · rw [h] at h0; cases h0
  · rw [h] at h1; cases h1
  · rw [h] at h2; cases h2
  · rw [h] at h3; cases h3
def zero16 : List Int := [0, 0, 0, 0, 0, 0, 0, 0, 0, 0, 0, 0, 0, 0, 0, 0]
def RetMM (o : Option (List Int)) (w : World) (e : Ending) (w' : World) : Prop := e = .returned (.tuple #[.agg (mC (o.getD zero16)), .int .i64 (if o.isSome then 0 else 30)]) ∧ Below w.heap.size w w'
theorem results_row2 {P : Program} {fn : Func} {p u : Tmp} {ty : TypeId} (h : fn.results = #[.cell p ty, .tmp u]) (tmps : Array Value) (w : World) (g : Nat) (t : TypeId) (cs : Array Value) (fr : Nat × Nat) (d : TypeDesc) (v : Value)
    (hp : tmps.getD p undef = .pointer (some ⟨g, 0, none⟩)) (hv : tmps.getD u undef = v) (hg : w.heap[g]? = some (.cells cs t fr))
    (hu : P.underlying ty = some d) (hd : (match d with | .struct _ | .array _ _ => true | _ => false) = true) (hi : (P.info? ty).map (·.size) = some cs.size) :
    (results fn tmps).run P w = .ok (.tuple #[.agg cs, v]) w := by
  have hp' : tmps[p]?.getD undef = .pointer (some ⟨g, 0, none⟩) := by simpa using hp
  have hv' : tmps[u]?.getD undef = v := by simpa using hv
  simp [results, h, hp', hv', asAddr, run_loadVar_row w g t ty cs fr d hg hu hd hi]
/-- a matrix's block -/
def MatAt (b : Nat) (m : List Int) (W : World) : Prop := W.heap[b]? = some (.cells (mC m) 29 (0, 0))
theorem MatAt.below {b : Nat} {m : List Int} {w W : World} (hb : Below w.heap.size w W) (h : MatAt b m w) : MatAt b m W := keep_row hb h
theorem MatAt.lt {b : Nat} {m : List Int} {W : World} (h : MatAt b m W) : b < W.heap.size := (Array.getElem?_eq_some_iff.1 h).1
theorem MatAt.cell {b j : Nat} {m : List Int} {W : World} (h : MatAt b m W) (hj : j < m.length) : W.cell? ⟨b, j, none⟩ = some (.int .i64 (m.getD j 0)) := by rw [cell_of_row _ _ _ _ _ _ h, mC_at _ _ hj]
theorem MatAt.set {b j : Nat} {m : List Int} {W : World} (h : MatAt b m W) (x : Int) : MatAt b (m.set j x) (W.setCell ⟨b, j, none⟩ (.int .i64 x)) := by
  unfold MatAt
  rw [heap_setCell_same _ _ _ _ _ _ h, mC_put]
theorem MatAt.other {b c j : Nat} {m : List Int} {W : World} (h : MatAt b m W) (v : Value) (hn : b ≠ c) : MatAt b m (W.setCell ⟨c, j, none⟩ v) := by
  unfold MatAt
  rw [heap_setCell_other _ _ _ _ hn]
  exact h
structure MI (a b : List Int) (r B : Nat) (w W : World) : Prop where
  ba : MatAt w.heap.size a W
  br : MatAt (w.heap.size + 1 + 1) zero16 W
  bc : MatAt B (csL a b r) W
  hB : w.heap.size + 1 + 1 < B
  below : Below w.heap.size w W
theorem MI.up {a b : List Int} {r B : Nat} {w W X : World} (h : MI a b r B w W) (hb : Below W.heap.size W X) : MI a b r B w X :=
  ⟨h.ba.below hb, h.br.below hb, h.bc.below hb, h.hB, bnext h.below hb⟩
theorem MI.next {a b : List Int} {r B : Nat} {w W : World} {q0 q1 q2 q3 : Int} (h : MI a b r B w W) (hr : r < 4) (hc : colO a b r = some [q0, q1, q2, q3]) :
    MI a b (r + 1) B w ((((W.setCell ⟨B, r * 4, none⟩ (.int .i64 q0)).setCell ⟨B, r * 4 + 1, none⟩ (.int .i64 q1)).setCell ⟨B, r * 4 + 2, none⟩ (.int .i64 q2)).setCell ⟨B, r * 4 + 3, none⟩ (.int .i64 q3)) := by
  have hB := h.hB
  refine ⟨?_, ?_, ?_, hB, ?_⟩
  · exact (((h.ba.other _ (by omega)).other _ (by omega)).other _ (by omega)).other _ (by omega)
  · exact (((h.br.other _ (by omega)).other _ (by omega)).other _ (by omega)).other _ (by omega)
  · rw [← csL_step hr hc]
    exact (((h.bc.set q0).set q1).set q2).set q3
  · exact (((h.below.setCell (p := ⟨B, r * 4, none⟩) (by show _ ≤ B; omega) _).setCell (p := ⟨B, r * 4 + 1, none⟩) (by show _ ≤ B; omega) _).setCell (p := ⟨B, r * 4 + 2, none⟩) (by show _ ≤ B; omega) _).setCell (p := ⟨B, r * 4 + 3, none⟩) (by show _ ≤ B; omega) _
def MRelM (a b : List Int) (B : Nat) (w : World) (g : Nat) (s : Value) (W : World) : Prop :=
  ∃ r, g = 4 - r ∧ s = .int .i64 (r : Int) ∧ r ≤ 4 ∧ (∀ j, j < r → (colO a b j).isSome = true) ∧ MI a b r B w W
set_option maxRecDepth 100000 in
set_option maxHeartbeats 4000000 in
theorem mmul_any (a b : List Int) (w : World) (la : a.length = 16) (lb : b.length = 16) : Calls Try.prog 50 #[.agg (mC a), .agg (mC b)] w (RetMM (mulO a b) w) := by
  have LA := Lib.hid la
  have LB := Lib.hid lb
  have ia : (Try.prog.info? 29).map (·.size) = some (mC a).size := by rw [size16, mC_size, la]
  have ib : (Try.prog.info? 29).map (·.size) = some (mC b).size := by rw [size16, mC_size, lb]
  have IA := Lib.hid ia
  have IB := Lib.hid ib
  clear la lb ia ib
  have hB4 := block4s w (.cells (mC a) 29) (.cells (mC b) 29) (.cells #[.int .i64 0, .int .i64 0, .int .i64 0, .int .i64 0, .int .i64 0, .int .i64 0, .int .i64 0, .int .i64 0, .int .i64 0, .int .i64 0, .int .i64 0, .int .i64 0, .int .i64 0, .int .i64 0, .int .i64 0, .int .i64 0] 29) (.cells #[.int .i64 0, .int .i64 0, .int .i64 0, .int .i64 0, .int .i64 0, .int .i64 0, .int .i64 0, .int .i64 0, .int .i64 0, .int .i64 0, .int .i64 0, .int .i64 0, .int .i64 0, .int .i64 0, .int .i64 0, .int .i64 0] 29)
  have RA := Lib.hid hB4.1
  have RB := Lib.hid hB4.2.1
  have RR := Lib.hid hB4.2.2.1
  have RC := Lib.hid hB4.2.2.2
  clear hB4
  have itr : (Try.prog.info? 29).map (·.size) = some (mC (tr (csA a b))).size := by rw [size16, mC_size, tr_len]
  have iz : (mC zero16).size = (mC (tr (csA a b))).size := by rw [mC_size, mC_size, tr_len]; rfl
  have ics : (Try.prog.info? 29).map (·.size) = some (mC (csA a b)).size := by rw [size16, mC_size, csA_len]
  have ITR := Lib.hid itr
  have IZ := Lib.hid iz
  have ICS := Lib.hid ics
  clear itr iz ics
  go_enter Try.func50, Try.ntmps50
  go_wp2_with (refine wpList_load_row rfl 29 (.tmp 3) rfl (w.heap.size + 1) rfl _ _ _ _ RB.out Try.underlying29 rfl IB.out ?_)
  refine (across_any b _ LB.out).mono ?_
  rintro e w1 ⟨rfl, hb⟩
  have MI0 : MI a b 0 (w.heap.size + 1 + 1 + 1) w w1 := by
    refine ⟨keep_row hb RA.out, keep_row hb RR.out, ?_, by omega, ?_⟩
    · rw [csL_zero]; exact keep_row hb RC.out
    · exact (by go_grown : Below w.heap.size w _).trans (hb.mono (by simp; omega))
  have HMI := Lib.hid MI0
  clear MI0 RA RB RR RC hb
  go_wp2_with fail
  generalize w.heap.size + 1 + 1 + 1 = B at HMI ⊢
  go_loopg [13] 4 (MRelM a b B w)
  case atStart => exact ⟨0, rfl, rfl, by omega, fun j hj => absurd hj (by omega), HMI.out⟩
  case round =>
    clear HMI
    obtain ⟨r, rfl, rfl, hr4, hok, I⟩ := hrel
    by_cases hr : r < 4
    · have hix := mat_at (tr b) (tr_len b) r hr
      have hP := fun w => apply_any a (rowOf (tr b) r) w LA.out rfl
      rw [show apO a (rowOf (tr b) r) = colO a b r from rfl] at hP
      have hrow : (Value.agg (mC (rowOf (tr b) r))) = .agg #[.int .i64 ((tr b).getD (r * 4) 0), .int .i64 ((tr b).getD (r * 4 + 1) 0), .int .i64 ((tr b).getD (r * 4 + 2) 0), .int .i64 ((tr b).getD (r * 4 + 3) 0)] := rfl
      rw [hrow] at hP
      clear hrow
      have HOK := Lib.hid hok
      generalize (tr b).getD (r * 4) 0 = a0 at hix hP
      generalize (tr b).getD (r * 4 + 1) 0 = a1 at hix hP
      generalize (tr b).getD (r * 4 + 2) 0 = a2 at hix hP
      generalize (tr b).getD (r * 4 + 3) 0 = a3 at hix hP
      have HP := Lib.hid hP
      have HNX := Lib.hid (fun W q0 q1 q2 q3 (h : MI a b r B w W) (hc : colO a b r = some [q0, q1, q2, q3]) => h.next hr hc)
      have r0 : (0 : Int) ≤ (r : Int) := by omega
      have r1 : (r : Int) < 4 := by omega
      have w0lt : w.heap.size < wr.heap.size := I.ba.lt
      have Iv := I.up ((Below.refl wr.heap.size wr).alloc (Nat.le_refl _) (.cells #[.int .i64 a0, .int .i64 a1, .int .i64 a2, .int .i64 a3] 27))
      have RA := Lib.hid Iv.ba
      have IV := Lib.hid Iv
      clear hP hok I Iv
      cases hc : colO a b r with
      | none =>
        have HNO := Lib.hid (mulO_none hr hc)
        rw [hc] at HP
        clear hc
        go_wp2_with (refine wpList_load_row rfl 29 (.tmp 2) rfl w.heap.size rfl _ _ _ _ RA.out Try.underlying29 rfl IA.out ?_)
        refine (HP.out _).mono ?_
        rintro e w3 ⟨rfl, hb3⟩
        have hgz : (Value.agg (mC ((none : Option (List Int)).getD [0, 0, 0, 0]))) = .agg #[.int .i64 0, .int .i64 0, .int .i64 0, .int .i64 0] := rfl
        have hgi : (if (none : Option (List Int)).isSome = true then (0 : Int) else 30) = 30 := rfl
        rw [hgz, hgi]
        clear hgz hgi
        have hs3 := hb3.size
        simp only [World.size_alloc] at hs3
        have I3 := (IV.out.up hb3).up ((Below.refl w3.heap.size w3).alloc (Nat.le_refl _) (.cells #[.int .i64 0, .int .i64 0, .int .i64 0, .int .i64 0] 27))
        have RR3 := Lib.hid I3.br
        have BB3 := Lib.hid I3.below
        have SZ3 := Lib.hid I3.below.size
        clear I3
        go_wp2_with (refine wpList_store_big rfl 29 (.tmp 4) (.tmp 25) rfl (w.heap.size + 1 + 1) _ _ (mC zero16) rfl rfl RR3.out size16 rfl (mC_one _) ?_)
        refine bodyPost_ret (results_row2 rfl _ _ (w.heap.size + 1 + 1) _ (mC zero16) _ _ (.int .i64 30) rfl rfl (setRow_heap _ _ _ _ _ _ RR3.out) Try.underlying29 rfl size16) rfl ?_
        rw [HNO.out]
        exact ⟨rfl, Below.row BB3.out (by omega) _⟩
      | some l =>
        have hl := list4 (apO_len hc)
        rw [hl] at hc
        generalize l.getD 0 0 = q0 at hc
        generalize l.getD 1 0 = q1 at hc
        generalize l.getD 2 0 = q2 at hc
        generalize l.getD 3 0 = q3 at hc
        rw [hc] at HP
        have HC := Lib.hid hc
        clear hc hl
        go_wp2_with (refine wpList_load_row rfl 29 (.tmp 2) rfl w.heap.size rfl _ _ _ _ RA.out Try.underlying29 rfl IA.out ?_)
        refine (HP.out _).mono ?_
        rintro e w3 ⟨rfl, hb3⟩
        have hs3 := hb3.size
        simp only [World.size_alloc] at hs3
        have I3 := (IV.out.up hb3).up ((Below.refl w3.heap.size w3).alloc (Nat.le_refl _) (.cells #[.int .i64 q0, .int .i64 q1, .int .i64 q2, .int .i64 q3] 27))
        have hBl := I3.bc.lt
        rw [World.size_alloc] at hBl
        have c0 := I3.bc.cell (j := r * 4) (by rw [csL_len]; omega)
        have c1 := I3.bc.cell (j := r * 4 + 1) (by rw [csL_len]; omega)
        have c2 := I3.bc.cell (j := r * 4 + 2) (by rw [csL_len]; omega)
        have c3 := I3.bc.cell (j := r * 4 + 3) (by rw [csL_len]; omega)
        have f0 := frozen_row (j := r * 4) I3.bc
        have f1 := frozen_row (j := r * 4 + 1) I3.bc
        have f2 := frozen_row (j := r * 4 + 2) I3.bc
        have f3 := frozen_row (j := r * 4 + 3) I3.bc
        generalize (csL a b r).getD (r * 4) 0 = y0 at c0
        generalize (csL a b r).getD (r * 4 + 1) 0 = y1 at c1
        generalize (csL a b r).getD (r * 4 + 2) 0 = y2 at c2
        generalize (csL a b r).getD (r * 4 + 3) 0 = y3 at c3
        have NX := Lib.hid (HNX.out _ q0 q1 q2 q3 I3 HC.out)
        clear I3
        have hgz : (Value.agg (mC ((some [q0, q1, q2, q3]).getD [0, 0, 0, 0]))) = .agg #[.int .i64 q0, .int .i64 q1, .int .i64 q2, .int .i64 q3] := rfl
        have hgi : (if (some [q0, q1, q2, q3]).isSome = true then (0 : Int) else 30) = 0 := rfl
        rw [hgz, hgi]
        clear hgz hgi
        go_wp2_with fail
        go_roundg (4 - (r + 1))
        case measure => omega
        case rel =>
          refine ⟨r + 1, rfl, by go_num, by omega, fun j hj => ?_, NX.out⟩
          by_cases hjr : j < r
          · exact HOK.out j hjr
          · rw [show j = r by omega, HC.out]; rfl
    · have hre : r = 4 := by omega
      subst hre
      have hall : mulO a b = some (tr (csA a b)) := if_pos ⟨hok 0 (by omega), hok 1 (by omega), hok 2 (by omega), hok 3 (by omega)⟩
      have HALL := Lib.hid hall
      have bc := I.bc
      rw [csL_end] at bc
      have BC := Lib.hid bc
      have II := Lib.hid I
      have hBl := bc.lt
      have hB2 := I.hB
      clear hall bc I hok
      go_wp2_with (refine wpList_load_row rfl 29 (.tmp 6) rfl B rfl _ _ _ _ BC.out Try.underlying29 rfl ICS.out ?_)
      refine (across_any (csA a b) _ (csA_len a b)).mono ?_
      rintro e w3 ⟨rfl, hb3⟩
      have I3 := II.out.up hb3
      have RR3 := Lib.hid I3.br
      have BB3 := Lib.hid I3.below
      clear I3
      go_wp2_with (refine wpList_store_big rfl 29 (.tmp 4) (.tmp 32) rfl (w.heap.size + 1 + 1) _ _ (mC (tr (csA a b))) rfl rfl RR3.out ITR.out IZ.out (mC_one _) ?_)
      refine bodyPost_ret (results_row2 rfl _ _ (w.heap.size + 1 + 1) _ _ _ _ (.int .i64 0) rfl rfl (setRow_heap _ _ _ _ _ _ RR3.out) Try.underlying29 rfl ITR.out) rfl ?_
      rw [HALL.out]
      exact ⟨rfl, Below.row BB3.out (by omega) _⟩
end Go.Proofs.Ytildnadkfonlhaa.Fx
set_option linter.unusedVariables false
set_option linter.unusedSimpArgs false
namespace Go.Proofs.Ytildnadkfonlhaa.Fx
open Go Go.RowKit Go.Shelf Wm
def scl (x y z : Int) : List Int := [x, 0, 0, 0, 0, y, 0, 0, 0, 0, z, 0, 0, 0, 0, 65536]
def mvl (x y z : Int) : List Int := [65536, 0, 0, x, 0, 65536, 0, y, 0, 0, 65536, z, 0, 0, 0, 65536]
def idl : List Int := scl 65536 65536 65536
theorem scale_any (x y z : Int) (w : World) : Calls Try.prog 26 #[.int .i64 x, .int .i64 y, .int .i64 z] w (RetM (scl x y z) w) := by
  go_enter Try.func26, Try.ntmps26
  go_wp2_with (refine wpList_store_big rfl 29 (.tmp 6) (.tmp 14) rfl w.heap.size _ _ (mC (scl x y z)) rfl rfl (heap_alloc_new _ _) size16 rfl (mC_one _) ?_)
  refine bodyPost_ret (results_cell_row rfl _ _ w.heap.size _ (mC (scl x y z)) _ _ rfl (setRow_heap _ _ _ _ _ _ (heap_alloc_new _ _)) Try.underlying29 rfl size16) rfl ?_
  exact ⟨rfl, Below.row ((Below.refl _ w).alloc (Nat.le_refl _) _) (Nat.le_refl _) _⟩
theorem identity_any (w : World) : Calls Try.prog 19 #[] w (RetM idl w) := by
  go_enter Try.func19, Try.ntmps19
  go_wp2_with fail
  refine (scale_any 65536 65536 65536 _).mono ?_
  rintro e w1 ⟨rfl, hb⟩
  have RR := Lib.hid (keep_row hb (heap_alloc_new w _))
  have hB := ((Below.refl _ w).alloc (Nat.le_refl _) _).trans (hb.mono (by simp))
  have HB := Lib.hid hB
  clear hB
  go_wp2_with (refine wpList_store_big rfl 29 (.tmp 0) (.tmp 1) rfl w.heap.size _ _ (mC idl) rfl rfl RR.out size16 rfl (mC_one _) ?_)
  refine bodyPost_ret (results_cell_row rfl _ _ w.heap.size _ (mC idl) _ _ rfl (setRow_heap _ _ _ _ _ _ RR.out) Try.underlying29 rfl size16) rfl ?_
  exact ⟨rfl, Below.row HB.out (Nat.le_refl _) _⟩
theorem check_any (m : List Int) (bound : Int) (w : World) (hm : m.length = 16) (b0 : -9223372036854775808 ≤ bound) (b1 : bound ≤ 9223372036854775807) :
    Calls Try.prog 29 #[.agg (mC m), .int .i64 bound] w fun e w' => e = .returned (.int .i64 (if wB bound m 16 then 0 else 30)) ∧ Below w.heap.size w w' := by
  cases hb : wB bound m 16 with
  | true =>
    have HW : ∀ w, Fours m 4 0 w → True := fun _ _ => trivial
    have HC := Lib.hid (fun (w : World) g (h : Fours m 4 g w) => (within_any bound m 4 g 4 w (by omega) b0 b1 h))
    rw [show 4 * 4 = 16 from rfl, hb] at HC
    have HM := Lib.hid hm
    clear hb hm HW
    go_enter Try.func29, Try.ntmps29
    go_wp2_with fail
    refine (HC.out _ _ (fours_of (t := 29) (heap_alloc_new _ _) (by rw [HM.out]; omega))).mono ?_
    rintro e w1 ⟨rfl, hbb⟩
    go_wp2
    go_ret
    refine ⟨rfl, ?_⟩
    exact ((Below.refl _ w).alloc (Nat.le_refl _) _).trans (hbb.mono (by simp))
  | false =>
    have HC := Lib.hid (fun (w : World) g (h : Fours m 4 g w) => (within_any bound m 4 g 4 w (by omega) b0 b1 h))
    rw [show 4 * 4 = 16 from rfl, hb] at HC
    have HM := Lib.hid hm
    clear hb hm
    go_enter Try.func29, Try.ntmps29
    go_wp2_with fail
    refine (HC.out _ _ (fours_of (t := 29) (heap_alloc_new _ _) (by rw [HM.out]; omega))).mono ?_
    rintro e w1 ⟨rfl, hbb⟩
    go_wp2
    go_ret
    refine ⟨rfl, ?_⟩
    exact ((Below.refl _ w).alloc (Nat.le_refl _) _).trans (hbb.mono (by simp))
end Go.Proofs.Ytildnadkfonlhaa.Fx
