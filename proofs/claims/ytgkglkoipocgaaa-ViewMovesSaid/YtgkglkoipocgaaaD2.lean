/- The document's long division, walked. 
  The document's quotients: their answers; numbers held against one another. -/
import Derived.Test.YtgkglkoipocgaaaProg
import Derived.Test.YtgkglkoipocgaaaBt
import Derived.Test.YtgkglkoipocgaaaW6a
import Derived.Laws.StructEq
set_option linter.unusedVariables false
set_option linter.unusedSimpArgs false
namespace Go.Proofs.Ytgkglkoipocgaaa.Fx
open Go Go.RowKit Wm
theorem results_rows2 {P : Program} {fn : Func} {p p2 u : Tmp} {ty ty2 : TypeId} (h : fn.results = #[.cell p ty, .cell p2 ty2, .tmp u]) (tmps : Array Value) (w : World) (g g2 : Nat) (t t2 : TypeId) (cs cs2 : Array Value) (fr fr2 : Nat × Nat) (d d2 : TypeDesc) (v : Value)
    (hp : tmps.getD p undef = .pointer (some ⟨g, 0, none⟩)) (hg : w.heap[g]? = some (.cells cs t fr)) (hu : P.underlying ty = some d) (hd : (match d with | .struct _ | .array _ _ => true | _ => false) = true) (hi : (P.info? ty).map (·.size) = some cs.size)
    (hp2 : tmps.getD p2 undef = .pointer (some ⟨g2, 0, none⟩)) (hg2 : w.heap[g2]? = some (.cells cs2 t2 fr2)) (hu2 : P.underlying ty2 = some d2) (hd2 : (match d2 with | .struct _ | .array _ _ => true | _ => false) = true) (hi2 : (P.info? ty2).map (·.size) = some cs2.size)
    (hv : tmps.getD u undef = v) :
    (results fn tmps).run P w = .ok (.tuple #[.agg cs, .agg cs2, v]) w := by
  have hp' : tmps[p]?.getD undef = .pointer (some ⟨g, 0, none⟩) := by simpa using hp
  have hp2' : tmps[p2]?.getD undef = .pointer (some ⟨g2, 0, none⟩) := by simpa using hp2
  have hv' : tmps[u]?.getD undef = v := by simpa using hv
  simp [results, h, hp', hp2', hv', asAddr, run_loadVar_row w g t ty cs fr d hg hu hd hi, run_loadVar_row w g2 t2 ty2 cs2 fr2 d2 hg2 hu2 hd2 hi2]
structure DvS (x c Q : Int) (B : Nat) (w W : World) : Prop where
  bx : BigAt w.heap.size x W
  bc : BigAt (w.heap.size + 1) c W
  bq : BigAt B Q W
  hB : w.heap.size + 1 + 1 + 1 < B
  below : Below w.heap.size w W
theorem DvS.up {x c Q : Int} {B : Nat} {w W X : World} (i : DvS x c Q B w W) (hb : Below W.heap.size W X) : DvS x c Q B w X :=
  ⟨BigAt.below hb i.bx, BigAt.below hb i.bc, BigAt.below hb i.bq, i.hB, bnext i.below hb⟩
theorem DvS.put {x c Q : Int} {B : Nat} {w W : World} (i : DvS x c Q B w W) (g : Nat) (h1 : g = w.heap.size + 1 + 1 ∨ g = w.heap.size + 1 + 1 + 1) (a : Array Value) : DvS x c Q B w (W.setRow g a) := by
  have hB := i.hB
  exact ⟨i.bx.other (by omega) _, i.bc.other (by omega) _, i.bq.other (by omega) _, hB, Below.row i.below (by omega) _⟩
theorem DvI.done {x c Q : Int} {n q r B : Nat} {w W : World} (i : DvI x c n q r B w W) (b : Bool) (hz : decide (Q < 0) = b) (hq : Q.natAbs = q) :
    DvS x c Q B w (W.setCell ⟨B, 0, none⟩ (.bool b)) ∧ BigAt (w.heap.size + 1 + 1) 0 (W.setCell ⟨B, 0, none⟩ (.bool b)) ∧ BigAt (w.heap.size + 1 + 1 + 1) 0 (W.setCell ⟨B, 0, none⟩ (.bool b)) := by
  have hB := i.hB
  exact ⟨⟨i.bx.otherC (by omega) _, i.bc.otherC (by omega) _, i.bq.neg b Q hz hq, hB, i.below.setCell (p := ⟨B, 0, none⟩) (by show _ ≤ B; omega) _⟩, i.r1.otherC (by omega) _, i.r2.otherC (by omega) _⟩
theorem DvI.headq {x c : Int} {n q r B : Nat} {w W : World} (i : DvI x c n q r B w W) : W.cell? ⟨B, 0, none⟩ = some (.bool false) ∧ W.frozen? ⟨B, 0, none⟩ = false := by
  have h := i.bq.head
  rw [decide_eq_false (by omega)] at h
  exact ⟨h, frozen_row i.bq⟩
theorem block4 (w : World) (A B C D : Obj) : (((((w.alloc A).alloc B).alloc C).alloc D).heap[w.heap.size]? = some A ∧ ((((w.alloc A).alloc B).alloc C).alloc D).heap[w.heap.size + 1]? = some B) ∧ ((((w.alloc A).alloc B).alloc C).alloc D).heap[w.heap.size + 1 + 1]? = some C ∧ ((((w.alloc A).alloc B).alloc C).alloc D).heap[w.heap.size + 1 + 1 + 1]? = some D := block3 w A B C D
set_option maxRecDepth 100000 in
set_option maxHeartbeats 4000000 in
theorem zdiv_walk (x c : Int) (m n : Nat) (Q P NP R : Int) (w : World) (hn : Hid (0 < n)) (hm : Hid (m < 2 ^ 144)) (hxm : Hid (x.natAbs = m)) (hcn : Hid (c.natAbs = n)) (hnB : Hid (n < BB / 4))
    (hsame : Hid (decide (x < 0) = decide (c < 0) → Q = ((m / n : Nat) : Int))) (hdiff0 : Hid (decide (x < 0) ≠ decide (c < 0) → m % n = 0 → Q = -((m / n : Nat) : Int))) (hdiff1 : Hid (decide (x < 0) ≠ decide (c < 0) → m % n ≠ 0 → Q = -((m / n + 1 : Nat) : Int)))
    (hqB : Hid (m / n < BB / 4)) (hcp : Hid (decide (c < 0) = false))
    (cE : Hid (Ans 54 #[.agg (bv c)] (.bool false)))
    (cM : Hid (Ans 41 #[.agg (bv Q), .agg (bv c)] (.agg (bv P)))) (cN : Hid (Ans 59 #[.agg (bv P)] (.agg (bv NP)))) (cA : Hid (Ans 58 #[.agg (bv x), .agg (bv NP)] (.agg (bv R)))) :
    Calls Try.prog 43 #[.agg (bv x), .agg (bv c)] w fun e w' => e = .returned (.tuple #[.agg (bv Q), .agg (bv R), .int .i64 0]) ∧ Below w.heap.size w w' := by
  have h4 := block4 w (.cells (bv x) 79) (.cells (bv c) 79) (.cells (bv 0) 79) (.cells (bv 0) 79)
  have HX : Hid (BigAt w.heap.size x ((((w.alloc (.cells (bv x) 79)).alloc (.cells (bv c) 79)).alloc (.cells (bv 0) 79)).alloc (.cells (bv 0) 79))) := Lib.hid h4.1.1
  have HC : Hid (BigAt (w.heap.size + 1) c ((((w.alloc (.cells (bv x) 79)).alloc (.cells (bv c) 79)).alloc (.cells (bv 0) 79)).alloc (.cells (bv 0) 79))) := Lib.hid h4.1.2
  have H1 : Hid (BigAt (w.heap.size + 1 + 1) 0 ((((w.alloc (.cells (bv x) 79)).alloc (.cells (bv c) 79)).alloc (.cells (bv 0) 79)).alloc (.cells (bv 0) 79))) := Lib.hid h4.2.1
  have H2 : Hid (BigAt (w.heap.size + 1 + 1 + 1) 0 ((((w.alloc (.cells (bv x) 79)).alloc (.cells (bv c) 79)).alloc (.cells (bv 0) 79)).alloc (.cells (bv 0) 79))) := Lib.hid h4.2.2
  have HB : Hid (Below w.heap.size w ((((w.alloc (.cells (bv x) 79)).alloc (.cells (bv c) 79)).alloc (.cells (bv 0) 79)).alloc (.cells (bv 0) 79))) := Lib.hid (by go_grown)
  clear h4
  go_enter Try.func43, Try.ntmps43
  go_wp2_with (refine wpList_load_row rfl 79 (.tmp 3) rfl (w.heap.size + 1) rfl _ _ _ _ HC.out Try.underlying79 rfl (bv_info _) ?_)
  refine (cE.out _).mono ?_
  rintro e w1 ⟨rfl, hb1⟩
  have hsz : w.heap.size + 1 + 1 + 1 < w1.heap.size := by have := hb1.size; simp at this; omega
  have HB1 := bnext HB.out hb1
  have h3 := block3s w1 (.cells (bv 0) 79) (.cells (bv 0) 79) (.cells (bv c) 79)
  have hc0 : (bv c).setIfInBounds 0 (.bool false) = bv (n : Int) := by
    unfold bv
    rw [big_sign, hcn.out, decide_eq_false (by omega), Int.natAbs_natCast]
  have I0 : DvI x c n (m / 2 ^ 144 / n) (m / 2 ^ 144 % n) w1.heap.size w (((w1.alloc (.cells (bv 0) 79)).alloc (.cells (bv 0) 79)).alloc (.cells ((bv c).setIfInBounds 0 (.bool false)) 79)) := by
    have e0 : m / 2 ^ 144 = 0 := Nat.div_eq_of_lt hm.out
    rw [e0, Nat.zero_div, Nat.zero_mod, hc0]
    have h3' := block3s w1 (.cells (bv 0) 79) (.cells (bv 0) 79) (.cells (bv (n : Int)) 79)
    have hb2 : Below w1.heap.size w1 (((w1.alloc (.cells (bv 0) 79)).alloc (.cells (bv 0) 79)).alloc (.cells (bv (n : Int)) 79)) := by go_grown
    exact ⟨BigAt.below hb2 (BigAt.below hb1 HX.out), BigAt.below hb2 (BigAt.below hb1 HC.out), BigAt.below hb2 (BigAt.below hb1 H1.out), BigAt.below hb2 (BigAt.below hb1 H2.out), h3'.1, h3'.2.1, h3'.2.2, hsz, bnext HB1 hb2⟩
  have HI0 := Lib.hid I0
  have RC : Hid (BigAt (w.heap.size + 1) c ((w1.alloc (.cells (bv 0) 79)).alloc (.cells (bv 0) 79))) := Lib.hid (step_row (step_row (BigAt.below hb1 HC.out)))
  have RD : Hid (BigAt (w1.heap.size + 1 + 1) c (((w1.alloc (.cells (bv 0) 79)).alloc (.cells (bv 0) 79)).alloc (.cells (bv c) 79))) := Lib.hid h3.2.2
  have cd := RD.out.head
  have fd : (((w1.alloc (.cells (bv 0) 79)).alloc (.cells (bv 0) 79)).alloc (.cells (bv c) 79)).frozen? ⟨w1.heap.size + 1 + 1, 0, none⟩ = false := frozen_row RD.out
  clear I0 h3 HB1 hb1 HX HC H1 H2 HB hc0
  have RC2 := Lib.hid (step_row (o := .cells (bv 0) 79) RC.out)
  go_wp2_with (first | (refine wpList_load_row rfl 79 (.tmp 3) rfl (w.heap.size + 1) rfl _ _ _ _ RC.out Try.underlying79 rfl (bv_info _) ?_) | (refine wpList_load_row rfl 79 (.tmp 3) rfl (w.heap.size + 1) rfl _ _ _ _ RC2.out Try.underlying79 rfl (bv_info _) ?_) | (refine wpList_store_new rfl 79 (.tmp 9) (.tmp 17) rfl (w1.heap.size + 1 + 1) _ _ (bv c) rfl (by simp) rfl (bv_info _) (bv_same 0 _) (bv_one _) ?_))
  have Bg : ∃ B, w1.heap.size = B := ⟨_, rfl⟩
  go_loopg [10] 144 (DoRel x c m n w1.heap.size w)
  case atStart => exact ⟨by omega, rfl, HI0.out⟩
  case round =>
    clear HI0 RC RC2 RD cd fd
    obtain ⟨hg4, rfl, I⟩ := hrel
    generalize w1.heap.size = B at *
    cases gk with
    | succ k =>
      obtain ⟨q, hq⟩ : ∃ q, m / 2 ^ (k + 1) / n = q := ⟨_, rfl⟩
      obtain ⟨r, hr⟩ : ∃ r, m / 2 ^ (k + 1) % n = r := ⟨_, rfl⟩
      obtain ⟨b, hb⟩ : ∃ b, m / 2 ^ k % 2 = b := ⟨_, rfl⟩
      obtain ⟨D, hD⟩ : ∃ D, m / 65536 ^ (k / 16) % 65536 = D := ⟨_, rfl⟩
      obtain ⟨e, he⟩ : ∃ e, k % 16 = e := ⟨_, rfl⟩
      obtain ⟨f, hf⟩ : ∃ f, k / 16 = f := ⟨_, rfl⟩
      have hbe : D / 2 ^ e % 2 = b := by rw [← hD, ← he, ← hb]; exact dv_bit m k
      have hst := dv_step hn.out hq hr hb
      have hrn := dv_le hn.out hr
      have HST := Lib.hid hst
      have HRN := Lib.hid hrn
      have HBE := Lib.hid hbe
      have hDl : D < 65536 := by omega
      have HDL := Lib.hid hDl
      have hbl : b ≤ 1 := by omega
      have HBL := Lib.hid hbl
      rw [hq, hr] at I
      have HI := Lib.hid I
      have s1 : (((k + 1 : Nat) : Int) - 1) = (k : Int) := by omega
      have k0 : (0 : Int) ≤ (k : Int) := by omega
      have k1 : (k : Int) < 144 := by omega
      have f0 : (0 : Int) ≤ (f : Int) := by omega
      have f1 : (f : Int) < 20 := by omega
      have e16 : (e : Int) < 16 := by omega
      have E0 : (k : Int).tdiv 16 = (f : Int) := by rw [Int.tdiv_eq_ediv_of_nonneg k0]; omega
      have E1 : (k : Int).tmod 16 = (e : Int) := by rw [Int.tmod_eq_emod_of_nonneg k0]; omega
      have E2 : IntKind.i64.wrap (f : Int) = (f : Int) := by rw [IntKind.wrap_i64]; omega
      have E3 : IntKind.i64.wrap (e : Int) = (e : Int) := by rw [IntKind.wrap_i64]; omega
      have cx0 : ∀ W, BigAt w.heap.size x W → W.cell? ⟨w.heap.size, 1 + f, none⟩ = some (.int .u64 (D : Int)) := fun W h => by rw [h.dig f (by omega), hxm.out, ← hf, hD]
      have CX0 := Lib.hid cx0
      rw [s1]
      clear I hq hr hb hD he hf hst hrn hbe hDl hbl s1 hg4 cx0
      go_wp2_with (refine wpList_load_row rfl 79 (.tmp 8) rfl (B + 1) rfl _ _ _ _ HI.out.br Try.underlying79 rfl (bv_info _) ?_)
      obtain ⟨r2, hr2⟩ : ∃ r2, r + r = r2 := ⟨_, rfl⟩
      have cM1 := more_n r r
      rw [hr2] at cM1
      refine (cM1 _).mono ?_
      rintro e1 x1 ⟨rfl, hb1⟩
      have I1 := HI.out.up hb1
      have HI1 := Lib.hid I1
      have I2 := I1.putR r2
      have HI2 := Lib.hid I2
      have cx := CX0.out _ I2.bx
      clear I1 I2 hb1 HI CX0 cM1
      go_wp2_with (refine wpList_store_big rfl 79 (.tmp 8) (.tmp 25) rfl (B + 1) _ _ (bv (r2 : Int)) rfl rfl HI1.out.br (bv_info _) (bv_same _ _) (bv_one _) ?_)
      go_loopg [11, 12] e (DiRel x c n q r2 B D e w)
      case atStart => exact ⟨0, rfl, by simp, rfl, by omega, HI2.out⟩
      case round =>
        clear HI1 HI2 cx
        obtain ⟨j, rfl, rfl, rfl, hje, I⟩ := hrel
        by_cases hj : j < e
        · obtain ⟨v, hv⟩ : ∃ v, D / 2 ^ j = v := ⟨_, rfl⟩
          have hvl : v < 65536 := by rw [← hv]; exact Nat.lt_of_le_of_lt (Nat.div_le_self _ _) HDL.out
          have hv2 : D / 2 ^ (j + 1) = v / 2 := by rw [Nat.pow_succ, ← Nat.div_div_eq_div_mul, hv]
          have HV2 := Lib.hid hv2
          have HVL := Lib.hid hvl
          have HI := Lib.hid I
          have j1 : (j : Int) < (e : Int) := by omega
          obtain ⟨v2, hv3⟩ : ∃ v2, v / 2 = v2 := ⟨_, rfl⟩
          have E4 : IntKind.u64.wrap ((v : Int) / 2) = (v2 : Int) := by rw [IntKind.wrap_u64]; omega
          rw [hv3] at HV2
          rw [hv]
          clear I hv hv2 hvl hv3
          go_wp2_with fail
          go_roundg (e - (j + 1))
          case measure => omega
          case rel =>
            refine ⟨j + 1, rfl, ?_, by go_num, by omega, HI.out⟩
            rw [HV2.out]
        · obtain rfl : j = e := by omega
          have j1 : ¬ ((j : Int) < (j : Int)) := by omega
          obtain ⟨v, hv⟩ : ∃ v, D / 2 ^ j = v := ⟨_, rfl⟩
          have hbe := HBE.out
          have hvl : v < 65536 := by rw [← hv]; exact Nat.lt_of_le_of_lt (Nat.div_le_self _ _) HDL.out
          rw [hv] at hbe ⊢
          obtain ⟨a, ha⟩ : ∃ a, r2 % 65536 = a := ⟨_, rfl⟩
          obtain ⟨a2, ha2⟩ : ∃ a2, a + b = a2 := ⟨_, rfl⟩
          obtain ⟨r3, hr3⟩ : ∃ r3, r2 + b = r3 := ⟨_, rfl⟩
          obtain ⟨q2, hq2⟩ : ∃ q2, q + q = q2 := ⟨_, rfl⟩
          have cr : wr.cell? ⟨B + 1, 1, none⟩ = some (.int .u64 (a : Int)) := by
            have := I.br.dig 0 (by omega)
            rw [Int.natAbs_natCast, Nat.pow_zero, Nat.div_one, ha] at this
            exact this
          have fr : wr.frozen? ⟨B + 1, 1, none⟩ = false := frozen_row I.br
          have E4 : (v : Int) % 2 = (b : Int) := by omega
          have E5 : IntKind.u64.wrap (b : Int) = (b : Int) := by have := HBL.out; rw [IntKind.wrap_u64]; omega
          have E6 : IntKind.u64.wrap ((a : Int) + (b : Int)) = (a2 : Int) := by have := HBL.out; rw [IntKind.wrap_u64]; omega
          have I3 := I.incR HBL.out (by omega)
          rw [ha, ha2, hr3] at I3
          have HI3 := Lib.hid I3
          have cM2 := more_n q q
          rw [hq2] at cM2
          have CM2 := Lib.hid cM2
          have H3 : Hid (r3 < n + n) := Lib.hid (by have h2 := HRN.out; have h3 := HBL.out; omega)
          have HST2 : Hid ((r3 < n → m / 2 ^ k / n = q2 ∧ m / 2 ^ k % n = r3) ∧ (¬ r3 < n → m / 2 ^ k / n = q2 + 1 ∧ m / 2 ^ k % n = r3 - n)) := Lib.hid (by
            have := HST.out
            rw [hr2, hr3, hq2] at this
            exact this)
          have HQ2 : Hid (q2 % 2 = 0) := Lib.hid (by omega)
          clear I I3 hv hvl hbe ha hje ha2 hr3 hq2 hr2 cM2 HST
          go_wp2_with (refine wpList_load_row rfl 79 (.tmp 7) rfl (B) rfl _ _ _ _ HI3.out.bq Try.underlying79 rfl (bv_info _) ?_)
          refine (CM2.out _).mono ?_
          rintro e1 x2 ⟨rfl, hb2⟩
          have I4 := HI3.out.up hb2
          have HI4 := Lib.hid I4
          have I5 := I4.putQ q2
          have HI5 := Lib.hid I5
          clear I4 I5 hb2 HI3 cr fr CM2
          go_wp2_with (first | (refine wpList_store_big rfl 79 (.tmp 7) (.tmp 49) rfl (B) _ _ (bv (q2 : Int)) rfl rfl HI4.out.bq (bv_info _) (bv_same _ _) (bv_one _) ?_) | (refine wpList_load_row rfl 79 (.tmp 8) rfl (B + 1) rfl _ _ _ _ HI5.out.br Try.underlying79 rfl (bv_info _) ?_) | (refine wpList_load_row rfl 79 (.tmp 9) rfl (B + 1 + 1) rfl _ _ _ _ HI5.out.bd Try.underlying79 rfl (bv_info _) ?_))
          refine (less_n r3 n _ ?_ ?_).mono ?_
          · have h1 := hnB.out; have h2 := H3.out; omega
          · have h1 := hnB.out; omega
          rintro e1 x3 ⟨rfl, hb3⟩
          have I6 := HI5.out.up hb3
          have HI6 := Lib.hid I6
          clear I6 hb3 HI4 HI5
          by_cases hlt : r3 < n
          · have hx := HST2.out.1 hlt
            have HX := Lib.hid hx
            rw [decide_eq_true hlt]
            clear hx HST2 hlt
            go_wp2_with fail
            go_roundg k
            case measure => omega
            case rel =>
              refine ⟨by omega, by go_num, ?_⟩
              rw [HX.out.1, HX.out.2]
              exact HI6.out
          · have hx := HST2.out.2 hlt
            obtain ⟨r4, hr4⟩ : ∃ r4, r3 - n = r4 := ⟨_, rfl⟩
            rw [hr4] at hx
            have HX := Lib.hid hx
            have cA4 := fun w => away_n r3 n w (by omega)
            rw [hr4] at cA4
            have CA4 := Lib.hid cA4
            rw [decide_eq_false hlt]
            clear hx HST2 hlt hr4 cA4
            go_wp2_with (first | (refine wpList_load_row rfl 79 (.tmp 8) rfl (B + 1) rfl _ _ _ _ HI6.out.br Try.underlying79 rfl (bv_info _) ?_) | (refine wpList_load_row rfl 79 (.tmp 9) rfl (B + 1 + 1) rfl _ _ _ _ HI6.out.bd Try.underlying79 rfl (bv_info _) ?_))
            refine (CA4.out _).mono ?_
            rintro e1 x4 ⟨rfl, hb4⟩
            have I7 := HI6.out.up hb4
            have HI7 := Lib.hid I7
            have I8 := I7.putR r4
            obtain ⟨u, hu⟩ : ∃ u, q2 % 65536 = u := ⟨_, rfl⟩
            obtain ⟨u1, hu1⟩ : ∃ u1, u + 1 = u1 := ⟨_, rfl⟩
            have cq : (x4.setRow (B + 1) (bv (r4 : Int))).cell? ⟨B, 1, none⟩ = some (.int .u64 (u : Int)) := by
              have := I8.bq.dig 0 (by omega)
              rw [Int.natAbs_natCast, Nat.pow_zero, Nat.div_one, hu] at this
              exact this
            have fq : (x4.setRow (B + 1) (bv (r4 : Int))).frozen? ⟨B, 1, none⟩ = false := frozen_row I8.bq
            have E7 : IntKind.u64.wrap ((u : Int) + 1) = (u1 : Int) := by rw [IntKind.wrap_u64]; omega
            have I9 := I8.incQ HQ2.out
            rw [hu, hu1] at I9
            have HI9 := Lib.hid I9
            clear I7 I8 I9 hb4 hu hu1 CA4
            go_wp2_with (refine wpList_store_big rfl 79 (.tmp 8) (.tmp 56) rfl (B + 1) _ _ (bv (r4 : Int)) rfl rfl HI7.out.br (bv_info _) (bv_same _ _) (bv_one _) ?_)
            go_roundg k
            case measure => omega
            case rel =>
              refine ⟨by omega, by go_num, ?_⟩
              rw [HX.out.1, HX.out.2]
              exact HI9.out
    | zero =>
      obtain ⟨q, hq⟩ : ∃ q, m / n = q := ⟨_, rfl⟩
      obtain ⟨r, hr⟩ : ∃ r, m % n = r := ⟨_, rfl⟩
      rw [Nat.pow_zero, Nat.div_one, hq, hr] at I
      have HI := Lib.hid I
      have HQ := Lib.hid hq
      have n0 : ¬ (0 : Int) ≤ ((0 : Nat) : Int) - 1 := by omega
      have hx := I.bx.head
      have hc := I.bc.head
      clear I
      cases hsx : decide (x < 0) with
      | true =>
        cases hsc : decide (c < 0) with
        | true =>
          exact absurd (hsc.symm.trans hcp.out) (by decide)
        | false =>
          have HSX := Lib.hid hsx
          have HSC := Lib.hid hsc
          rw [hsx] at hx
          rw [hsc] at hc
          have hne : decide (x < 0) ≠ decide (c < 0) := by rw [hsx, hsc]; decide
          by_cases hr0 : r = 0
          · have hQ := hdiff0.out hne (by rw [hr]; exact hr0)
            rw [hq] at hQ
            have HQQ := Lib.hid hQ
            have HR0 := Lib.hid hr0
            clear hQ hr0 hne hsx hsc hq hr hsame hdiff0 hdiff1
            go_wp2_with (refine wpList_load_big (by kernel_rfl) 79 (.tmp 8) rfl (B + 1) rfl _ _ _ _ HI.out.br Try.underlying79 rfl (bv_info _) ?_)
            refine (none_z (r : Int) true _ (by have := hqB.out; have h1 := HR0.out; unfold BB at *; omega) (by have h1 := HR0.out; rw [decide_eq_true]; omega)).mono ?_
            rintro e1 x1 ⟨rfl, hb1⟩
            have I1 := HI.out.up hb1
            have HI1 := Lib.hid I1
            have hx1 := I1.bx.head
            have hc1 := I1.bc.head
            rw [show decide (x < 0) = true from HSX.out] at hx1
            rw [show decide (c < 0) = false from HSC.out] at hc1
            clear I1 hb1 HI hx hc
            go_wp2_with (refine wpList_load_big (by kernel_rfl) 79 (.tmp 7) rfl (B) rfl _ _ _ _ HI1.out.bq Try.underlying79 rfl (bv_info _) ?_)
            refine (none_z (q : Int) (decide (q = 0)) _ (by have := hqB.out; have h1 := HQ.out; rw [h1] at this; unfold BB at *; omega) (by rw [decide_eq_decide]; omega)).mono ?_
            rintro e1 x2 ⟨rfl, hb2⟩
            have I2 := HI1.out.up hb2
            obtain ⟨hq0, fq0⟩ := I2.headq
            obtain ⟨bq, hbq⟩ : ∃ bq, decide (q = 0) = bq := ⟨_, rfl⟩
            rw [hbq]
            obtain ⟨hS, h1, h2⟩ := I2.done (Q := Q) (!bq) (by have := HQQ.out; rw [← hbq, ← decide_not, decide_eq_decide]; omega) (by have := HQQ.out; omega)
            have HS := Lib.hid hS
            have H1 := Lib.hid h1
            have H2 := Lib.hid h2
            clear hS h1 h2 HQQ HI1 I2 hb2 hx1 hc1 hbq HQ HR0 HSX HSC
            go_wp2_with fail
            rename_i K24 hK24
            refine (wpIn_wide (n := 5)).1 (held_region (F := Fence.wide) (S := fun X => DvS x c Q B w X) (by kernel_rfl) (DvS.up HS.out (bdrew0 _ _ 1)) (fun hHeld => ?_))
            have hrow1 := BigAt.below (bdrew0 _ _ 1) H1.out
            have hrow2 := BigAt.below (bdrew0 _ _ 1) H2.out
            clear HS H1 H2
            refine held_take (fun _ => trivial) (by kernel_rfl) (i := 0) (oi := _) (v := .agg (bv Q)) rfl (by kernel_rfl) (by kernel_rfl) (by kernel_rfl) (fun _ _ _ h => h) (by assumption) (Or.inl ⟨by kernel_rfl, ?_⟩) ?_
            · intro wz hSw; exact exec_load_row 79 (.tmp 7) (by kernel_rfl) (B) (by kernel_rfl) _ _ _ _ (hSw.bq) Try.underlying79 (by kernel_rfl) (bv_info _)
            (try simp only [Act.put, List.getElem_toArray, List.getElem_cons_zero, List.getElem_cons_succ, List.setIfInBounds_toArray, List.set_cons_zero, List.set_cons_succ])
            refine held_take (fun _ => trivial) (by kernel_rfl) (i := 1) (oi := _) (v := .agg (bv x)) rfl (by kernel_rfl) (by kernel_rfl) (by kernel_rfl) (fun _ _ _ h => h) (by assumption) (Or.inl ⟨by kernel_rfl, ?_⟩) ?_
            · intro wz hSw; exact exec_load_row 79 (.tmp 2) (by kernel_rfl) (w.heap.size) (by kernel_rfl) _ _ _ _ (hSw.bx) Try.underlying79 (by kernel_rfl) (bv_info _)
            (try simp only [Act.put, List.getElem_toArray, List.getElem_cons_zero, List.getElem_cons_succ, List.setIfInBounds_toArray, List.set_cons_zero, List.set_cons_succ])
            refine held_take (fun _ => trivial) (by kernel_rfl) (i := 2) (oi := _) (v := .agg (bv Q)) rfl (by kernel_rfl) (by kernel_rfl) (by kernel_rfl) (fun _ _ _ h => h) (by assumption) (Or.inl ⟨by kernel_rfl, ?_⟩) ?_
            · intro wz hSw; exact exec_load_row 79 (.tmp 7) (by kernel_rfl) (B) (by kernel_rfl) _ _ _ _ (hSw.bq) Try.underlying79 (by kernel_rfl) (bv_info _)
            (try simp only [Act.put, List.getElem_toArray, List.getElem_cons_zero, List.getElem_cons_succ, List.setIfInBounds_toArray, List.set_cons_zero, List.set_cons_succ])
            refine held_take (fun _ => trivial) (by kernel_rfl) (i := 3) (oi := _) (v := .agg (bv c)) rfl (by kernel_rfl) (by kernel_rfl) (by kernel_rfl) (fun _ _ _ h => h) (by assumption) (Or.inl ⟨by kernel_rfl, ?_⟩) ?_
            · intro wz hSw; exact exec_load_row 79 (.tmp 3) (by kernel_rfl) (w.heap.size + 1) (by kernel_rfl) _ _ _ _ (hSw.bc) Try.underlying79 (by kernel_rfl) (bv_info _)
            (try simp only [Act.put, List.getElem_toArray, List.getElem_cons_zero, List.getElem_cons_succ, List.setIfInBounds_toArray, List.set_cons_zero, List.set_cons_succ])
            refine held_step (fun _ => trivial) (i := 4) (o := _) (by kernel_rfl) rfl (fun K hK => ?_)
            go_simp
            refine ⟨trivial, callsIn_wide.2 ((cM.out _).mono ?_)⟩
            rintro e y1 ⟨rfl, hc1⟩
            dsimp only
            replace hrow1 := BigAt.below hc1 hrow1; replace hrow2 := BigAt.below hc1 hrow2
            refine hK.out _ _ (hHeld.up hc1) (fun hHeld => ?_)
            clear hK K
            (try simp only [Act.put, List.getElem_toArray, List.getElem_cons_zero, List.getElem_cons_succ, List.setIfInBounds_toArray, List.set_cons_zero, List.set_cons_succ])
            refine held_step (fun _ => trivial) (i := 5) (o := _) (by kernel_rfl) rfl (fun K hK => ?_)
            go_simp
            refine ⟨trivial, callsIn_wide.2 ((cN.out _).mono ?_)⟩
            rintro e y2 ⟨rfl, hc2⟩
            dsimp only
            replace hrow1 := BigAt.below hc2 hrow1; replace hrow2 := BigAt.below hc2 hrow2
            refine hK.out _ _ (hHeld.up hc2) (fun hHeld => ?_)
            clear hK K
            (try simp only [Act.put, List.getElem_toArray, List.getElem_cons_zero, List.getElem_cons_succ, List.setIfInBounds_toArray, List.set_cons_zero, List.set_cons_succ])
            refine held_step (fun _ => trivial) (i := 6) (o := _) (by kernel_rfl) rfl (fun K hK => ?_)
            go_simp
            refine ⟨trivial, callsIn_wide.2 ((cA.out _).mono ?_)⟩
            rintro e y3 ⟨rfl, hc3⟩
            dsimp only
            replace hrow1 := BigAt.below hc3 hrow1; replace hrow2 := BigAt.below hc3 hrow2
            refine hK.out _ _ (hHeld.up hc3) (fun hHeld => ?_)
            clear hK K
            (try simp only [Act.put, List.getElem_toArray, List.getElem_cons_zero, List.getElem_cons_succ, List.setIfInBounds_toArray, List.set_cons_zero, List.set_cons_succ])
            refine held_step (fun _ => trivial) (i := 7) (o := _) (by kernel_rfl) rfl (fun K hK => ?_)
            rw [if_pos (by kernel_rfl)]
            refine wpIn_store_row (fun _ => trivial) 79 (.tmp 4) (.tmp 87) (by kernel_rfl) (w.heap.size + 1 + 1) _ _ (bv Q) (by kernel_rfl) (by kernel_rfl) hrow1 (bv_info _) (bv_same 0 _) (bv_one _) ?_
            refine hK.out _ _ (hHeld.put _ (Or.inl rfl) _) (fun hHeld => ?_)
            clear hK K
            (try simp only [Act.put, List.getElem_toArray, List.getElem_cons_zero, List.getElem_cons_succ, List.setIfInBounds_toArray, List.set_cons_zero, List.set_cons_succ])
            replace hrow2 := BigAt.other (k := w.heap.size + 1 + 1) hrow2 (by omega) (bv Q)
            replace hrow1 := BigAt.row hrow1 Q
            refine held_step (fun _ => trivial) (i := 8) (o := _) (by kernel_rfl) rfl (fun K hK => ?_)
            rw [if_pos (by kernel_rfl)]
            refine wpIn_store_row (fun _ => trivial) 79 (.tmp 5) (.tmp 93) (by kernel_rfl) (w.heap.size + 1 + 1 + 1) _ _ (bv R) (by kernel_rfl) (by kernel_rfl) hrow2 (bv_info _) (bv_same 0 _) (bv_one _) ?_
            refine hK.out _ _ (hHeld.put _ (Or.inr rfl) _) (fun hHeld => ?_)
            clear hK K
            (try simp only [Act.put, List.getElem_toArray, List.getElem_cons_zero, List.getElem_cons_succ, List.setIfInBounds_toArray, List.set_cons_zero, List.set_cons_succ])
            replace hrow1 := BigAt.other (k := w.heap.size + 1 + 1 + 1) hrow1 (by omega) (bv R)
            replace hrow2 := BigAt.row hrow2 R
            refine held_take (fun _ => trivial) (by kernel_rfl) (i := 9) (oi := _) (v := ?_) rfl (by kernel_rfl) (by kernel_rfl) (by kernel_rfl) (fun _ _ _ h => h) (by assumption) (Or.inl ⟨by kernel_rfl, ?_⟩) ?_
            rotate_left
            · intro wz hSw; (first | (go_simp; done) | (go_simp; with_reducible rfl))
            (try simp only [Act.put, List.getElem_toArray, List.getElem_cons_zero, List.getElem_cons_succ, List.setIfInBounds_toArray, List.set_cons_zero, List.set_cons_succ])
            refine held_done (by kernel_rfl) ?_ _
            refine hK24 _ _ ?_
            have hBel := hHeld.below
            refine wp_ret ?_
            (try simp only [Exit.inBlock, Exit.then])
            refine bodyPost_ret (v := .tuple #[.agg (bv Q), .agg (bv R), .int .i64 0]) (results_rows2 rfl _ _ (w.heap.size + 1 + 1) (w.heap.size + 1 + 1 + 1) _ _ _ _ _ _ _ _ _ rfl hrow1 Try.underlying79 rfl (bv_info _) rfl hrow2 Try.underlying79 rfl (bv_info _) rfl) rfl ?_
            exact ⟨rfl, hBel⟩
          · have hQ := hdiff1.out hne (by rw [hr]; exact hr0)
            rw [hq] at hQ
            have HQQ := Lib.hid hQ
            have HR0 := Lib.hid hr0
            have HRN : Hid (r < n) := Lib.hid (by rw [← hr]; exact Nat.mod_lt _ hn.out)
            clear hQ hr0 hne hsx hsc hq hr hsame hdiff0 hdiff1
            go_wp2_with (refine wpList_load_big (by kernel_rfl) 79 (.tmp 8) rfl (B + 1) rfl _ _ _ _ HI.out.br Try.underlying79 rfl (bv_info _) ?_)
            refine (none_z (r : Int) false _ (by have h1 := HRN.out; have h2 := hnB.out; omega) (by have h1 := HR0.out; rw [decide_eq_false]; omega)).mono ?_
            rintro e1 x1 ⟨rfl, hb1⟩
            have I1 := HI.out.up hb1
            have HI1 := Lib.hid I1
            clear I1 hb1 HI hx hc
            obtain ⟨q1, hq1⟩ : ∃ q1, q + 1 = q1 := ⟨_, rfl⟩
            have C1 : Hid (Ans 42 #[.int .i64 1] (.agg (bv 1))) := Lib.hid fun w => of_z 1 w (by omega) (by omega)
            have C2 : Hid (Ans 58 #[.agg (bv (q : Int)), .agg (bv 1)] (.agg (bv (q1 : Int)))) := Lib.hid fun w => by
              have := add_z (q : Int) 1 w (by have h1 := hqB.out; have h2 := HQ.out; rw [h2] at h1; unfold BB at *; omega)
              rw [show (q : Int) + 1 = (q1 : Int) by omega] at this
              exact this
            have HQ1 := Lib.hid hq1
            clear hq1
            go_wp2_with fail
            rename_i K22 hK22
            have HTT : ∀ (X : World), DvI x c n q1 r B w X → K22 { tmps := #[.agg (bv x), .agg (bv c), .pointer (some ⟨w.heap.size, 0, none⟩), .pointer (some ⟨w.heap.size + 1, 0, none⟩), .pointer (some ⟨w.heap.size + 1 + 1, 0, none⟩), .pointer (some ⟨w.heap.size + 1 + 1 + 1, 0, none⟩), .int .i64 0, .pointer (some ⟨B, 0, none⟩), .pointer (some ⟨B + 1, 0, none⟩), .pointer (some ⟨B + 1 + 1, 0, none⟩), .int .i64 (-1), u11, u12, .agg (bv c), .bool false, undef, undef, .agg (bv c), .pointer (some ⟨B + 1 + 1, 0, none⟩), .int .i64 (-1), .bool false, u21, u22, u23, u24, u25, u26, u27, u28, u29, u30, u31, u32, u33, u34, u35, u36, u37, u38, u39, u40, u41, u42, u43, u44, u45, u46, u47, u48, u49, u50, u51, u52, u53, u54, u55, u56, u57, u58, u59, u60, u61, u62, .pointer (some ⟨w.heap.size, 0, none⟩), .bool true, .pointer (some ⟨w.heap.size + 1, 0, none⟩), .bool false, .bool true, .bool true, .agg (bv (r : Int)), .bool false, .bool true, .bool true, .agg (bv (q : Int)), .agg (bv 1), .agg (bv (q1 : Int)), undef, undef, undef, undef, undef, undef, undef, undef, undef, undef, undef, undef, undef, undef, undef, undef, undef, undef], defers := [] } X := by
              intro X hX
              refine hK22 _ _ ?_
              have HI2 := Lib.hid hX
              have hx1 := hX.bx.head
              have hc1 := hX.bc.head
              rw [show decide (x < 0) = true from HSX.out] at hx1
              rw [show decide (c < 0) = false from HSC.out] at hc1
              clear hX
              go_wp2_with (refine wpList_load_big (by kernel_rfl) 79 (.tmp 7) rfl (B) rfl _ _ _ _ HI2.out.bq Try.underlying79 rfl (bv_info _) ?_)
              refine (none_z (q1 : Int) false _ (by have := hqB.out; have h1 := HQ.out; have h2 := HQ1.out; rw [h1] at this; unfold BB at *; omega) (by have h2 := HQ1.out; rw [decide_eq_false]; omega)).mono ?_
              rintro e1 x2 ⟨rfl, hb2⟩
              have I2 := HI2.out.up hb2
              obtain ⟨hq0, fq0⟩ := I2.headq
              obtain ⟨hS, h1, h2⟩ := I2.done (Q := Q) true (by have := HQQ.out; rw [decide_eq_true]; omega) (by have := HQQ.out; have h2 := HQ1.out; omega)
              have HS := Lib.hid hS
              have H1 := Lib.hid h1
              have H2 := Lib.hid h2
              clear hS h1 h2 HQQ HI2 I2 hb2 hx1 hc1
              go_wp2_with fail
              rename_i K24 hK24
              refine (wpIn_wide (n := 5)).1 (held_region (F := Fence.wide) (S := fun X => DvS x c Q B w X) (by kernel_rfl) (DvS.up HS.out (bdrew0 _ _ 1)) (fun hHeld => ?_))
              have hrow1 := BigAt.below (bdrew0 _ _ 1) H1.out
              have hrow2 := BigAt.below (bdrew0 _ _ 1) H2.out
              clear HS H1 H2
              refine held_take (fun _ => trivial) (by kernel_rfl) (i := 0) (oi := _) (v := .agg (bv Q)) rfl (by kernel_rfl) (by kernel_rfl) (by kernel_rfl) (fun _ _ _ h => h) (by assumption) (Or.inl ⟨by kernel_rfl, ?_⟩) ?_
              · intro wz hSw; exact exec_load_row 79 (.tmp 7) (by kernel_rfl) (B) (by kernel_rfl) _ _ _ _ (hSw.bq) Try.underlying79 (by kernel_rfl) (bv_info _)
              (try simp only [Act.put, List.getElem_toArray, List.getElem_cons_zero, List.getElem_cons_succ, List.setIfInBounds_toArray, List.set_cons_zero, List.set_cons_succ])
              refine held_take (fun _ => trivial) (by kernel_rfl) (i := 1) (oi := _) (v := .agg (bv x)) rfl (by kernel_rfl) (by kernel_rfl) (by kernel_rfl) (fun _ _ _ h => h) (by assumption) (Or.inl ⟨by kernel_rfl, ?_⟩) ?_
              · intro wz hSw; exact exec_load_row 79 (.tmp 2) (by kernel_rfl) (w.heap.size) (by kernel_rfl) _ _ _ _ (hSw.bx) Try.underlying79 (by kernel_rfl) (bv_info _)
              (try simp only [Act.put, List.getElem_toArray, List.getElem_cons_zero, List.getElem_cons_succ, List.setIfInBounds_toArray, List.set_cons_zero, List.set_cons_succ])
              refine held_take (fun _ => trivial) (by kernel_rfl) (i := 2) (oi := _) (v := .agg (bv Q)) rfl (by kernel_rfl) (by kernel_rfl) (by kernel_rfl) (fun _ _ _ h => h) (by assumption) (Or.inl ⟨by kernel_rfl, ?_⟩) ?_
              · intro wz hSw; exact exec_load_row 79 (.tmp 7) (by kernel_rfl) (B) (by kernel_rfl) _ _ _ _ (hSw.bq) Try.underlying79 (by kernel_rfl) (bv_info _)
              (try simp only [Act.put, List.getElem_toArray, List.getElem_cons_zero, List.getElem_cons_succ, List.setIfInBounds_toArray, List.set_cons_zero, List.set_cons_succ])
              refine held_take (fun _ => trivial) (by kernel_rfl) (i := 3) (oi := _) (v := .agg (bv c)) rfl (by kernel_rfl) (by kernel_rfl) (by kernel_rfl) (fun _ _ _ h => h) (by assumption) (Or.inl ⟨by kernel_rfl, ?_⟩) ?_
              · intro wz hSw; exact exec_load_row 79 (.tmp 3) (by kernel_rfl) (w.heap.size + 1) (by kernel_rfl) _ _ _ _ (hSw.bc) Try.underlying79 (by kernel_rfl) (bv_info _)
              (try simp only [Act.put, List.getElem_toArray, List.getElem_cons_zero, List.getElem_cons_succ, List.setIfInBounds_toArray, List.set_cons_zero, List.set_cons_succ])
              refine held_step (fun _ => trivial) (i := 4) (o := _) (by kernel_rfl) rfl (fun K hK => ?_)
              go_simp
              refine ⟨trivial, callsIn_wide.2 ((cM.out _).mono ?_)⟩
              rintro e y1 ⟨rfl, hc1⟩
              dsimp only
              replace hrow1 := BigAt.below hc1 hrow1; replace hrow2 := BigAt.below hc1 hrow2
              refine hK.out _ _ (hHeld.up hc1) (fun hHeld => ?_)
              clear hK K
              (try simp only [Act.put, List.getElem_toArray, List.getElem_cons_zero, List.getElem_cons_succ, List.setIfInBounds_toArray, List.set_cons_zero, List.set_cons_succ])
              refine held_step (fun _ => trivial) (i := 5) (o := _) (by kernel_rfl) rfl (fun K hK => ?_)
              go_simp
              refine ⟨trivial, callsIn_wide.2 ((cN.out _).mono ?_)⟩
              rintro e y2 ⟨rfl, hc2⟩
              dsimp only
              replace hrow1 := BigAt.below hc2 hrow1; replace hrow2 := BigAt.below hc2 hrow2
              refine hK.out _ _ (hHeld.up hc2) (fun hHeld => ?_)
              clear hK K
              (try simp only [Act.put, List.getElem_toArray, List.getElem_cons_zero, List.getElem_cons_succ, List.setIfInBounds_toArray, List.set_cons_zero, List.set_cons_succ])
              refine held_step (fun _ => trivial) (i := 6) (o := _) (by kernel_rfl) rfl (fun K hK => ?_)
              go_simp
              refine ⟨trivial, callsIn_wide.2 ((cA.out _).mono ?_)⟩
              rintro e y3 ⟨rfl, hc3⟩
              dsimp only
              replace hrow1 := BigAt.below hc3 hrow1; replace hrow2 := BigAt.below hc3 hrow2
              refine hK.out _ _ (hHeld.up hc3) (fun hHeld => ?_)
              clear hK K
              (try simp only [Act.put, List.getElem_toArray, List.getElem_cons_zero, List.getElem_cons_succ, List.setIfInBounds_toArray, List.set_cons_zero, List.set_cons_succ])
              refine held_step (fun _ => trivial) (i := 7) (o := _) (by kernel_rfl) rfl (fun K hK => ?_)
              rw [if_pos (by kernel_rfl)]
              refine wpIn_store_row (fun _ => trivial) 79 (.tmp 4) (.tmp 87) (by kernel_rfl) (w.heap.size + 1 + 1) _ _ (bv Q) (by kernel_rfl) (by kernel_rfl) hrow1 (bv_info _) (bv_same 0 _) (bv_one _) ?_
              refine hK.out _ _ (hHeld.put _ (Or.inl rfl) _) (fun hHeld => ?_)
              clear hK K
              (try simp only [Act.put, List.getElem_toArray, List.getElem_cons_zero, List.getElem_cons_succ, List.setIfInBounds_toArray, List.set_cons_zero, List.set_cons_succ])
              replace hrow2 := BigAt.other (k := w.heap.size + 1 + 1) hrow2 (by omega) (bv Q)
              replace hrow1 := BigAt.row hrow1 Q
              refine held_step (fun _ => trivial) (i := 8) (o := _) (by kernel_rfl) rfl (fun K hK => ?_)
              rw [if_pos (by kernel_rfl)]
              refine wpIn_store_row (fun _ => trivial) 79 (.tmp 5) (.tmp 93) (by kernel_rfl) (w.heap.size + 1 + 1 + 1) _ _ (bv R) (by kernel_rfl) (by kernel_rfl) hrow2 (bv_info _) (bv_same 0 _) (bv_one _) ?_
              refine hK.out _ _ (hHeld.put _ (Or.inr rfl) _) (fun hHeld => ?_)
              clear hK K
              (try simp only [Act.put, List.getElem_toArray, List.getElem_cons_zero, List.getElem_cons_succ, List.setIfInBounds_toArray, List.set_cons_zero, List.set_cons_succ])
              replace hrow1 := BigAt.other (k := w.heap.size + 1 + 1 + 1) hrow1 (by omega) (bv R)
              replace hrow2 := BigAt.row hrow2 R
              refine held_take (fun _ => trivial) (by kernel_rfl) (i := 9) (oi := _) (v := ?_) rfl (by kernel_rfl) (by kernel_rfl) (by kernel_rfl) (fun _ _ _ h => h) (by assumption) (Or.inl ⟨by kernel_rfl, ?_⟩) ?_
              rotate_left
              · intro wz hSw; (first | (go_simp; done) | (go_simp; with_reducible rfl))
              (try simp only [Act.put, List.getElem_toArray, List.getElem_cons_zero, List.getElem_cons_succ, List.setIfInBounds_toArray, List.set_cons_zero, List.set_cons_succ])
              refine held_done (by kernel_rfl) ?_ _
              refine hK24 _ _ ?_
              have hBel := hHeld.below
              refine wp_ret ?_
              (try simp only [Exit.inBlock, Exit.then])
              refine bodyPost_ret (v := .tuple #[.agg (bv Q), .agg (bv R), .int .i64 0]) (results_rows2 rfl _ _ (w.heap.size + 1 + 1) (w.heap.size + 1 + 1 + 1) _ _ _ _ _ _ _ _ _ rfl hrow1 Try.underlying79 rfl (bv_info _) rfl hrow2 Try.underlying79 rfl (bv_info _) rfl) rfl ?_
              exact ⟨rfl, hBel⟩
            refine (wpIn_wide (n := 5)).1 (held_region (F := Fence.wide) (S := fun X => True) (by kernel_rfl) trivial (fun hHeld => ?_))
            clear hHeld
            have hs0 : DvI x c n q r B w x1.drew := DvI.up HI1.out (bdrew0 _ _ 1)
            refine held_step2 (fun _ => trivial) (i := 0) (j := 1) (o := _) (o2 := _) (by kernel_rfl) rfl rfl (fun K hK => ?_) (fun K hK => ?_)
            · rw [if_pos (by kernel_rfl)]
              refine wpIn_load_row (fun _ => trivial) 79 (.tmp 7) (by kernel_rfl) (B) (by kernel_rfl) _ (bv (q : Int)) _ _ hs0.bq Try.underlying79 (by kernel_rfl) (bv_info _) ?_
              refine hK.out _ _ trivial (fun _ => ?_)
              clear hK K
              (try simp only [Act.put, List.getElem_toArray, List.getElem_cons_zero, List.getElem_cons_succ, List.setIfInBounds_toArray, List.set_cons_zero, List.set_cons_succ])
              refine held_step (fun _ => trivial) (i := 1) (o := _) (by kernel_rfl) rfl (fun K hK => ?_)
              go_simp
              refine ⟨trivial, callsIn_wide.2 ((C1.out _).mono ?_)⟩
              rintro e y1 ⟨rfl, hc1⟩
              dsimp only
              have hs1 := DvI.up hs0 hc1
              refine hK.out _ _ (trivial) (fun hHeld => ?_)
              clear hK K
              (try simp only [Act.put, List.getElem_toArray, List.getElem_cons_zero, List.getElem_cons_succ, List.setIfInBounds_toArray, List.set_cons_zero, List.set_cons_succ])
              refine held_step (fun _ => trivial) (i := 2) (o := _) (by kernel_rfl) rfl (fun K hK => ?_)
              go_simp
              refine ⟨trivial, callsIn_wide.2 ((C2.out _).mono ?_)⟩
              rintro e y2 ⟨rfl, hc2⟩
              dsimp only
              have hs2 := DvI.up hs1 hc2
              refine hK.out _ _ (trivial) (fun hHeld => ?_)
              clear hK K
              (try simp only [Act.put, List.getElem_toArray, List.getElem_cons_zero, List.getElem_cons_succ, List.setIfInBounds_toArray, List.set_cons_zero, List.set_cons_succ])
              refine held_step (fun _ => trivial) (i := 3) (o := _) (by kernel_rfl) rfl (fun K hK => ?_)
              rw [if_pos (by kernel_rfl)]
              refine wpIn_store_row (fun _ => trivial) 79 (.tmp 7) (.tmp 75) (by kernel_rfl) (B) _ _ (bv (q1 : Int)) (by kernel_rfl) (by kernel_rfl) hs2.bq (bv_info _) (bv_same _ _) (bv_one _) ?_
              refine hK.out _ _ trivial (fun _ => ?_)
              clear hK K
              (try simp only [Act.put, List.getElem_toArray, List.getElem_cons_zero, List.getElem_cons_succ, List.setIfInBounds_toArray, List.set_cons_zero, List.set_cons_succ])
              exact held_done (by kernel_rfl) (HTT _ (DvI.putQ hs2 q1)) _
            · go_simp
              refine ⟨trivial, callsIn_wide.2 ((C1.out _).mono ?_)⟩
              rintro e y1 ⟨rfl, hc1⟩
              dsimp only
              have hs1 := DvI.up hs0 hc1
              refine hK.out _ _ (trivial) (fun hHeld => ?_)
              clear hK K
              (try simp only [Act.put, List.getElem_toArray, List.getElem_cons_zero, List.getElem_cons_succ, List.setIfInBounds_toArray, List.set_cons_zero, List.set_cons_succ])
              refine held_step (fun _ => trivial) (i := 0) (o := _) (by kernel_rfl) rfl (fun K hK => ?_)
              rw [if_pos (by kernel_rfl)]
              refine wpIn_load_row (fun _ => trivial) 79 (.tmp 7) (by kernel_rfl) (B) (by kernel_rfl) _ (bv (q : Int)) _ _ hs1.bq Try.underlying79 (by kernel_rfl) (bv_info _) ?_
              refine hK.out _ _ trivial (fun _ => ?_)
              clear hK K
              (try simp only [Act.put, List.getElem_toArray, List.getElem_cons_zero, List.getElem_cons_succ, List.setIfInBounds_toArray, List.set_cons_zero, List.set_cons_succ])
              refine held_step (fun _ => trivial) (i := 2) (o := _) (by kernel_rfl) rfl (fun K hK => ?_)
              go_simp
              refine ⟨trivial, callsIn_wide.2 ((C2.out _).mono ?_)⟩
              rintro e y2 ⟨rfl, hc2⟩
              dsimp only
              have hs2 := DvI.up hs1 hc2
              refine hK.out _ _ (trivial) (fun hHeld => ?_)
              clear hK K
              (try simp only [Act.put, List.getElem_toArray, List.getElem_cons_zero, List.getElem_cons_succ, List.setIfInBounds_toArray, List.set_cons_zero, List.set_cons_succ])
              refine held_step (fun _ => trivial) (i := 3) (o := _) (by kernel_rfl) rfl (fun K hK => ?_)
              rw [if_pos (by kernel_rfl)]
              refine wpIn_store_row (fun _ => trivial) 79 (.tmp 7) (.tmp 75) (by kernel_rfl) (B) _ _ (bv (q1 : Int)) (by kernel_rfl) (by kernel_rfl) hs2.bq (bv_info _) (bv_same _ _) (bv_one _) ?_
              refine hK.out _ _ trivial (fun _ => ?_)
              clear hK K
              (try simp only [Act.put, List.getElem_toArray, List.getElem_cons_zero, List.getElem_cons_succ, List.setIfInBounds_toArray, List.set_cons_zero, List.set_cons_succ])
              exact held_done (by kernel_rfl) (HTT _ (DvI.putQ hs2 q1)) _
      | false =>
        cases hsc : decide (c < 0) with
        | true =>
          exact absurd (hsc.symm.trans hcp.out) (by decide)
        | false =>
          rw [hsx] at hx
          rw [hsc] at hc
          have hQ := hsame.out (by rw [hsx, hsc])
          obtain ⟨hq0, fq0⟩ := HI.out.headq
          rw [hq] at hQ
          obtain ⟨hS, h1, h2⟩ := HI.out.done (Q := Q) false (decide_eq_false (by omega)) (by omega)
          have HS := Lib.hid hS
          have H1 := Lib.hid h1
          have H2 := Lib.hid h2
          clear hS h1 h2 hQ HI hsx hsc hq hr hsame hdiff0 hdiff1
          go_wp2_with fail
          rename_i K24 hK24
          refine (wpIn_wide (n := 5)).1 (held_region (F := Fence.wide) (S := fun X => DvS x c Q B w X) (by kernel_rfl) (DvS.up HS.out (bdrew0 _ _ 1)) (fun hHeld => ?_))
          have hrow1 := BigAt.below (bdrew0 _ _ 1) H1.out
          have hrow2 := BigAt.below (bdrew0 _ _ 1) H2.out
          clear HS H1 H2
          refine held_take (fun _ => trivial) (by kernel_rfl) (i := 0) (oi := _) (v := .agg (bv Q)) rfl (by kernel_rfl) (by kernel_rfl) (by kernel_rfl) (fun _ _ _ h => h) (by assumption) (Or.inl ⟨by kernel_rfl, ?_⟩) ?_
          · intro wz hSw; exact exec_load_row 79 (.tmp 7) (by kernel_rfl) (B) (by kernel_rfl) _ _ _ _ (hSw.bq) Try.underlying79 (by kernel_rfl) (bv_info _)
          (try simp only [Act.put, List.getElem_toArray, List.getElem_cons_zero, List.getElem_cons_succ, List.setIfInBounds_toArray, List.set_cons_zero, List.set_cons_succ])
          refine held_take (fun _ => trivial) (by kernel_rfl) (i := 1) (oi := _) (v := .agg (bv x)) rfl (by kernel_rfl) (by kernel_rfl) (by kernel_rfl) (fun _ _ _ h => h) (by assumption) (Or.inl ⟨by kernel_rfl, ?_⟩) ?_
          · intro wz hSw; exact exec_load_row 79 (.tmp 2) (by kernel_rfl) (w.heap.size) (by kernel_rfl) _ _ _ _ (hSw.bx) Try.underlying79 (by kernel_rfl) (bv_info _)
          (try simp only [Act.put, List.getElem_toArray, List.getElem_cons_zero, List.getElem_cons_succ, List.setIfInBounds_toArray, List.set_cons_zero, List.set_cons_succ])
          refine held_take (fun _ => trivial) (by kernel_rfl) (i := 2) (oi := _) (v := .agg (bv Q)) rfl (by kernel_rfl) (by kernel_rfl) (by kernel_rfl) (fun _ _ _ h => h) (by assumption) (Or.inl ⟨by kernel_rfl, ?_⟩) ?_
          · intro wz hSw; exact exec_load_row 79 (.tmp 7) (by kernel_rfl) (B) (by kernel_rfl) _ _ _ _ (hSw.bq) Try.underlying79 (by kernel_rfl) (bv_info _)
          (try simp only [Act.put, List.getElem_toArray, List.getElem_cons_zero, List.getElem_cons_succ, List.setIfInBounds_toArray, List.set_cons_zero, List.set_cons_succ])
          refine held_take (fun _ => trivial) (by kernel_rfl) (i := 3) (oi := _) (v := .agg (bv c)) rfl (by kernel_rfl) (by kernel_rfl) (by kernel_rfl) (fun _ _ _ h => h) (by assumption) (Or.inl ⟨by kernel_rfl, ?_⟩) ?_
          · intro wz hSw; exact exec_load_row 79 (.tmp 3) (by kernel_rfl) (w.heap.size + 1) (by kernel_rfl) _ _ _ _ (hSw.bc) Try.underlying79 (by kernel_rfl) (bv_info _)
          (try simp only [Act.put, List.getElem_toArray, List.getElem_cons_zero, List.getElem_cons_succ, List.setIfInBounds_toArray, List.set_cons_zero, List.set_cons_succ])
          refine held_step (fun _ => trivial) (i := 4) (o := _) (by kernel_rfl) rfl (fun K hK => ?_)
          go_simp
          refine ⟨trivial, callsIn_wide.2 ((cM.out _).mono ?_)⟩
          rintro e y1 ⟨rfl, hc1⟩
          dsimp only
          replace hrow1 := BigAt.below hc1 hrow1; replace hrow2 := BigAt.below hc1 hrow2
          refine hK.out _ _ (hHeld.up hc1) (fun hHeld => ?_)
          clear hK K
          (try simp only [Act.put, List.getElem_toArray, List.getElem_cons_zero, List.getElem_cons_succ, List.setIfInBounds_toArray, List.set_cons_zero, List.set_cons_succ])
          refine held_step (fun _ => trivial) (i := 5) (o := _) (by kernel_rfl) rfl (fun K hK => ?_)
          go_simp
          refine ⟨trivial, callsIn_wide.2 ((cN.out _).mono ?_)⟩
          rintro e y2 ⟨rfl, hc2⟩
          dsimp only
          replace hrow1 := BigAt.below hc2 hrow1; replace hrow2 := BigAt.below hc2 hrow2
          refine hK.out _ _ (hHeld.up hc2) (fun hHeld => ?_)
          clear hK K
          (try simp only [Act.put, List.getElem_toArray, List.getElem_cons_zero, List.getElem_cons_succ, List.setIfInBounds_toArray, List.set_cons_zero, List.set_cons_succ])
          refine held_step (fun _ => trivial) (i := 6) (o := _) (by kernel_rfl) rfl (fun K hK => ?_)
          go_simp
          refine ⟨trivial, callsIn_wide.2 ((cA.out _).mono ?_)⟩
          rintro e y3 ⟨rfl, hc3⟩
          dsimp only
          replace hrow1 := BigAt.below hc3 hrow1; replace hrow2 := BigAt.below hc3 hrow2
          refine hK.out _ _ (hHeld.up hc3) (fun hHeld => ?_)
          clear hK K
          (try simp only [Act.put, List.getElem_toArray, List.getElem_cons_zero, List.getElem_cons_succ, List.setIfInBounds_toArray, List.set_cons_zero, List.set_cons_succ])
          refine held_step (fun _ => trivial) (i := 7) (o := _) (by kernel_rfl) rfl (fun K hK => ?_)
          rw [if_pos (by kernel_rfl)]
          refine wpIn_store_row (fun _ => trivial) 79 (.tmp 4) (.tmp 87) (by kernel_rfl) (w.heap.size + 1 + 1) _ _ (bv Q) (by kernel_rfl) (by kernel_rfl) hrow1 (bv_info _) (bv_same 0 _) (bv_one _) ?_
          refine hK.out _ _ (hHeld.put _ (Or.inl rfl) _) (fun hHeld => ?_)
          clear hK K
          (try simp only [Act.put, List.getElem_toArray, List.getElem_cons_zero, List.getElem_cons_succ, List.setIfInBounds_toArray, List.set_cons_zero, List.set_cons_succ])
          replace hrow2 := BigAt.other (k := w.heap.size + 1 + 1) hrow2 (by omega) (bv Q)
          replace hrow1 := BigAt.row hrow1 Q
          refine held_step (fun _ => trivial) (i := 8) (o := _) (by kernel_rfl) rfl (fun K hK => ?_)
          rw [if_pos (by kernel_rfl)]
          refine wpIn_store_row (fun _ => trivial) 79 (.tmp 5) (.tmp 93) (by kernel_rfl) (w.heap.size + 1 + 1 + 1) _ _ (bv R) (by kernel_rfl) (by kernel_rfl) hrow2 (bv_info _) (bv_same 0 _) (bv_one _) ?_
          refine hK.out _ _ (hHeld.put _ (Or.inr rfl) _) (fun hHeld => ?_)
          clear hK K
          (try simp only [Act.put, List.getElem_toArray, List.getElem_cons_zero, List.getElem_cons_succ, List.setIfInBounds_toArray, List.set_cons_zero, List.set_cons_succ])
          replace hrow1 := BigAt.other (k := w.heap.size + 1 + 1 + 1) hrow1 (by omega) (bv R)
          replace hrow2 := BigAt.row hrow2 R
          refine held_take (fun _ => trivial) (by kernel_rfl) (i := 9) (oi := _) (v := ?_) rfl (by kernel_rfl) (by kernel_rfl) (by kernel_rfl) (fun _ _ _ h => h) (by assumption) (Or.inl ⟨by kernel_rfl, ?_⟩) ?_
          rotate_left
          · intro wz hSw; (first | (go_simp; done) | (go_simp; with_reducible rfl))
          (try simp only [Act.put, List.getElem_toArray, List.getElem_cons_zero, List.getElem_cons_succ, List.setIfInBounds_toArray, List.set_cons_zero, List.set_cons_succ])
          refine held_done (by kernel_rfl) ?_ _
          refine hK24 _ _ ?_
          have hBel := hHeld.below
          refine wp_ret ?_
          (try simp only [Exit.inBlock, Exit.then])
          refine bodyPost_ret (v := .tuple #[.agg (bv Q), .agg (bv R), .int .i64 0]) (results_rows2 rfl _ _ (w.heap.size + 1 + 1) (w.heap.size + 1 + 1 + 1) _ _ _ _ _ _ _ _ _ rfl hrow1 Try.underlying79 rfl (bv_info _) rfl hrow2 Try.underlying79 rfl (bv_info _) rfl) rfl ?_
          exact ⟨rfl, hBel⟩
end Go.Proofs.Ytgkglkoipocgaaa.Fx
set_option linter.unusedVariables false
set_option linter.unusedSimpArgs false
namespace Go.Proofs.Ytgkglkoipocgaaa.Fx
open Go Go.RowKit Wm
theorem big_part (n : Bool) (d : List Nat) (hd : d.length = 20) : (bigC n d).extract 1 (1 + 20) = (d.map encN).toArray := by
  unfold bigC
  rw [List.extract_toArray, List.extract_eq_take_drop]
  congr 1
  rw [List.drop_one, List.tail_cons]
  exact List.take_of_length_le (by rw [List.length_map, hd]; omega)
theorem eqFields_step {P : Program} {w : World} {d : Nat} {xs ys : Array Value} {f : Field} {fs : List Field} (hn : f.name ≠ "_") {a b : Value} {r : Bool} (ha : (part f.type xs f.offset).run P w = .ok a w) (hb : (part f.type ys f.offset).run P w = .ok b w) (hr : (Op.equalIn d f.type a b).run P w = .ok r w) :
    (Op.eqFields d xs ys (f :: fs)).run P w = if r = true then (Op.eqFields d xs ys fs).run P w else .ok false w := by
  rw [Op.eqFields, if_pos hn]
  simp only [Sem.run_bind, ha, hb, hr, Result.andThen_ok]
  cases r <;> simp
theorem big_p0 (w : World) (n : Bool) (d : List Nat) : (part 4 (bigC n d) 0).run Try.prog w = .ok (.bool n) w := by
  have hb := Try.underlying4
  simp [part, isAgg, run_underlying hb, bigC]
theorem big_p1 (w : World) (n : Bool) (d : List Nat) (hd : d.length = 20) : (part 77 (bigC n d) 1).run Try.prog w = .ok (.agg (d.map encN).toArray) w := by
  have ha := Try.underlying77
  have hsz := Try.sizeOf77
  rw [← big_part n d hd]
  simp only [part, isAgg, run_underlying ha, hsz, Sem.run_bind, Result.andThen_ok, Sem.run_pure, if_true]
theorem eqIn_big (w : World) (k : Nat) (nx ny : Bool) (dx dy : List Nat) (hx : dx.length = 20) (hy : dy.length = 20) :
    (Op.equalIn (k + 3) 79 (.agg (bigC nx dx)) (.agg (bigC ny dy))).run Try.prog w = .ok (nx == ny && dx == dy) w := by
  have hf := Try.underlying79
  have pe : (Op.equalIn (k + 2) 4 (.bool nx) (.bool ny)).run Try.prog w = .ok (nx == ny) w := run_equalIn_bool' (P := Try.prog) w (k + 1) 4 nx ny Try.underlying4
  have pd : (Op.equalIn (k + 2) 77 (.agg (dx.map encN).toArray) (.agg (dy.map encN).toArray)).run Try.prog w = .ok (dx == dy) w := eqIn_nats w k dx dy hx hy
  refine (run_equalIn_struct w (k + 2) _ _ _ (by kernel_rfl) (by kernel_rfl)).trans ?_
  simp only [Program.fieldsOf, hf]
  have h1 := eqFields_step (P := Try.prog) (w := w) (d := k + 2) (xs := bigC nx dx) (ys := bigC ny dy) (f := { name := "Neg", type := 4, offset := 0, embedded := false, tag := "", pkgPath := "", byteOffset := 0 }) (fs := [{ name := "D", type := 77, offset := 1, embedded := false, tag := "", pkgPath := "", byteOffset := 8 }]) (by decide) (a := .bool nx) (b := .bool ny) (r := (nx == ny)) (big_p0 w nx dx) (big_p0 w ny dy) pe
  refine h1.trans ?_
  have h2 : (Op.eqFields (k + 2) (bigC nx dx) (bigC ny dy) [{ name := "D", type := 77, offset := 1, embedded := false, tag := "", pkgPath := "", byteOffset := 8 }]).run Try.prog w = .ok (dx == dy) w := by
    have h3 := eqFields_step (P := Try.prog) (w := w) (d := k + 2) (xs := bigC nx dx) (ys := bigC ny dy) (f := { name := "D", type := 77, offset := 1, embedded := false, tag := "", pkgPath := "", byteOffset := 8 }) (fs := []) (by decide) (a := .agg (dx.map encN).toArray) (b := .agg (dy.map encN).toArray) (r := (dx == dy)) (big_p1 w nx dx hx) (big_p1 w ny dy hy) pd
    refine h3.trans ?_
    cases (dx == dy)
    · rw [if_neg (by decide)]
    · rw [if_pos rfl, Op.eqFields, Sem.run_pure]
  rw [h2]
  cases (nx == ny)
  · rw [if_neg (by decide), Bool.false_and]
  · rw [if_pos rfl, Bool.true_and]
theorem eq_big (z : Int) (w : World) : (binOp .eql 79 (.agg (bv z)) (.agg (bv z))).run Try.prog w = .ok (.bool true) w := by
  rw [run_eql_struct]
  unfold bv
  rw [eqIn_big w 9997 _ _ _ _ (dg_len _) (dg_len _), beq_self_eq_true, beq_self_eq_true, Result.andThen_ok, Bool.and_self]
theorem ne_big (z : Int) (w : World) : (binOp .neq 79 (.agg (bv z)) (.agg (bv z))).run Try.prog w = .ok (.bool false) w := by
  rw [run_neq_struct]
  unfold bv
  rw [eqIn_big w 9997 _ _ _ _ (dg_len _) (dg_len _), beq_self_eq_true, beq_self_eq_true, Result.andThen_ok, Bool.and_self, Bool.not_true]
theorem zdiv_z (x c : Int) (w : World) (hx : x.natAbs < 65536 ^ 9) (hc0 : 0 < c) (hcn : c.natAbs < 65536 ^ 9) :
    Calls Try.prog 43 #[.agg (bv x), .agg (bv c)] w fun e w' => e = .returned (.tuple #[.agg (bv (dv x c)), .agg (bv (rs x c)), .int .i64 0]) ∧ Below w.heap.size w w' := by
  have hc : c ≠ 0 := by omega
  have e9 : (65536 : Nat) ^ 9 = 2 ^ 144 := by decide
  have e144 : (2 : Nat) ^ 144 = 22300745198530623141535718272648361505980416 := by decide
  have eB : BB / 4 = 533996758980227520598755426542388028650676130589163192486760401955554931445160137505740521734144 := by decide
  have eB1 : BB = 2135987035920910082395021706169552114602704522356652769947041607822219725780640550022962086936576 := by decide
  rw [e9, e144] at hx hcn
  have hn : 0 < c.natAbs := by omega
  have hqm : x.natAbs / c.natAbs ≤ x.natAbs := Nat.div_le_self _ _
  have hsame : decide (x < 0) = decide (c < 0) → dv x c = ((x.natAbs / c.natAbs : Nat) : Int) := fun h => (dv_like hc (decide_eq_decide.1 h)).1
  have hd0 : decide (x < 0) ≠ decide (c < 0) → x.natAbs % c.natAbs = 0 → dv x c = -((x.natAbs / c.natAbs : Nat) : Int) := fun h g => ((dv_unlike hc fun e => h (decide_eq_decide.2 e)).1 g).1
  have hd1 : decide (x < 0) ≠ decide (c < 0) → x.natAbs % c.natAbs ≠ 0 → dv x c = -((x.natAbs / c.natAbs + 1 : Nat) : Int) := fun h g => ((dv_unlike hc fun e => h (decide_eq_decide.2 e)).2 g).1
  have hq1 : x.natAbs % c.natAbs ≠ 0 → x.natAbs / c.natAbs + 1 ≤ x.natAbs := by
    intro hr
    have h2 : 2 ≤ c.natAbs := by
      rcases Nat.lt_or_ge c.natAbs 2 with h | h
      · exfalso
        have : c.natAbs = 1 := by omega
        rw [this, Nat.mod_one] at hr
        exact hr rfl
      · exact h
    have h3 : x.natAbs / c.natAbs ≤ x.natAbs / 2 := Nat.div_le_div_left h2 (by omega)
    have h4 : x.natAbs ≠ 0 := by
      intro h0
      rw [h0, Nat.zero_mod] at hr
      exact hr rfl
    have h5 : x.natAbs = 1 → x.natAbs / c.natAbs = 0 := fun h => by rw [h]; exact Nat.div_eq_of_lt (by omega)
    omega
  have hQ : (dv x c).natAbs ≤ x.natAbs := by
    by_cases hs : decide (x < 0) = decide (c < 0)
    · rw [hsame hs, Int.natAbs_natCast]
      exact hqm
    · by_cases hr : x.natAbs % c.natAbs = 0
      · rw [hd0 hs hr, Int.natAbs_neg, Int.natAbs_natCast]
        exact hqm
      · rw [hd1 hs hr, Int.natAbs_neg, Int.natAbs_natCast]
        exact hq1 hr
  have hP : (dv x c * c).natAbs < 2 ^ 144 * 2 ^ 144 := by
    rw [Int.natAbs_mul]
    exact Nat.mul_lt_mul'' (by rw [e144]; omega) (by rw [e144]; omega)
  have e288 : (2 : Nat) ^ 144 * 2 ^ 144 = 497323236409786642155382248146820840100456150797347717440463976893159497012533375533056 := by decide
  rw [e288] at hP
  refine zdiv_walk x c x.natAbs c.natAbs (dv x c) (dv x c * c) (-(dv x c * c)) (rs x c) w (Lib.hid hn) (Lib.hid (by rw [e144]; exact hx)) (Lib.hid rfl) (Lib.hid rfl) (Lib.hid (by rw [eB]; omega)) (Lib.hid hsame) (Lib.hid hd0) (Lib.hid hd1) (Lib.hid (by rw [eB]; omega)) (Lib.hid (decide_eq_false (by omega)))
    (Lib.hid fun w => none_z c false w (by rw [eB1]; omega) (decide_eq_false hc)) (Lib.hid fun w => mul_z _ _ w (by rw [e9, e144]; omega) (by rw [e9, e144]; omega)) (Lib.hid fun w => neg_z _ w (by rw [eB1]; omega)) (Lib.hid fun w => ?_)
  have := add_z x (-(dv x c * c)) w (by rw [eB1]; omega)
  rw [show x + -(dv x c * c) = rs x c from rfl] at this
  exact this
set_option maxRecDepth 100000 in
set_option maxHeartbeats 4000000 in
theorem zdiv_zero (x : Int) (w : World) (cE : Hid (Ans 54 #[.agg (bv 0)] (.bool true))) :
    Calls Try.prog 43 #[.agg (bv x), .agg (bv 0)] w fun e w' => e = .returned (.tuple #[.agg (bv 0), .agg (bv 0), .int .i64 21]) ∧ Below w.heap.size w w' := by
  have h4 := block4 w (.cells (bv x) 79) (.cells (bv 0) 79) (.cells (bv 0) 79) (.cells (bv 0) 79)
  have HC : Hid (BigAt (w.heap.size + 1) 0 ((((w.alloc (.cells (bv x) 79)).alloc (.cells (bv 0) 79)).alloc (.cells (bv 0) 79)).alloc (.cells (bv 0) 79))) := Lib.hid h4.1.2
  have H1 : Hid (BigAt (w.heap.size + 1 + 1) 0 ((((w.alloc (.cells (bv x) 79)).alloc (.cells (bv 0) 79)).alloc (.cells (bv 0) 79)).alloc (.cells (bv 0) 79))) := Lib.hid h4.2.1
  have H2 : Hid (BigAt (w.heap.size + 1 + 1 + 1) 0 ((((w.alloc (.cells (bv x) 79)).alloc (.cells (bv 0) 79)).alloc (.cells (bv 0) 79)).alloc (.cells (bv 0) 79))) := Lib.hid h4.2.2
  have HB : Hid (Below w.heap.size w ((((w.alloc (.cells (bv x) 79)).alloc (.cells (bv 0) 79)).alloc (.cells (bv 0) 79)).alloc (.cells (bv 0) 79))) := Lib.hid (by go_grown)
  clear h4
  go_enter Try.func43, Try.ntmps43
  go_wp2_with (refine wpList_load_row rfl 79 (.tmp 3) rfl (w.heap.size + 1) rfl _ _ _ _ HC.out Try.underlying79 rfl (bv_info _) ?_)
  refine (cE.out _).mono ?_
  rintro e w1 ⟨rfl, hb1⟩
  have HBn := Lib.hid (bnext HB.out hb1)
  have R1 := Lib.hid (BigAt.below hb1 H1.out)
  have R2 := Lib.hid (BigAt.below hb1 H2.out)
  have R3 := Lib.hid (BigAt.other (k := w.heap.size + 1 + 1) R2.out (by omega) (bv 0))
  clear hb1 HC H1 H2 HB
  go_wp2_with (first | (refine wpList_build_to rfl 79 #[] rfl (bv 0) (by kernel_rfl) ?_) | (refine wpList_store_big rfl 79 (.tmp 4) (.tmp 15) rfl (w.heap.size + 1 + 1) _ _ (bv 0) rfl rfl R1.out (bv_info _) (bv_same _ _) (bv_one _) ?_) | (refine wpList_store_big rfl 79 (.tmp 5) (.tmp 16) rfl (w.heap.size + 1 + 1 + 1) _ _ (bv 0) rfl rfl R3.out (bv_info _) (bv_same _ _) (bv_one _) ?_))
  (try simp only [Exit.inBlock, Exit.then])
  refine bodyPost_ret (v := .tuple #[.agg (bv 0), .agg (bv 0), .int .i64 21]) (results_rows2 rfl _ _ (w.heap.size + 1 + 1) (w.heap.size + 1 + 1 + 1) _ _ _ _ _ _ _ _ _ rfl (BigAt.other (k := w.heap.size + 1 + 1 + 1) (BigAt.row R1.out 0) (by omega) (bv 0)) Try.underlying79 rfl (bv_info _) rfl (BigAt.row R3.out 0) Try.underlying79 rfl (bv_info _) rfl) rfl ?_
  exact ⟨rfl, Below.row (Below.row HBn.out (by omega) _) (by omega) _⟩
theorem zdiv_0 (x : Int) (w : World) : Calls Try.prog 43 #[.agg (bv x), .agg (bv 0)] w fun e w' => e = .returned (.tuple #[.agg (bv 0), .agg (bv 0), .int .i64 21]) ∧ Below w.heap.size w w' :=
  zdiv_zero x w (Lib.hid fun w => none_z 0 true w (by decide) (by decide))
end Go.Proofs.Ytgkglkoipocgaaa.Fx
