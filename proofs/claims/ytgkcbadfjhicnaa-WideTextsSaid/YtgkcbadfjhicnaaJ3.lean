/- The document's Parse, walked. -/
import Derived.Test.YtgkcbadfjhicnaaProg
import Derived.Test.YtgkcbadfjhicnaaJ2
set_option linter.unusedVariables false
set_option linter.unusedSimpArgs false
namespace Go.Proofs.Ytgkcbadfjhicnaa.Fx
open Go Go.RowKit Wm
theorem ztext_z (x : Int) (w : World) (hx : x.natAbs < 10 ^ 40) : Calls Try.prog 32 #[.agg (bv x)] w fun e w' => e = .returned (.string (bstr (wtx x))) ∧ Below w.heap.size w w' := by
  have h := ztext_walk x x.natAbs (decide (x < 0)) w (Lib.hid rfl) (Lib.hid rfl) (Lib.hid hx) (Lib.hid fun w => of_z 10 w (by omega) (by omega))
  have e : (if decide (x < 0) = true then [45] else []) ++ decF 40 x.natAbs = wtx x := by
    unfold wtx
    by_cases h : x < 0
    · rw [if_pos h, if_pos (decide_eq_true h)]
    · rw [if_neg h, if_neg (by rw [decide_eq_false h]; decide)]
  rw [e] at h
  exact h
structure PaI (X : Nat) (w W : World) : Prop where
  br : WideAt w.heap.size 0 0 W
  bx : BigAt (w.heap.size + 1) (X : Int) W
  below : Below w.heap.size w W
theorem PaI.up {X : Nat} {w W V : World} (i : PaI X w W) (hb : Below W.heap.size W V) : PaI X w V := ⟨WideAt.below hb i.br, BigAt.below hb i.bx, bnext i.below hb⟩
theorem PaI.put {X : Nat} {w W : World} (i : PaI X w W) (Y : Nat) : PaI Y w (W.setRow (w.heap.size + 1) (bv (Y : Int))) :=
  ⟨by unfold WideAt; rw [setRow_other _ _ _ _ (by omega)]; exact i.br, i.bx.row _, Below.row i.below (by omega) _⟩
def PaRel (l : List Nat) (at0 : Nat) (w : World) (g : Nat) (s6 : Value) (W : World) : Prop :=
  ∃ k X : Nat, g = l.length - k ∧ s6 = .int .i64 (k : Int) ∧ at0 ≤ k ∧ k ≤ l.length ∧ (∀ c ∈ (l.take k).drop at0, 48 ≤ c ∧ c ≤ 57) ∧ X = dgv ((l.take k).drop at0) ∧ PaI X w W
theorem take_drop_snoc (l : List Nat) (a k c : Nat) (hk : k < l.length) (ha : a ≤ k) (hc : l.getD k 0 = c) : (l.take (k + 1)).drop a = (l.take k).drop a ++ [c] := by
  rw [List.take_succ_eq_append_getElem hk, List.drop_append_of_le_length (by simp; omega)]
  congr 1
  rw [← hc]
  simp [List.getD_eq_getElem?_getD, hk]
structure PaZ (Z : Int) (w W : World) : Prop where
  br : WideAt w.heap.size 0 0 W
  bx : BigAt (w.heap.size + 1) Z W
  below : Below w.heap.size w W
theorem PaZ.up {Z : Int} {w W V : World} (i : PaZ Z w W) (hb : Below W.heap.size W V) : PaZ Z w V := ⟨WideAt.below hb i.br, BigAt.below hb i.bx, bnext i.below hb⟩
set_option maxRecDepth 100000 in
set_option maxHeartbeats 4000000 in
theorem parse_w0 (s : ByteArray) (l : List Nat) (w : World) (hs : Hid (sbytes s = l)) (hat : Hid (atOf l = 0)) (hl : Hid (l.length = s.size)) (hl60 : l.length ≤ 60) (hn0 : Hid (l.length = 0)) (cO : Hid (Ans 12 #[.int .i64 10] (.agg (bv 10)))) :
    Calls Try.prog 29 #[.string s] w (RetP s w) := by
  have hix : Hid (∀ (k : Nat) (i : Int), i = (k : Int) → k < l.length → ∀ W, (Instr.index 9 (.string s) (.int .i64 i)).run Try.prog W = .ok (.int .u8 ((l.getD k 0 : Nat) : Int)) W) := Lib.hid (fun k i hi hk W => by rw [← hs.out]; exact idx_str s k i hi (by rw [← hl.out]; exact hk) W)
  have hby : Hid (∀ c ∈ l, c < 256) := Lib.hid (by rw [← hs.out]; unfold sbytes; intro c hc; rw [List.mem_map] at hc; obtain ⟨b, _, rfl⟩ := hc; exact b.toNat_lt)
  obtain ⟨n, hn⟩ : ∃ n, l.length = n := ⟨_, rfl⟩
  have hsz : (s.size : Int) = (n : Int) := by rw [← hl.out, hn]
  have HNN := Lib.hid hn
  have n60 : (n : Int) ≤ 60 := by omega
  have n60' : (s.size : Int) ≤ 60 := by omega
  have nn : (0 : Int) ≤ (n : Int) := by omega
  have RR0 : Hid (WideAt w.heap.size 0 0 (w.alloc (.cells #[.int .i64 0, .int .u64 0] 24))) := Lib.hid (heap_alloc_new _ _)
  have HB0 : Hid (Below w.heap.size w (w.alloc (.cells #[.int .i64 0, .int .u64 0] 24))) := Lib.hid (by go_grown)
  have HI0 : Hid (PaI 0 w ((w.alloc (.cells #[.int .i64 0, .int .u64 0] 24)).alloc (.cells (bv 0) 27))) := Lib.hid ⟨step_row (heap_alloc_new _ _), heap_alloc2_new _ _ _, by go_grown⟩
  have t0 : ¬ (0 : Int) < (n : Int) := by have := hn0.out; omega
  have t0' : ¬ (0 : Int) < (s.size : Int) := by omega
  have HI1 : True := trivial
  go_enter Try.func29, Try.ntmps29
  by_cases hlong : (n : Int) > 39
  · exfalso
    have := hn0.out
    omega
  · have t39 : ¬ (39 : Int) < (n : Int) := by omega
    clear hlong
    go_wp2_with fail
    clear HI1
    go_loopg [6] n (PaRel l 0 w)
    case atStart => exact ⟨0, 0, by rw [HNN.out]; rfl, rfl, by omega, by rw [HNN.out]; omega, by intro c hc; simp at hc, by simp [dgv], HI0.out⟩
    case round =>
      clear HI0 RR0 HB0
      obtain ⟨k, X, hg, rfl, hk0, hkl, hd, hX, I⟩ := hrel
      rw [HNN.out] at hg hkl
      have hXl : X < 10 ^ (k) := by
        have := dgv_lt _ fun c hc => (hd c hc).2
        rw [← hX] at this
        rw [List.length_drop, List.length_take, Nat.min_eq_left (by rw [HNN.out]; exact hkl)] at this
        exact this
      have h39 : (10 : Nat) ^ (k) ≤ 10 ^ 39 := Nat.pow_le_pow_right (by omega) (by omega)
      have e39 : (10 : Nat) ^ 39 = 1000000000000000000000000000000000000000 := by decide
      have HXL : Hid (X < 1000000000000000000000000000000000000000) := Lib.hid (by omega)
      have HD := Lib.hid hd
      have HX := Lib.hid hX
      have HI := Lib.hid I
      subst hg
      clear hd hX I hXl h39 e39
      have k0 : (0 : Int) ≤ (k : Int) := by omega
      by_cases hk : k < n
      · exfalso
        have := hn0.out
        omega
      · obtain rfl : k = n := by omega
        have k1 : ¬ ((k : Int) < (k : Int)) := by omega
        have k2 : ¬ ((k : Int) < (s.size : Int)) := by omega
        have hX2 : X = dgv (l.drop 0) := by
          have := HX.out
          rw [List.take_of_length_le (by rw [HNN.out]; omega)] at this
          exact this
        obtain ⟨Zz, hZz⟩ : ∃ Zz : Int, Zz = (X : Int) := ⟨_, rfl⟩
        have hzo : Hid (zOf (sbytes s) = Zz) := Lib.hid (by unfold zOf; rw [hs.out, hat.out, hZz, hX2]; rw [if_neg (by omega)])
        have hzb : Zz.natAbs < 1000000000000000000000000000000000000000 := by have := HXL.out; omega
        have HZB := Lib.hid hzb
        have HT : Hid (Ans 32 #[.agg (bv Zz)] (.string (bstr (wtx Zz)))) := Lib.hid fun w => ztext_z Zz w (by have := HZB.out; have e40 : (10 : Nat) ^ 40 = 10000000000000000000000000000000000000000 := (by decide); omega)
        obtain ⟨ts, hts⟩ : ∃ ts, bstr (wtx Zz) = ts := ⟨_, rfl⟩
        rw [hts] at HT
        have HTS := Lib.hid hts
        clear hX2 hzb hts
        have I1 : Hid (PaZ Zz w wr) := Lib.hid (by rw [hZz]; exact ⟨HI.out.br, HI.out.bx, HI.out.below⟩)
        clear hZz
        go_wp2_with (refine wpList_load_row rfl 27 (.tmp 5) rfl (w.heap.size + 1) rfl _ _ _ _ I1.out.bx Try.underlying27 rfl (bv_info _) ?_)
        refine (HT.out _).mono ?_
        rintro e w2 ⟨rfl, hb2⟩
        have I2 := I1.out.up hb2
        have HI2 := Lib.hid I2
        clear I2 hb2 I1
        by_cases heq : ts = s
        · have hc : (ts.toList == s.toList) = true := by rw [heq]; simp
          have HEQ := Lib.hid heq
          clear heq
          go_wp2_with (refine wpList_load_row rfl 27 (.tmp 5) rfl (w.heap.size + 1) rfl _ _ _ _ HI2.out.bx Try.underlying27 rfl (bv_info _) ?_)
          have e18 : (65536 : Nat) ^ 18 = 497323236409786642155382248146820840100456150797347717440463976893159497012533375533056 := by decide
          refine (cut_z Zz _ (by have := HZB.out; rw [e18]; omega)).mono ?_
          rintro e w3 ⟨h3, l3, rfl, ha3, hb3⟩
          have I3 := HI2.out.up hb3
          have HI3 := Lib.hid I3
          have c0 := I3.br.c0
          have c1 := I3.br.c1
          have f0 := I3.br.fr 0
          have f1 := I3.br.fr 1
          have HA3 := Lib.hid ha3
          clear I3 hb3 HI2 e18 ha3
          go_wp2_with fail
          (try simp only [Exit.inBlock, Exit.then])
          refine bodyPost_ret (v := .tuple #[.agg #[.int .i64 h3, .int .u64 l3], .int .i64 (errE Zz)]) (results_row_tmp rfl _ _ (w.heap.size) _ _ _ _ _ rfl (WideAt.put2 (h := h3) (l := l3) HI3.out.br) Try.underlying24 rfl (by kernel_rfl) rfl) rfl ?_
          have key : pe s = errE Zz ∧ pv s = valE Zz := by
            by_cases hin : In Zz
            · have := pv_text hin
              rw [HTS.out, HEQ.out] at this
              exact ⟨by rw [this.2]; exact (if_pos hin).symm, by rw [this.1]; exact (if_pos hin).symm⟩
            · have hno : ¬ pok s := fun h => hin (by have := (pok_reads h).2.2; rw [hzo.out] at this; rw [this]; exact in_w128 _)
              have := pe_no hno
              exact ⟨by rw [this.1]; exact (if_neg hin).symm, by rw [this.2]; exact (if_neg hin).symm⟩
          exact ⟨h3, l3, by rw [key.1], by rw [key.2]; exact HA3.out, Below.put2 HI3.out.below (Nat.le_refl _) _ _⟩
        · have hc := str_ne heq
          have hno : ¬ pok s := fun h => heq (by have h2 := (pok_reads h).2.2; rw [hzo.out] at h2; rw [← HTS.out, h2]; exact h)
          have HNO := Lib.hid hno
          have c0 := HI2.out.br.c0
          have c1 := HI2.out.br.c1
          have f0 := HI2.out.br.fr 0
          have f1 := HI2.out.br.fr 1
          clear hno heq
          go_wp2_with fail
          (try simp only [Exit.inBlock, Exit.then])
          refine bodyPost_ret (v := .tuple #[.agg #[.int .i64 0, .int .u64 0], .int .i64 20]) (results_row_tmp rfl _ _ (w.heap.size) _ _ _ _ _ rfl (WideAt.put2 (h := 0) (l := 0) HI2.out.br) Try.underlying24 rfl (by kernel_rfl) rfl) rfl ?_
          exact ⟨0, 0, by rw [(pe_no HNO.out).1]; rfl, by rw [(pe_no HNO.out).2]; exact At.zero, Below.put2 HI2.out.below (Nat.le_refl _) _ _⟩
set_option maxRecDepth 100000 in
set_option maxHeartbeats 4000000 in
theorem parse_w1 (s : ByteArray) (l : List Nat) (w : World) (hs : Hid (sbytes s = l)) (hat : Hid (atOf l = 0)) (hl : Hid (l.length = s.size)) (hl60 : l.length ≤ 60) (hn0 : Hid (0 < l.length)) (h45 : Hid (l.getD 0 0 ≠ 45)) (cO : Hid (Ans 12 #[.int .i64 10] (.agg (bv 10)))) :
    Calls Try.prog 29 #[.string s] w (RetP s w) := by
  have hix : Hid (∀ (k : Nat) (i : Int), i = (k : Int) → k < l.length → ∀ W, (Instr.index 9 (.string s) (.int .i64 i)).run Try.prog W = .ok (.int .u8 ((l.getD k 0 : Nat) : Int)) W) := Lib.hid (fun k i hi hk W => by rw [← hs.out]; exact idx_str s k i hi (by rw [← hl.out]; exact hk) W)
  have hby : Hid (∀ c ∈ l, c < 256) := Lib.hid (by rw [← hs.out]; unfold sbytes; intro c hc; rw [List.mem_map] at hc; obtain ⟨b, _, rfl⟩ := hc; exact b.toNat_lt)
  obtain ⟨n, hn⟩ : ∃ n, l.length = n := ⟨_, rfl⟩
  have hsz : (s.size : Int) = (n : Int) := by rw [← hl.out, hn]
  have HNN := Lib.hid hn
  have n60 : (n : Int) ≤ 60 := by omega
  have n60' : (s.size : Int) ≤ 60 := by omega
  have nn : (0 : Int) ≤ (n : Int) := by omega
  have RR0 : Hid (WideAt w.heap.size 0 0 (w.alloc (.cells #[.int .i64 0, .int .u64 0] 24))) := Lib.hid (heap_alloc_new _ _)
  have HB0 : Hid (Below w.heap.size w (w.alloc (.cells #[.int .i64 0, .int .u64 0] 24))) := Lib.hid (by go_grown)
  have HI0 : Hid (PaI 0 w ((w.alloc (.cells #[.int .i64 0, .int .u64 0] 24)).alloc (.cells (bv 0) 27))) := Lib.hid ⟨step_row (heap_alloc_new _ _), heap_alloc2_new _ _ _, by go_grown⟩
  have hidx0 := fun W => hix.out 0 0 rfl hn0.out W
  obtain ⟨c0', hc0⟩ : ∃ c, l.getD 0 0 = c := ⟨_, rfl⟩
  rw [hc0] at hidx0
  have t0 : (0 : Int) < (n : Int) := by have := hn0.out; omega
  have t0' : (0 : Int) < (s.size : Int) := by omega
  have t45 : ((c0' : Int) == 45) = false := by have := h45.out; rw [hc0] at this; simp; omega
  have HI1 : True := trivial
  clear hc0
  go_enter Try.func29, Try.ntmps29
  by_cases hlong : (n : Int) > 39
  · have hno : ¬ pok s := fun h => by have := (pok_reads h).1; rw [hs.out, hat.out, HNN.out] at this; omega
    have HNO := Lib.hid hno
    have c0 := RR0.out.c0
    have c1 := RR0.out.c1
    have f0 := RR0.out.fr 0
    have f1 := RR0.out.fr 1
    have t39 : (39 : Int) < (n : Int) := by omega
    clear hno
    go_wp2_with (rw [hidx0])
    (try simp only [Exit.inBlock, Exit.then])
    refine bodyPost_ret (v := .tuple #[.agg #[.int .i64 0, .int .u64 0], .int .i64 20]) (results_row_tmp rfl _ _ (w.heap.size) _ _ _ _ _ rfl RR0.out Try.underlying24 rfl (by kernel_rfl) rfl) rfl ?_
    exact ⟨0, 0, by rw [(pe_no HNO.out).1]; rfl, by rw [(pe_no HNO.out).2]; exact At.zero, HB0.out⟩
  · have t39 : ¬ (39 : Int) < (n : Int) := by omega
    clear hlong
    go_wp2_with (rw [hidx0])
    clear HI1
    go_loopg [6] n (PaRel l 0 w)
    case atStart => exact ⟨0, 0, by rw [HNN.out]; rfl, rfl, by omega, by rw [HNN.out]; omega, by intro c hc; simp at hc, by simp [dgv], HI0.out⟩
    case round =>
      clear HI0 RR0 HB0
      obtain ⟨k, X, hg, rfl, hk0, hkl, hd, hX, I⟩ := hrel
      rw [HNN.out] at hg hkl
      have hXl : X < 10 ^ (k) := by
        have := dgv_lt _ fun c hc => (hd c hc).2
        rw [← hX] at this
        rw [List.length_drop, List.length_take, Nat.min_eq_left (by rw [HNN.out]; exact hkl)] at this
        exact this
      have h39 : (10 : Nat) ^ (k) ≤ 10 ^ 39 := Nat.pow_le_pow_right (by omega) (by omega)
      have e39 : (10 : Nat) ^ 39 = 1000000000000000000000000000000000000000 := by decide
      have HXL : Hid (X < 1000000000000000000000000000000000000000) := Lib.hid (by omega)
      have HD := Lib.hid hd
      have HX := Lib.hid hX
      have HI := Lib.hid I
      subst hg
      clear hd hX I hXl h39 e39
      have k0 : (0 : Int) ≤ (k : Int) := by omega
      by_cases hk : k < n
      · have k1 : (k : Int) < (n : Int) := by omega
        have k2 : (k : Int) < (s.size : Int) := by omega
        obtain ⟨c, hc⟩ : ∃ c, l.getD k 0 = c := ⟨_, rfl⟩
        have hck : k < l.length := by rw [HNN.out]; exact hk
        have hcl : c ∈ l := by
          rw [← hc, List.getD_eq_getElem?_getD, List.getElem?_eq_getElem hck]
          exact List.getElem_mem hck
        have hc256 := hby.out c hcl
        have hidx := fun W => hix.out k (k : Int) rfl hck W
        rw [hc] at hidx
        have HC := Lib.hid hc
        have HCL := Lib.hid hcl
        have HSN : Hid ((l.take (k + 1)).drop 0 = (l.take k).drop 0 ++ [c]) := Lib.hid (take_drop_snoc l 0 k c hck hk0 hc)
        have HMEM : Hid (c ∈ l.drop 0) := Lib.hid (by
          rw [← hc, List.getD_eq_getElem?_getD, List.getElem?_eq_getElem hck]
          show l[k] ∈ _
          rw [List.mem_drop_iff_getElem]
          exact ⟨k, by omega, by congr 1; omega⟩)
        clear hc hcl
        by_cases hdig : 48 ≤ c ∧ c ≤ 57
        · have d1 : ¬ (c : Int) < 48 := by omega
          have d2 : ¬ (57 : Int) < (c : Int) := by omega
          obtain ⟨d, hdd⟩ : ∃ d, c - 48 = d := ⟨_, rfl⟩
          have HDD := Lib.hid hdd
          have HDIG := Lib.hid hdig
          have hd9 : d ≤ 9 := by omega
          obtain ⟨Y, hY⟩ : ∃ Y, X * 10 = Y := ⟨_, rfl⟩
          obtain ⟨Z, hZ⟩ : ∃ Z, Y + d = Z := ⟨_, rfl⟩
          have HYZ : Hid (Z = X * 10 + (c - 48)) := Lib.hid (by omega)
          have cM : Hid (Ans 11 #[.agg (bv (X : Int)), .agg (bv 10)] (.agg (bv (Y : Int)))) := Lib.hid fun w => by
            have h9 : (65536 : Nat) ^ 9 = 22300745198530623141535718272648361505980416 := by decide
            have := mul_z (X : Int) 10 w (by have := HXL.out; rw [h9]; omega) (by decide)
            rw [show (X : Int) * 10 = (Y : Int) by omega] at this
            exact this
          have cD : Hid (Ans 12 #[.int .i64 (d : Int)] (.agg (bv (d : Int)))) := Lib.hid fun w => of_z (d : Int) w (by omega) (by omega)
          have cA : Hid (Ans 15 #[.agg (bv (Y : Int)), .agg (bv (d : Int))] (.agg (bv (Z : Int)))) := Lib.hid fun w => by
            have eB : BB = 2135987035920910082395021706169552114602704522356652769947041607822219725780640550022962086936576 := by decide
            have := add_z (Y : Int) (d : Int) w (by have := HXL.out; rw [eB]; omega)
            rw [show (Y : Int) + (d : Int) = (Z : Int) by omega] at this
            exact this
          have E1 : IntKind.i64.wrap (c : Int) = (c : Int) := by rw [IntKind.wrap_i64]; omega
          have E2 : IntKind.i64.wrap ((c : Int) - 48) = (d : Int) := by rw [IntKind.wrap_i64]; omega
          clear hdd hY hZ hdig
          go_wp2_with (rw [hidx])
          rename_i K12 hK12
          have HT : ∀ (W : World), PaI Z w W → K12 { tmps := #[.string s, undef, .pointer (some ⟨w.heap.size, 0, none⟩), u3, .int .i64 0, .pointer (some ⟨w.heap.size + 1, 0, none⟩), .int .i64 (k : Int), .string s, .int .i64 (n : Int), .bool true, .bool true, .string s, .int .u8 (c0' : Int), .bool false, .bool false, .string s, .int .i64 (n : Int), .int .i64 0, .int .i64 (n : Int), .bool false, undef, .int .i64 0, .int .i64 (k : Int), .string s, .int .i64 (n : Int), .bool true, u26, u27, .string s, .int .i64 (k : Int), .int .u8 (c : Int), .bool false, .bool false, .string s, .int .i64 (k : Int), .int .u8 (c : Int), .bool false, .bool false, u38, .agg (bv (X : Int)), .agg (bv 10), .agg (bv (Y : Int)), .string s, .int .i64 (k : Int), .int .u8 (c : Int), .int .i64 (c : Int), .int .i64 (d : Int), .agg (bv (d : Int)), .agg (bv (Z : Int)), undef, undef, undef, undef, undef, undef, undef, undef, undef, undef, undef, undef, undef], defers := [] } W := by
            intro W hW
            refine hK12 _ _ ?_
            have HW := Lib.hid hW
            clear hW hK12
            go_wp2_with fail
            go_roundg (n - (k + 1))
            case measure => omega
            case rel =>
              refine ⟨k + 1, Z, by rw [HNN.out], by go_num, by omega, by rw [HNN.out]; omega, ?_, ?_, HW.out⟩
              · rw [HSN.out]
                intro x hx
                rw [List.mem_append, List.mem_singleton] at hx
                rcases hx with hx | rfl
                · exact HD.out x hx
                · exact HDIG.out
              · rw [HSN.out, dgv_snoc, ← HX.out]
                exact HYZ.out
          refine (wpIn_wide (n := 5)).1 (held_region (F := Fence.wide) (S := fun X => True) (by kernel_rfl) trivial (fun hHeld => ?_))
          have hs0 : PaI X w wr.drew := PaI.up HI.out (bdrew0 _ _ 1)
          refine held_take (fun _ => trivial) (by kernel_rfl) (i := 3) (oi := _) (v := ?_) rfl (by kernel_rfl) (by kernel_rfl) (by kernel_rfl) (fun _ _ _ h => h) (by assumption) (Or.inl ⟨by kernel_rfl, ?_⟩) ?_
          rotate_left
          · intro wz hSw; (first | (go_simp; done) | (go_simp; with_reducible rfl))
          (try simp only [Act.put, List.getElem_toArray, List.getElem_cons_zero, List.getElem_cons_succ, List.setIfInBounds_toArray, List.set_cons_zero, List.set_cons_succ])
          refine held_take (fun _ => trivial) (by kernel_rfl) (i := 4) (oi := _) (v := ?_) rfl (by kernel_rfl) (by kernel_rfl) (by kernel_rfl) (fun _ _ _ h => h) (by assumption) (Or.inl ⟨by kernel_rfl, ?_⟩) ?_
          rotate_left
          · intro wz hSw; (first | (go_simp; done) | (go_simp; with_reducible rfl))
          (try simp only [Act.put, List.getElem_toArray, List.getElem_cons_zero, List.getElem_cons_succ, List.setIfInBounds_toArray, List.set_cons_zero, List.set_cons_succ])
          refine held_take (fun _ => trivial) (by kernel_rfl) (i := 5) (oi := _) (v := .int .u8 (c : Int)) rfl (by kernel_rfl) (by kernel_rfl) (by kernel_rfl) (fun _ _ _ h => h) (by assumption) (Or.inl ⟨by kernel_rfl, ?_⟩) ?_
          · intro wz hSw; exact exec_index 9 (.tmp 42) (.tmp 43) (by kernel_rfl) _ _ _ (by kernel_rfl) (by kernel_rfl) (hidx wz)
          (try simp only [Act.put, List.getElem_toArray, List.getElem_cons_zero, List.getElem_cons_succ, List.setIfInBounds_toArray, List.set_cons_zero, List.set_cons_succ])
          refine held_take (fun _ => trivial) (by kernel_rfl) (i := 6) (oi := _) (v := ?_) rfl (by kernel_rfl) (by kernel_rfl) (by kernel_rfl) (fun _ _ _ h => h) (by assumption) (Or.inl ⟨by kernel_rfl, ?_⟩) ?_
          rotate_left
          · intro wz hSw; (first | (go_simp; done) | (go_simp; with_reducible rfl))
          (try simp only [Act.put, List.getElem_toArray, List.getElem_cons_zero, List.getElem_cons_succ, List.setIfInBounds_toArray, List.set_cons_zero, List.set_cons_succ])
          refine held_take (fun _ => trivial) (by kernel_rfl) (i := 7) (oi := _) (v := ?_) rfl (by kernel_rfl) (by kernel_rfl) (by kernel_rfl) (fun _ _ _ h => h) (by assumption) (Or.inl ⟨by kernel_rfl, ?_⟩) ?_
          rotate_left
          · intro wz hSw; (first | (go_simp; done) | (go_simp; with_reducible rfl))
          (try simp only [Act.put, List.getElem_toArray, List.getElem_cons_zero, List.getElem_cons_succ, List.setIfInBounds_toArray, List.set_cons_zero, List.set_cons_succ])
          refine held_step2 (fun _ => trivial) (i := 0) (j := 1) (o := _) (o2 := _) (by kernel_rfl) rfl rfl (fun K hK => ?_) (fun K hK => ?_)
          · rw [if_pos (by kernel_rfl)]
            refine wpIn_load_row (fun _ => trivial) 27 (.tmp 5) (by kernel_rfl) (w.heap.size + 1) (by kernel_rfl) _ (bv (X : Int)) _ _ hs0.bx Try.underlying27 (by kernel_rfl) (bv_info _) ?_
            refine hK.out _ _ trivial (fun hHeld => ?_)
            clear hK K
            (try simp only [Act.put, List.getElem_toArray, List.getElem_cons_zero, List.getElem_cons_succ, List.setIfInBounds_toArray, List.set_cons_zero, List.set_cons_succ])
            refine held_step (fun _ => trivial) (i := 1) (o := _) (by kernel_rfl) rfl (fun K hK => ?_)
            go_simp
            refine ⟨trivial, callsIn_wide.2 ((cO.out _).mono ?_)⟩
            rintro e y1 ⟨rfl, hc1⟩
            dsimp only
            have hs1 := PaI.up hs0 hc1
            refine hK.out _ _ (trivial) (fun hHeld => ?_)
            clear hK K
            (try simp only [Act.put, List.getElem_toArray, List.getElem_cons_zero, List.getElem_cons_succ, List.setIfInBounds_toArray, List.set_cons_zero, List.set_cons_succ])
            refine held_step (fun _ => trivial) (i := 2) (o := _) (by kernel_rfl) rfl (fun K hK => ?_)
            go_simp
            refine ⟨trivial, callsIn_wide.2 ((cM.out _).mono ?_)⟩
            rintro e y2 ⟨rfl, hc2⟩
            dsimp only
            have hs2 := PaI.up hs1 hc2
            refine hK.out _ _ (trivial) (fun hHeld => ?_)
            clear hK K
            (try simp only [Act.put, List.getElem_toArray, List.getElem_cons_zero, List.getElem_cons_succ, List.setIfInBounds_toArray, List.set_cons_zero, List.set_cons_succ])
            refine held_step (fun _ => trivial) (i := 8) (o := _) (by kernel_rfl) rfl (fun K hK => ?_)
            go_simp
            refine ⟨trivial, callsIn_wide.2 ((cD.out _).mono ?_)⟩
            rintro e y3 ⟨rfl, hc3⟩
            dsimp only
            have hs3 := PaI.up hs2 hc3
            refine hK.out _ _ (trivial) (fun hHeld => ?_)
            clear hK K
            (try simp only [Act.put, List.getElem_toArray, List.getElem_cons_zero, List.getElem_cons_succ, List.setIfInBounds_toArray, List.set_cons_zero, List.set_cons_succ])
            refine held_step (fun _ => trivial) (i := 9) (o := _) (by kernel_rfl) rfl (fun K hK => ?_)
            go_simp
            refine ⟨trivial, callsIn_wide.2 ((cA.out _).mono ?_)⟩
            rintro e y4 ⟨rfl, hc4⟩
            dsimp only
            have hs4 := PaI.up hs3 hc4
            refine hK.out _ _ (trivial) (fun hHeld => ?_)
            clear hK K
            (try simp only [Act.put, List.getElem_toArray, List.getElem_cons_zero, List.getElem_cons_succ, List.setIfInBounds_toArray, List.set_cons_zero, List.set_cons_succ])
            refine held_step (fun _ => trivial) (i := 10) (o := _) (by kernel_rfl) rfl (fun K hK => ?_)
            rw [if_pos (by kernel_rfl)]
            refine wpIn_store_row (fun _ => trivial) 27 (.tmp 5) (.tmp 48) (by kernel_rfl) (w.heap.size + 1) _ _ (bv (Z : Int)) (by kernel_rfl) (by kernel_rfl) hs4.bx (bv_info _) (bv_same _ _) (bv_one _) ?_
            refine hK.out _ _ trivial (fun hHeld => ?_)
            clear hK K
            (try simp only [Act.put, List.getElem_toArray, List.getElem_cons_zero, List.getElem_cons_succ, List.setIfInBounds_toArray, List.set_cons_zero, List.set_cons_succ])
            exact held_done (by kernel_rfl) (HT _ (PaI.put hs4 Z)) _
          · go_simp
            refine ⟨trivial, callsIn_wide.2 ((cO.out _).mono ?_)⟩
            rintro e y1 ⟨rfl, hc1⟩
            dsimp only
            have hs1 := PaI.up hs0 hc1
            refine hK.out _ _ (trivial) (fun hHeld => ?_)
            clear hK K
            (try simp only [Act.put, List.getElem_toArray, List.getElem_cons_zero, List.getElem_cons_succ, List.setIfInBounds_toArray, List.set_cons_zero, List.set_cons_succ])
            refine held_step (fun _ => trivial) (i := 0) (o := _) (by kernel_rfl) rfl (fun K hK => ?_)
            rw [if_pos (by kernel_rfl)]
            refine wpIn_load_row (fun _ => trivial) 27 (.tmp 5) (by kernel_rfl) (w.heap.size + 1) (by kernel_rfl) _ (bv (X : Int)) _ _ hs1.bx Try.underlying27 (by kernel_rfl) (bv_info _) ?_
            refine hK.out _ _ trivial (fun hHeld => ?_)
            clear hK K
            (try simp only [Act.put, List.getElem_toArray, List.getElem_cons_zero, List.getElem_cons_succ, List.setIfInBounds_toArray, List.set_cons_zero, List.set_cons_succ])
            refine held_step (fun _ => trivial) (i := 2) (o := _) (by kernel_rfl) rfl (fun K hK => ?_)
            go_simp
            refine ⟨trivial, callsIn_wide.2 ((cM.out _).mono ?_)⟩
            rintro e y2 ⟨rfl, hc2⟩
            dsimp only
            have hs2 := PaI.up hs1 hc2
            refine hK.out _ _ (trivial) (fun hHeld => ?_)
            clear hK K
            (try simp only [Act.put, List.getElem_toArray, List.getElem_cons_zero, List.getElem_cons_succ, List.setIfInBounds_toArray, List.set_cons_zero, List.set_cons_succ])
            refine held_step (fun _ => trivial) (i := 8) (o := _) (by kernel_rfl) rfl (fun K hK => ?_)
            go_simp
            refine ⟨trivial, callsIn_wide.2 ((cD.out _).mono ?_)⟩
            rintro e y3 ⟨rfl, hc3⟩
            dsimp only
            have hs3 := PaI.up hs2 hc3
            refine hK.out _ _ (trivial) (fun hHeld => ?_)
            clear hK K
            (try simp only [Act.put, List.getElem_toArray, List.getElem_cons_zero, List.getElem_cons_succ, List.setIfInBounds_toArray, List.set_cons_zero, List.set_cons_succ])
            refine held_step (fun _ => trivial) (i := 9) (o := _) (by kernel_rfl) rfl (fun K hK => ?_)
            go_simp
            refine ⟨trivial, callsIn_wide.2 ((cA.out _).mono ?_)⟩
            rintro e y4 ⟨rfl, hc4⟩
            dsimp only
            have hs4 := PaI.up hs3 hc4
            refine hK.out _ _ (trivial) (fun hHeld => ?_)
            clear hK K
            (try simp only [Act.put, List.getElem_toArray, List.getElem_cons_zero, List.getElem_cons_succ, List.setIfInBounds_toArray, List.set_cons_zero, List.set_cons_succ])
            refine held_step (fun _ => trivial) (i := 10) (o := _) (by kernel_rfl) rfl (fun K hK => ?_)
            rw [if_pos (by kernel_rfl)]
            refine wpIn_store_row (fun _ => trivial) 27 (.tmp 5) (.tmp 48) (by kernel_rfl) (w.heap.size + 1) _ _ (bv (Z : Int)) (by kernel_rfl) (by kernel_rfl) hs4.bx (bv_info _) (bv_same _ _) (bv_one _) ?_
            refine hK.out _ _ trivial (fun hHeld => ?_)
            clear hK K
            (try simp only [Act.put, List.getElem_toArray, List.getElem_cons_zero, List.getElem_cons_succ, List.setIfInBounds_toArray, List.set_cons_zero, List.set_cons_succ])
            exact held_done (by kernel_rfl) (HT _ (PaI.put hs4 Z)) _
        · have hno : ¬ pok s := fun h => hdig (by have := (pok_reads h).2.1; unfold DigAll at this; rw [hs.out, hat.out] at this; exact this c HMEM.out)
          have HNO := Lib.hid hno
          have c0 := HI.out.br.c0
          have c1 := HI.out.br.c1
          have f0 := HI.out.br.fr 0
          have f1 := HI.out.br.fr 1
          clear hno
          by_cases hlow : c < 48
          · have d1 : (c : Int) < 48 := by omega
            clear hdig
            go_wp2_with (rw [hidx])
            (try simp only [Exit.inBlock, Exit.then])
            refine bodyPost_ret (v := .tuple #[.agg #[.int .i64 0, .int .u64 0], .int .i64 20]) (results_row_tmp rfl _ _ (w.heap.size) _ _ _ _ _ rfl (WideAt.put2 (h := 0) (l := 0) HI.out.br) Try.underlying24 rfl (by kernel_rfl) rfl) rfl ?_
            exact ⟨0, 0, by rw [(pe_no HNO.out).1]; rfl, by rw [(pe_no HNO.out).2]; exact At.zero, Below.put2 HI.out.below (Nat.le_refl _) _ _⟩
          · have d1 : ¬ (c : Int) < 48 := by omega
            have d2 : (57 : Int) < (c : Int) := by omega
            clear hdig
            go_wp2_with (rw [hidx])
            (try simp only [Exit.inBlock, Exit.then])
            refine bodyPost_ret (v := .tuple #[.agg #[.int .i64 0, .int .u64 0], .int .i64 20]) (results_row_tmp rfl _ _ (w.heap.size) _ _ _ _ _ rfl (WideAt.put2 (h := 0) (l := 0) HI.out.br) Try.underlying24 rfl (by kernel_rfl) rfl) rfl ?_
            exact ⟨0, 0, by rw [(pe_no HNO.out).1]; rfl, by rw [(pe_no HNO.out).2]; exact At.zero, Below.put2 HI.out.below (Nat.le_refl _) _ _⟩
      · obtain rfl : k = n := by omega
        have k1 : ¬ ((k : Int) < (k : Int)) := by omega
        have k2 : ¬ ((k : Int) < (s.size : Int)) := by omega
        have hX2 : X = dgv (l.drop 0) := by
          have := HX.out
          rw [List.take_of_length_le (by rw [HNN.out]; omega)] at this
          exact this
        obtain ⟨Zz, hZz⟩ : ∃ Zz : Int, Zz = (X : Int) := ⟨_, rfl⟩
        have hzo : Hid (zOf (sbytes s) = Zz) := Lib.hid (by unfold zOf; rw [hs.out, hat.out, hZz, hX2]; rw [if_neg (by omega)])
        have hzb : Zz.natAbs < 1000000000000000000000000000000000000000 := by have := HXL.out; omega
        have HZB := Lib.hid hzb
        have HT : Hid (Ans 32 #[.agg (bv Zz)] (.string (bstr (wtx Zz)))) := Lib.hid fun w => ztext_z Zz w (by have := HZB.out; have e40 : (10 : Nat) ^ 40 = 10000000000000000000000000000000000000000 := (by decide); omega)
        obtain ⟨ts, hts⟩ : ∃ ts, bstr (wtx Zz) = ts := ⟨_, rfl⟩
        rw [hts] at HT
        have HTS := Lib.hid hts
        clear hX2 hzb hts
        have I1 : Hid (PaZ Zz w wr) := Lib.hid (by rw [hZz]; exact ⟨HI.out.br, HI.out.bx, HI.out.below⟩)
        clear hZz
        go_wp2_with (refine wpList_load_row rfl 27 (.tmp 5) rfl (w.heap.size + 1) rfl _ _ _ _ I1.out.bx Try.underlying27 rfl (bv_info _) ?_)
        refine (HT.out _).mono ?_
        rintro e w2 ⟨rfl, hb2⟩
        have I2 := I1.out.up hb2
        have HI2 := Lib.hid I2
        clear I2 hb2 I1
        by_cases heq : ts = s
        · have hc : (ts.toList == s.toList) = true := by rw [heq]; simp
          have HEQ := Lib.hid heq
          clear heq
          go_wp2_with (refine wpList_load_row rfl 27 (.tmp 5) rfl (w.heap.size + 1) rfl _ _ _ _ HI2.out.bx Try.underlying27 rfl (bv_info _) ?_)
          have e18 : (65536 : Nat) ^ 18 = 497323236409786642155382248146820840100456150797347717440463976893159497012533375533056 := by decide
          refine (cut_z Zz _ (by have := HZB.out; rw [e18]; omega)).mono ?_
          rintro e w3 ⟨h3, l3, rfl, ha3, hb3⟩
          have I3 := HI2.out.up hb3
          have HI3 := Lib.hid I3
          have c0 := I3.br.c0
          have c1 := I3.br.c1
          have f0 := I3.br.fr 0
          have f1 := I3.br.fr 1
          have HA3 := Lib.hid ha3
          clear I3 hb3 HI2 e18 ha3
          go_wp2_with fail
          (try simp only [Exit.inBlock, Exit.then])
          refine bodyPost_ret (v := .tuple #[.agg #[.int .i64 h3, .int .u64 l3], .int .i64 (errE Zz)]) (results_row_tmp rfl _ _ (w.heap.size) _ _ _ _ _ rfl (WideAt.put2 (h := h3) (l := l3) HI3.out.br) Try.underlying24 rfl (by kernel_rfl) rfl) rfl ?_
          have key : pe s = errE Zz ∧ pv s = valE Zz := by
            by_cases hin : In Zz
            · have := pv_text hin
              rw [HTS.out, HEQ.out] at this
              exact ⟨by rw [this.2]; exact (if_pos hin).symm, by rw [this.1]; exact (if_pos hin).symm⟩
            · have hno : ¬ pok s := fun h => hin (by have := (pok_reads h).2.2; rw [hzo.out] at this; rw [this]; exact in_w128 _)
              have := pe_no hno
              exact ⟨by rw [this.1]; exact (if_neg hin).symm, by rw [this.2]; exact (if_neg hin).symm⟩
          exact ⟨h3, l3, by rw [key.1], by rw [key.2]; exact HA3.out, Below.put2 HI3.out.below (Nat.le_refl _) _ _⟩
        · have hc := str_ne heq
          have hno : ¬ pok s := fun h => heq (by have h2 := (pok_reads h).2.2; rw [hzo.out] at h2; rw [← HTS.out, h2]; exact h)
          have HNO := Lib.hid hno
          have c0 := HI2.out.br.c0
          have c1 := HI2.out.br.c1
          have f0 := HI2.out.br.fr 0
          have f1 := HI2.out.br.fr 1
          clear hno heq
          go_wp2_with fail
          (try simp only [Exit.inBlock, Exit.then])
          refine bodyPost_ret (v := .tuple #[.agg #[.int .i64 0, .int .u64 0], .int .i64 20]) (results_row_tmp rfl _ _ (w.heap.size) _ _ _ _ _ rfl (WideAt.put2 (h := 0) (l := 0) HI2.out.br) Try.underlying24 rfl (by kernel_rfl) rfl) rfl ?_
          exact ⟨0, 0, by rw [(pe_no HNO.out).1]; rfl, by rw [(pe_no HNO.out).2]; exact At.zero, Below.put2 HI2.out.below (Nat.le_refl _) _ _⟩
set_option maxRecDepth 100000 in
set_option maxHeartbeats 4000000 in
theorem parse_w2 (s : ByteArray) (l : List Nat) (w : World) (hs : Hid (sbytes s = l)) (hat : Hid (atOf l = 1)) (hl : Hid (l.length = s.size)) (hl60 : l.length ≤ 60) (hn0 : Hid (0 < l.length)) (h45 : Hid (l.getD 0 0 = 45)) (cO : Hid (Ans 12 #[.int .i64 10] (.agg (bv 10)))) :
    Calls Try.prog 29 #[.string s] w (RetP s w) := by
  have hix : Hid (∀ (k : Nat) (i : Int), i = (k : Int) → k < l.length → ∀ W, (Instr.index 9 (.string s) (.int .i64 i)).run Try.prog W = .ok (.int .u8 ((l.getD k 0 : Nat) : Int)) W) := Lib.hid (fun k i hi hk W => by rw [← hs.out]; exact idx_str s k i hi (by rw [← hl.out]; exact hk) W)
  have hby : Hid (∀ c ∈ l, c < 256) := Lib.hid (by rw [← hs.out]; unfold sbytes; intro c hc; rw [List.mem_map] at hc; obtain ⟨b, _, rfl⟩ := hc; exact b.toNat_lt)
  obtain ⟨n, hn⟩ : ∃ n, l.length = n := ⟨_, rfl⟩
  have hsz : (s.size : Int) = (n : Int) := by rw [← hl.out, hn]
  have HNN := Lib.hid hn
  have n60 : (n : Int) ≤ 60 := by omega
  have n60' : (s.size : Int) ≤ 60 := by omega
  have nn : (0 : Int) ≤ (n : Int) := by omega
  have RR0 : Hid (WideAt w.heap.size 0 0 (w.alloc (.cells #[.int .i64 0, .int .u64 0] 24))) := Lib.hid (heap_alloc_new _ _)
  have HB0 : Hid (Below w.heap.size w (w.alloc (.cells #[.int .i64 0, .int .u64 0] 24))) := Lib.hid (by go_grown)
  have HI0 : Hid (PaI 0 w ((w.alloc (.cells #[.int .i64 0, .int .u64 0] 24)).alloc (.cells (bv 0) 27))) := Lib.hid ⟨step_row (heap_alloc_new _ _), heap_alloc2_new _ _ _, by go_grown⟩
  have hidx0 := fun W => hix.out 0 0 rfl hn0.out W
  obtain ⟨c0', hc0⟩ : ∃ c, l.getD 0 0 = c := ⟨_, rfl⟩
  rw [hc0] at hidx0
  have t0 : (0 : Int) < (n : Int) := by have := hn0.out; omega
  have t0' : (0 : Int) < (s.size : Int) := by omega
  have t45 : ((c0' : Int) == 45) = true := by have := h45.out; rw [hc0] at this; simp; omega
  have HI1 : True := trivial
  clear hc0
  go_enter Try.func29, Try.ntmps29
  by_cases hlong : (n : Int) - 1 > 39
  · have hno : ¬ pok s := fun h => by have := (pok_reads h).1; rw [hs.out, hat.out, HNN.out] at this; omega
    have HNO := Lib.hid hno
    have c0 := RR0.out.c0
    have c1 := RR0.out.c1
    have f0 := RR0.out.fr 0
    have f1 := RR0.out.fr 1
    have t39 : (39 : Int) < (n : Int) - 1 := by omega
    clear hno
    go_wp2_with (rw [hidx0])
    (try simp only [Exit.inBlock, Exit.then])
    refine bodyPost_ret (v := .tuple #[.agg #[.int .i64 0, .int .u64 0], .int .i64 20]) (results_row_tmp rfl _ _ (w.heap.size) _ _ _ _ _ rfl RR0.out Try.underlying24 rfl (by kernel_rfl) rfl) rfl ?_
    exact ⟨0, 0, by rw [(pe_no HNO.out).1]; rfl, by rw [(pe_no HNO.out).2]; exact At.zero, HB0.out⟩
  · have t39 : ¬ (39 : Int) < (n : Int) - 1 := by omega
    clear hlong
    go_wp2_with (rw [hidx0])
    clear HI1
    go_loopg [6] (n - 1) (PaRel l 1 w)
    case atStart => exact ⟨1, 0, by rw [HNN.out], rfl, by omega, by rw [HNN.out]; have := hn0.out; omega, by intro c hc; simp at hc, by simp [dgv], HI0.out⟩
    case round =>
      clear HI0 RR0 HB0
      obtain ⟨k, X, hg, rfl, hk0, hkl, hd, hX, I⟩ := hrel
      rw [HNN.out] at hg hkl
      have hXl : X < 10 ^ (k - 1) := by
        have := dgv_lt _ fun c hc => (hd c hc).2
        rw [← hX] at this
        rw [List.length_drop, List.length_take, Nat.min_eq_left (by rw [HNN.out]; exact hkl)] at this
        exact this
      have h39 : (10 : Nat) ^ (k - 1) ≤ 10 ^ 39 := Nat.pow_le_pow_right (by omega) (by omega)
      have e39 : (10 : Nat) ^ 39 = 1000000000000000000000000000000000000000 := by decide
      have HXL : Hid (X < 1000000000000000000000000000000000000000) := Lib.hid (by omega)
      have HD := Lib.hid hd
      have HX := Lib.hid hX
      have HI := Lib.hid I
      subst hg
      clear hd hX I hXl h39 e39
      have k0 : (0 : Int) ≤ (k : Int) := by omega
      by_cases hk : k < n
      · have k1 : (k : Int) < (n : Int) := by omega
        have k2 : (k : Int) < (s.size : Int) := by omega
        obtain ⟨c, hc⟩ : ∃ c, l.getD k 0 = c := ⟨_, rfl⟩
        have hck : k < l.length := by rw [HNN.out]; exact hk
        have hcl : c ∈ l := by
          rw [← hc, List.getD_eq_getElem?_getD, List.getElem?_eq_getElem hck]
          exact List.getElem_mem hck
        have hc256 := hby.out c hcl
        have hidx := fun W => hix.out k (k : Int) rfl hck W
        rw [hc] at hidx
        have HC := Lib.hid hc
        have HCL := Lib.hid hcl
        have HSN : Hid ((l.take (k + 1)).drop 1 = (l.take k).drop 1 ++ [c]) := Lib.hid (take_drop_snoc l 1 k c hck hk0 hc)
        have HMEM : Hid (c ∈ l.drop 1) := Lib.hid (by
          rw [← hc, List.getD_eq_getElem?_getD, List.getElem?_eq_getElem hck]
          show l[k] ∈ _
          rw [List.mem_drop_iff_getElem]
          exact ⟨k - 1, by omega, by congr 1; omega⟩)
        clear hc hcl
        by_cases hdig : 48 ≤ c ∧ c ≤ 57
        · have d1 : ¬ (c : Int) < 48 := by omega
          have d2 : ¬ (57 : Int) < (c : Int) := by omega
          obtain ⟨d, hdd⟩ : ∃ d, c - 48 = d := ⟨_, rfl⟩
          have HDD := Lib.hid hdd
          have HDIG := Lib.hid hdig
          have hd9 : d ≤ 9 := by omega
          obtain ⟨Y, hY⟩ : ∃ Y, X * 10 = Y := ⟨_, rfl⟩
          obtain ⟨Z, hZ⟩ : ∃ Z, Y + d = Z := ⟨_, rfl⟩
          have HYZ : Hid (Z = X * 10 + (c - 48)) := Lib.hid (by omega)
          have cM : Hid (Ans 11 #[.agg (bv (X : Int)), .agg (bv 10)] (.agg (bv (Y : Int)))) := Lib.hid fun w => by
            have h9 : (65536 : Nat) ^ 9 = 22300745198530623141535718272648361505980416 := by decide
            have := mul_z (X : Int) 10 w (by have := HXL.out; rw [h9]; omega) (by decide)
            rw [show (X : Int) * 10 = (Y : Int) by omega] at this
            exact this
          have cD : Hid (Ans 12 #[.int .i64 (d : Int)] (.agg (bv (d : Int)))) := Lib.hid fun w => of_z (d : Int) w (by omega) (by omega)
          have cA : Hid (Ans 15 #[.agg (bv (Y : Int)), .agg (bv (d : Int))] (.agg (bv (Z : Int)))) := Lib.hid fun w => by
            have eB : BB = 2135987035920910082395021706169552114602704522356652769947041607822219725780640550022962086936576 := by decide
            have := add_z (Y : Int) (d : Int) w (by have := HXL.out; rw [eB]; omega)
            rw [show (Y : Int) + (d : Int) = (Z : Int) by omega] at this
            exact this
          have E1 : IntKind.i64.wrap (c : Int) = (c : Int) := by rw [IntKind.wrap_i64]; omega
          have E2 : IntKind.i64.wrap ((c : Int) - 48) = (d : Int) := by rw [IntKind.wrap_i64]; omega
          clear hdd hY hZ hdig
          go_wp2_with (rw [hidx])
          rename_i K12 hK12
          have HT : ∀ (W : World), PaI Z w W → K12 { tmps := #[.string s, undef, .pointer (some ⟨w.heap.size, 0, none⟩), u3, .int .i64 1, .pointer (some ⟨w.heap.size + 1, 0, none⟩), .int .i64 (k : Int), .string s, .int .i64 (n : Int), .bool true, .bool true, .string s, .int .u8 (c0' : Int), .bool true, .bool true, .string s, .int .i64 (n : Int), .int .i64 1, .int .i64 ((n : Int) - 1), .bool false, undef, .int .i64 1, .int .i64 (k : Int), .string s, .int .i64 (n : Int), .bool true, u26, u27, .string s, .int .i64 (k : Int), .int .u8 (c : Int), .bool false, .bool false, .string s, .int .i64 (k : Int), .int .u8 (c : Int), .bool false, .bool false, u38, .agg (bv (X : Int)), .agg (bv 10), .agg (bv (Y : Int)), .string s, .int .i64 (k : Int), .int .u8 (c : Int), .int .i64 (c : Int), .int .i64 (d : Int), .agg (bv (d : Int)), .agg (bv (Z : Int)), undef, undef, undef, undef, undef, undef, undef, undef, undef, undef, undef, undef, undef], defers := [] } W := by
            intro W hW
            refine hK12 _ _ ?_
            have HW := Lib.hid hW
            clear hW hK12
            go_wp2_with fail
            go_roundg (n - (k + 1))
            case measure => omega
            case rel =>
              refine ⟨k + 1, Z, by rw [HNN.out], by go_num, by omega, by rw [HNN.out]; omega, ?_, ?_, HW.out⟩
              · rw [HSN.out]
                intro x hx
                rw [List.mem_append, List.mem_singleton] at hx
                rcases hx with hx | rfl
                · exact HD.out x hx
                · exact HDIG.out
              · rw [HSN.out, dgv_snoc, ← HX.out]
                exact HYZ.out
          refine (wpIn_wide (n := 5)).1 (held_region (F := Fence.wide) (S := fun X => True) (by kernel_rfl) trivial (fun hHeld => ?_))
          have hs0 : PaI X w wr.drew := PaI.up HI.out (bdrew0 _ _ 1)
          refine held_take (fun _ => trivial) (by kernel_rfl) (i := 3) (oi := _) (v := ?_) rfl (by kernel_rfl) (by kernel_rfl) (by kernel_rfl) (fun _ _ _ h => h) (by assumption) (Or.inl ⟨by kernel_rfl, ?_⟩) ?_
          rotate_left
          · intro wz hSw; (first | (go_simp; done) | (go_simp; with_reducible rfl))
          (try simp only [Act.put, List.getElem_toArray, List.getElem_cons_zero, List.getElem_cons_succ, List.setIfInBounds_toArray, List.set_cons_zero, List.set_cons_succ])
          refine held_take (fun _ => trivial) (by kernel_rfl) (i := 4) (oi := _) (v := ?_) rfl (by kernel_rfl) (by kernel_rfl) (by kernel_rfl) (fun _ _ _ h => h) (by assumption) (Or.inl ⟨by kernel_rfl, ?_⟩) ?_
          rotate_left
          · intro wz hSw; (first | (go_simp; done) | (go_simp; with_reducible rfl))
          (try simp only [Act.put, List.getElem_toArray, List.getElem_cons_zero, List.getElem_cons_succ, List.setIfInBounds_toArray, List.set_cons_zero, List.set_cons_succ])
          refine held_take (fun _ => trivial) (by kernel_rfl) (i := 5) (oi := _) (v := .int .u8 (c : Int)) rfl (by kernel_rfl) (by kernel_rfl) (by kernel_rfl) (fun _ _ _ h => h) (by assumption) (Or.inl ⟨by kernel_rfl, ?_⟩) ?_
          · intro wz hSw; exact exec_index 9 (.tmp 42) (.tmp 43) (by kernel_rfl) _ _ _ (by kernel_rfl) (by kernel_rfl) (hidx wz)
          (try simp only [Act.put, List.getElem_toArray, List.getElem_cons_zero, List.getElem_cons_succ, List.setIfInBounds_toArray, List.set_cons_zero, List.set_cons_succ])
          refine held_take (fun _ => trivial) (by kernel_rfl) (i := 6) (oi := _) (v := ?_) rfl (by kernel_rfl) (by kernel_rfl) (by kernel_rfl) (fun _ _ _ h => h) (by assumption) (Or.inl ⟨by kernel_rfl, ?_⟩) ?_
          rotate_left
          · intro wz hSw; (first | (go_simp; done) | (go_simp; with_reducible rfl))
          (try simp only [Act.put, List.getElem_toArray, List.getElem_cons_zero, List.getElem_cons_succ, List.setIfInBounds_toArray, List.set_cons_zero, List.set_cons_succ])
          refine held_take (fun _ => trivial) (by kernel_rfl) (i := 7) (oi := _) (v := ?_) rfl (by kernel_rfl) (by kernel_rfl) (by kernel_rfl) (fun _ _ _ h => h) (by assumption) (Or.inl ⟨by kernel_rfl, ?_⟩) ?_
          rotate_left
          · intro wz hSw; (first | (go_simp; done) | (go_simp; with_reducible rfl))
          (try simp only [Act.put, List.getElem_toArray, List.getElem_cons_zero, List.getElem_cons_succ, List.setIfInBounds_toArray, List.set_cons_zero, List.set_cons_succ])
          refine held_step2 (fun _ => trivial) (i := 0) (j := 1) (o := _) (o2 := _) (by kernel_rfl) rfl rfl (fun K hK => ?_) (fun K hK => ?_)
          · rw [if_pos (by kernel_rfl)]
            refine wpIn_load_row (fun _ => trivial) 27 (.tmp 5) (by kernel_rfl) (w.heap.size + 1) (by kernel_rfl) _ (bv (X : Int)) _ _ hs0.bx Try.underlying27 (by kernel_rfl) (bv_info _) ?_
            refine hK.out _ _ trivial (fun hHeld => ?_)
            clear hK K
            (try simp only [Act.put, List.getElem_toArray, List.getElem_cons_zero, List.getElem_cons_succ, List.setIfInBounds_toArray, List.set_cons_zero, List.set_cons_succ])
            refine held_step (fun _ => trivial) (i := 1) (o := _) (by kernel_rfl) rfl (fun K hK => ?_)
            go_simp
            refine ⟨trivial, callsIn_wide.2 ((cO.out _).mono ?_)⟩
            rintro e y1 ⟨rfl, hc1⟩
            dsimp only
            have hs1 := PaI.up hs0 hc1
            refine hK.out _ _ (trivial) (fun hHeld => ?_)
            clear hK K
            (try simp only [Act.put, List.getElem_toArray, List.getElem_cons_zero, List.getElem_cons_succ, List.setIfInBounds_toArray, List.set_cons_zero, List.set_cons_succ])
            refine held_step (fun _ => trivial) (i := 2) (o := _) (by kernel_rfl) rfl (fun K hK => ?_)
            go_simp
            refine ⟨trivial, callsIn_wide.2 ((cM.out _).mono ?_)⟩
            rintro e y2 ⟨rfl, hc2⟩
            dsimp only
            have hs2 := PaI.up hs1 hc2
            refine hK.out _ _ (trivial) (fun hHeld => ?_)
            clear hK K
            (try simp only [Act.put, List.getElem_toArray, List.getElem_cons_zero, List.getElem_cons_succ, List.setIfInBounds_toArray, List.set_cons_zero, List.set_cons_succ])
            refine held_step (fun _ => trivial) (i := 8) (o := _) (by kernel_rfl) rfl (fun K hK => ?_)
            go_simp
            refine ⟨trivial, callsIn_wide.2 ((cD.out _).mono ?_)⟩
            rintro e y3 ⟨rfl, hc3⟩
            dsimp only
            have hs3 := PaI.up hs2 hc3
            refine hK.out _ _ (trivial) (fun hHeld => ?_)
            clear hK K
            (try simp only [Act.put, List.getElem_toArray, List.getElem_cons_zero, List.getElem_cons_succ, List.setIfInBounds_toArray, List.set_cons_zero, List.set_cons_succ])
            refine held_step (fun _ => trivial) (i := 9) (o := _) (by kernel_rfl) rfl (fun K hK => ?_)
            go_simp
            refine ⟨trivial, callsIn_wide.2 ((cA.out _).mono ?_)⟩
            rintro e y4 ⟨rfl, hc4⟩
            dsimp only
            have hs4 := PaI.up hs3 hc4
            refine hK.out _ _ (trivial) (fun hHeld => ?_)
            clear hK K
            (try simp only [Act.put, List.getElem_toArray, List.getElem_cons_zero, List.getElem_cons_succ, List.setIfInBounds_toArray, List.set_cons_zero, List.set_cons_succ])
            refine held_step (fun _ => trivial) (i := 10) (o := _) (by kernel_rfl) rfl (fun K hK => ?_)
            rw [if_pos (by kernel_rfl)]
            refine wpIn_store_row (fun _ => trivial) 27 (.tmp 5) (.tmp 48) (by kernel_rfl) (w.heap.size + 1) _ _ (bv (Z : Int)) (by kernel_rfl) (by kernel_rfl) hs4.bx (bv_info _) (bv_same _ _) (bv_one _) ?_
            refine hK.out _ _ trivial (fun hHeld => ?_)
            clear hK K
            (try simp only [Act.put, List.getElem_toArray, List.getElem_cons_zero, List.getElem_cons_succ, List.setIfInBounds_toArray, List.set_cons_zero, List.set_cons_succ])
            exact held_done (by kernel_rfl) (HT _ (PaI.put hs4 Z)) _
          · go_simp
            refine ⟨trivial, callsIn_wide.2 ((cO.out _).mono ?_)⟩
            rintro e y1 ⟨rfl, hc1⟩
            dsimp only
            have hs1 := PaI.up hs0 hc1
            refine hK.out _ _ (trivial) (fun hHeld => ?_)
            clear hK K
            (try simp only [Act.put, List.getElem_toArray, List.getElem_cons_zero, List.getElem_cons_succ, List.setIfInBounds_toArray, List.set_cons_zero, List.set_cons_succ])
            refine held_step (fun _ => trivial) (i := 0) (o := _) (by kernel_rfl) rfl (fun K hK => ?_)
            rw [if_pos (by kernel_rfl)]
            refine wpIn_load_row (fun _ => trivial) 27 (.tmp 5) (by kernel_rfl) (w.heap.size + 1) (by kernel_rfl) _ (bv (X : Int)) _ _ hs1.bx Try.underlying27 (by kernel_rfl) (bv_info _) ?_
            refine hK.out _ _ trivial (fun hHeld => ?_)
            clear hK K
            (try simp only [Act.put, List.getElem_toArray, List.getElem_cons_zero, List.getElem_cons_succ, List.setIfInBounds_toArray, List.set_cons_zero, List.set_cons_succ])
            refine held_step (fun _ => trivial) (i := 2) (o := _) (by kernel_rfl) rfl (fun K hK => ?_)
            go_simp
            refine ⟨trivial, callsIn_wide.2 ((cM.out _).mono ?_)⟩
            rintro e y2 ⟨rfl, hc2⟩
            dsimp only
            have hs2 := PaI.up hs1 hc2
            refine hK.out _ _ (trivial) (fun hHeld => ?_)
            clear hK K
            (try simp only [Act.put, List.getElem_toArray, List.getElem_cons_zero, List.getElem_cons_succ, List.setIfInBounds_toArray, List.set_cons_zero, List.set_cons_succ])
            refine held_step (fun _ => trivial) (i := 8) (o := _) (by kernel_rfl) rfl (fun K hK => ?_)
            go_simp
            refine ⟨trivial, callsIn_wide.2 ((cD.out _).mono ?_)⟩
            rintro e y3 ⟨rfl, hc3⟩
            dsimp only
            have hs3 := PaI.up hs2 hc3
            refine hK.out _ _ (trivial) (fun hHeld => ?_)
            clear hK K
            (try simp only [Act.put, List.getElem_toArray, List.getElem_cons_zero, List.getElem_cons_succ, List.setIfInBounds_toArray, List.set_cons_zero, List.set_cons_succ])
            refine held_step (fun _ => trivial) (i := 9) (o := _) (by kernel_rfl) rfl (fun K hK => ?_)
            go_simp
            refine ⟨trivial, callsIn_wide.2 ((cA.out _).mono ?_)⟩
            rintro e y4 ⟨rfl, hc4⟩
            dsimp only
            have hs4 := PaI.up hs3 hc4
            refine hK.out _ _ (trivial) (fun hHeld => ?_)
            clear hK K
            (try simp only [Act.put, List.getElem_toArray, List.getElem_cons_zero, List.getElem_cons_succ, List.setIfInBounds_toArray, List.set_cons_zero, List.set_cons_succ])
            refine held_step (fun _ => trivial) (i := 10) (o := _) (by kernel_rfl) rfl (fun K hK => ?_)
            rw [if_pos (by kernel_rfl)]
            refine wpIn_store_row (fun _ => trivial) 27 (.tmp 5) (.tmp 48) (by kernel_rfl) (w.heap.size + 1) _ _ (bv (Z : Int)) (by kernel_rfl) (by kernel_rfl) hs4.bx (bv_info _) (bv_same _ _) (bv_one _) ?_
            refine hK.out _ _ trivial (fun hHeld => ?_)
            clear hK K
            (try simp only [Act.put, List.getElem_toArray, List.getElem_cons_zero, List.getElem_cons_succ, List.setIfInBounds_toArray, List.set_cons_zero, List.set_cons_succ])
            exact held_done (by kernel_rfl) (HT _ (PaI.put hs4 Z)) _
        · have hno : ¬ pok s := fun h => hdig (by have := (pok_reads h).2.1; unfold DigAll at this; rw [hs.out, hat.out] at this; exact this c HMEM.out)
          have HNO := Lib.hid hno
          have c0 := HI.out.br.c0
          have c1 := HI.out.br.c1
          have f0 := HI.out.br.fr 0
          have f1 := HI.out.br.fr 1
          clear hno
          by_cases hlow : c < 48
          · have d1 : (c : Int) < 48 := by omega
            clear hdig
            go_wp2_with (rw [hidx])
            (try simp only [Exit.inBlock, Exit.then])
            refine bodyPost_ret (v := .tuple #[.agg #[.int .i64 0, .int .u64 0], .int .i64 20]) (results_row_tmp rfl _ _ (w.heap.size) _ _ _ _ _ rfl (WideAt.put2 (h := 0) (l := 0) HI.out.br) Try.underlying24 rfl (by kernel_rfl) rfl) rfl ?_
            exact ⟨0, 0, by rw [(pe_no HNO.out).1]; rfl, by rw [(pe_no HNO.out).2]; exact At.zero, Below.put2 HI.out.below (Nat.le_refl _) _ _⟩
          · have d1 : ¬ (c : Int) < 48 := by omega
            have d2 : (57 : Int) < (c : Int) := by omega
            clear hdig
            go_wp2_with (rw [hidx])
            (try simp only [Exit.inBlock, Exit.then])
            refine bodyPost_ret (v := .tuple #[.agg #[.int .i64 0, .int .u64 0], .int .i64 20]) (results_row_tmp rfl _ _ (w.heap.size) _ _ _ _ _ rfl (WideAt.put2 (h := 0) (l := 0) HI.out.br) Try.underlying24 rfl (by kernel_rfl) rfl) rfl ?_
            exact ⟨0, 0, by rw [(pe_no HNO.out).1]; rfl, by rw [(pe_no HNO.out).2]; exact At.zero, Below.put2 HI.out.below (Nat.le_refl _) _ _⟩
      · obtain rfl : k = n := by omega
        have k1 : ¬ ((k : Int) < (k : Int)) := by omega
        have k2 : ¬ ((k : Int) < (s.size : Int)) := by omega
        have hX2 : X = dgv (l.drop 1) := by
          have := HX.out
          rw [List.take_of_length_le (by rw [HNN.out]; omega)] at this
          exact this
        obtain ⟨Zz, hZz⟩ : ∃ Zz : Int, Zz = -(X : Int) := ⟨_, rfl⟩
        have hzo : Hid (zOf (sbytes s) = Zz) := Lib.hid (by unfold zOf; rw [hs.out, hat.out, hZz, hX2]; rw [if_pos rfl])
        have hzb : Zz.natAbs < 1000000000000000000000000000000000000000 := by have := HXL.out; omega
        have HZB := Lib.hid hzb
        have HT : Hid (Ans 32 #[.agg (bv Zz)] (.string (bstr (wtx Zz)))) := Lib.hid fun w => ztext_z Zz w (by have := HZB.out; have e40 : (10 : Nat) ^ 40 = 10000000000000000000000000000000000000000 := (by decide); omega)
        obtain ⟨ts, hts⟩ : ∃ ts, bstr (wtx Zz) = ts := ⟨_, rfl⟩
        rw [hts] at HT
        have HTS := Lib.hid hts
        clear hX2 hzb hts
        have cN : Hid (Ans 17 #[.agg (bv (X : Int))] (.agg (bv Zz))) := Lib.hid fun w => by
          rw [hZz]
          have eB : BB = 2135987035920910082395021706169552114602704522356652769947041607822219725780640550022962086936576 := by decide
          exact neg_z (X : Int) w (by have := HXL.out; rw [eB]; omega)
        clear hZz
        go_wp2_with (refine wpList_load_row rfl 27 (.tmp 5) rfl (w.heap.size + 1) rfl _ _ _ _ HI.out.bx Try.underlying27 rfl (bv_info _) ?_)
        refine (cN.out _).mono ?_
        rintro e w1 ⟨rfl, hb1⟩
        have I0 := HI.out.up hb1
        have BXX := Lib.hid I0.bx
        have I1 : Hid (PaZ Zz w (w1.setRow (w.heap.size + 1) (bv Zz))) := Lib.hid ⟨by unfold WideAt; rw [setRow_other _ _ _ _ (by omega)]; exact I0.br, BigAt.row I0.bx _, Below.row I0.below (by omega) _⟩
        clear I0 hb1
        go_wp2_with (first | (refine wpList_load_row rfl 27 (.tmp 5) rfl (w.heap.size + 1) rfl _ _ _ _ I1.out.bx Try.underlying27 rfl (bv_info _) ?_) | (refine wpList_store_big rfl 27 (.tmp 5) (.tmp 52) rfl (w.heap.size + 1) _ _ (bv Zz) rfl rfl BXX.out (bv_info _) (bv_same _ _) (bv_one _) ?_))
        refine (HT.out _).mono ?_
        rintro e w2 ⟨rfl, hb2⟩
        have I2 := I1.out.up hb2
        have HI2 := Lib.hid I2
        clear I2 hb2 I1
        by_cases heq : ts = s
        · have hc : (ts.toList == s.toList) = true := by rw [heq]; simp
          have HEQ := Lib.hid heq
          clear heq
          go_wp2_with (refine wpList_load_row rfl 27 (.tmp 5) rfl (w.heap.size + 1) rfl _ _ _ _ HI2.out.bx Try.underlying27 rfl (bv_info _) ?_)
          have e18 : (65536 : Nat) ^ 18 = 497323236409786642155382248146820840100456150797347717440463976893159497012533375533056 := by decide
          refine (cut_z Zz _ (by have := HZB.out; rw [e18]; omega)).mono ?_
          rintro e w3 ⟨h3, l3, rfl, ha3, hb3⟩
          have I3 := HI2.out.up hb3
          have HI3 := Lib.hid I3
          have c0 := I3.br.c0
          have c1 := I3.br.c1
          have f0 := I3.br.fr 0
          have f1 := I3.br.fr 1
          have HA3 := Lib.hid ha3
          clear I3 hb3 HI2 e18 ha3
          go_wp2_with fail
          (try simp only [Exit.inBlock, Exit.then])
          refine bodyPost_ret (v := .tuple #[.agg #[.int .i64 h3, .int .u64 l3], .int .i64 (errE Zz)]) (results_row_tmp rfl _ _ (w.heap.size) _ _ _ _ _ rfl (WideAt.put2 (h := h3) (l := l3) HI3.out.br) Try.underlying24 rfl (by kernel_rfl) rfl) rfl ?_
          have key : pe s = errE Zz ∧ pv s = valE Zz := by
            by_cases hin : In Zz
            · have := pv_text hin
              rw [HTS.out, HEQ.out] at this
              exact ⟨by rw [this.2]; exact (if_pos hin).symm, by rw [this.1]; exact (if_pos hin).symm⟩
            · have hno : ¬ pok s := fun h => hin (by have := (pok_reads h).2.2; rw [hzo.out] at this; rw [this]; exact in_w128 _)
              have := pe_no hno
              exact ⟨by rw [this.1]; exact (if_neg hin).symm, by rw [this.2]; exact (if_neg hin).symm⟩
          exact ⟨h3, l3, by rw [key.1], by rw [key.2]; exact HA3.out, Below.put2 HI3.out.below (Nat.le_refl _) _ _⟩
        · have hc := str_ne heq
          have hno : ¬ pok s := fun h => heq (by have h2 := (pok_reads h).2.2; rw [hzo.out] at h2; rw [← HTS.out, h2]; exact h)
          have HNO := Lib.hid hno
          have c0 := HI2.out.br.c0
          have c1 := HI2.out.br.c1
          have f0 := HI2.out.br.fr 0
          have f1 := HI2.out.br.fr 1
          clear hno heq
          go_wp2_with fail
          (try simp only [Exit.inBlock, Exit.then])
          refine bodyPost_ret (v := .tuple #[.agg #[.int .i64 0, .int .u64 0], .int .i64 20]) (results_row_tmp rfl _ _ (w.heap.size) _ _ _ _ _ rfl (WideAt.put2 (h := 0) (l := 0) HI2.out.br) Try.underlying24 rfl (by kernel_rfl) rfl) rfl ?_
          exact ⟨0, 0, by rw [(pe_no HNO.out).1]; rfl, by rw [(pe_no HNO.out).2]; exact At.zero, Below.put2 HI2.out.below (Nat.le_refl _) _ _⟩
theorem zparse_z (s : ByteArray) (w : World) (hs : s.size ≤ 60) : Calls Try.prog 29 #[.string s] w (RetP s w) := by
  have hl := sb_len s
  have cO : Hid (Ans 12 #[.int .i64 10] (.agg (bv 10))) := Lib.hid fun w => of_z 10 w (by omega) (by omega)
  by_cases h0 : (sbytes s).length = 0
  · exact parse_w0 s _ w (Lib.hid rfl) (Lib.hid (by unfold atOf; rw [List.eq_nil_of_length_eq_zero h0]; rfl)) (Lib.hid hl) (by omega) (Lib.hid h0) cO
  · by_cases h45 : (sbytes s).getD 0 0 = 45
    · exact parse_w2 s _ w (Lib.hid rfl) (Lib.hid (by unfold atOf; rw [if_pos h45])) (Lib.hid hl) (by omega) (Lib.hid (by omega)) (Lib.hid h45) cO
    · exact parse_w1 s _ w (Lib.hid rfl) (Lib.hid (by unfold atOf; rw [if_neg h45])) (Lib.hid hl) (by omega) (Lib.hid (by omega)) (Lib.hid h45) cO
end Go.Proofs.Ytgkcbadfjhicnaa.Fx
