/- The document's text of a number, walked. -/
import Derived.Test.YtgkcbadfjhicnaaProg
import Derived.Test.YtgkcbadfjhicnaaD3
import Derived.Test.YtgkcbadfjhicnaaT2
import Derived.Laws.Concat
import Derived.WalkKit
set_option linter.unusedVariables false
set_option linter.unusedSimpArgs false
namespace Go.Proofs.Ytgkcbadfjhicnaa.Fx
open Go Go.RowKit Wm
theorem held_step3 {F : Fence} {n : Nat} {P : Program} {md : Region.Mode} {ops : Array Oper} {Q : Exit → Act → World → Prop} {S : World → Prop} (hF : ∀ f, F.fn f) {i j k : Nat} {o o2 o3 : Oper} {fuel : Nat} {listed : Array Bool} {a : Act} {w : World} (hr : Region.ready md ops listed = [i, j, k]) (ho : ops[i]? = some o) (ho2 : ops[j]? = some o2) (ho3 : ops[k]? = some o3)
    (h : ∀ K' : Act → World → Prop, Shut (∀ a w, S w → (S w → HeldIn F n P md ops Q S fuel (listed.setIfInBounds i true) a w) → K' a w) → if Region.wanted o (yielded ops a.tmps) = true then Oper.wpIn F n P o a w K' Q else K' (a.put o.dst undef) w)
    (h2 : ∀ K' : Act → World → Prop, Shut (∀ a w, S w → (S w → HeldIn F n P md ops Q S fuel (listed.setIfInBounds j true) a w) → K' a w) → if Region.wanted o2 (yielded ops a.tmps) = true then Oper.wpIn F n P o2 a w K' Q else K' (a.put o2.dst undef) w)
    (h3 : ∀ K' : Act → World → Prop, Shut (∀ a w, S w → (S w → HeldIn F n P md ops Q S fuel (listed.setIfInBounds k true) a w) → K' a w) → if Region.wanted o3 (yielded ops a.tmps) = true then Oper.wpIn F n P o3 a w K' Q else K' (a.put o3.dst undef) w) :
    HeldIn F n P md ops Q S (fuel + 1) listed a w := by
  refine ⟨fun h0 => (by rw [hr] at h0; cases h0), fun m hm => ?_⟩
  rw [hr] at hm
  simp only [List.mem_cons, List.not_mem_nil, or_false] at hm
  rcases hm with rfl | rfl | rfl
  · unfold wpOpIn
    simp only [ho]
    have h' := h (fun a' w' => S w' ∧ HeldIn F n P md ops Q S fuel (listed.setIfInBounds m true) a' w') (fun a w hS hW => ⟨hS, hW hS⟩)
    split
    · rename_i hw
      rw [if_pos hw] at h'
      exact h'
    · rename_i hw
      rw [if_neg hw] at h'
      exact ⟨fun f _ => hF f, h'⟩
  · unfold wpOpIn
    simp only [ho2]
    have h' := h2 (fun a' w' => S w' ∧ HeldIn F n P md ops Q S fuel (listed.setIfInBounds m true) a' w') (fun a w hS hW => ⟨hS, hW hS⟩)
    split
    · rename_i hw
      rw [if_pos hw] at h'
      exact h'
    · rename_i hw
      rw [if_neg hw] at h'
      exact ⟨fun f _ => hF f, h'⟩
  · unfold wpOpIn
    simp only [ho3]
    have h' := h3 (fun a' w' => S w' ∧ HeldIn F n P md ops Q S fuel (listed.setIfInBounds m true) a' w') (fun a w hS hW => ⟨hS, hW hS⟩)
    split
    · rename_i hw
      rw [if_pos hw] at h'
      exact h'
    · rename_i hw
      rw [if_neg hw] at h'
      exact ⟨fun f _ => hF f, h'⟩
theorem bstr_cat (a b : List Int) : bstr a ++ bstr b = bstr (a ++ b) := by
  unfold bstr
  rw [ByteArray.mk_append_mk]
  simp
theorem bstr_ne3 (l : List Int) (h : l.length ≠ 0) : (bstr l).toList.isEmpty = false := by
  rw [ByteArray.toList_eq]
  cases l with
  | nil => exact absurd rfl h
  | cons x l => rfl
theorem bstr_sz (a : List Int) : (bstr a).size = a.length := by
  unfold bstr
  show ((a.map fun n => UInt8.ofNat n.toNat).toArray).size = _
  simp
theorem cat_str (a b : List Int) (h : a.length + b.length ≤ 1000) (w : World) : (Op.stringOp .add (bstr a) (bstr b)).run Try.prog w = .ok (.string (bstr (a ++ b))) w := by
  rw [run_string_add_sum w _ _ (by rw [bstr_sz, bstr_sz]; omega), bstr_cat]
theorem conv_1 (x : Int) (t : TypeId) (W : World) :
    (convert 104 9 (.slice (some ⟨W.heap.size, 0, none⟩) 1 1)).run Try.prog (W.alloc (.cells #[.int .u8 x] t)) = .ok (.string (bstr [x])) (W.alloc (.cells #[.int .u8 x] t)) := by
  have h : ∀ j u, ([x].map encB)[j]? = some u → (W.alloc (.cells #[.int .u8 x] t)).cell? ((⟨W.heap.size, 0, none⟩ : Addr).add j) = some u := by
    intro j u hu
    cases j with
    | zero =>
      rw [show ((⟨W.heap.size, 0, none⟩ : Addr).add 0) = ⟨W.heap.size, 0, none⟩ from rfl, cell_of_row _ _ _ _ _ _ (heap_alloc_new W (.cells #[.int .u8 x] t))]
      exact hu
    | succ j => simp at hu
  exact conv_at [x] W.heap.size 0 1 _ h
/-- between two digits -/
def TxOk (V j v : Nat) (l : List Int) : Prop := j ≤ 40 ∧ v < 10 ^ (40 - j) ∧ l.length = j ∧ ((j = 0 ∧ v = V) ∨ (1 ≤ j ∧ decF 40 V = (if v = 0 then [] else decF (40 - j) v) ++ l))
theorem TxOk.next {V j v : Nat} {l : List Int} (h : TxOk V j v l) (hg : v ≠ 0 ∨ j = 0) : TxOk V (j + 1) (v / 10) ((48 + ((v % 10 : Nat) : Int)) :: l) := by
  obtain ⟨h1, h2, h3, h4⟩ := h
  have hj : j < 40 := by
    rcases hg with hg | hg
    · rcases Nat.lt_or_ge j 40 with h | h
      · exact h
      · exfalso
        have : 40 - j = 0 := by omega
        rw [this, Nat.pow_zero] at h2
        omega
    · omega
  have e : 40 - j = (40 - (j + 1)) + 1 := by omega
  refine ⟨by omega, ?_, by simp [h3], Or.inr ⟨by omega, ?_⟩⟩
  · rw [e, Nat.pow_succ] at h2
    omega
  · have e2 : decF (40 - j) v = if v < 10 then [48 + (v : Int)] else decF (40 - (j + 1)) (v / 10) ++ [48 + ((v % 10 : Nat) : Int)] := by rw [e]; rfl
    have e3 : decF 40 V = decF (40 - j) v ++ l := by
      rcases h4 with ⟨h, rfl⟩ | ⟨h, h5⟩
      · subst h
        have : l = [] := List.eq_nil_of_length_eq_zero h3
        rw [this, List.append_nil]
      · rcases hg with hg | hg
        · rw [if_neg hg] at h5
          exact h5
        · omega
    rw [e3, e2]
    by_cases h10 : v < 10
    · rw [if_pos h10, if_pos (by omega), show v % 10 = v by omega]
      rfl
    · rw [if_neg h10, if_neg (by omega), List.append_assoc]
      rfl
theorem TxOk.done {V j : Nat} {l : List Int} (h : TxOk V j 0 l) (hj : j ≠ 0) : l = decF 40 V := by
  obtain ⟨h1, h2, h3, h4⟩ := h
  rcases h4 with ⟨h, _⟩ | ⟨_, h⟩
  · exact absurd h hj
  · rw [h]; rfl
structure TxI (v : Nat) (w W : World) : Prop where
  bx : BigAt w.heap.size (v : Int) W
  below : Below w.heap.size w W
def TxRel (V : Nat) (w : World) (g : Nat) (s3 s5 : Value) (W : World) : Prop :=
  ∃ (j v : Nat) (l : List Int), g = 60 - j ∧ s3 = .string (bstr l) ∧ s5 = .int .i64 (j : Int) ∧ TxOk V j v l ∧ TxI v w W
theorem div10 (v : Nat) (w : World) (hv : v < 65536 ^ 9) : Calls Try.prog 26 #[.agg (bv (v : Int)), .agg (bv 10)] w fun e w' => e = .returned (.tuple #[.agg (bv ((v / 10 : Nat) : Int)), .agg (bv ((v % 10 : Nat) : Int)), .int .i64 0]) ∧ Below w.heap.size w w' := by
  have h := zdiv_z (v : Int) 10 w (by rw [Int.natAbs_natCast]; exact hv) (by decide) (by decide)
  have e1 : dv (v : Int) 10 = ((v / 10 : Nat) : Int) := by unfold dv; rw [if_pos (by decide)]; omega
  have e2 : rs (v : Int) 10 = ((v % 10 : Nat) : Int) := by unfold rs; rw [e1]; omega
  rw [e1, e2] at h
  exact h
set_option maxRecDepth 100000 in
set_option maxHeartbeats 4000000 in
theorem ztext_walk (x : Int) (V : Nat) (sx : Bool) (w : World) (hV : Hid (x.natAbs = V)) (hsx : Hid (decide (x < 0) = sx)) (hb : Hid (V < 10 ^ 40)) (cO : Hid (Ans 12 #[.int .i64 10] (.agg (bv 10)))) :
    Calls Try.prog 32 #[.agg (bv x)] w fun e w' => e = .returned (.string (bstr ((if sx = true then [45] else []) ++ decF 40 V))) ∧ Below w.heap.size w w' := by
  have hc0 : (bv x).setIfInBounds 0 (.bool false) = bv (V : Int) := by
    unfold bv
    rw [big_sign, hV.out, decide_eq_false (by omega), Int.natAbs_natCast]
  have RX : Hid (BigAt w.heap.size x (w.alloc (.cells (bv x) 27))) := Lib.hid (heap_alloc_new _ _)
  have cx := RX.out.head
  rw [hsx.out] at cx
  have fx : (w.alloc (.cells (bv x) 27)).frozen? ⟨w.heap.size, 0, none⟩ = false := frozen_row RX.out
  have HI0 : Hid (TxI V w (w.alloc (.cells ((bv x).setIfInBounds 0 (.bool false)) 27))) := Lib.hid (by rw [hc0]; exact ⟨heap_alloc_new _ _, by go_grown⟩)
  clear hc0
  go_enter Try.func32, Try.ntmps32
  go_wp2_with fail
  go_loopg [3, 5] 60 (TxRel V w)
  case atStart => exact ⟨0, V, [], rfl, rfl, rfl, ⟨by omega, hb.out, rfl, Or.inl ⟨rfl, rfl⟩⟩, HI0.out⟩
  case round =>
    clear HI0 RX cx fx
    obtain ⟨j, v, l, rfl, rfl, rfl, hok, I⟩ := hrel
    have hj40 := hok.1
    have j60 : (j : Int) < 60 := by omega
    have hv40 : v < 10 ^ 40 := Nat.lt_of_lt_of_le hok.2.1 (Nat.pow_le_pow_right (by omega) (by omega))
    have hll := hok.2.2.1
    have HI := Lib.hid I
    have HOK := Lib.hid hok
    have HV40 := Lib.hid hv40
    have HLL := Lib.hid hll
    have BX := Lib.hid I.bx
    have HJ := Lib.hid hj40
    clear I hok hv40 hll
    by_cases hv : v = 0
    · subst hv
      have hz := fun w => none_z ((0 : Nat) : Int) true w (by decide) (by decide)
      by_cases hj : j = 0
      · subst hj
        obtain rfl : l = [] := List.eq_nil_of_length_eq_zero HLL.out
        have hOK := HOK.out.next (Or.inr rfl)
        rw [show bstr [] = (⟨#[]⟩ : ByteArray) from rfl]
        have hzs : ((⟨#[]⟩ : ByteArray) == ⟨#[]⟩) = true := by decide
        have cD := Lib.hid fun w => div10 0 w (by have := HV40.out; have e : (65536 : Nat) ^ 9 = 22300745198530623141535718272648361505980416 := (by decide); have e2 : (10 : Nat) ^ 40 = 10000000000000000000000000000000000000000 := (by decide); omega)
        obtain ⟨q, hq⟩ : ∃ q, 0 / 10 = q := ⟨_, rfl⟩
        obtain ⟨r, hr⟩ : ∃ r, 0 % 10 = r := ⟨_, rfl⟩
        rw [hq, hr] at cD hOK
        have HR10 : Hid (r < 10) := Lib.hid (by omega)
        have HOK2 := Lib.hid hOK
        clear hOK hq hr
        go_wp2_with (refine wpList_load_big (by kernel_rfl) 27 (.tmp 1) rfl (w.heap.size) rfl _ _ _ _ BX.out Try.underlying27 rfl (bv_info _) ?_)
        refine (hz _).mono ?_
        rintro e x1 ⟨rfl, hb1⟩
        have BX1 := Lib.hid (BigAt.below hb1 BX.out)
        have HB1 := Lib.hid (bnext HI.out.below hb1)
        clear hb1 hz HI BX
        go_wp2_with fail
        rename_i K7 hK7
        have HT : ∀ (Bq Br : Nat) (Wf : World), BigAt Bq (q : Int) Wf → BigAt Br (r : Int) Wf → Below x1.heap.size x1 Wf → K7 { tmps := #[.agg (bv x), .pointer (some ⟨w.heap.size, 0, none⟩), .string ⟨#[]⟩, .string ⟨#[]⟩, .bool sx, .int .i64 ((0 : Nat) : Int), .pointer (some ⟨Bq, 0, none⟩), .pointer (some ⟨Br, 0, none⟩), .int .i64 0, .pointer (some ⟨w.heap.size, 0, none⟩), .bool sx, .pointer (some ⟨w.heap.size, 0, none⟩), .int .i64 ((0 : Nat) : Int), .bool true, .bool true, .agg (bv ((0 : Nat) : Int)), .bool true, .bool false, .bool false, .string ⟨#[]⟩, .bool true, .bool true, .bool true, u23, u24, .tuple #[.agg (bv (q : Int)), .agg (bv (r : Int)), .int .i64 0], .agg (bv ((0 : Nat) : Int)), .agg (bv 10), .tuple #[.agg (bv (q : Int)), .agg (bv (r : Int)), .int .i64 0], .agg (bv (q : Int)), .agg (bv (r : Int)), .int .i64 0, u32, u33, u34, u35, u36, u37, u38, u39, u40, u41, undef, undef, undef, undef], defers := [] } Wf := by
          intro Bq Br Wf hq hr hb
          refine hK7 _ _ ?_
          have cr : Wf.cell? ⟨Br, 1, none⟩ = some (.int .u64 (r : Int)) := by
            have := hr.dig 0 (by omega)
            rw [Int.natAbs_natCast, Nat.pow_zero, Nat.div_one, Nat.mod_eq_of_lt (by have := HR10.out; omega)] at this
            exact this
          obtain ⟨c, hc⟩ : ∃ c : Nat, 48 + r = c := ⟨_, rfl⟩
          have E1 : IntKind.u64.wrap (48 + (r : Int)) = (c : Int) := by have := HR10.out; rw [IntKind.wrap_u64]; omega
          have E2 : IntKind.u8.wrap (c : Int) = (c : Int) := by have := HR10.out; rw [IntKind.wrap_u8]; omega
          have hcv := conv_1 (c : Int) 5 Wf
          have ha := cat_str [(c : Int)] [] (by simp)
          have BQ : Hid (BigAt Bq (q : Int) (Wf.alloc (.cells #[.int .u8 (c : Int)] 5))) := Lib.hid (step_row hq)
          have BX2 : Hid (BigAt w.heap.size ((0 : Nat) : Int) (Wf.alloc (.cells #[.int .u8 (c : Int)] 5))) := Lib.hid (step_row (BigAt.below hb BX1.out))
          have HB2 : Hid (Below w.heap.size w (Wf.alloc (.cells #[.int .u8 (c : Int)] 5))) := Lib.hid (by have := bnext HB1.out hb; exact this.alloc this.size _)
          have HOK3 : Hid (TxOk V (0 + 1) q ((c : Int)   :: [])) := Lib.hid (by have := HOK2.out; rw [← hc]; simpa using this)
          rw [show bstr [] = (⟨#[]⟩ : ByteArray) from rfl] at ha
          obtain ⟨s2, hs2⟩ : ∃ s2, bstr ([(c : Int)] ++ []) = s2 := ⟨_, rfl⟩
          obtain ⟨s3, hs3⟩ : ∃ s3, bstr [(c : Int)] = s3 := ⟨_, rfl⟩
          rw [hs3] at hcv ha
          rw [hs2] at ha
          have HS2 := Lib.hid hs2
          clear hK7 hq hr hb hs2 hs3 hc
          go_wp2_with (first | (refine wpList_load_row rfl 27 (.tmp 6) rfl (Bq) rfl _ _ _ _ BQ.out Try.underlying27 rfl (bv_info _) ?_) | (refine wpList_store_big rfl 27 (.tmp 1) (.tmp 41) rfl (w.heap.size) _ _ (bv (q : Int)) rfl rfl BX2.out (bv_info _) (bv_same _ _) (bv_one _) ?_) | rw [hcv] | rw [ha])
          go_roundg (60 - (0 + 1))
          case measure => omega
          case rel => exact ⟨0 + 1, q, (c : Int)   :: [], rfl, by rw [← HS2.out]; rfl, by go_num, HOK3.out, ⟨BigAt.row BX2.out _, Below.row HB2.out (Nat.le_refl _) _⟩⟩
        refine (wpIn_wide (n := 5)).1 (held_region (F := Fence.wide) (S := fun X => Below x1.heap.size x1 X) (by kernel_rfl) (bdrew0 _ _ 1) (fun hHeld => ?_))
        refine held_take (fun _ => trivial) (by kernel_rfl) (i := 0) (oi := _) (v := .agg (bv ((0 : Nat) : Int))) rfl (by kernel_rfl) (by kernel_rfl) (by kernel_rfl) (fun _ _ _ h => h) (by assumption) (Or.inl ⟨by kernel_rfl, ?_⟩) ?_
        · intro wz hSw; exact exec_load_row 27 (.tmp 1) (by kernel_rfl) (w.heap.size) (by kernel_rfl) _ _ _ _ (BigAt.below hSw BX1.out) Try.underlying27 (by kernel_rfl) (bv_info _)
        (try simp only [Act.put, List.getElem_toArray, List.getElem_cons_zero, List.getElem_cons_succ, List.setIfInBounds_toArray, List.set_cons_zero, List.set_cons_succ])
        refine held_step3 (fun _ => trivial) (i := 1) (j := 7) (k := 8) (o := _) (o2 := _) (o3 := _) (by kernel_rfl) rfl rfl rfl (fun K hK => ?_) (fun K hK => ?_) (fun K hK => ?_)
        · go_simp
          refine ⟨trivial, callsIn_wide.2 ((cO.out _).mono ?_)⟩
          rintro e y1 ⟨rfl, hc1⟩
          dsimp only
          refine hK.out _ _ (bnext hHeld hc1) (fun hHeld => ?_)
          clear hK K
          (try simp only [Act.put, List.getElem_toArray, List.getElem_cons_zero, List.getElem_cons_succ, List.setIfInBounds_toArray, List.set_cons_zero, List.set_cons_succ])
          refine held_step3 (fun _ => trivial) (i := 2) (j := 7) (k := 8) (o := _) (o2 := _) (o3 := _) (by kernel_rfl) rfl rfl rfl (fun K hK => ?_) (fun K hK => ?_) (fun K hK => ?_)
          · go_simp
            refine ⟨trivial, callsIn_wide.2 ((cD.out _).mono ?_)⟩
            rintro e y2 ⟨rfl, hc2⟩
            dsimp only
            refine hK.out _ _ (bnext hHeld hc2) (fun hHeld => ?_)
            clear hK K
            (try simp only [Act.put, List.getElem_toArray, List.getElem_cons_zero, List.getElem_cons_succ, List.setIfInBounds_toArray, List.set_cons_zero, List.set_cons_succ])
            refine held_take (fun _ => trivial) (by kernel_rfl) (i := 3) (oi := _) (v := ?_) rfl (by kernel_rfl) (by kernel_rfl) (by kernel_rfl) (fun _ _ _ h => h) (by assumption) (Or.inl ⟨by kernel_rfl, ?_⟩) ?_
            rotate_left
            · intro wz hSw; (first | (go_simp; done) | (go_simp; with_reducible rfl))
            (try simp only [Act.put, List.getElem_toArray, List.getElem_cons_zero, List.getElem_cons_succ, List.setIfInBounds_toArray, List.set_cons_zero, List.set_cons_succ])
            refine held_take (fun _ => trivial) (by kernel_rfl) (i := 4) (oi := _) (v := ?_) rfl (by kernel_rfl) (by kernel_rfl) (by kernel_rfl) (fun _ _ _ h => h) (by assumption) (Or.inl ⟨by kernel_rfl, ?_⟩) ?_
            rotate_left
            · intro wz hSw; (first | (go_simp; done) | (go_simp; with_reducible rfl))
            (try simp only [Act.put, List.getElem_toArray, List.getElem_cons_zero, List.getElem_cons_succ, List.setIfInBounds_toArray, List.set_cons_zero, List.set_cons_succ])
            refine held_take (fun _ => trivial) (by kernel_rfl) (i := 5) (oi := _) (v := ?_) rfl (by kernel_rfl) (by kernel_rfl) (by kernel_rfl) (fun _ _ _ h => h) (by assumption) (Or.inl ⟨by kernel_rfl, ?_⟩) ?_
            rotate_left
            · intro wz hSw; (first | (go_simp; done) | (go_simp; with_reducible rfl))
            (try simp only [Act.put, List.getElem_toArray, List.getElem_cons_zero, List.getElem_cons_succ, List.setIfInBounds_toArray, List.set_cons_zero, List.set_cons_succ])
            refine held_take (fun _ => trivial) (by kernel_rfl) (i := 6) (oi := _) (v := ?_) rfl (by kernel_rfl) (by kernel_rfl) (by kernel_rfl) (fun _ _ _ h => h) (by assumption) (Or.inl ⟨by kernel_rfl, ?_⟩) ?_
            rotate_left
            · intro wz hSw; (first | (go_simp; done) | (go_simp; with_reducible rfl))
            (try simp only [Act.put, List.getElem_toArray, List.getElem_cons_zero, List.getElem_cons_succ, List.setIfInBounds_toArray, List.set_cons_zero, List.set_cons_succ])
            refine held_step2 (fun _ => trivial) (i := 7) (j := 8) (o := _) (o2 := _) (by kernel_rfl) rfl rfl (fun K hK => ?_) (fun K hK => ?_)
            · go_simp
              have hn7 : (y2.alloc (.cells #[.bool false, .int .u64 0, .int .u64 0, .int .u64 0, .int .u64 0, .int .u64 0, .int .u64 0, .int .u64 0, .int .u64 0, .int .u64 0, .int .u64 0, .int .u64 0, .int .u64 0, .int .u64 0, .int .u64 0, .int .u64 0, .int .u64 0, .int .u64 0, .int .u64 0, .int .u64 0, .int .u64 0] 27)).heap[y2.heap.size]? = _ := heap_alloc_new _ _
              have hv7 : x1.heap.size ≤ y2.heap.size := hHeld.size
              refine hK.out _ _ (hHeld.alloc hHeld.size _) (fun hHeld => ?_)
              clear hK K
              (try simp only [Act.put, List.getElem_toArray, List.getElem_cons_zero, List.getElem_cons_succ, List.setIfInBounds_toArray, List.set_cons_zero, List.set_cons_succ])
              refine held_step (fun _ => trivial) (i := 8) (o := _) (by kernel_rfl) rfl (fun K hK => ?_)
              go_simp
              have hn8 : ((y2.alloc (.cells #[.bool false, .int .u64 0, .int .u64 0, .int .u64 0, .int .u64 0, .int .u64 0, .int .u64 0, .int .u64 0, .int .u64 0, .int .u64 0, .int .u64 0, .int .u64 0, .int .u64 0, .int .u64 0, .int .u64 0, .int .u64 0, .int .u64 0, .int .u64 0, .int .u64 0, .int .u64 0, .int .u64 0] 27)).alloc (.cells #[.bool false, .int .u64 0, .int .u64 0, .int .u64 0, .int .u64 0, .int .u64 0, .int .u64 0, .int .u64 0, .int .u64 0, .int .u64 0, .int .u64 0, .int .u64 0, .int .u64 0, .int .u64 0, .int .u64 0, .int .u64 0, .int .u64 0, .int .u64 0, .int .u64 0, .int .u64 0, .int .u64 0] 27)).heap[y2.heap.size + 1]? = _ := heap_alloc2_new _ _ _
              have hv8 : x1.heap.size ≤ y2.heap.size + 1 := Nat.le_succ_of_le hv7
              have hlt : y2.heap.size < y2.heap.size + 1 := Nat.lt_succ_self _
              replace hn7 := step_row (o := (.cells #[.bool false, .int .u64 0, .int .u64 0, .int .u64 0, .int .u64 0, .int .u64 0, .int .u64 0, .int .u64 0, .int .u64 0, .int .u64 0, .int .u64 0, .int .u64 0, .int .u64 0, .int .u64 0, .int .u64 0, .int .u64 0, .int .u64 0, .int .u64 0, .int .u64 0, .int .u64 0, .int .u64 0] 27)) hn7
              refine hK.out _ _ (hHeld.alloc hHeld.size _) (fun hHeld => ?_)
              clear hK K
              (try simp only [Act.put, List.getElem_toArray, List.getElem_cons_zero, List.getElem_cons_succ, List.setIfInBounds_toArray, List.set_cons_zero, List.set_cons_succ])
              refine held_step (fun _ => trivial) (i := 9) (o := _) (by kernel_rfl) rfl (fun K hK => ?_)
              rw [if_pos (by kernel_rfl)]
              refine wpIn_store_row (fun _ => trivial) 27 (.tmp 6) (.tmp 29) (by kernel_rfl) (y2.heap.size) _ _ (bv (q : Int)) (by kernel_rfl) (by kernel_rfl) hn7 (bv_info _) (bv_same 0 _) (bv_one _) ?_
              refine hK.out _ _ (Below.row hHeld hv7 _) (fun hHeld => ?_)
              clear hK K
              (try simp only [Act.put, List.getElem_toArray, List.getElem_cons_zero, List.getElem_cons_succ, List.setIfInBounds_toArray, List.set_cons_zero, List.set_cons_succ])
              replace hn8 := (setRow_other _ _ _ (bv (q : Int)) (show y2.heap.size + 1 ≠ y2.heap.size by omega)).trans hn8
              replace hn7 : BigAt (y2.heap.size) (q : Int) _ := setRow_heap _ _ _ _ _ _ hn7
              refine held_step (fun _ => trivial) (i := 10) (o := _) (by kernel_rfl) rfl (fun K hK => ?_)
              rw [if_pos (by kernel_rfl)]
              refine wpIn_store_row (fun _ => trivial) 27 (.tmp 7) (.tmp 30) (by kernel_rfl) (y2.heap.size + 1) _ _ (bv (r : Int)) (by kernel_rfl) (by kernel_rfl) hn8 (bv_info _) (bv_same 0 _) (bv_one _) ?_
              refine hK.out _ _ (Below.row hHeld hv8 _) (fun hHeld => ?_)
              clear hK K
              (try simp only [Act.put, List.getElem_toArray, List.getElem_cons_zero, List.getElem_cons_succ, List.setIfInBounds_toArray, List.set_cons_zero, List.set_cons_succ])
              refine held_take (fun _ => trivial) (by kernel_rfl) (i := 11) (oi := _) (v := ?_) rfl (by kernel_rfl) (by kernel_rfl) (by kernel_rfl) (fun _ _ _ h => h) (by assumption) (Or.inl ⟨by kernel_rfl, ?_⟩) ?_
              rotate_left
              · intro wz hSw; (first | (go_simp; done) | (go_simp; with_reducible rfl))
              (try simp only [Act.put, List.getElem_toArray, List.getElem_cons_zero, List.getElem_cons_succ, List.setIfInBounds_toArray, List.set_cons_zero, List.set_cons_succ])
              refine held_done (by kernel_rfl) ?_ _
              exact HT (y2.heap.size) (y2.heap.size + 1) _ (BigAt.other hn7 (show y2.heap.size ≠ y2.heap.size + 1 by omega) _) (setRow_heap _ _ _ _ _ _ hn8) hHeld
            · go_simp
              have hn8 : (y2.alloc (.cells #[.bool false, .int .u64 0, .int .u64 0, .int .u64 0, .int .u64 0, .int .u64 0, .int .u64 0, .int .u64 0, .int .u64 0, .int .u64 0, .int .u64 0, .int .u64 0, .int .u64 0, .int .u64 0, .int .u64 0, .int .u64 0, .int .u64 0, .int .u64 0, .int .u64 0, .int .u64 0, .int .u64 0] 27)).heap[y2.heap.size]? = _ := heap_alloc_new _ _
              have hv8 : x1.heap.size ≤ y2.heap.size := hHeld.size
              refine hK.out _ _ (hHeld.alloc hHeld.size _) (fun hHeld => ?_)
              clear hK K
              (try simp only [Act.put, List.getElem_toArray, List.getElem_cons_zero, List.getElem_cons_succ, List.setIfInBounds_toArray, List.set_cons_zero, List.set_cons_succ])
              refine held_step (fun _ => trivial) (i := 7) (o := _) (by kernel_rfl) rfl (fun K hK => ?_)
              go_simp
              have hn7 : ((y2.alloc (.cells #[.bool false, .int .u64 0, .int .u64 0, .int .u64 0, .int .u64 0, .int .u64 0, .int .u64 0, .int .u64 0, .int .u64 0, .int .u64 0, .int .u64 0, .int .u64 0, .int .u64 0, .int .u64 0, .int .u64 0, .int .u64 0, .int .u64 0, .int .u64 0, .int .u64 0, .int .u64 0, .int .u64 0] 27)).alloc (.cells #[.bool false, .int .u64 0, .int .u64 0, .int .u64 0, .int .u64 0, .int .u64 0, .int .u64 0, .int .u64 0, .int .u64 0, .int .u64 0, .int .u64 0, .int .u64 0, .int .u64 0, .int .u64 0, .int .u64 0, .int .u64 0, .int .u64 0, .int .u64 0, .int .u64 0, .int .u64 0, .int .u64 0] 27)).heap[y2.heap.size + 1]? = _ := heap_alloc2_new _ _ _
              have hv7 : x1.heap.size ≤ y2.heap.size + 1 := Nat.le_succ_of_le hv8
              have hlt : y2.heap.size < y2.heap.size + 1 := Nat.lt_succ_self _
              replace hn8 := step_row (o := (.cells #[.bool false, .int .u64 0, .int .u64 0, .int .u64 0, .int .u64 0, .int .u64 0, .int .u64 0, .int .u64 0, .int .u64 0, .int .u64 0, .int .u64 0, .int .u64 0, .int .u64 0, .int .u64 0, .int .u64 0, .int .u64 0, .int .u64 0, .int .u64 0, .int .u64 0, .int .u64 0, .int .u64 0] 27)) hn8
              refine hK.out _ _ (hHeld.alloc hHeld.size _) (fun hHeld => ?_)
              clear hK K
              (try simp only [Act.put, List.getElem_toArray, List.getElem_cons_zero, List.getElem_cons_succ, List.setIfInBounds_toArray, List.set_cons_zero, List.set_cons_succ])
              refine held_step (fun _ => trivial) (i := 9) (o := _) (by kernel_rfl) rfl (fun K hK => ?_)
              rw [if_pos (by kernel_rfl)]
              refine wpIn_store_row (fun _ => trivial) 27 (.tmp 6) (.tmp 29) (by kernel_rfl) (y2.heap.size + 1) _ _ (bv (q : Int)) (by kernel_rfl) (by kernel_rfl) hn7 (bv_info _) (bv_same 0 _) (bv_one _) ?_
              refine hK.out _ _ (Below.row hHeld hv7 _) (fun hHeld => ?_)
              clear hK K
              (try simp only [Act.put, List.getElem_toArray, List.getElem_cons_zero, List.getElem_cons_succ, List.setIfInBounds_toArray, List.set_cons_zero, List.set_cons_succ])
              replace hn8 := (setRow_other _ _ _ (bv (q : Int)) (show y2.heap.size ≠ y2.heap.size + 1 by omega)).trans hn8
              replace hn7 : BigAt (y2.heap.size + 1) (q : Int) _ := setRow_heap _ _ _ _ _ _ hn7
              refine held_step (fun _ => trivial) (i := 10) (o := _) (by kernel_rfl) rfl (fun K hK => ?_)
              rw [if_pos (by kernel_rfl)]
              refine wpIn_store_row (fun _ => trivial) 27 (.tmp 7) (.tmp 30) (by kernel_rfl) (y2.heap.size) _ _ (bv (r : Int)) (by kernel_rfl) (by kernel_rfl) hn8 (bv_info _) (bv_same 0 _) (bv_one _) ?_
              refine hK.out _ _ (Below.row hHeld hv8 _) (fun hHeld => ?_)
              clear hK K
              (try simp only [Act.put, List.getElem_toArray, List.getElem_cons_zero, List.getElem_cons_succ, List.setIfInBounds_toArray, List.set_cons_zero, List.set_cons_succ])
              refine held_take (fun _ => trivial) (by kernel_rfl) (i := 11) (oi := _) (v := ?_) rfl (by kernel_rfl) (by kernel_rfl) (by kernel_rfl) (fun _ _ _ h => h) (by assumption) (Or.inl ⟨by kernel_rfl, ?_⟩) ?_
              rotate_left
              · intro wz hSw; (first | (go_simp; done) | (go_simp; with_reducible rfl))
              (try simp only [Act.put, List.getElem_toArray, List.getElem_cons_zero, List.getElem_cons_succ, List.setIfInBounds_toArray, List.set_cons_zero, List.set_cons_succ])
              refine held_done (by kernel_rfl) ?_ _
              exact HT (y2.heap.size + 1) (y2.heap.size) _ (BigAt.other hn7 (show y2.heap.size + 1 ≠ y2.heap.size by omega) _) (setRow_heap _ _ _ _ _ _ hn8) hHeld
          · go_simp
            have hn7 : (y1.alloc (.cells #[.bool false, .int .u64 0, .int .u64 0, .int .u64 0, .int .u64 0, .int .u64 0, .int .u64 0, .int .u64 0, .int .u64 0, .int .u64 0, .int .u64 0, .int .u64 0, .int .u64 0, .int .u64 0, .int .u64 0, .int .u64 0, .int .u64 0, .int .u64 0, .int .u64 0, .int .u64 0, .int .u64 0] 27)).heap[y1.heap.size]? = _ := heap_alloc_new _ _
            have hv7 : x1.heap.size ≤ y1.heap.size := hHeld.size
            refine hK.out _ _ (hHeld.alloc hHeld.size _) (fun hHeld => ?_)
            clear hK K
            (try simp only [Act.put, List.getElem_toArray, List.getElem_cons_zero, List.getElem_cons_succ, List.setIfInBounds_toArray, List.set_cons_zero, List.set_cons_succ])
            refine held_step2 (fun _ => trivial) (i := 2) (j := 8) (o := _) (o2 := _) (by kernel_rfl) rfl rfl (fun K hK => ?_) (fun K hK => ?_)
            · go_simp
              refine ⟨trivial, callsIn_wide.2 ((cD.out _).mono ?_)⟩
              rintro e y2 ⟨rfl, hc2⟩
              dsimp only
              replace hn7 := keep_row hc2 hn7
              refine hK.out _ _ (bnext hHeld hc2) (fun hHeld => ?_)
              clear hK K
              (try simp only [Act.put, List.getElem_toArray, List.getElem_cons_zero, List.getElem_cons_succ, List.setIfInBounds_toArray, List.set_cons_zero, List.set_cons_succ])
              refine held_take (fun _ => trivial) (by kernel_rfl) (i := 3) (oi := _) (v := ?_) rfl (by kernel_rfl) (by kernel_rfl) (by kernel_rfl) (fun _ _ _ h => h) (by assumption) (Or.inl ⟨by kernel_rfl, ?_⟩) ?_
              rotate_left
              · intro wz hSw; (first | (go_simp; done) | (go_simp; with_reducible rfl))
              (try simp only [Act.put, List.getElem_toArray, List.getElem_cons_zero, List.getElem_cons_succ, List.setIfInBounds_toArray, List.set_cons_zero, List.set_cons_succ])
              refine held_take (fun _ => trivial) (by kernel_rfl) (i := 4) (oi := _) (v := ?_) rfl (by kernel_rfl) (by kernel_rfl) (by kernel_rfl) (fun _ _ _ h => h) (by assumption) (Or.inl ⟨by kernel_rfl, ?_⟩) ?_
              rotate_left
              · intro wz hSw; (first | (go_simp; done) | (go_simp; with_reducible rfl))
              (try simp only [Act.put, List.getElem_toArray, List.getElem_cons_zero, List.getElem_cons_succ, List.setIfInBounds_toArray, List.set_cons_zero, List.set_cons_succ])
              refine held_take (fun _ => trivial) (by kernel_rfl) (i := 5) (oi := _) (v := ?_) rfl (by kernel_rfl) (by kernel_rfl) (by kernel_rfl) (fun _ _ _ h => h) (by assumption) (Or.inl ⟨by kernel_rfl, ?_⟩) ?_
              rotate_left
              · intro wz hSw; (first | (go_simp; done) | (go_simp; with_reducible rfl))
              (try simp only [Act.put, List.getElem_toArray, List.getElem_cons_zero, List.getElem_cons_succ, List.setIfInBounds_toArray, List.set_cons_zero, List.set_cons_succ])
              refine held_take (fun _ => trivial) (by kernel_rfl) (i := 6) (oi := _) (v := ?_) rfl (by kernel_rfl) (by kernel_rfl) (by kernel_rfl) (fun _ _ _ h => h) (by assumption) (Or.inl ⟨by kernel_rfl, ?_⟩) ?_
              rotate_left
              · intro wz hSw; (first | (go_simp; done) | (go_simp; with_reducible rfl))
              (try simp only [Act.put, List.getElem_toArray, List.getElem_cons_zero, List.getElem_cons_succ, List.setIfInBounds_toArray, List.set_cons_zero, List.set_cons_succ])
              refine held_step (fun _ => trivial) (i := 8) (o := _) (by kernel_rfl) rfl (fun K hK => ?_)
              go_simp
              have hn8 : (y2.alloc (.cells #[.bool false, .int .u64 0, .int .u64 0, .int .u64 0, .int .u64 0, .int .u64 0, .int .u64 0, .int .u64 0, .int .u64 0, .int .u64 0, .int .u64 0, .int .u64 0, .int .u64 0, .int .u64 0, .int .u64 0, .int .u64 0, .int .u64 0, .int .u64 0, .int .u64 0, .int .u64 0, .int .u64 0] 27)).heap[y2.heap.size]? = _ := heap_alloc_new _ _
              have hv8 : x1.heap.size ≤ y2.heap.size := hHeld.size
              have hlt : y1.heap.size < y2.heap.size := (Array.getElem?_eq_some_iff.1 hn7).1
              replace hn7 := step_row (o := (.cells #[.bool false, .int .u64 0, .int .u64 0, .int .u64 0, .int .u64 0, .int .u64 0, .int .u64 0, .int .u64 0, .int .u64 0, .int .u64 0, .int .u64 0, .int .u64 0, .int .u64 0, .int .u64 0, .int .u64 0, .int .u64 0, .int .u64 0, .int .u64 0, .int .u64 0, .int .u64 0, .int .u64 0] 27)) hn7
              refine hK.out _ _ (hHeld.alloc hHeld.size _) (fun hHeld => ?_)
              clear hK K
              (try simp only [Act.put, List.getElem_toArray, List.getElem_cons_zero, List.getElem_cons_succ, List.setIfInBounds_toArray, List.set_cons_zero, List.set_cons_succ])
              refine held_step (fun _ => trivial) (i := 9) (o := _) (by kernel_rfl) rfl (fun K hK => ?_)
              rw [if_pos (by kernel_rfl)]
              refine wpIn_store_row (fun _ => trivial) 27 (.tmp 6) (.tmp 29) (by kernel_rfl) (y1.heap.size) _ _ (bv (q : Int)) (by kernel_rfl) (by kernel_rfl) hn7 (bv_info _) (bv_same 0 _) (bv_one _) ?_
              refine hK.out _ _ (Below.row hHeld hv7 _) (fun hHeld => ?_)
              clear hK K
              (try simp only [Act.put, List.getElem_toArray, List.getElem_cons_zero, List.getElem_cons_succ, List.setIfInBounds_toArray, List.set_cons_zero, List.set_cons_succ])
              replace hn8 := (setRow_other _ _ _ (bv (q : Int)) (show y2.heap.size ≠ y1.heap.size by omega)).trans hn8
              replace hn7 : BigAt (y1.heap.size) (q : Int) _ := setRow_heap _ _ _ _ _ _ hn7
              refine held_step (fun _ => trivial) (i := 10) (o := _) (by kernel_rfl) rfl (fun K hK => ?_)
              rw [if_pos (by kernel_rfl)]
              refine wpIn_store_row (fun _ => trivial) 27 (.tmp 7) (.tmp 30) (by kernel_rfl) (y2.heap.size) _ _ (bv (r : Int)) (by kernel_rfl) (by kernel_rfl) hn8 (bv_info _) (bv_same 0 _) (bv_one _) ?_
              refine hK.out _ _ (Below.row hHeld hv8 _) (fun hHeld => ?_)
              clear hK K
              (try simp only [Act.put, List.getElem_toArray, List.getElem_cons_zero, List.getElem_cons_succ, List.setIfInBounds_toArray, List.set_cons_zero, List.set_cons_succ])
              refine held_take (fun _ => trivial) (by kernel_rfl) (i := 11) (oi := _) (v := ?_) rfl (by kernel_rfl) (by kernel_rfl) (by kernel_rfl) (fun _ _ _ h => h) (by assumption) (Or.inl ⟨by kernel_rfl, ?_⟩) ?_
              rotate_left
              · intro wz hSw; (first | (go_simp; done) | (go_simp; with_reducible rfl))
              (try simp only [Act.put, List.getElem_toArray, List.getElem_cons_zero, List.getElem_cons_succ, List.setIfInBounds_toArray, List.set_cons_zero, List.set_cons_succ])
              refine held_done (by kernel_rfl) ?_ _
              exact HT (y1.heap.size) (y2.heap.size) _ (BigAt.other hn7 (show y1.heap.size ≠ y2.heap.size by omega) _) (setRow_heap _ _ _ _ _ _ hn8) hHeld
            · go_simp
              have hn8 : ((y1.alloc (.cells #[.bool false, .int .u64 0, .int .u64 0, .int .u64 0, .int .u64 0, .int .u64 0, .int .u64 0, .int .u64 0, .int .u64 0, .int .u64 0, .int .u64 0, .int .u64 0, .int .u64 0, .int .u64 0, .int .u64 0, .int .u64 0, .int .u64 0, .int .u64 0, .int .u64 0, .int .u64 0, .int .u64 0] 27)).alloc (.cells #[.bool false, .int .u64 0, .int .u64 0, .int .u64 0, .int .u64 0, .int .u64 0, .int .u64 0, .int .u64 0, .int .u64 0, .int .u64 0, .int .u64 0, .int .u64 0, .int .u64 0, .int .u64 0, .int .u64 0, .int .u64 0, .int .u64 0, .int .u64 0, .int .u64 0, .int .u64 0, .int .u64 0] 27)).heap[y1.heap.size + 1]? = _ := heap_alloc2_new _ _ _
              have hv8 : x1.heap.size ≤ y1.heap.size + 1 := Nat.le_succ_of_le hv7
              have hlt : y1.heap.size < y1.heap.size + 1 := Nat.lt_succ_self _
              replace hn7 := step_row (o := (.cells #[.bool false, .int .u64 0, .int .u64 0, .int .u64 0, .int .u64 0, .int .u64 0, .int .u64 0, .int .u64 0, .int .u64 0, .int .u64 0, .int .u64 0, .int .u64 0, .int .u64 0, .int .u64 0, .int .u64 0, .int .u64 0, .int .u64 0, .int .u64 0, .int .u64 0, .int .u64 0, .int .u64 0] 27)) hn7
              refine hK.out _ _ (hHeld.alloc hHeld.size _) (fun hHeld => ?_)
              clear hK K
              (try simp only [Act.put, List.getElem_toArray, List.getElem_cons_zero, List.getElem_cons_succ, List.setIfInBounds_toArray, List.set_cons_zero, List.set_cons_succ])
              refine held_step (fun _ => trivial) (i := 2) (o := _) (by kernel_rfl) rfl (fun K hK => ?_)
              go_simp
              refine ⟨trivial, callsIn_wide.2 ((cD.out _).mono ?_)⟩
              rintro e y2 ⟨rfl, hc2⟩
              dsimp only
              replace hn7 := keep_row hc2 hn7; replace hn8 := keep_row hc2 hn8
              refine hK.out _ _ (bnext hHeld hc2) (fun hHeld => ?_)
              clear hK K
              (try simp only [Act.put, List.getElem_toArray, List.getElem_cons_zero, List.getElem_cons_succ, List.setIfInBounds_toArray, List.set_cons_zero, List.set_cons_succ])
              refine held_take (fun _ => trivial) (by kernel_rfl) (i := 3) (oi := _) (v := ?_) rfl (by kernel_rfl) (by kernel_rfl) (by kernel_rfl) (fun _ _ _ h => h) (by assumption) (Or.inl ⟨by kernel_rfl, ?_⟩) ?_
              rotate_left
              · intro wz hSw; (first | (go_simp; done) | (go_simp; with_reducible rfl))
              (try simp only [Act.put, List.getElem_toArray, List.getElem_cons_zero, List.getElem_cons_succ, List.setIfInBounds_toArray, List.set_cons_zero, List.set_cons_succ])
              refine held_take (fun _ => trivial) (by kernel_rfl) (i := 4) (oi := _) (v := ?_) rfl (by kernel_rfl) (by kernel_rfl) (by kernel_rfl) (fun _ _ _ h => h) (by assumption) (Or.inl ⟨by kernel_rfl, ?_⟩) ?_
              rotate_left
              · intro wz hSw; (first | (go_simp; done) | (go_simp; with_reducible rfl))
              (try simp only [Act.put, List.getElem_toArray, List.getElem_cons_zero, List.getElem_cons_succ, List.setIfInBounds_toArray, List.set_cons_zero, List.set_cons_succ])
              refine held_take (fun _ => trivial) (by kernel_rfl) (i := 5) (oi := _) (v := ?_) rfl (by kernel_rfl) (by kernel_rfl) (by kernel_rfl) (fun _ _ _ h => h) (by assumption) (Or.inl ⟨by kernel_rfl, ?_⟩) ?_
              rotate_left
              · intro wz hSw; (first | (go_simp; done) | (go_simp; with_reducible rfl))
              (try simp only [Act.put, List.getElem_toArray, List.getElem_cons_zero, List.getElem_cons_succ, List.setIfInBounds_toArray, List.set_cons_zero, List.set_cons_succ])
              refine held_take (fun _ => trivial) (by kernel_rfl) (i := 6) (oi := _) (v := ?_) rfl (by kernel_rfl) (by kernel_rfl) (by kernel_rfl) (fun _ _ _ h => h) (by assumption) (Or.inl ⟨by kernel_rfl, ?_⟩) ?_
              rotate_left
              · intro wz hSw; (first | (go_simp; done) | (go_simp; with_reducible rfl))
              (try simp only [Act.put, List.getElem_toArray, List.getElem_cons_zero, List.getElem_cons_succ, List.setIfInBounds_toArray, List.set_cons_zero, List.set_cons_succ])
              refine held_step (fun _ => trivial) (i := 9) (o := _) (by kernel_rfl) rfl (fun K hK => ?_)
              rw [if_pos (by kernel_rfl)]
              refine wpIn_store_row (fun _ => trivial) 27 (.tmp 6) (.tmp 29) (by kernel_rfl) (y1.heap.size) _ _ (bv (q : Int)) (by kernel_rfl) (by kernel_rfl) hn7 (bv_info _) (bv_same 0 _) (bv_one _) ?_
              refine hK.out _ _ (Below.row hHeld hv7 _) (fun hHeld => ?_)
              clear hK K
              (try simp only [Act.put, List.getElem_toArray, List.getElem_cons_zero, List.getElem_cons_succ, List.setIfInBounds_toArray, List.set_cons_zero, List.set_cons_succ])
              replace hn8 := (setRow_other _ _ _ (bv (q : Int)) (show y1.heap.size + 1 ≠ y1.heap.size by omega)).trans hn8
              replace hn7 : BigAt (y1.heap.size) (q : Int) _ := setRow_heap _ _ _ _ _ _ hn7
              refine held_step (fun _ => trivial) (i := 10) (o := _) (by kernel_rfl) rfl (fun K hK => ?_)
              rw [if_pos (by kernel_rfl)]
              refine wpIn_store_row (fun _ => trivial) 27 (.tmp 7) (.tmp 30) (by kernel_rfl) (y1.heap.size + 1) _ _ (bv (r : Int)) (by kernel_rfl) (by kernel_rfl) hn8 (bv_info _) (bv_same 0 _) (bv_one _) ?_
              refine hK.out _ _ (Below.row hHeld hv8 _) (fun hHeld => ?_)
              clear hK K
              (try simp only [Act.put, List.getElem_toArray, List.getElem_cons_zero, List.getElem_cons_succ, List.setIfInBounds_toArray, List.set_cons_zero, List.set_cons_succ])
              refine held_take (fun _ => trivial) (by kernel_rfl) (i := 11) (oi := _) (v := ?_) rfl (by kernel_rfl) (by kernel_rfl) (by kernel_rfl) (fun _ _ _ h => h) (by assumption) (Or.inl ⟨by kernel_rfl, ?_⟩) ?_
              rotate_left
              · intro wz hSw; (first | (go_simp; done) | (go_simp; with_reducible rfl))
              (try simp only [Act.put, List.getElem_toArray, List.getElem_cons_zero, List.getElem_cons_succ, List.setIfInBounds_toArray, List.set_cons_zero, List.set_cons_succ])
              refine held_done (by kernel_rfl) ?_ _
              exact HT (y1.heap.size) (y1.heap.size + 1) _ (BigAt.other hn7 (show y1.heap.size ≠ y1.heap.size + 1 by omega) _) (setRow_heap _ _ _ _ _ _ hn8) hHeld
          · go_simp
            have hn8 : (y1.alloc (.cells #[.bool false, .int .u64 0, .int .u64 0, .int .u64 0, .int .u64 0, .int .u64 0, .int .u64 0, .int .u64 0, .int .u64 0, .int .u64 0, .int .u64 0, .int .u64 0, .int .u64 0, .int .u64 0, .int .u64 0, .int .u64 0, .int .u64 0, .int .u64 0, .int .u64 0, .int .u64 0, .int .u64 0] 27)).heap[y1.heap.size]? = _ := heap_alloc_new _ _
            have hv8 : x1.heap.size ≤ y1.heap.size := hHeld.size
            refine hK.out _ _ (hHeld.alloc hHeld.size _) (fun hHeld => ?_)
            clear hK K
            (try simp only [Act.put, List.getElem_toArray, List.getElem_cons_zero, List.getElem_cons_succ, List.setIfInBounds_toArray, List.set_cons_zero, List.set_cons_succ])
            refine held_step2 (fun _ => trivial) (i := 2) (j := 7) (o := _) (o2 := _) (by kernel_rfl) rfl rfl (fun K hK => ?_) (fun K hK => ?_)
            · go_simp
              refine ⟨trivial, callsIn_wide.2 ((cD.out _).mono ?_)⟩
              rintro e y2 ⟨rfl, hc2⟩
              dsimp only
              replace hn8 := keep_row hc2 hn8
              refine hK.out _ _ (bnext hHeld hc2) (fun hHeld => ?_)
              clear hK K
              (try simp only [Act.put, List.getElem_toArray, List.getElem_cons_zero, List.getElem_cons_succ, List.setIfInBounds_toArray, List.set_cons_zero, List.set_cons_succ])
              refine held_take (fun _ => trivial) (by kernel_rfl) (i := 3) (oi := _) (v := ?_) rfl (by kernel_rfl) (by kernel_rfl) (by kernel_rfl) (fun _ _ _ h => h) (by assumption) (Or.inl ⟨by kernel_rfl, ?_⟩) ?_
              rotate_left
              · intro wz hSw; (first | (go_simp; done) | (go_simp; with_reducible rfl))
              (try simp only [Act.put, List.getElem_toArray, List.getElem_cons_zero, List.getElem_cons_succ, List.setIfInBounds_toArray, List.set_cons_zero, List.set_cons_succ])
              refine held_take (fun _ => trivial) (by kernel_rfl) (i := 4) (oi := _) (v := ?_) rfl (by kernel_rfl) (by kernel_rfl) (by kernel_rfl) (fun _ _ _ h => h) (by assumption) (Or.inl ⟨by kernel_rfl, ?_⟩) ?_
              rotate_left
              · intro wz hSw; (first | (go_simp; done) | (go_simp; with_reducible rfl))
              (try simp only [Act.put, List.getElem_toArray, List.getElem_cons_zero, List.getElem_cons_succ, List.setIfInBounds_toArray, List.set_cons_zero, List.set_cons_succ])
              refine held_take (fun _ => trivial) (by kernel_rfl) (i := 5) (oi := _) (v := ?_) rfl (by kernel_rfl) (by kernel_rfl) (by kernel_rfl) (fun _ _ _ h => h) (by assumption) (Or.inl ⟨by kernel_rfl, ?_⟩) ?_
              rotate_left
              · intro wz hSw; (first | (go_simp; done) | (go_simp; with_reducible rfl))
              (try simp only [Act.put, List.getElem_toArray, List.getElem_cons_zero, List.getElem_cons_succ, List.setIfInBounds_toArray, List.set_cons_zero, List.set_cons_succ])
              refine held_take (fun _ => trivial) (by kernel_rfl) (i := 6) (oi := _) (v := ?_) rfl (by kernel_rfl) (by kernel_rfl) (by kernel_rfl) (fun _ _ _ h => h) (by assumption) (Or.inl ⟨by kernel_rfl, ?_⟩) ?_
              rotate_left
              · intro wz hSw; (first | (go_simp; done) | (go_simp; with_reducible rfl))
              (try simp only [Act.put, List.getElem_toArray, List.getElem_cons_zero, List.getElem_cons_succ, List.setIfInBounds_toArray, List.set_cons_zero, List.set_cons_succ])
              refine held_step (fun _ => trivial) (i := 7) (o := _) (by kernel_rfl) rfl (fun K hK => ?_)
              go_simp
              have hn7 : (y2.alloc (.cells #[.bool false, .int .u64 0, .int .u64 0, .int .u64 0, .int .u64 0, .int .u64 0, .int .u64 0, .int .u64 0, .int .u64 0, .int .u64 0, .int .u64 0, .int .u64 0, .int .u64 0, .int .u64 0, .int .u64 0, .int .u64 0, .int .u64 0, .int .u64 0, .int .u64 0, .int .u64 0, .int .u64 0] 27)).heap[y2.heap.size]? = _ := heap_alloc_new _ _
              have hv7 : x1.heap.size ≤ y2.heap.size := hHeld.size
              have hlt : y1.heap.size < y2.heap.size := (Array.getElem?_eq_some_iff.1 hn8).1
              replace hn8 := step_row (o := (.cells #[.bool false, .int .u64 0, .int .u64 0, .int .u64 0, .int .u64 0, .int .u64 0, .int .u64 0, .int .u64 0, .int .u64 0, .int .u64 0, .int .u64 0, .int .u64 0, .int .u64 0, .int .u64 0, .int .u64 0, .int .u64 0, .int .u64 0, .int .u64 0, .int .u64 0, .int .u64 0, .int .u64 0] 27)) hn8
              refine hK.out _ _ (hHeld.alloc hHeld.size _) (fun hHeld => ?_)
              clear hK K
              (try simp only [Act.put, List.getElem_toArray, List.getElem_cons_zero, List.getElem_cons_succ, List.setIfInBounds_toArray, List.set_cons_zero, List.set_cons_succ])
              refine held_step (fun _ => trivial) (i := 9) (o := _) (by kernel_rfl) rfl (fun K hK => ?_)
              rw [if_pos (by kernel_rfl)]
              refine wpIn_store_row (fun _ => trivial) 27 (.tmp 6) (.tmp 29) (by kernel_rfl) (y2.heap.size) _ _ (bv (q : Int)) (by kernel_rfl) (by kernel_rfl) hn7 (bv_info _) (bv_same 0 _) (bv_one _) ?_
              refine hK.out _ _ (Below.row hHeld hv7 _) (fun hHeld => ?_)
              clear hK K
              (try simp only [Act.put, List.getElem_toArray, List.getElem_cons_zero, List.getElem_cons_succ, List.setIfInBounds_toArray, List.set_cons_zero, List.set_cons_succ])
              replace hn8 := (setRow_other _ _ _ (bv (q : Int)) (show y1.heap.size ≠ y2.heap.size by omega)).trans hn8
              replace hn7 : BigAt (y2.heap.size) (q : Int) _ := setRow_heap _ _ _ _ _ _ hn7
              refine held_step (fun _ => trivial) (i := 10) (o := _) (by kernel_rfl) rfl (fun K hK => ?_)
              rw [if_pos (by kernel_rfl)]
              refine wpIn_store_row (fun _ => trivial) 27 (.tmp 7) (.tmp 30) (by kernel_rfl) (y1.heap.size) _ _ (bv (r : Int)) (by kernel_rfl) (by kernel_rfl) hn8 (bv_info _) (bv_same 0 _) (bv_one _) ?_
              refine hK.out _ _ (Below.row hHeld hv8 _) (fun hHeld => ?_)
              clear hK K
              (try simp only [Act.put, List.getElem_toArray, List.getElem_cons_zero, List.getElem_cons_succ, List.setIfInBounds_toArray, List.set_cons_zero, List.set_cons_succ])
              refine held_take (fun _ => trivial) (by kernel_rfl) (i := 11) (oi := _) (v := ?_) rfl (by kernel_rfl) (by kernel_rfl) (by kernel_rfl) (fun _ _ _ h => h) (by assumption) (Or.inl ⟨by kernel_rfl, ?_⟩) ?_
              rotate_left
              · intro wz hSw; (first | (go_simp; done) | (go_simp; with_reducible rfl))
              (try simp only [Act.put, List.getElem_toArray, List.getElem_cons_zero, List.getElem_cons_succ, List.setIfInBounds_toArray, List.set_cons_zero, List.set_cons_succ])
              refine held_done (by kernel_rfl) ?_ _
              exact HT (y2.heap.size) (y1.heap.size) _ (BigAt.other hn7 (show y2.heap.size ≠ y1.heap.size by omega) _) (setRow_heap _ _ _ _ _ _ hn8) hHeld
            · go_simp
              have hn7 : ((y1.alloc (.cells #[.bool false, .int .u64 0, .int .u64 0, .int .u64 0, .int .u64 0, .int .u64 0, .int .u64 0, .int .u64 0, .int .u64 0, .int .u64 0, .int .u64 0, .int .u64 0, .int .u64 0, .int .u64 0, .int .u64 0, .int .u64 0, .int .u64 0, .int .u64 0, .int .u64 0, .int .u64 0, .int .u64 0] 27)).alloc (.cells #[.bool false, .int .u64 0, .int .u64 0, .int .u64 0, .int .u64 0, .int .u64 0, .int .u64 0, .int .u64 0, .int .u64 0, .int .u64 0, .int .u64 0, .int .u64 0, .int .u64 0, .int .u64 0, .int .u64 0, .int .u64 0, .int .u64 0, .int .u64 0, .int .u64 0, .int .u64 0, .int .u64 0] 27)).heap[y1.heap.size + 1]? = _ := heap_alloc2_new _ _ _
              have hv7 : x1.heap.size ≤ y1.heap.size + 1 := Nat.le_succ_of_le hv8
              have hlt : y1.heap.size < y1.heap.size + 1 := Nat.lt_succ_self _
              replace hn8 := step_row (o := (.cells #[.bool false, .int .u64 0, .int .u64 0, .int .u64 0, .int .u64 0, .int .u64 0, .int .u64 0, .int .u64 0, .int .u64 0, .int .u64 0, .int .u64 0, .int .u64 0, .int .u64 0, .int .u64 0, .int .u64 0, .int .u64 0, .int .u64 0, .int .u64 0, .int .u64 0, .int .u64 0, .int .u64 0] 27)) hn8
              refine hK.out _ _ (hHeld.alloc hHeld.size _) (fun hHeld => ?_)
              clear hK K
              (try simp only [Act.put, List.getElem_toArray, List.getElem_cons_zero, List.getElem_cons_succ, List.setIfInBounds_toArray, List.set_cons_zero, List.set_cons_succ])
              refine held_step (fun _ => trivial) (i := 2) (o := _) (by kernel_rfl) rfl (fun K hK => ?_)
              go_simp
              refine ⟨trivial, callsIn_wide.2 ((cD.out _).mono ?_)⟩
              rintro e y2 ⟨rfl, hc2⟩
              dsimp only
              replace hn8 := keep_row hc2 hn8; replace hn7 := keep_row hc2 hn7
              refine hK.out _ _ (bnext hHeld hc2) (fun hHeld => ?_)
              clear hK K
              (try simp only [Act.put, List.getElem_toArray, List.getElem_cons_zero, List.getElem_cons_succ, List.setIfInBounds_toArray, List.set_cons_zero, List.set_cons_succ])
              refine held_take (fun _ => trivial) (by kernel_rfl) (i := 3) (oi := _) (v := ?_) rfl (by kernel_rfl) (by kernel_rfl) (by kernel_rfl) (fun _ _ _ h => h) (by assumption) (Or.inl ⟨by kernel_rfl, ?_⟩) ?_
              rotate_left
              · intro wz hSw; (first | (go_simp; done) | (go_simp; with_reducible rfl))
              (try simp only [Act.put, List.getElem_toArray, List.getElem_cons_zero, List.getElem_cons_succ, List.setIfInBounds_toArray, List.set_cons_zero, List.set_cons_succ])
              refine held_take (fun _ => trivial) (by kernel_rfl) (i := 4) (oi := _) (v := ?_) rfl (by kernel_rfl) (by kernel_rfl) (by kernel_rfl) (fun _ _ _ h => h) (by assumption) (Or.inl ⟨by kernel_rfl, ?_⟩) ?_
              rotate_left
              · intro wz hSw; (first | (go_simp; done) | (go_simp; with_reducible rfl))
              (try simp only [Act.put, List.getElem_toArray, List.getElem_cons_zero, List.getElem_cons_succ, List.setIfInBounds_toArray, List.set_cons_zero, List.set_cons_succ])
              refine held_take (fun _ => trivial) (by kernel_rfl) (i := 5) (oi := _) (v := ?_) rfl (by kernel_rfl) (by kernel_rfl) (by kernel_rfl) (fun _ _ _ h => h) (by assumption) (Or.inl ⟨by kernel_rfl, ?_⟩) ?_
              rotate_left
              · intro wz hSw; (first | (go_simp; done) | (go_simp; with_reducible rfl))
              (try simp only [Act.put, List.getElem_toArray, List.getElem_cons_zero, List.getElem_cons_succ, List.setIfInBounds_toArray, List.set_cons_zero, List.set_cons_succ])
              refine held_take (fun _ => trivial) (by kernel_rfl) (i := 6) (oi := _) (v := ?_) rfl (by kernel_rfl) (by kernel_rfl) (by kernel_rfl) (fun _ _ _ h => h) (by assumption) (Or.inl ⟨by kernel_rfl, ?_⟩) ?_
              rotate_left
              · intro wz hSw; (first | (go_simp; done) | (go_simp; with_reducible rfl))
              (try simp only [Act.put, List.getElem_toArray, List.getElem_cons_zero, List.getElem_cons_succ, List.setIfInBounds_toArray, List.set_cons_zero, List.set_cons_succ])
              refine held_step (fun _ => trivial) (i := 9) (o := _) (by kernel_rfl) rfl (fun K hK => ?_)
              rw [if_pos (by kernel_rfl)]
              refine wpIn_store_row (fun _ => trivial) 27 (.tmp 6) (.tmp 29) (by kernel_rfl) (y1.heap.size + 1) _ _ (bv (q : Int)) (by kernel_rfl) (by kernel_rfl) hn7 (bv_info _) (bv_same 0 _) (bv_one _) ?_
              refine hK.out _ _ (Below.row hHeld hv7 _) (fun hHeld => ?_)
              clear hK K
              (try simp only [Act.put, List.getElem_toArray, List.getElem_cons_zero, List.getElem_cons_succ, List.setIfInBounds_toArray, List.set_cons_zero, List.set_cons_succ])
              replace hn8 := (setRow_other _ _ _ (bv (q : Int)) (show y1.heap.size ≠ y1.heap.size + 1 by omega)).trans hn8
              replace hn7 : BigAt (y1.heap.size + 1) (q : Int) _ := setRow_heap _ _ _ _ _ _ hn7
              refine held_step (fun _ => trivial) (i := 10) (o := _) (by kernel_rfl) rfl (fun K hK => ?_)
              rw [if_pos (by kernel_rfl)]
              refine wpIn_store_row (fun _ => trivial) 27 (.tmp 7) (.tmp 30) (by kernel_rfl) (y1.heap.size) _ _ (bv (r : Int)) (by kernel_rfl) (by kernel_rfl) hn8 (bv_info _) (bv_same 0 _) (bv_one _) ?_
              refine hK.out _ _ (Below.row hHeld hv8 _) (fun hHeld => ?_)
              clear hK K
              (try simp only [Act.put, List.getElem_toArray, List.getElem_cons_zero, List.getElem_cons_succ, List.setIfInBounds_toArray, List.set_cons_zero, List.set_cons_succ])
              refine held_take (fun _ => trivial) (by kernel_rfl) (i := 11) (oi := _) (v := ?_) rfl (by kernel_rfl) (by kernel_rfl) (by kernel_rfl) (fun _ _ _ h => h) (by assumption) (Or.inl ⟨by kernel_rfl, ?_⟩) ?_
              rotate_left
              · intro wz hSw; (first | (go_simp; done) | (go_simp; with_reducible rfl))
              (try simp only [Act.put, List.getElem_toArray, List.getElem_cons_zero, List.getElem_cons_succ, List.setIfInBounds_toArray, List.set_cons_zero, List.set_cons_succ])
              refine held_done (by kernel_rfl) ?_ _
              exact HT (y1.heap.size + 1) (y1.heap.size) _ (BigAt.other hn7 (show y1.heap.size + 1 ≠ y1.heap.size by omega) _) (setRow_heap _ _ _ _ _ _ hn8) hHeld
        · go_simp
          have hn7 : (x1.drew.alloc (.cells #[.bool false, .int .u64 0, .int .u64 0, .int .u64 0, .int .u64 0, .int .u64 0, .int .u64 0, .int .u64 0, .int .u64 0, .int .u64 0, .int .u64 0, .int .u64 0, .int .u64 0, .int .u64 0, .int .u64 0, .int .u64 0, .int .u64 0, .int .u64 0, .int .u64 0, .int .u64 0, .int .u64 0] 27)).heap[x1.drew.heap.size]? = _ := heap_alloc_new _ _
          have hv7 : x1.heap.size ≤ x1.drew.heap.size := hHeld.size
          refine hK.out _ _ (hHeld.alloc hHeld.size _) (fun hHeld => ?_)
          clear hK K
          (try simp only [Act.put, List.getElem_toArray, List.getElem_cons_zero, List.getElem_cons_succ, List.setIfInBounds_toArray, List.set_cons_zero, List.set_cons_succ])
          refine held_step2 (fun _ => trivial) (i := 1) (j := 8) (o := _) (o2 := _) (by kernel_rfl) rfl rfl (fun K hK => ?_) (fun K hK => ?_)
          · go_simp
            refine ⟨trivial, callsIn_wide.2 ((cO.out _).mono ?_)⟩
            rintro e y1 ⟨rfl, hc1⟩
            dsimp only
            replace hn7 := keep_row hc1 hn7
            refine hK.out _ _ (bnext hHeld hc1) (fun hHeld => ?_)
            clear hK K
            (try simp only [Act.put, List.getElem_toArray, List.getElem_cons_zero, List.getElem_cons_succ, List.setIfInBounds_toArray, List.set_cons_zero, List.set_cons_succ])
            refine held_step2 (fun _ => trivial) (i := 2) (j := 8) (o := _) (o2 := _) (by kernel_rfl) rfl rfl (fun K hK => ?_) (fun K hK => ?_)
            · go_simp
              refine ⟨trivial, callsIn_wide.2 ((cD.out _).mono ?_)⟩
              rintro e y2 ⟨rfl, hc2⟩
              dsimp only
              replace hn7 := keep_row hc2 hn7
              refine hK.out _ _ (bnext hHeld hc2) (fun hHeld => ?_)
              clear hK K
              (try simp only [Act.put, List.getElem_toArray, List.getElem_cons_zero, List.getElem_cons_succ, List.setIfInBounds_toArray, List.set_cons_zero, List.set_cons_succ])
              refine held_take (fun _ => trivial) (by kernel_rfl) (i := 3) (oi := _) (v := ?_) rfl (by kernel_rfl) (by kernel_rfl) (by kernel_rfl) (fun _ _ _ h => h) (by assumption) (Or.inl ⟨by kernel_rfl, ?_⟩) ?_
              rotate_left
              · intro wz hSw; (first | (go_simp; done) | (go_simp; with_reducible rfl))
              (try simp only [Act.put, List.getElem_toArray, List.getElem_cons_zero, List.getElem_cons_succ, List.setIfInBounds_toArray, List.set_cons_zero, List.set_cons_succ])
              refine held_take (fun _ => trivial) (by kernel_rfl) (i := 4) (oi := _) (v := ?_) rfl (by kernel_rfl) (by kernel_rfl) (by kernel_rfl) (fun _ _ _ h => h) (by assumption) (Or.inl ⟨by kernel_rfl, ?_⟩) ?_
              rotate_left
              · intro wz hSw; (first | (go_simp; done) | (go_simp; with_reducible rfl))
              (try simp only [Act.put, List.getElem_toArray, List.getElem_cons_zero, List.getElem_cons_succ, List.setIfInBounds_toArray, List.set_cons_zero, List.set_cons_succ])
              refine held_take (fun _ => trivial) (by kernel_rfl) (i := 5) (oi := _) (v := ?_) rfl (by kernel_rfl) (by kernel_rfl) (by kernel_rfl) (fun _ _ _ h => h) (by assumption) (Or.inl ⟨by kernel_rfl, ?_⟩) ?_
              rotate_left
              · intro wz hSw; (first | (go_simp; done) | (go_simp; with_reducible rfl))
              (try simp only [Act.put, List.getElem_toArray, List.getElem_cons_zero, List.getElem_cons_succ, List.setIfInBounds_toArray, List.set_cons_zero, List.set_cons_succ])
              refine held_take (fun _ => trivial) (by kernel_rfl) (i := 6) (oi := _) (v := ?_) rfl (by kernel_rfl) (by kernel_rfl) (by kernel_rfl) (fun _ _ _ h => h) (by assumption) (Or.inl ⟨by kernel_rfl, ?_⟩) ?_
              rotate_left
              · intro wz hSw; (first | (go_simp; done) | (go_simp; with_reducible rfl))
              (try simp only [Act.put, List.getElem_toArray, List.getElem_cons_zero, List.getElem_cons_succ, List.setIfInBounds_toArray, List.set_cons_zero, List.set_cons_succ])
              refine held_step (fun _ => trivial) (i := 8) (o := _) (by kernel_rfl) rfl (fun K hK => ?_)
              go_simp
              have hn8 : (y2.alloc (.cells #[.bool false, .int .u64 0, .int .u64 0, .int .u64 0, .int .u64 0, .int .u64 0, .int .u64 0, .int .u64 0, .int .u64 0, .int .u64 0, .int .u64 0, .int .u64 0, .int .u64 0, .int .u64 0, .int .u64 0, .int .u64 0, .int .u64 0, .int .u64 0, .int .u64 0, .int .u64 0, .int .u64 0] 27)).heap[y2.heap.size]? = _ := heap_alloc_new _ _
              have hv8 : x1.heap.size ≤ y2.heap.size := hHeld.size
              have hlt : x1.drew.heap.size < y2.heap.size := (Array.getElem?_eq_some_iff.1 hn7).1
              replace hn7 := step_row (o := (.cells #[.bool false, .int .u64 0, .int .u64 0, .int .u64 0, .int .u64 0, .int .u64 0, .int .u64 0, .int .u64 0, .int .u64 0, .int .u64 0, .int .u64 0, .int .u64 0, .int .u64 0, .int .u64 0, .int .u64 0, .int .u64 0, .int .u64 0, .int .u64 0, .int .u64 0, .int .u64 0, .int .u64 0] 27)) hn7
              refine hK.out _ _ (hHeld.alloc hHeld.size _) (fun hHeld => ?_)
              clear hK K
              (try simp only [Act.put, List.getElem_toArray, List.getElem_cons_zero, List.getElem_cons_succ, List.setIfInBounds_toArray, List.set_cons_zero, List.set_cons_succ])
              refine held_step (fun _ => trivial) (i := 9) (o := _) (by kernel_rfl) rfl (fun K hK => ?_)
              rw [if_pos (by kernel_rfl)]
              refine wpIn_store_row (fun _ => trivial) 27 (.tmp 6) (.tmp 29) (by kernel_rfl) (x1.drew.heap.size) _ _ (bv (q : Int)) (by kernel_rfl) (by kernel_rfl) hn7 (bv_info _) (bv_same 0 _) (bv_one _) ?_
              refine hK.out _ _ (Below.row hHeld hv7 _) (fun hHeld => ?_)
              clear hK K
              (try simp only [Act.put, List.getElem_toArray, List.getElem_cons_zero, List.getElem_cons_succ, List.setIfInBounds_toArray, List.set_cons_zero, List.set_cons_succ])
              replace hn8 := (setRow_other _ _ _ (bv (q : Int)) (show y2.heap.size ≠ x1.drew.heap.size by omega)).trans hn8
              replace hn7 : BigAt (x1.drew.heap.size) (q : Int) _ := setRow_heap _ _ _ _ _ _ hn7
              refine held_step (fun _ => trivial) (i := 10) (o := _) (by kernel_rfl) rfl (fun K hK => ?_)
              rw [if_pos (by kernel_rfl)]
              refine wpIn_store_row (fun _ => trivial) 27 (.tmp 7) (.tmp 30) (by kernel_rfl) (y2.heap.size) _ _ (bv (r : Int)) (by kernel_rfl) (by kernel_rfl) hn8 (bv_info _) (bv_same 0 _) (bv_one _) ?_
              refine hK.out _ _ (Below.row hHeld hv8 _) (fun hHeld => ?_)
              clear hK K
              (try simp only [Act.put, List.getElem_toArray, List.getElem_cons_zero, List.getElem_cons_succ, List.setIfInBounds_toArray, List.set_cons_zero, List.set_cons_succ])
              refine held_take (fun _ => trivial) (by kernel_rfl) (i := 11) (oi := _) (v := ?_) rfl (by kernel_rfl) (by kernel_rfl) (by kernel_rfl) (fun _ _ _ h => h) (by assumption) (Or.inl ⟨by kernel_rfl, ?_⟩) ?_
              rotate_left
              · intro wz hSw; (first | (go_simp; done) | (go_simp; with_reducible rfl))
              (try simp only [Act.put, List.getElem_toArray, List.getElem_cons_zero, List.getElem_cons_succ, List.setIfInBounds_toArray, List.set_cons_zero, List.set_cons_succ])
              refine held_done (by kernel_rfl) ?_ _
              exact HT (x1.drew.heap.size) (y2.heap.size) _ (BigAt.other hn7 (show x1.drew.heap.size ≠ y2.heap.size by omega) _) (setRow_heap _ _ _ _ _ _ hn8) hHeld
            · go_simp
              have hn8 : (y1.alloc (.cells #[.bool false, .int .u64 0, .int .u64 0, .int .u64 0, .int .u64 0, .int .u64 0, .int .u64 0, .int .u64 0, .int .u64 0, .int .u64 0, .int .u64 0, .int .u64 0, .int .u64 0, .int .u64 0, .int .u64 0, .int .u64 0, .int .u64 0, .int .u64 0, .int .u64 0, .int .u64 0, .int .u64 0] 27)).heap[y1.heap.size]? = _ := heap_alloc_new _ _
              have hv8 : x1.heap.size ≤ y1.heap.size := hHeld.size
              have hlt : x1.drew.heap.size < y1.heap.size := (Array.getElem?_eq_some_iff.1 hn7).1
              replace hn7 := step_row (o := (.cells #[.bool false, .int .u64 0, .int .u64 0, .int .u64 0, .int .u64 0, .int .u64 0, .int .u64 0, .int .u64 0, .int .u64 0, .int .u64 0, .int .u64 0, .int .u64 0, .int .u64 0, .int .u64 0, .int .u64 0, .int .u64 0, .int .u64 0, .int .u64 0, .int .u64 0, .int .u64 0, .int .u64 0] 27)) hn7
              refine hK.out _ _ (hHeld.alloc hHeld.size _) (fun hHeld => ?_)
              clear hK K
              (try simp only [Act.put, List.getElem_toArray, List.getElem_cons_zero, List.getElem_cons_succ, List.setIfInBounds_toArray, List.set_cons_zero, List.set_cons_succ])
              refine held_step (fun _ => trivial) (i := 2) (o := _) (by kernel_rfl) rfl (fun K hK => ?_)
              go_simp
              refine ⟨trivial, callsIn_wide.2 ((cD.out _).mono ?_)⟩
              rintro e y2 ⟨rfl, hc2⟩
              dsimp only
              replace hn7 := keep_row hc2 hn7; replace hn8 := keep_row hc2 hn8
              refine hK.out _ _ (bnext hHeld hc2) (fun hHeld => ?_)
              clear hK K
              (try simp only [Act.put, List.getElem_toArray, List.getElem_cons_zero, List.getElem_cons_succ, List.setIfInBounds_toArray, List.set_cons_zero, List.set_cons_succ])
              refine held_take (fun _ => trivial) (by kernel_rfl) (i := 3) (oi := _) (v := ?_) rfl (by kernel_rfl) (by kernel_rfl) (by kernel_rfl) (fun _ _ _ h => h) (by assumption) (Or.inl ⟨by kernel_rfl, ?_⟩) ?_
              rotate_left
              · intro wz hSw; (first | (go_simp; done) | (go_simp; with_reducible rfl))
              (try simp only [Act.put, List.getElem_toArray, List.getElem_cons_zero, List.getElem_cons_succ, List.setIfInBounds_toArray, List.set_cons_zero, List.set_cons_succ])
              refine held_take (fun _ => trivial) (by kernel_rfl) (i := 4) (oi := _) (v := ?_) rfl (by kernel_rfl) (by kernel_rfl) (by kernel_rfl) (fun _ _ _ h => h) (by assumption) (Or.inl ⟨by kernel_rfl, ?_⟩) ?_
              rotate_left
              · intro wz hSw; (first | (go_simp; done) | (go_simp; with_reducible rfl))
              (try simp only [Act.put, List.getElem_toArray, List.getElem_cons_zero, List.getElem_cons_succ, List.setIfInBounds_toArray, List.set_cons_zero, List.set_cons_succ])
              refine held_take (fun _ => trivial) (by kernel_rfl) (i := 5) (oi := _) (v := ?_) rfl (by kernel_rfl) (by kernel_rfl) (by kernel_rfl) (fun _ _ _ h => h) (by assumption) (Or.inl ⟨by kernel_rfl, ?_⟩) ?_
              rotate_left
              · intro wz hSw; (first | (go_simp; done) | (go_simp; with_reducible rfl))
              (try simp only [Act.put, List.getElem_toArray, List.getElem_cons_zero, List.getElem_cons_succ, List.setIfInBounds_toArray, List.set_cons_zero, List.set_cons_succ])
              refine held_take (fun _ => trivial) (by kernel_rfl) (i := 6) (oi := _) (v := ?_) rfl (by kernel_rfl) (by kernel_rfl) (by kernel_rfl) (fun _ _ _ h => h) (by assumption) (Or.inl ⟨by kernel_rfl, ?_⟩) ?_
              rotate_left
              · intro wz hSw; (first | (go_simp; done) | (go_simp; with_reducible rfl))
              (try simp only [Act.put, List.getElem_toArray, List.getElem_cons_zero, List.getElem_cons_succ, List.setIfInBounds_toArray, List.set_cons_zero, List.set_cons_succ])
              refine held_step (fun _ => trivial) (i := 9) (o := _) (by kernel_rfl) rfl (fun K hK => ?_)
              rw [if_pos (by kernel_rfl)]
              refine wpIn_store_row (fun _ => trivial) 27 (.tmp 6) (.tmp 29) (by kernel_rfl) (x1.drew.heap.size) _ _ (bv (q : Int)) (by kernel_rfl) (by kernel_rfl) hn7 (bv_info _) (bv_same 0 _) (bv_one _) ?_
              refine hK.out _ _ (Below.row hHeld hv7 _) (fun hHeld => ?_)
              clear hK K
              (try simp only [Act.put, List.getElem_toArray, List.getElem_cons_zero, List.getElem_cons_succ, List.setIfInBounds_toArray, List.set_cons_zero, List.set_cons_succ])
              replace hn8 := (setRow_other _ _ _ (bv (q : Int)) (show y1.heap.size ≠ x1.drew.heap.size by omega)).trans hn8
              replace hn7 : BigAt (x1.drew.heap.size) (q : Int) _ := setRow_heap _ _ _ _ _ _ hn7
              refine held_step (fun _ => trivial) (i := 10) (o := _) (by kernel_rfl) rfl (fun K hK => ?_)
              rw [if_pos (by kernel_rfl)]
              refine wpIn_store_row (fun _ => trivial) 27 (.tmp 7) (.tmp 30) (by kernel_rfl) (y1.heap.size) _ _ (bv (r : Int)) (by kernel_rfl) (by kernel_rfl) hn8 (bv_info _) (bv_same 0 _) (bv_one _) ?_
              refine hK.out _ _ (Below.row hHeld hv8 _) (fun hHeld => ?_)
              clear hK K
              (try simp only [Act.put, List.getElem_toArray, List.getElem_cons_zero, List.getElem_cons_succ, List.setIfInBounds_toArray, List.set_cons_zero, List.set_cons_succ])
              refine held_take (fun _ => trivial) (by kernel_rfl) (i := 11) (oi := _) (v := ?_) rfl (by kernel_rfl) (by kernel_rfl) (by kernel_rfl) (fun _ _ _ h => h) (by assumption) (Or.inl ⟨by kernel_rfl, ?_⟩) ?_
              rotate_left
              · intro wz hSw; (first | (go_simp; done) | (go_simp; with_reducible rfl))
              (try simp only [Act.put, List.getElem_toArray, List.getElem_cons_zero, List.getElem_cons_succ, List.setIfInBounds_toArray, List.set_cons_zero, List.set_cons_succ])
              refine held_done (by kernel_rfl) ?_ _
              exact HT (x1.drew.heap.size) (y1.heap.size) _ (BigAt.other hn7 (show x1.drew.heap.size ≠ y1.heap.size by omega) _) (setRow_heap _ _ _ _ _ _ hn8) hHeld
          · go_simp
            have hn8 : ((x1.drew.alloc (.cells #[.bool false, .int .u64 0, .int .u64 0, .int .u64 0, .int .u64 0, .int .u64 0, .int .u64 0, .int .u64 0, .int .u64 0, .int .u64 0, .int .u64 0, .int .u64 0, .int .u64 0, .int .u64 0, .int .u64 0, .int .u64 0, .int .u64 0, .int .u64 0, .int .u64 0, .int .u64 0, .int .u64 0] 27)).alloc (.cells #[.bool false, .int .u64 0, .int .u64 0, .int .u64 0, .int .u64 0, .int .u64 0, .int .u64 0, .int .u64 0, .int .u64 0, .int .u64 0, .int .u64 0, .int .u64 0, .int .u64 0, .int .u64 0, .int .u64 0, .int .u64 0, .int .u64 0, .int .u64 0, .int .u64 0, .int .u64 0, .int .u64 0] 27)).heap[x1.drew.heap.size + 1]? = _ := heap_alloc2_new _ _ _
            have hv8 : x1.heap.size ≤ x1.drew.heap.size + 1 := Nat.le_succ_of_le hv7
            have hlt : x1.drew.heap.size < x1.drew.heap.size + 1 := Nat.lt_succ_self _
            replace hn7 := step_row (o := (.cells #[.bool false, .int .u64 0, .int .u64 0, .int .u64 0, .int .u64 0, .int .u64 0, .int .u64 0, .int .u64 0, .int .u64 0, .int .u64 0, .int .u64 0, .int .u64 0, .int .u64 0, .int .u64 0, .int .u64 0, .int .u64 0, .int .u64 0, .int .u64 0, .int .u64 0, .int .u64 0, .int .u64 0] 27)) hn7
            refine hK.out _ _ (hHeld.alloc hHeld.size _) (fun hHeld => ?_)
            clear hK K
            (try simp only [Act.put, List.getElem_toArray, List.getElem_cons_zero, List.getElem_cons_succ, List.setIfInBounds_toArray, List.set_cons_zero, List.set_cons_succ])
            refine held_step (fun _ => trivial) (i := 1) (o := _) (by kernel_rfl) rfl (fun K hK => ?_)
            go_simp
            refine ⟨trivial, callsIn_wide.2 ((cO.out _).mono ?_)⟩
            rintro e y1 ⟨rfl, hc1⟩
            dsimp only
            replace hn7 := keep_row hc1 hn7; replace hn8 := keep_row hc1 hn8
            refine hK.out _ _ (bnext hHeld hc1) (fun hHeld => ?_)
            clear hK K
            (try simp only [Act.put, List.getElem_toArray, List.getElem_cons_zero, List.getElem_cons_succ, List.setIfInBounds_toArray, List.set_cons_zero, List.set_cons_succ])
            refine held_step (fun _ => trivial) (i := 2) (o := _) (by kernel_rfl) rfl (fun K hK => ?_)
            go_simp
            refine ⟨trivial, callsIn_wide.2 ((cD.out _).mono ?_)⟩
            rintro e y2 ⟨rfl, hc2⟩
            dsimp only
            replace hn7 := keep_row hc2 hn7; replace hn8 := keep_row hc2 hn8
            refine hK.out _ _ (bnext hHeld hc2) (fun hHeld => ?_)
            clear hK K
            (try simp only [Act.put, List.getElem_toArray, List.getElem_cons_zero, List.getElem_cons_succ, List.setIfInBounds_toArray, List.set_cons_zero, List.set_cons_succ])
            refine held_take (fun _ => trivial) (by kernel_rfl) (i := 3) (oi := _) (v := ?_) rfl (by kernel_rfl) (by kernel_rfl) (by kernel_rfl) (fun _ _ _ h => h) (by assumption) (Or.inl ⟨by kernel_rfl, ?_⟩) ?_
            rotate_left
            · intro wz hSw; (first | (go_simp; done) | (go_simp; with_reducible rfl))
            (try simp only [Act.put, List.getElem_toArray, List.getElem_cons_zero, List.getElem_cons_succ, List.setIfInBounds_toArray, List.set_cons_zero, List.set_cons_succ])
            refine held_take (fun _ => trivial) (by kernel_rfl) (i := 4) (oi := _) (v := ?_) rfl (by kernel_rfl) (by kernel_rfl) (by kernel_rfl) (fun _ _ _ h => h) (by assumption) (Or.inl ⟨by kernel_rfl, ?_⟩) ?_
            rotate_left
            · intro wz hSw; (first | (go_simp; done) | (go_simp; with_reducible rfl))
            (try simp only [Act.put, List.getElem_toArray, List.getElem_cons_zero, List.getElem_cons_succ, List.setIfInBounds_toArray, List.set_cons_zero, List.set_cons_succ])
            refine held_take (fun _ => trivial) (by kernel_rfl) (i := 5) (oi := _) (v := ?_) rfl (by kernel_rfl) (by kernel_rfl) (by kernel_rfl) (fun _ _ _ h => h) (by assumption) (Or.inl ⟨by kernel_rfl, ?_⟩) ?_
            rotate_left
            · intro wz hSw; (first | (go_simp; done) | (go_simp; with_reducible rfl))
            (try simp only [Act.put, List.getElem_toArray, List.getElem_cons_zero, List.getElem_cons_succ, List.setIfInBounds_toArray, List.set_cons_zero, List.set_cons_succ])
            refine held_take (fun _ => trivial) (by kernel_rfl) (i := 6) (oi := _) (v := ?_) rfl (by kernel_rfl) (by kernel_rfl) (by kernel_rfl) (fun _ _ _ h => h) (by assumption) (Or.inl ⟨by kernel_rfl, ?_⟩) ?_
            rotate_left
            · intro wz hSw; (first | (go_simp; done) | (go_simp; with_reducible rfl))
            (try simp only [Act.put, List.getElem_toArray, List.getElem_cons_zero, List.getElem_cons_succ, List.setIfInBounds_toArray, List.set_cons_zero, List.set_cons_succ])
            refine held_step (fun _ => trivial) (i := 9) (o := _) (by kernel_rfl) rfl (fun K hK => ?_)
            rw [if_pos (by kernel_rfl)]
            refine wpIn_store_row (fun _ => trivial) 27 (.tmp 6) (.tmp 29) (by kernel_rfl) (x1.drew.heap.size) _ _ (bv (q : Int)) (by kernel_rfl) (by kernel_rfl) hn7 (bv_info _) (bv_same 0 _) (bv_one _) ?_
            refine hK.out _ _ (Below.row hHeld hv7 _) (fun hHeld => ?_)
            clear hK K
            (try simp only [Act.put, List.getElem_toArray, List.getElem_cons_zero, List.getElem_cons_succ, List.setIfInBounds_toArray, List.set_cons_zero, List.set_cons_succ])
            replace hn8 := (setRow_other _ _ _ (bv (q : Int)) (show x1.drew.heap.size + 1 ≠ x1.drew.heap.size by omega)).trans hn8
            replace hn7 : BigAt (x1.drew.heap.size) (q : Int) _ := setRow_heap _ _ _ _ _ _ hn7
            refine held_step (fun _ => trivial) (i := 10) (o := _) (by kernel_rfl) rfl (fun K hK => ?_)
            rw [if_pos (by kernel_rfl)]
            refine wpIn_store_row (fun _ => trivial) 27 (.tmp 7) (.tmp 30) (by kernel_rfl) (x1.drew.heap.size + 1) _ _ (bv (r : Int)) (by kernel_rfl) (by kernel_rfl) hn8 (bv_info _) (bv_same 0 _) (bv_one _) ?_
            refine hK.out _ _ (Below.row hHeld hv8 _) (fun hHeld => ?_)
            clear hK K
            (try simp only [Act.put, List.getElem_toArray, List.getElem_cons_zero, List.getElem_cons_succ, List.setIfInBounds_toArray, List.set_cons_zero, List.set_cons_succ])
            refine held_take (fun _ => trivial) (by kernel_rfl) (i := 11) (oi := _) (v := ?_) rfl (by kernel_rfl) (by kernel_rfl) (by kernel_rfl) (fun _ _ _ h => h) (by assumption) (Or.inl ⟨by kernel_rfl, ?_⟩) ?_
            rotate_left
            · intro wz hSw; (first | (go_simp; done) | (go_simp; with_reducible rfl))
            (try simp only [Act.put, List.getElem_toArray, List.getElem_cons_zero, List.getElem_cons_succ, List.setIfInBounds_toArray, List.set_cons_zero, List.set_cons_succ])
            refine held_done (by kernel_rfl) ?_ _
            exact HT (x1.drew.heap.size) (x1.drew.heap.size + 1) _ (BigAt.other hn7 (show x1.drew.heap.size ≠ x1.drew.heap.size + 1 by omega) _) (setRow_heap _ _ _ _ _ _ hn8) hHeld
        · go_simp
          have hn8 : (x1.drew.alloc (.cells #[.bool false, .int .u64 0, .int .u64 0, .int .u64 0, .int .u64 0, .int .u64 0, .int .u64 0, .int .u64 0, .int .u64 0, .int .u64 0, .int .u64 0, .int .u64 0, .int .u64 0, .int .u64 0, .int .u64 0, .int .u64 0, .int .u64 0, .int .u64 0, .int .u64 0, .int .u64 0, .int .u64 0] 27)).heap[x1.drew.heap.size]? = _ := heap_alloc_new _ _
          have hv8 : x1.heap.size ≤ x1.drew.heap.size := hHeld.size
          refine hK.out _ _ (hHeld.alloc hHeld.size _) (fun hHeld => ?_)
          clear hK K
          (try simp only [Act.put, List.getElem_toArray, List.getElem_cons_zero, List.getElem_cons_succ, List.setIfInBounds_toArray, List.set_cons_zero, List.set_cons_succ])
          refine held_step2 (fun _ => trivial) (i := 1) (j := 7) (o := _) (o2 := _) (by kernel_rfl) rfl rfl (fun K hK => ?_) (fun K hK => ?_)
          · go_simp
            refine ⟨trivial, callsIn_wide.2 ((cO.out _).mono ?_)⟩
            rintro e y1 ⟨rfl, hc1⟩
            dsimp only
            replace hn8 := keep_row hc1 hn8
            refine hK.out _ _ (bnext hHeld hc1) (fun hHeld => ?_)
            clear hK K
            (try simp only [Act.put, List.getElem_toArray, List.getElem_cons_zero, List.getElem_cons_succ, List.setIfInBounds_toArray, List.set_cons_zero, List.set_cons_succ])
            refine held_step2 (fun _ => trivial) (i := 2) (j := 7) (o := _) (o2 := _) (by kernel_rfl) rfl rfl (fun K hK => ?_) (fun K hK => ?_)
            · go_simp
              refine ⟨trivial, callsIn_wide.2 ((cD.out _).mono ?_)⟩
              rintro e y2 ⟨rfl, hc2⟩
              dsimp only
              replace hn8 := keep_row hc2 hn8
              refine hK.out _ _ (bnext hHeld hc2) (fun hHeld => ?_)
              clear hK K
              (try simp only [Act.put, List.getElem_toArray, List.getElem_cons_zero, List.getElem_cons_succ, List.setIfInBounds_toArray, List.set_cons_zero, List.set_cons_succ])
              refine held_take (fun _ => trivial) (by kernel_rfl) (i := 3) (oi := _) (v := ?_) rfl (by kernel_rfl) (by kernel_rfl) (by kernel_rfl) (fun _ _ _ h => h) (by assumption) (Or.inl ⟨by kernel_rfl, ?_⟩) ?_
              rotate_left
              · intro wz hSw; (first | (go_simp; done) | (go_simp; with_reducible rfl))
              (try simp only [Act.put, List.getElem_toArray, List.getElem_cons_zero, List.getElem_cons_succ, List.setIfInBounds_toArray, List.set_cons_zero, List.set_cons_succ])
              refine held_take (fun _ => trivial) (by kernel_rfl) (i := 4) (oi := _) (v := ?_) rfl (by kernel_rfl) (by kernel_rfl) (by kernel_rfl) (fun _ _ _ h => h) (by assumption) (Or.inl ⟨by kernel_rfl, ?_⟩) ?_
              rotate_left
              · intro wz hSw; (first | (go_simp; done) | (go_simp; with_reducible rfl))
              (try simp only [Act.put, List.getElem_toArray, List.getElem_cons_zero, List.getElem_cons_succ, List.setIfInBounds_toArray, List.set_cons_zero, List.set_cons_succ])
              refine held_take (fun _ => trivial) (by kernel_rfl) (i := 5) (oi := _) (v := ?_) rfl (by kernel_rfl) (by kernel_rfl) (by kernel_rfl) (fun _ _ _ h => h) (by assumption) (Or.inl ⟨by kernel_rfl, ?_⟩) ?_
              rotate_left
              · intro wz hSw; (first | (go_simp; done) | (go_simp; with_reducible rfl))
              (try simp only [Act.put, List.getElem_toArray, List.getElem_cons_zero, List.getElem_cons_succ, List.setIfInBounds_toArray, List.set_cons_zero, List.set_cons_succ])
              refine held_take (fun _ => trivial) (by kernel_rfl) (i := 6) (oi := _) (v := ?_) rfl (by kernel_rfl) (by kernel_rfl) (by kernel_rfl) (fun _ _ _ h => h) (by assumption) (Or.inl ⟨by kernel_rfl, ?_⟩) ?_
              rotate_left
              · intro wz hSw; (first | (go_simp; done) | (go_simp; with_reducible rfl))
              (try simp only [Act.put, List.getElem_toArray, List.getElem_cons_zero, List.getElem_cons_succ, List.setIfInBounds_toArray, List.set_cons_zero, List.set_cons_succ])
              refine held_step (fun _ => trivial) (i := 7) (o := _) (by kernel_rfl) rfl (fun K hK => ?_)
              go_simp
              have hn7 : (y2.alloc (.cells #[.bool false, .int .u64 0, .int .u64 0, .int .u64 0, .int .u64 0, .int .u64 0, .int .u64 0, .int .u64 0, .int .u64 0, .int .u64 0, .int .u64 0, .int .u64 0, .int .u64 0, .int .u64 0, .int .u64 0, .int .u64 0, .int .u64 0, .int .u64 0, .int .u64 0, .int .u64 0, .int .u64 0] 27)).heap[y2.heap.size]? = _ := heap_alloc_new _ _
              have hv7 : x1.heap.size ≤ y2.heap.size := hHeld.size
              have hlt : x1.drew.heap.size < y2.heap.size := (Array.getElem?_eq_some_iff.1 hn8).1
              replace hn8 := step_row (o := (.cells #[.bool false, .int .u64 0, .int .u64 0, .int .u64 0, .int .u64 0, .int .u64 0, .int .u64 0, .int .u64 0, .int .u64 0, .int .u64 0, .int .u64 0, .int .u64 0, .int .u64 0, .int .u64 0, .int .u64 0, .int .u64 0, .int .u64 0, .int .u64 0, .int .u64 0, .int .u64 0, .int .u64 0] 27)) hn8
              refine hK.out _ _ (hHeld.alloc hHeld.size _) (fun hHeld => ?_)
              clear hK K
              (try simp only [Act.put, List.getElem_toArray, List.getElem_cons_zero, List.getElem_cons_succ, List.setIfInBounds_toArray, List.set_cons_zero, List.set_cons_succ])
              refine held_step (fun _ => trivial) (i := 9) (o := _) (by kernel_rfl) rfl (fun K hK => ?_)
              rw [if_pos (by kernel_rfl)]
              refine wpIn_store_row (fun _ => trivial) 27 (.tmp 6) (.tmp 29) (by kernel_rfl) (y2.heap.size) _ _ (bv (q : Int)) (by kernel_rfl) (by kernel_rfl) hn7 (bv_info _) (bv_same 0 _) (bv_one _) ?_
              refine hK.out _ _ (Below.row hHeld hv7 _) (fun hHeld => ?_)
              clear hK K
              (try simp only [Act.put, List.getElem_toArray, List.getElem_cons_zero, List.getElem_cons_succ, List.setIfInBounds_toArray, List.set_cons_zero, List.set_cons_succ])
              replace hn8 := (setRow_other _ _ _ (bv (q : Int)) (show x1.drew.heap.size ≠ y2.heap.size by omega)).trans hn8
              replace hn7 : BigAt (y2.heap.size) (q : Int) _ := setRow_heap _ _ _ _ _ _ hn7
              refine held_step (fun _ => trivial) (i := 10) (o := _) (by kernel_rfl) rfl (fun K hK => ?_)
              rw [if_pos (by kernel_rfl)]
              refine wpIn_store_row (fun _ => trivial) 27 (.tmp 7) (.tmp 30) (by kernel_rfl) (x1.drew.heap.size) _ _ (bv (r : Int)) (by kernel_rfl) (by kernel_rfl) hn8 (bv_info _) (bv_same 0 _) (bv_one _) ?_
              refine hK.out _ _ (Below.row hHeld hv8 _) (fun hHeld => ?_)
              clear hK K
              (try simp only [Act.put, List.getElem_toArray, List.getElem_cons_zero, List.getElem_cons_succ, List.setIfInBounds_toArray, List.set_cons_zero, List.set_cons_succ])
              refine held_take (fun _ => trivial) (by kernel_rfl) (i := 11) (oi := _) (v := ?_) rfl (by kernel_rfl) (by kernel_rfl) (by kernel_rfl) (fun _ _ _ h => h) (by assumption) (Or.inl ⟨by kernel_rfl, ?_⟩) ?_
              rotate_left
              · intro wz hSw; (first | (go_simp; done) | (go_simp; with_reducible rfl))
              (try simp only [Act.put, List.getElem_toArray, List.getElem_cons_zero, List.getElem_cons_succ, List.setIfInBounds_toArray, List.set_cons_zero, List.set_cons_succ])
              refine held_done (by kernel_rfl) ?_ _
              exact HT (y2.heap.size) (x1.drew.heap.size) _ (BigAt.other hn7 (show y2.heap.size ≠ x1.drew.heap.size by omega) _) (setRow_heap _ _ _ _ _ _ hn8) hHeld
            · go_simp
              have hn7 : (y1.alloc (.cells #[.bool false, .int .u64 0, .int .u64 0, .int .u64 0, .int .u64 0, .int .u64 0, .int .u64 0, .int .u64 0, .int .u64 0, .int .u64 0, .int .u64 0, .int .u64 0, .int .u64 0, .int .u64 0, .int .u64 0, .int .u64 0, .int .u64 0, .int .u64 0, .int .u64 0, .int .u64 0, .int .u64 0] 27)).heap[y1.heap.size]? = _ := heap_alloc_new _ _
              have hv7 : x1.heap.size ≤ y1.heap.size := hHeld.size
              have hlt : x1.drew.heap.size < y1.heap.size := (Array.getElem?_eq_some_iff.1 hn8).1
              replace hn8 := step_row (o := (.cells #[.bool false, .int .u64 0, .int .u64 0, .int .u64 0, .int .u64 0, .int .u64 0, .int .u64 0, .int .u64 0, .int .u64 0, .int .u64 0, .int .u64 0, .int .u64 0, .int .u64 0, .int .u64 0, .int .u64 0, .int .u64 0, .int .u64 0, .int .u64 0, .int .u64 0, .int .u64 0, .int .u64 0] 27)) hn8
              refine hK.out _ _ (hHeld.alloc hHeld.size _) (fun hHeld => ?_)
              clear hK K
              (try simp only [Act.put, List.getElem_toArray, List.getElem_cons_zero, List.getElem_cons_succ, List.setIfInBounds_toArray, List.set_cons_zero, List.set_cons_succ])
              refine held_step (fun _ => trivial) (i := 2) (o := _) (by kernel_rfl) rfl (fun K hK => ?_)
              go_simp
              refine ⟨trivial, callsIn_wide.2 ((cD.out _).mono ?_)⟩
              rintro e y2 ⟨rfl, hc2⟩
              dsimp only
              replace hn8 := keep_row hc2 hn8; replace hn7 := keep_row hc2 hn7
              refine hK.out _ _ (bnext hHeld hc2) (fun hHeld => ?_)
              clear hK K
              (try simp only [Act.put, List.getElem_toArray, List.getElem_cons_zero, List.getElem_cons_succ, List.setIfInBounds_toArray, List.set_cons_zero, List.set_cons_succ])
              refine held_take (fun _ => trivial) (by kernel_rfl) (i := 3) (oi := _) (v := ?_) rfl (by kernel_rfl) (by kernel_rfl) (by kernel_rfl) (fun _ _ _ h => h) (by assumption) (Or.inl ⟨by kernel_rfl, ?_⟩) ?_
              rotate_left
              · intro wz hSw; (first | (go_simp; done) | (go_simp; with_reducible rfl))
              (try simp only [Act.put, List.getElem_toArray, List.getElem_cons_zero, List.getElem_cons_succ, List.setIfInBounds_toArray, List.set_cons_zero, List.set_cons_succ])
              refine held_take (fun _ => trivial) (by kernel_rfl) (i := 4) (oi := _) (v := ?_) rfl (by kernel_rfl) (by kernel_rfl) (by kernel_rfl) (fun _ _ _ h => h) (by assumption) (Or.inl ⟨by kernel_rfl, ?_⟩) ?_
              rotate_left
              · intro wz hSw; (first | (go_simp; done) | (go_simp; with_reducible rfl))
              (try simp only [Act.put, List.getElem_toArray, List.getElem_cons_zero, List.getElem_cons_succ, List.setIfInBounds_toArray, List.set_cons_zero, List.set_cons_succ])
              refine held_take (fun _ => trivial) (by kernel_rfl) (i := 5) (oi := _) (v := ?_) rfl (by kernel_rfl) (by kernel_rfl) (by kernel_rfl) (fun _ _ _ h => h) (by assumption) (Or.inl ⟨by kernel_rfl, ?_⟩) ?_
              rotate_left
              · intro wz hSw; (first | (go_simp; done) | (go_simp; with_reducible rfl))
              (try simp only [Act.put, List.getElem_toArray, List.getElem_cons_zero, List.getElem_cons_succ, List.setIfInBounds_toArray, List.set_cons_zero, List.set_cons_succ])
              refine held_take (fun _ => trivial) (by kernel_rfl) (i := 6) (oi := _) (v := ?_) rfl (by kernel_rfl) (by kernel_rfl) (by kernel_rfl) (fun _ _ _ h => h) (by assumption) (Or.inl ⟨by kernel_rfl, ?_⟩) ?_
              rotate_left
              · intro wz hSw; (first | (go_simp; done) | (go_simp; with_reducible rfl))
              (try simp only [Act.put, List.getElem_toArray, List.getElem_cons_zero, List.getElem_cons_succ, List.setIfInBounds_toArray, List.set_cons_zero, List.set_cons_succ])
              refine held_step (fun _ => trivial) (i := 9) (o := _) (by kernel_rfl) rfl (fun K hK => ?_)
              rw [if_pos (by kernel_rfl)]
              refine wpIn_store_row (fun _ => trivial) 27 (.tmp 6) (.tmp 29) (by kernel_rfl) (y1.heap.size) _ _ (bv (q : Int)) (by kernel_rfl) (by kernel_rfl) hn7 (bv_info _) (bv_same 0 _) (bv_one _) ?_
              refine hK.out _ _ (Below.row hHeld hv7 _) (fun hHeld => ?_)
              clear hK K
              (try simp only [Act.put, List.getElem_toArray, List.getElem_cons_zero, List.getElem_cons_succ, List.setIfInBounds_toArray, List.set_cons_zero, List.set_cons_succ])
              replace hn8 := (setRow_other _ _ _ (bv (q : Int)) (show x1.drew.heap.size ≠ y1.heap.size by omega)).trans hn8
              replace hn7 : BigAt (y1.heap.size) (q : Int) _ := setRow_heap _ _ _ _ _ _ hn7
              refine held_step (fun _ => trivial) (i := 10) (o := _) (by kernel_rfl) rfl (fun K hK => ?_)
              rw [if_pos (by kernel_rfl)]
              refine wpIn_store_row (fun _ => trivial) 27 (.tmp 7) (.tmp 30) (by kernel_rfl) (x1.drew.heap.size) _ _ (bv (r : Int)) (by kernel_rfl) (by kernel_rfl) hn8 (bv_info _) (bv_same 0 _) (bv_one _) ?_
              refine hK.out _ _ (Below.row hHeld hv8 _) (fun hHeld => ?_)
              clear hK K
              (try simp only [Act.put, List.getElem_toArray, List.getElem_cons_zero, List.getElem_cons_succ, List.setIfInBounds_toArray, List.set_cons_zero, List.set_cons_succ])
              refine held_take (fun _ => trivial) (by kernel_rfl) (i := 11) (oi := _) (v := ?_) rfl (by kernel_rfl) (by kernel_rfl) (by kernel_rfl) (fun _ _ _ h => h) (by assumption) (Or.inl ⟨by kernel_rfl, ?_⟩) ?_
              rotate_left
              · intro wz hSw; (first | (go_simp; done) | (go_simp; with_reducible rfl))
              (try simp only [Act.put, List.getElem_toArray, List.getElem_cons_zero, List.getElem_cons_succ, List.setIfInBounds_toArray, List.set_cons_zero, List.set_cons_succ])
              refine held_done (by kernel_rfl) ?_ _
              exact HT (y1.heap.size) (x1.drew.heap.size) _ (BigAt.other hn7 (show y1.heap.size ≠ x1.drew.heap.size by omega) _) (setRow_heap _ _ _ _ _ _ hn8) hHeld
          · go_simp
            have hn7 : ((x1.drew.alloc (.cells #[.bool false, .int .u64 0, .int .u64 0, .int .u64 0, .int .u64 0, .int .u64 0, .int .u64 0, .int .u64 0, .int .u64 0, .int .u64 0, .int .u64 0, .int .u64 0, .int .u64 0, .int .u64 0, .int .u64 0, .int .u64 0, .int .u64 0, .int .u64 0, .int .u64 0, .int .u64 0, .int .u64 0] 27)).alloc (.cells #[.bool false, .int .u64 0, .int .u64 0, .int .u64 0, .int .u64 0, .int .u64 0, .int .u64 0, .int .u64 0, .int .u64 0, .int .u64 0, .int .u64 0, .int .u64 0, .int .u64 0, .int .u64 0, .int .u64 0, .int .u64 0, .int .u64 0, .int .u64 0, .int .u64 0, .int .u64 0, .int .u64 0] 27)).heap[x1.drew.heap.size + 1]? = _ := heap_alloc2_new _ _ _
            have hv7 : x1.heap.size ≤ x1.drew.heap.size + 1 := Nat.le_succ_of_le hv8
            have hlt : x1.drew.heap.size < x1.drew.heap.size + 1 := Nat.lt_succ_self _
            replace hn8 := step_row (o := (.cells #[.bool false, .int .u64 0, .int .u64 0, .int .u64 0, .int .u64 0, .int .u64 0, .int .u64 0, .int .u64 0, .int .u64 0, .int .u64 0, .int .u64 0, .int .u64 0, .int .u64 0, .int .u64 0, .int .u64 0, .int .u64 0, .int .u64 0, .int .u64 0, .int .u64 0, .int .u64 0, .int .u64 0] 27)) hn8
            refine hK.out _ _ (hHeld.alloc hHeld.size _) (fun hHeld => ?_)
            clear hK K
            (try simp only [Act.put, List.getElem_toArray, List.getElem_cons_zero, List.getElem_cons_succ, List.setIfInBounds_toArray, List.set_cons_zero, List.set_cons_succ])
            refine held_step (fun _ => trivial) (i := 1) (o := _) (by kernel_rfl) rfl (fun K hK => ?_)
            go_simp
            refine ⟨trivial, callsIn_wide.2 ((cO.out _).mono ?_)⟩
            rintro e y1 ⟨rfl, hc1⟩
            dsimp only
            replace hn8 := keep_row hc1 hn8; replace hn7 := keep_row hc1 hn7
            refine hK.out _ _ (bnext hHeld hc1) (fun hHeld => ?_)
            clear hK K
            (try simp only [Act.put, List.getElem_toArray, List.getElem_cons_zero, List.getElem_cons_succ, List.setIfInBounds_toArray, List.set_cons_zero, List.set_cons_succ])
            refine held_step (fun _ => trivial) (i := 2) (o := _) (by kernel_rfl) rfl (fun K hK => ?_)
            go_simp
            refine ⟨trivial, callsIn_wide.2 ((cD.out _).mono ?_)⟩
            rintro e y2 ⟨rfl, hc2⟩
            dsimp only
            replace hn8 := keep_row hc2 hn8; replace hn7 := keep_row hc2 hn7
            refine hK.out _ _ (bnext hHeld hc2) (fun hHeld => ?_)
            clear hK K
            (try simp only [Act.put, List.getElem_toArray, List.getElem_cons_zero, List.getElem_cons_succ, List.setIfInBounds_toArray, List.set_cons_zero, List.set_cons_succ])
            refine held_take (fun _ => trivial) (by kernel_rfl) (i := 3) (oi := _) (v := ?_) rfl (by kernel_rfl) (by kernel_rfl) (by kernel_rfl) (fun _ _ _ h => h) (by assumption) (Or.inl ⟨by kernel_rfl, ?_⟩) ?_
            rotate_left
            · intro wz hSw; (first | (go_simp; done) | (go_simp; with_reducible rfl))
            (try simp only [Act.put, List.getElem_toArray, List.getElem_cons_zero, List.getElem_cons_succ, List.setIfInBounds_toArray, List.set_cons_zero, List.set_cons_succ])
            refine held_take (fun _ => trivial) (by kernel_rfl) (i := 4) (oi := _) (v := ?_) rfl (by kernel_rfl) (by kernel_rfl) (by kernel_rfl) (fun _ _ _ h => h) (by assumption) (Or.inl ⟨by kernel_rfl, ?_⟩) ?_
            rotate_left
            · intro wz hSw; (first | (go_simp; done) | (go_simp; with_reducible rfl))
            (try simp only [Act.put, List.getElem_toArray, List.getElem_cons_zero, List.getElem_cons_succ, List.setIfInBounds_toArray, List.set_cons_zero, List.set_cons_succ])
            refine held_take (fun _ => trivial) (by kernel_rfl) (i := 5) (oi := _) (v := ?_) rfl (by kernel_rfl) (by kernel_rfl) (by kernel_rfl) (fun _ _ _ h => h) (by assumption) (Or.inl ⟨by kernel_rfl, ?_⟩) ?_
            rotate_left
            · intro wz hSw; (first | (go_simp; done) | (go_simp; with_reducible rfl))
            (try simp only [Act.put, List.getElem_toArray, List.getElem_cons_zero, List.getElem_cons_succ, List.setIfInBounds_toArray, List.set_cons_zero, List.set_cons_succ])
            refine held_take (fun _ => trivial) (by kernel_rfl) (i := 6) (oi := _) (v := ?_) rfl (by kernel_rfl) (by kernel_rfl) (by kernel_rfl) (fun _ _ _ h => h) (by assumption) (Or.inl ⟨by kernel_rfl, ?_⟩) ?_
            rotate_left
            · intro wz hSw; (first | (go_simp; done) | (go_simp; with_reducible rfl))
            (try simp only [Act.put, List.getElem_toArray, List.getElem_cons_zero, List.getElem_cons_succ, List.setIfInBounds_toArray, List.set_cons_zero, List.set_cons_succ])
            refine held_step (fun _ => trivial) (i := 9) (o := _) (by kernel_rfl) rfl (fun K hK => ?_)
            rw [if_pos (by kernel_rfl)]
            refine wpIn_store_row (fun _ => trivial) 27 (.tmp 6) (.tmp 29) (by kernel_rfl) (x1.drew.heap.size + 1) _ _ (bv (q : Int)) (by kernel_rfl) (by kernel_rfl) hn7 (bv_info _) (bv_same 0 _) (bv_one _) ?_
            refine hK.out _ _ (Below.row hHeld hv7 _) (fun hHeld => ?_)
            clear hK K
            (try simp only [Act.put, List.getElem_toArray, List.getElem_cons_zero, List.getElem_cons_succ, List.setIfInBounds_toArray, List.set_cons_zero, List.set_cons_succ])
            replace hn8 := (setRow_other _ _ _ (bv (q : Int)) (show x1.drew.heap.size ≠ x1.drew.heap.size + 1 by omega)).trans hn8
            replace hn7 : BigAt (x1.drew.heap.size + 1) (q : Int) _ := setRow_heap _ _ _ _ _ _ hn7
            refine held_step (fun _ => trivial) (i := 10) (o := _) (by kernel_rfl) rfl (fun K hK => ?_)
            rw [if_pos (by kernel_rfl)]
            refine wpIn_store_row (fun _ => trivial) 27 (.tmp 7) (.tmp 30) (by kernel_rfl) (x1.drew.heap.size) _ _ (bv (r : Int)) (by kernel_rfl) (by kernel_rfl) hn8 (bv_info _) (bv_same 0 _) (bv_one _) ?_
            refine hK.out _ _ (Below.row hHeld hv8 _) (fun hHeld => ?_)
            clear hK K
            (try simp only [Act.put, List.getElem_toArray, List.getElem_cons_zero, List.getElem_cons_succ, List.setIfInBounds_toArray, List.set_cons_zero, List.set_cons_succ])
            refine held_take (fun _ => trivial) (by kernel_rfl) (i := 11) (oi := _) (v := ?_) rfl (by kernel_rfl) (by kernel_rfl) (by kernel_rfl) (fun _ _ _ h => h) (by assumption) (Or.inl ⟨by kernel_rfl, ?_⟩) ?_
            rotate_left
            · intro wz hSw; (first | (go_simp; done) | (go_simp; with_reducible rfl))
            (try simp only [Act.put, List.getElem_toArray, List.getElem_cons_zero, List.getElem_cons_succ, List.setIfInBounds_toArray, List.set_cons_zero, List.set_cons_succ])
            refine held_done (by kernel_rfl) ?_ _
            exact HT (x1.drew.heap.size + 1) (x1.drew.heap.size) _ (BigAt.other hn7 (show x1.drew.heap.size + 1 ≠ x1.drew.heap.size by omega) _) (setRow_heap _ _ _ _ _ _ hn8) hHeld

      · go_wp2_with (refine wpList_load_big (by kernel_rfl) 27 (.tmp 1) rfl (w.heap.size) rfl _ _ _ _ BX.out Try.underlying27 rfl (bv_info _) ?_)
        refine (hz _).mono ?_
        rintro e x1 ⟨rfl, hb1⟩
        have hbt := bstr_ne3 l (by have := HLL.out; omega)
        have HB := Lib.hid (bnext HI.out.below hb1)
        have hL := HOK.out.done hj
        have HN := Lib.hid hL
        have ha2 := cat_str [45] l (by have := HLL.out; simp; omega)
        rw [show bstr [45] = ⟨#[45]⟩ from rfl] at ha2
        obtain ⟨s1, hs1⟩ : ∃ s1, bstr l = s1 := ⟨_, rfl⟩
        obtain ⟨s2, hs2⟩ : ∃ s2, bstr ([45] ++ l) = s2 := ⟨_, rfl⟩
        rw [hs1] at hbt ha2 ⊢
        rw [hs2] at ha2
        have HS1 := Lib.hid hs1
        have HS2 := Lib.hid hs2
        clear hs1 hs2 hL hb1 hz
        cases sx with
        | true =>
          go_wp2_with (rw [ha2])
          go_ret
          exact ⟨by rw [← HS2.out, ← HN.out]; rfl, HB.out⟩
        | false =>
          go_wp2_with fail
          go_ret
          exact ⟨by rw [← HS1.out, ← HN.out]; rfl, HB.out⟩
    · have hz := fun w => none_z (v : Int) false w (by have := HV40.out; have e : BB = 2135987035920910082395021706169552114602704522356652769947041607822219725780640550022962086936576 := (by decide); have e2 : (10 : Nat) ^ 40 = 10000000000000000000000000000000000000000 := (by decide); omega) (by rw [decide_eq_false_iff_not]; omega)
      have hOK := HOK.out.next (Or.inl hv)
      have cD := Lib.hid fun w => div10 v w (by have := HV40.out; have e : (65536 : Nat) ^ 9 = 22300745198530623141535718272648361505980416 := (by decide); have e2 : (10 : Nat) ^ 40 = 10000000000000000000000000000000000000000 := (by decide); omega)
      obtain ⟨q, hq⟩ : ∃ q, v / 10 = q := ⟨_, rfl⟩
      obtain ⟨r, hr⟩ : ∃ r, v % 10 = r := ⟨_, rfl⟩
      rw [hq, hr] at cD hOK
      have HR10 : Hid (r < 10) := Lib.hid (by omega)
      have HOK2 := Lib.hid hOK
      clear hOK hq hr
      go_wp2_with (refine wpList_load_big (by kernel_rfl) 27 (.tmp 1) rfl (w.heap.size) rfl _ _ _ _ BX.out Try.underlying27 rfl (bv_info _) ?_)
      refine (hz _).mono ?_
      rintro e x1 ⟨rfl, hb1⟩
      have BX1 := Lib.hid (BigAt.below hb1 BX.out)
      have HB1 := Lib.hid (bnext HI.out.below hb1)
      clear hb1 hz HI BX
      go_wp2_with fail
      rename_i K7 hK7
      have HT : ∀ (Bq Br : Nat) (Wf : World), BigAt Bq (q : Int) Wf → BigAt Br (r : Int) Wf → Below x1.heap.size x1 Wf → K7 { tmps := #[.agg (bv x), .pointer (some ⟨w.heap.size, 0, none⟩), .string ⟨#[]⟩, .string (bstr l), .bool sx, .int .i64 (j : Int), .pointer (some ⟨Bq, 0, none⟩), .pointer (some ⟨Br, 0, none⟩), .int .i64 0, .pointer (some ⟨w.heap.size, 0, none⟩), .bool sx, .pointer (some ⟨w.heap.size, 0, none⟩), .int .i64 (j : Int), .bool true, .bool true, .agg (bv (v : Int)), .bool false, .bool true, .bool true, undef, undef, .bool true, .bool true, u23, u24, .tuple #[.agg (bv (q : Int)), .agg (bv (r : Int)), .int .i64 0], .agg (bv (v : Int)), .agg (bv 10), .tuple #[.agg (bv (q : Int)), .agg (bv (r : Int)), .int .i64 0], .agg (bv (q : Int)), .agg (bv (r : Int)), .int .i64 0, u32, u33, u34, u35, u36, u37, u38, u39, u40, u41, undef, undef, undef, undef], defers := [] } Wf := by
        intro Bq Br Wf hq hr hb
        refine hK7 _ _ ?_
        have cr : Wf.cell? ⟨Br, 1, none⟩ = some (.int .u64 (r : Int)) := by
          have := hr.dig 0 (by omega)
          rw [Int.natAbs_natCast, Nat.pow_zero, Nat.div_one, Nat.mod_eq_of_lt (by have := HR10.out; omega)] at this
          exact this
        obtain ⟨c, hc⟩ : ∃ c : Nat, 48 + r = c := ⟨_, rfl⟩
        have E1 : IntKind.u64.wrap (48 + (r : Int)) = (c : Int) := by have := HR10.out; rw [IntKind.wrap_u64]; omega
        have E2 : IntKind.u8.wrap (c : Int) = (c : Int) := by have := HR10.out; rw [IntKind.wrap_u8]; omega
        have hcv := conv_1 (c : Int) 5 Wf
        have ha := cat_str [(c : Int)] l (by have := HLL.out; simp; omega)
        have BQ : Hid (BigAt Bq (q : Int) (Wf.alloc (.cells #[.int .u8 (c : Int)] 5))) := Lib.hid (step_row hq)
        have BX2 : Hid (BigAt w.heap.size (v : Int) (Wf.alloc (.cells #[.int .u8 (c : Int)] 5))) := Lib.hid (step_row (BigAt.below hb BX1.out))
        have HB2 : Hid (Below w.heap.size w (Wf.alloc (.cells #[.int .u8 (c : Int)] 5))) := Lib.hid (by have := bnext HB1.out hb; exact this.alloc this.size _)
        have HOK3 : Hid (TxOk V (j + 1) q ((c : Int) :: l)) := Lib.hid (by have := HOK2.out; rw [← hc]; simpa using this)
        obtain ⟨s1, hs1⟩ : ∃ s1, bstr l = s1 := ⟨_, rfl⟩
        obtain ⟨s2, hs2⟩ : ∃ s2, bstr ([(c : Int)] ++ l) = s2 := ⟨_, rfl⟩
        obtain ⟨s3, hs3⟩ : ∃ s3, bstr [(c : Int)] = s3 := ⟨_, rfl⟩
        rw [hs3] at hcv ha
        rw [hs1] at ha ⊢
        rw [hs2] at ha
        have HS2 := Lib.hid hs2
        clear hK7 hq hr hb hs1 hs2 hs3 hc
        go_wp2_with (first | (refine wpList_load_row rfl 27 (.tmp 6) rfl (Bq) rfl _ _ _ _ BQ.out Try.underlying27 rfl (bv_info _) ?_) | (refine wpList_store_big rfl 27 (.tmp 1) (.tmp 41) rfl (w.heap.size) _ _ (bv (q : Int)) rfl rfl BX2.out (bv_info _) (bv_same _ _) (bv_one _) ?_) | rw [hcv] | rw [ha])
        go_roundg (60 - (j + 1))
        case measure => omega
        case rel => exact ⟨j + 1, q, (c : Int) :: l, rfl, by rw [← HS2.out]; rfl, by go_num, HOK3.out, ⟨BigAt.row BX2.out _, Below.row HB2.out (Nat.le_refl _) _⟩⟩
      refine (wpIn_wide (n := 5)).1 (held_region (F := Fence.wide) (S := fun X => Below x1.heap.size x1 X) (by kernel_rfl) (bdrew0 _ _ 1) (fun hHeld => ?_))
      refine held_take (fun _ => trivial) (by kernel_rfl) (i := 0) (oi := _) (v := .agg (bv (v : Int))) rfl (by kernel_rfl) (by kernel_rfl) (by kernel_rfl) (fun _ _ _ h => h) (by assumption) (Or.inl ⟨by kernel_rfl, ?_⟩) ?_
      · intro wz hSw; exact exec_load_row 27 (.tmp 1) (by kernel_rfl) (w.heap.size) (by kernel_rfl) _ _ _ _ (BigAt.below hSw BX1.out) Try.underlying27 (by kernel_rfl) (bv_info _)
      (try simp only [Act.put, List.getElem_toArray, List.getElem_cons_zero, List.getElem_cons_succ, List.setIfInBounds_toArray, List.set_cons_zero, List.set_cons_succ])
      refine held_step3 (fun _ => trivial) (i := 1) (j := 7) (k := 8) (o := _) (o2 := _) (o3 := _) (by kernel_rfl) rfl rfl rfl (fun K hK => ?_) (fun K hK => ?_) (fun K hK => ?_)
      · go_simp
        refine ⟨trivial, callsIn_wide.2 ((cO.out _).mono ?_)⟩
        rintro e y1 ⟨rfl, hc1⟩
        dsimp only
        refine hK.out _ _ (bnext hHeld hc1) (fun hHeld => ?_)
        clear hK K
        (try simp only [Act.put, List.getElem_toArray, List.getElem_cons_zero, List.getElem_cons_succ, List.setIfInBounds_toArray, List.set_cons_zero, List.set_cons_succ])
        refine held_step3 (fun _ => trivial) (i := 2) (j := 7) (k := 8) (o := _) (o2 := _) (o3 := _) (by kernel_rfl) rfl rfl rfl (fun K hK => ?_) (fun K hK => ?_) (fun K hK => ?_)
        · go_simp
          refine ⟨trivial, callsIn_wide.2 ((cD.out _).mono ?_)⟩
          rintro e y2 ⟨rfl, hc2⟩
          dsimp only
          refine hK.out _ _ (bnext hHeld hc2) (fun hHeld => ?_)
          clear hK K
          (try simp only [Act.put, List.getElem_toArray, List.getElem_cons_zero, List.getElem_cons_succ, List.setIfInBounds_toArray, List.set_cons_zero, List.set_cons_succ])
          refine held_take (fun _ => trivial) (by kernel_rfl) (i := 3) (oi := _) (v := ?_) rfl (by kernel_rfl) (by kernel_rfl) (by kernel_rfl) (fun _ _ _ h => h) (by assumption) (Or.inl ⟨by kernel_rfl, ?_⟩) ?_
          rotate_left
          · intro wz hSw; (first | (go_simp; done) | (go_simp; with_reducible rfl))
          (try simp only [Act.put, List.getElem_toArray, List.getElem_cons_zero, List.getElem_cons_succ, List.setIfInBounds_toArray, List.set_cons_zero, List.set_cons_succ])
          refine held_take (fun _ => trivial) (by kernel_rfl) (i := 4) (oi := _) (v := ?_) rfl (by kernel_rfl) (by kernel_rfl) (by kernel_rfl) (fun _ _ _ h => h) (by assumption) (Or.inl ⟨by kernel_rfl, ?_⟩) ?_
          rotate_left
          · intro wz hSw; (first | (go_simp; done) | (go_simp; with_reducible rfl))
          (try simp only [Act.put, List.getElem_toArray, List.getElem_cons_zero, List.getElem_cons_succ, List.setIfInBounds_toArray, List.set_cons_zero, List.set_cons_succ])
          refine held_take (fun _ => trivial) (by kernel_rfl) (i := 5) (oi := _) (v := ?_) rfl (by kernel_rfl) (by kernel_rfl) (by kernel_rfl) (fun _ _ _ h => h) (by assumption) (Or.inl ⟨by kernel_rfl, ?_⟩) ?_
          rotate_left
          · intro wz hSw; (first | (go_simp; done) | (go_simp; with_reducible rfl))
          (try simp only [Act.put, List.getElem_toArray, List.getElem_cons_zero, List.getElem_cons_succ, List.setIfInBounds_toArray, List.set_cons_zero, List.set_cons_succ])
          refine held_take (fun _ => trivial) (by kernel_rfl) (i := 6) (oi := _) (v := ?_) rfl (by kernel_rfl) (by kernel_rfl) (by kernel_rfl) (fun _ _ _ h => h) (by assumption) (Or.inl ⟨by kernel_rfl, ?_⟩) ?_
          rotate_left
          · intro wz hSw; (first | (go_simp; done) | (go_simp; with_reducible rfl))
          (try simp only [Act.put, List.getElem_toArray, List.getElem_cons_zero, List.getElem_cons_succ, List.setIfInBounds_toArray, List.set_cons_zero, List.set_cons_succ])
          refine held_step2 (fun _ => trivial) (i := 7) (j := 8) (o := _) (o2 := _) (by kernel_rfl) rfl rfl (fun K hK => ?_) (fun K hK => ?_)
          · go_simp
            have hn7 : (y2.alloc (.cells #[.bool false, .int .u64 0, .int .u64 0, .int .u64 0, .int .u64 0, .int .u64 0, .int .u64 0, .int .u64 0, .int .u64 0, .int .u64 0, .int .u64 0, .int .u64 0, .int .u64 0, .int .u64 0, .int .u64 0, .int .u64 0, .int .u64 0, .int .u64 0, .int .u64 0, .int .u64 0, .int .u64 0] 27)).heap[y2.heap.size]? = _ := heap_alloc_new _ _
            have hv7 : x1.heap.size ≤ y2.heap.size := hHeld.size
            refine hK.out _ _ (hHeld.alloc hHeld.size _) (fun hHeld => ?_)
            clear hK K
            (try simp only [Act.put, List.getElem_toArray, List.getElem_cons_zero, List.getElem_cons_succ, List.setIfInBounds_toArray, List.set_cons_zero, List.set_cons_succ])
            refine held_step (fun _ => trivial) (i := 8) (o := _) (by kernel_rfl) rfl (fun K hK => ?_)
            go_simp
            have hn8 : ((y2.alloc (.cells #[.bool false, .int .u64 0, .int .u64 0, .int .u64 0, .int .u64 0, .int .u64 0, .int .u64 0, .int .u64 0, .int .u64 0, .int .u64 0, .int .u64 0, .int .u64 0, .int .u64 0, .int .u64 0, .int .u64 0, .int .u64 0, .int .u64 0, .int .u64 0, .int .u64 0, .int .u64 0, .int .u64 0] 27)).alloc (.cells #[.bool false, .int .u64 0, .int .u64 0, .int .u64 0, .int .u64 0, .int .u64 0, .int .u64 0, .int .u64 0, .int .u64 0, .int .u64 0, .int .u64 0, .int .u64 0, .int .u64 0, .int .u64 0, .int .u64 0, .int .u64 0, .int .u64 0, .int .u64 0, .int .u64 0, .int .u64 0, .int .u64 0] 27)).heap[y2.heap.size + 1]? = _ := heap_alloc2_new _ _ _
            have hv8 : x1.heap.size ≤ y2.heap.size + 1 := Nat.le_succ_of_le hv7
            have hlt : y2.heap.size < y2.heap.size + 1 := Nat.lt_succ_self _
            replace hn7 := step_row (o := (.cells #[.bool false, .int .u64 0, .int .u64 0, .int .u64 0, .int .u64 0, .int .u64 0, .int .u64 0, .int .u64 0, .int .u64 0, .int .u64 0, .int .u64 0, .int .u64 0, .int .u64 0, .int .u64 0, .int .u64 0, .int .u64 0, .int .u64 0, .int .u64 0, .int .u64 0, .int .u64 0, .int .u64 0] 27)) hn7
            refine hK.out _ _ (hHeld.alloc hHeld.size _) (fun hHeld => ?_)
            clear hK K
            (try simp only [Act.put, List.getElem_toArray, List.getElem_cons_zero, List.getElem_cons_succ, List.setIfInBounds_toArray, List.set_cons_zero, List.set_cons_succ])
            refine held_step (fun _ => trivial) (i := 9) (o := _) (by kernel_rfl) rfl (fun K hK => ?_)
            rw [if_pos (by kernel_rfl)]
            refine wpIn_store_row (fun _ => trivial) 27 (.tmp 6) (.tmp 29) (by kernel_rfl) (y2.heap.size) _ _ (bv (q : Int)) (by kernel_rfl) (by kernel_rfl) hn7 (bv_info _) (bv_same 0 _) (bv_one _) ?_
            refine hK.out _ _ (Below.row hHeld hv7 _) (fun hHeld => ?_)
            clear hK K
            (try simp only [Act.put, List.getElem_toArray, List.getElem_cons_zero, List.getElem_cons_succ, List.setIfInBounds_toArray, List.set_cons_zero, List.set_cons_succ])
            replace hn8 := (setRow_other _ _ _ (bv (q : Int)) (show y2.heap.size + 1 ≠ y2.heap.size by omega)).trans hn8
            replace hn7 : BigAt (y2.heap.size) (q : Int) _ := setRow_heap _ _ _ _ _ _ hn7
            refine held_step (fun _ => trivial) (i := 10) (o := _) (by kernel_rfl) rfl (fun K hK => ?_)
            rw [if_pos (by kernel_rfl)]
            refine wpIn_store_row (fun _ => trivial) 27 (.tmp 7) (.tmp 30) (by kernel_rfl) (y2.heap.size + 1) _ _ (bv (r : Int)) (by kernel_rfl) (by kernel_rfl) hn8 (bv_info _) (bv_same 0 _) (bv_one _) ?_
            refine hK.out _ _ (Below.row hHeld hv8 _) (fun hHeld => ?_)
            clear hK K
            (try simp only [Act.put, List.getElem_toArray, List.getElem_cons_zero, List.getElem_cons_succ, List.setIfInBounds_toArray, List.set_cons_zero, List.set_cons_succ])
            refine held_take (fun _ => trivial) (by kernel_rfl) (i := 11) (oi := _) (v := ?_) rfl (by kernel_rfl) (by kernel_rfl) (by kernel_rfl) (fun _ _ _ h => h) (by assumption) (Or.inl ⟨by kernel_rfl, ?_⟩) ?_
            rotate_left
            · intro wz hSw; (first | (go_simp; done) | (go_simp; with_reducible rfl))
            (try simp only [Act.put, List.getElem_toArray, List.getElem_cons_zero, List.getElem_cons_succ, List.setIfInBounds_toArray, List.set_cons_zero, List.set_cons_succ])
            refine held_done (by kernel_rfl) ?_ _
            exact HT (y2.heap.size) (y2.heap.size + 1) _ (BigAt.other hn7 (show y2.heap.size ≠ y2.heap.size + 1 by omega) _) (setRow_heap _ _ _ _ _ _ hn8) hHeld
          · go_simp
            have hn8 : (y2.alloc (.cells #[.bool false, .int .u64 0, .int .u64 0, .int .u64 0, .int .u64 0, .int .u64 0, .int .u64 0, .int .u64 0, .int .u64 0, .int .u64 0, .int .u64 0, .int .u64 0, .int .u64 0, .int .u64 0, .int .u64 0, .int .u64 0, .int .u64 0, .int .u64 0, .int .u64 0, .int .u64 0, .int .u64 0] 27)).heap[y2.heap.size]? = _ := heap_alloc_new _ _
            have hv8 : x1.heap.size ≤ y2.heap.size := hHeld.size
            refine hK.out _ _ (hHeld.alloc hHeld.size _) (fun hHeld => ?_)
            clear hK K
            (try simp only [Act.put, List.getElem_toArray, List.getElem_cons_zero, List.getElem_cons_succ, List.setIfInBounds_toArray, List.set_cons_zero, List.set_cons_succ])
            refine held_step (fun _ => trivial) (i := 7) (o := _) (by kernel_rfl) rfl (fun K hK => ?_)
            go_simp
            have hn7 : ((y2.alloc (.cells #[.bool false, .int .u64 0, .int .u64 0, .int .u64 0, .int .u64 0, .int .u64 0, .int .u64 0, .int .u64 0, .int .u64 0, .int .u64 0, .int .u64 0, .int .u64 0, .int .u64 0, .int .u64 0, .int .u64 0, .int .u64 0, .int .u64 0, .int .u64 0, .int .u64 0, .int .u64 0, .int .u64 0] 27)).alloc (.cells #[.bool false, .int .u64 0, .int .u64 0, .int .u64 0, .int .u64 0, .int .u64 0, .int .u64 0, .int .u64 0, .int .u64 0, .int .u64 0, .int .u64 0, .int .u64 0, .int .u64 0, .int .u64 0, .int .u64 0, .int .u64 0, .int .u64 0, .int .u64 0, .int .u64 0, .int .u64 0, .int .u64 0] 27)).heap[y2.heap.size + 1]? = _ := heap_alloc2_new _ _ _
            have hv7 : x1.heap.size ≤ y2.heap.size + 1 := Nat.le_succ_of_le hv8
            have hlt : y2.heap.size < y2.heap.size + 1 := Nat.lt_succ_self _
            replace hn8 := step_row (o := (.cells #[.bool false, .int .u64 0, .int .u64 0, .int .u64 0, .int .u64 0, .int .u64 0, .int .u64 0, .int .u64 0, .int .u64 0, .int .u64 0, .int .u64 0, .int .u64 0, .int .u64 0, .int .u64 0, .int .u64 0, .int .u64 0, .int .u64 0, .int .u64 0, .int .u64 0, .int .u64 0, .int .u64 0] 27)) hn8
            refine hK.out _ _ (hHeld.alloc hHeld.size _) (fun hHeld => ?_)
            clear hK K
            (try simp only [Act.put, List.getElem_toArray, List.getElem_cons_zero, List.getElem_cons_succ, List.setIfInBounds_toArray, List.set_cons_zero, List.set_cons_succ])
            refine held_step (fun _ => trivial) (i := 9) (o := _) (by kernel_rfl) rfl (fun K hK => ?_)
            rw [if_pos (by kernel_rfl)]
            refine wpIn_store_row (fun _ => trivial) 27 (.tmp 6) (.tmp 29) (by kernel_rfl) (y2.heap.size + 1) _ _ (bv (q : Int)) (by kernel_rfl) (by kernel_rfl) hn7 (bv_info _) (bv_same 0 _) (bv_one _) ?_
            refine hK.out _ _ (Below.row hHeld hv7 _) (fun hHeld => ?_)
            clear hK K
            (try simp only [Act.put, List.getElem_toArray, List.getElem_cons_zero, List.getElem_cons_succ, List.setIfInBounds_toArray, List.set_cons_zero, List.set_cons_succ])
            replace hn8 := (setRow_other _ _ _ (bv (q : Int)) (show y2.heap.size ≠ y2.heap.size + 1 by omega)).trans hn8
            replace hn7 : BigAt (y2.heap.size + 1) (q : Int) _ := setRow_heap _ _ _ _ _ _ hn7
            refine held_step (fun _ => trivial) (i := 10) (o := _) (by kernel_rfl) rfl (fun K hK => ?_)
            rw [if_pos (by kernel_rfl)]
            refine wpIn_store_row (fun _ => trivial) 27 (.tmp 7) (.tmp 30) (by kernel_rfl) (y2.heap.size) _ _ (bv (r : Int)) (by kernel_rfl) (by kernel_rfl) hn8 (bv_info _) (bv_same 0 _) (bv_one _) ?_
            refine hK.out _ _ (Below.row hHeld hv8 _) (fun hHeld => ?_)
            clear hK K
            (try simp only [Act.put, List.getElem_toArray, List.getElem_cons_zero, List.getElem_cons_succ, List.setIfInBounds_toArray, List.set_cons_zero, List.set_cons_succ])
            refine held_take (fun _ => trivial) (by kernel_rfl) (i := 11) (oi := _) (v := ?_) rfl (by kernel_rfl) (by kernel_rfl) (by kernel_rfl) (fun _ _ _ h => h) (by assumption) (Or.inl ⟨by kernel_rfl, ?_⟩) ?_
            rotate_left
            · intro wz hSw; (first | (go_simp; done) | (go_simp; with_reducible rfl))
            (try simp only [Act.put, List.getElem_toArray, List.getElem_cons_zero, List.getElem_cons_succ, List.setIfInBounds_toArray, List.set_cons_zero, List.set_cons_succ])
            refine held_done (by kernel_rfl) ?_ _
            exact HT (y2.heap.size + 1) (y2.heap.size) _ (BigAt.other hn7 (show y2.heap.size + 1 ≠ y2.heap.size by omega) _) (setRow_heap _ _ _ _ _ _ hn8) hHeld
        · go_simp
          have hn7 : (y1.alloc (.cells #[.bool false, .int .u64 0, .int .u64 0, .int .u64 0, .int .u64 0, .int .u64 0, .int .u64 0, .int .u64 0, .int .u64 0, .int .u64 0, .int .u64 0, .int .u64 0, .int .u64 0, .int .u64 0, .int .u64 0, .int .u64 0, .int .u64 0, .int .u64 0, .int .u64 0, .int .u64 0, .int .u64 0] 27)).heap[y1.heap.size]? = _ := heap_alloc_new _ _
          have hv7 : x1.heap.size ≤ y1.heap.size := hHeld.size
          refine hK.out _ _ (hHeld.alloc hHeld.size _) (fun hHeld => ?_)
          clear hK K
          (try simp only [Act.put, List.getElem_toArray, List.getElem_cons_zero, List.getElem_cons_succ, List.setIfInBounds_toArray, List.set_cons_zero, List.set_cons_succ])
          refine held_step2 (fun _ => trivial) (i := 2) (j := 8) (o := _) (o2 := _) (by kernel_rfl) rfl rfl (fun K hK => ?_) (fun K hK => ?_)
          · go_simp
            refine ⟨trivial, callsIn_wide.2 ((cD.out _).mono ?_)⟩
            rintro e y2 ⟨rfl, hc2⟩
            dsimp only
            replace hn7 := keep_row hc2 hn7
            refine hK.out _ _ (bnext hHeld hc2) (fun hHeld => ?_)
            clear hK K
            (try simp only [Act.put, List.getElem_toArray, List.getElem_cons_zero, List.getElem_cons_succ, List.setIfInBounds_toArray, List.set_cons_zero, List.set_cons_succ])
            refine held_take (fun _ => trivial) (by kernel_rfl) (i := 3) (oi := _) (v := ?_) rfl (by kernel_rfl) (by kernel_rfl) (by kernel_rfl) (fun _ _ _ h => h) (by assumption) (Or.inl ⟨by kernel_rfl, ?_⟩) ?_
            rotate_left
            · intro wz hSw; (first | (go_simp; done) | (go_simp; with_reducible rfl))
            (try simp only [Act.put, List.getElem_toArray, List.getElem_cons_zero, List.getElem_cons_succ, List.setIfInBounds_toArray, List.set_cons_zero, List.set_cons_succ])
            refine held_take (fun _ => trivial) (by kernel_rfl) (i := 4) (oi := _) (v := ?_) rfl (by kernel_rfl) (by kernel_rfl) (by kernel_rfl) (fun _ _ _ h => h) (by assumption) (Or.inl ⟨by kernel_rfl, ?_⟩) ?_
            rotate_left
            · intro wz hSw; (first | (go_simp; done) | (go_simp; with_reducible rfl))
            (try simp only [Act.put, List.getElem_toArray, List.getElem_cons_zero, List.getElem_cons_succ, List.setIfInBounds_toArray, List.set_cons_zero, List.set_cons_succ])
            refine held_take (fun _ => trivial) (by kernel_rfl) (i := 5) (oi := _) (v := ?_) rfl (by kernel_rfl) (by kernel_rfl) (by kernel_rfl) (fun _ _ _ h => h) (by assumption) (Or.inl ⟨by kernel_rfl, ?_⟩) ?_
            rotate_left
            · intro wz hSw; (first | (go_simp; done) | (go_simp; with_reducible rfl))
            (try simp only [Act.put, List.getElem_toArray, List.getElem_cons_zero, List.getElem_cons_succ, List.setIfInBounds_toArray, List.set_cons_zero, List.set_cons_succ])
            refine held_take (fun _ => trivial) (by kernel_rfl) (i := 6) (oi := _) (v := ?_) rfl (by kernel_rfl) (by kernel_rfl) (by kernel_rfl) (fun _ _ _ h => h) (by assumption) (Or.inl ⟨by kernel_rfl, ?_⟩) ?_
            rotate_left
            · intro wz hSw; (first | (go_simp; done) | (go_simp; with_reducible rfl))
            (try simp only [Act.put, List.getElem_toArray, List.getElem_cons_zero, List.getElem_cons_succ, List.setIfInBounds_toArray, List.set_cons_zero, List.set_cons_succ])
            refine held_step (fun _ => trivial) (i := 8) (o := _) (by kernel_rfl) rfl (fun K hK => ?_)
            go_simp
            have hn8 : (y2.alloc (.cells #[.bool false, .int .u64 0, .int .u64 0, .int .u64 0, .int .u64 0, .int .u64 0, .int .u64 0, .int .u64 0, .int .u64 0, .int .u64 0, .int .u64 0, .int .u64 0, .int .u64 0, .int .u64 0, .int .u64 0, .int .u64 0, .int .u64 0, .int .u64 0, .int .u64 0, .int .u64 0, .int .u64 0] 27)).heap[y2.heap.size]? = _ := heap_alloc_new _ _
            have hv8 : x1.heap.size ≤ y2.heap.size := hHeld.size
            have hlt : y1.heap.size < y2.heap.size := (Array.getElem?_eq_some_iff.1 hn7).1
            replace hn7 := step_row (o := (.cells #[.bool false, .int .u64 0, .int .u64 0, .int .u64 0, .int .u64 0, .int .u64 0, .int .u64 0, .int .u64 0, .int .u64 0, .int .u64 0, .int .u64 0, .int .u64 0, .int .u64 0, .int .u64 0, .int .u64 0, .int .u64 0, .int .u64 0, .int .u64 0, .int .u64 0, .int .u64 0, .int .u64 0] 27)) hn7
            refine hK.out _ _ (hHeld.alloc hHeld.size _) (fun hHeld => ?_)
            clear hK K
            (try simp only [Act.put, List.getElem_toArray, List.getElem_cons_zero, List.getElem_cons_succ, List.setIfInBounds_toArray, List.set_cons_zero, List.set_cons_succ])
            refine held_step (fun _ => trivial) (i := 9) (o := _) (by kernel_rfl) rfl (fun K hK => ?_)
            rw [if_pos (by kernel_rfl)]
            refine wpIn_store_row (fun _ => trivial) 27 (.tmp 6) (.tmp 29) (by kernel_rfl) (y1.heap.size) _ _ (bv (q : Int)) (by kernel_rfl) (by kernel_rfl) hn7 (bv_info _) (bv_same 0 _) (bv_one _) ?_
            refine hK.out _ _ (Below.row hHeld hv7 _) (fun hHeld => ?_)
            clear hK K
            (try simp only [Act.put, List.getElem_toArray, List.getElem_cons_zero, List.getElem_cons_succ, List.setIfInBounds_toArray, List.set_cons_zero, List.set_cons_succ])
            replace hn8 := (setRow_other _ _ _ (bv (q : Int)) (show y2.heap.size ≠ y1.heap.size by omega)).trans hn8
            replace hn7 : BigAt (y1.heap.size) (q : Int) _ := setRow_heap _ _ _ _ _ _ hn7
            refine held_step (fun _ => trivial) (i := 10) (o := _) (by kernel_rfl) rfl (fun K hK => ?_)
            rw [if_pos (by kernel_rfl)]
            refine wpIn_store_row (fun _ => trivial) 27 (.tmp 7) (.tmp 30) (by kernel_rfl) (y2.heap.size) _ _ (bv (r : Int)) (by kernel_rfl) (by kernel_rfl) hn8 (bv_info _) (bv_same 0 _) (bv_one _) ?_
            refine hK.out _ _ (Below.row hHeld hv8 _) (fun hHeld => ?_)
            clear hK K
            (try simp only [Act.put, List.getElem_toArray, List.getElem_cons_zero, List.getElem_cons_succ, List.setIfInBounds_toArray, List.set_cons_zero, List.set_cons_succ])
            refine held_take (fun _ => trivial) (by kernel_rfl) (i := 11) (oi := _) (v := ?_) rfl (by kernel_rfl) (by kernel_rfl) (by kernel_rfl) (fun _ _ _ h => h) (by assumption) (Or.inl ⟨by kernel_rfl, ?_⟩) ?_
            rotate_left
            · intro wz hSw; (first | (go_simp; done) | (go_simp; with_reducible rfl))
            (try simp only [Act.put, List.getElem_toArray, List.getElem_cons_zero, List.getElem_cons_succ, List.setIfInBounds_toArray, List.set_cons_zero, List.set_cons_succ])
            refine held_done (by kernel_rfl) ?_ _
            exact HT (y1.heap.size) (y2.heap.size) _ (BigAt.other hn7 (show y1.heap.size ≠ y2.heap.size by omega) _) (setRow_heap _ _ _ _ _ _ hn8) hHeld
          · go_simp
            have hn8 : ((y1.alloc (.cells #[.bool false, .int .u64 0, .int .u64 0, .int .u64 0, .int .u64 0, .int .u64 0, .int .u64 0, .int .u64 0, .int .u64 0, .int .u64 0, .int .u64 0, .int .u64 0, .int .u64 0, .int .u64 0, .int .u64 0, .int .u64 0, .int .u64 0, .int .u64 0, .int .u64 0, .int .u64 0, .int .u64 0] 27)).alloc (.cells #[.bool false, .int .u64 0, .int .u64 0, .int .u64 0, .int .u64 0, .int .u64 0, .int .u64 0, .int .u64 0, .int .u64 0, .int .u64 0, .int .u64 0, .int .u64 0, .int .u64 0, .int .u64 0, .int .u64 0, .int .u64 0, .int .u64 0, .int .u64 0, .int .u64 0, .int .u64 0, .int .u64 0] 27)).heap[y1.heap.size + 1]? = _ := heap_alloc2_new _ _ _
            have hv8 : x1.heap.size ≤ y1.heap.size + 1 := Nat.le_succ_of_le hv7
            have hlt : y1.heap.size < y1.heap.size + 1 := Nat.lt_succ_self _
            replace hn7 := step_row (o := (.cells #[.bool false, .int .u64 0, .int .u64 0, .int .u64 0, .int .u64 0, .int .u64 0, .int .u64 0, .int .u64 0, .int .u64 0, .int .u64 0, .int .u64 0, .int .u64 0, .int .u64 0, .int .u64 0, .int .u64 0, .int .u64 0, .int .u64 0, .int .u64 0, .int .u64 0, .int .u64 0, .int .u64 0] 27)) hn7
            refine hK.out _ _ (hHeld.alloc hHeld.size _) (fun hHeld => ?_)
            clear hK K
            (try simp only [Act.put, List.getElem_toArray, List.getElem_cons_zero, List.getElem_cons_succ, List.setIfInBounds_toArray, List.set_cons_zero, List.set_cons_succ])
            refine held_step (fun _ => trivial) (i := 2) (o := _) (by kernel_rfl) rfl (fun K hK => ?_)
            go_simp
            refine ⟨trivial, callsIn_wide.2 ((cD.out _).mono ?_)⟩
            rintro e y2 ⟨rfl, hc2⟩
            dsimp only
            replace hn7 := keep_row hc2 hn7; replace hn8 := keep_row hc2 hn8
            refine hK.out _ _ (bnext hHeld hc2) (fun hHeld => ?_)
            clear hK K
            (try simp only [Act.put, List.getElem_toArray, List.getElem_cons_zero, List.getElem_cons_succ, List.setIfInBounds_toArray, List.set_cons_zero, List.set_cons_succ])
            refine held_take (fun _ => trivial) (by kernel_rfl) (i := 3) (oi := _) (v := ?_) rfl (by kernel_rfl) (by kernel_rfl) (by kernel_rfl) (fun _ _ _ h => h) (by assumption) (Or.inl ⟨by kernel_rfl, ?_⟩) ?_
            rotate_left
            · intro wz hSw; (first | (go_simp; done) | (go_simp; with_reducible rfl))
            (try simp only [Act.put, List.getElem_toArray, List.getElem_cons_zero, List.getElem_cons_succ, List.setIfInBounds_toArray, List.set_cons_zero, List.set_cons_succ])
            refine held_take (fun _ => trivial) (by kernel_rfl) (i := 4) (oi := _) (v := ?_) rfl (by kernel_rfl) (by kernel_rfl) (by kernel_rfl) (fun _ _ _ h => h) (by assumption) (Or.inl ⟨by kernel_rfl, ?_⟩) ?_
            rotate_left
            · intro wz hSw; (first | (go_simp; done) | (go_simp; with_reducible rfl))
            (try simp only [Act.put, List.getElem_toArray, List.getElem_cons_zero, List.getElem_cons_succ, List.setIfInBounds_toArray, List.set_cons_zero, List.set_cons_succ])
            refine held_take (fun _ => trivial) (by kernel_rfl) (i := 5) (oi := _) (v := ?_) rfl (by kernel_rfl) (by kernel_rfl) (by kernel_rfl) (fun _ _ _ h => h) (by assumption) (Or.inl ⟨by kernel_rfl, ?_⟩) ?_
            rotate_left
            · intro wz hSw; (first | (go_simp; done) | (go_simp; with_reducible rfl))
            (try simp only [Act.put, List.getElem_toArray, List.getElem_cons_zero, List.getElem_cons_succ, List.setIfInBounds_toArray, List.set_cons_zero, List.set_cons_succ])
            refine held_take (fun _ => trivial) (by kernel_rfl) (i := 6) (oi := _) (v := ?_) rfl (by kernel_rfl) (by kernel_rfl) (by kernel_rfl) (fun _ _ _ h => h) (by assumption) (Or.inl ⟨by kernel_rfl, ?_⟩) ?_
            rotate_left
            · intro wz hSw; (first | (go_simp; done) | (go_simp; with_reducible rfl))
            (try simp only [Act.put, List.getElem_toArray, List.getElem_cons_zero, List.getElem_cons_succ, List.setIfInBounds_toArray, List.set_cons_zero, List.set_cons_succ])
            refine held_step (fun _ => trivial) (i := 9) (o := _) (by kernel_rfl) rfl (fun K hK => ?_)
            rw [if_pos (by kernel_rfl)]
            refine wpIn_store_row (fun _ => trivial) 27 (.tmp 6) (.tmp 29) (by kernel_rfl) (y1.heap.size) _ _ (bv (q : Int)) (by kernel_rfl) (by kernel_rfl) hn7 (bv_info _) (bv_same 0 _) (bv_one _) ?_
            refine hK.out _ _ (Below.row hHeld hv7 _) (fun hHeld => ?_)
            clear hK K
            (try simp only [Act.put, List.getElem_toArray, List.getElem_cons_zero, List.getElem_cons_succ, List.setIfInBounds_toArray, List.set_cons_zero, List.set_cons_succ])
            replace hn8 := (setRow_other _ _ _ (bv (q : Int)) (show y1.heap.size + 1 ≠ y1.heap.size by omega)).trans hn8
            replace hn7 : BigAt (y1.heap.size) (q : Int) _ := setRow_heap _ _ _ _ _ _ hn7
            refine held_step (fun _ => trivial) (i := 10) (o := _) (by kernel_rfl) rfl (fun K hK => ?_)
            rw [if_pos (by kernel_rfl)]
            refine wpIn_store_row (fun _ => trivial) 27 (.tmp 7) (.tmp 30) (by kernel_rfl) (y1.heap.size + 1) _ _ (bv (r : Int)) (by kernel_rfl) (by kernel_rfl) hn8 (bv_info _) (bv_same 0 _) (bv_one _) ?_
            refine hK.out _ _ (Below.row hHeld hv8 _) (fun hHeld => ?_)
            clear hK K
            (try simp only [Act.put, List.getElem_toArray, List.getElem_cons_zero, List.getElem_cons_succ, List.setIfInBounds_toArray, List.set_cons_zero, List.set_cons_succ])
            refine held_take (fun _ => trivial) (by kernel_rfl) (i := 11) (oi := _) (v := ?_) rfl (by kernel_rfl) (by kernel_rfl) (by kernel_rfl) (fun _ _ _ h => h) (by assumption) (Or.inl ⟨by kernel_rfl, ?_⟩) ?_
            rotate_left
            · intro wz hSw; (first | (go_simp; done) | (go_simp; with_reducible rfl))
            (try simp only [Act.put, List.getElem_toArray, List.getElem_cons_zero, List.getElem_cons_succ, List.setIfInBounds_toArray, List.set_cons_zero, List.set_cons_succ])
            refine held_done (by kernel_rfl) ?_ _
            exact HT (y1.heap.size) (y1.heap.size + 1) _ (BigAt.other hn7 (show y1.heap.size ≠ y1.heap.size + 1 by omega) _) (setRow_heap _ _ _ _ _ _ hn8) hHeld
        · go_simp
          have hn8 : (y1.alloc (.cells #[.bool false, .int .u64 0, .int .u64 0, .int .u64 0, .int .u64 0, .int .u64 0, .int .u64 0, .int .u64 0, .int .u64 0, .int .u64 0, .int .u64 0, .int .u64 0, .int .u64 0, .int .u64 0, .int .u64 0, .int .u64 0, .int .u64 0, .int .u64 0, .int .u64 0, .int .u64 0, .int .u64 0] 27)).heap[y1.heap.size]? = _ := heap_alloc_new _ _
          have hv8 : x1.heap.size ≤ y1.heap.size := hHeld.size
          refine hK.out _ _ (hHeld.alloc hHeld.size _) (fun hHeld => ?_)
          clear hK K
          (try simp only [Act.put, List.getElem_toArray, List.getElem_cons_zero, List.getElem_cons_succ, List.setIfInBounds_toArray, List.set_cons_zero, List.set_cons_succ])
          refine held_step2 (fun _ => trivial) (i := 2) (j := 7) (o := _) (o2 := _) (by kernel_rfl) rfl rfl (fun K hK => ?_) (fun K hK => ?_)
          · go_simp
            refine ⟨trivial, callsIn_wide.2 ((cD.out _).mono ?_)⟩
            rintro e y2 ⟨rfl, hc2⟩
            dsimp only
            replace hn8 := keep_row hc2 hn8
            refine hK.out _ _ (bnext hHeld hc2) (fun hHeld => ?_)
            clear hK K
            (try simp only [Act.put, List.getElem_toArray, List.getElem_cons_zero, List.getElem_cons_succ, List.setIfInBounds_toArray, List.set_cons_zero, List.set_cons_succ])
            refine held_take (fun _ => trivial) (by kernel_rfl) (i := 3) (oi := _) (v := ?_) rfl (by kernel_rfl) (by kernel_rfl) (by kernel_rfl) (fun _ _ _ h => h) (by assumption) (Or.inl ⟨by kernel_rfl, ?_⟩) ?_
            rotate_left
            · intro wz hSw; (first | (go_simp; done) | (go_simp; with_reducible rfl))
            (try simp only [Act.put, List.getElem_toArray, List.getElem_cons_zero, List.getElem_cons_succ, List.setIfInBounds_toArray, List.set_cons_zero, List.set_cons_succ])
            refine held_take (fun _ => trivial) (by kernel_rfl) (i := 4) (oi := _) (v := ?_) rfl (by kernel_rfl) (by kernel_rfl) (by kernel_rfl) (fun _ _ _ h => h) (by assumption) (Or.inl ⟨by kernel_rfl, ?_⟩) ?_
            rotate_left
            · intro wz hSw; (first | (go_simp; done) | (go_simp; with_reducible rfl))
            (try simp only [Act.put, List.getElem_toArray, List.getElem_cons_zero, List.getElem_cons_succ, List.setIfInBounds_toArray, List.set_cons_zero, List.set_cons_succ])
            refine held_take (fun _ => trivial) (by kernel_rfl) (i := 5) (oi := _) (v := ?_) rfl (by kernel_rfl) (by kernel_rfl) (by kernel_rfl) (fun _ _ _ h => h) (by assumption) (Or.inl ⟨by kernel_rfl, ?_⟩) ?_
            rotate_left
            · intro wz hSw; (first | (go_simp; done) | (go_simp; with_reducible rfl))
            (try simp only [Act.put, List.getElem_toArray, List.getElem_cons_zero, List.getElem_cons_succ, List.setIfInBounds_toArray, List.set_cons_zero, List.set_cons_succ])
            refine held_take (fun _ => trivial) (by kernel_rfl) (i := 6) (oi := _) (v := ?_) rfl (by kernel_rfl) (by kernel_rfl) (by kernel_rfl) (fun _ _ _ h => h) (by assumption) (Or.inl ⟨by kernel_rfl, ?_⟩) ?_
            rotate_left
            · intro wz hSw; (first | (go_simp; done) | (go_simp; with_reducible rfl))
            (try simp only [Act.put, List.getElem_toArray, List.getElem_cons_zero, List.getElem_cons_succ, List.setIfInBounds_toArray, List.set_cons_zero, List.set_cons_succ])
            refine held_step (fun _ => trivial) (i := 7) (o := _) (by kernel_rfl) rfl (fun K hK => ?_)
            go_simp
            have hn7 : (y2.alloc (.cells #[.bool false, .int .u64 0, .int .u64 0, .int .u64 0, .int .u64 0, .int .u64 0, .int .u64 0, .int .u64 0, .int .u64 0, .int .u64 0, .int .u64 0, .int .u64 0, .int .u64 0, .int .u64 0, .int .u64 0, .int .u64 0, .int .u64 0, .int .u64 0, .int .u64 0, .int .u64 0, .int .u64 0] 27)).heap[y2.heap.size]? = _ := heap_alloc_new _ _
            have hv7 : x1.heap.size ≤ y2.heap.size := hHeld.size
            have hlt : y1.heap.size < y2.heap.size := (Array.getElem?_eq_some_iff.1 hn8).1
            replace hn8 := step_row (o := (.cells #[.bool false, .int .u64 0, .int .u64 0, .int .u64 0, .int .u64 0, .int .u64 0, .int .u64 0, .int .u64 0, .int .u64 0, .int .u64 0, .int .u64 0, .int .u64 0, .int .u64 0, .int .u64 0, .int .u64 0, .int .u64 0, .int .u64 0, .int .u64 0, .int .u64 0, .int .u64 0, .int .u64 0] 27)) hn8
            refine hK.out _ _ (hHeld.alloc hHeld.size _) (fun hHeld => ?_)
            clear hK K
            (try simp only [Act.put, List.getElem_toArray, List.getElem_cons_zero, List.getElem_cons_succ, List.setIfInBounds_toArray, List.set_cons_zero, List.set_cons_succ])
            refine held_step (fun _ => trivial) (i := 9) (o := _) (by kernel_rfl) rfl (fun K hK => ?_)
            rw [if_pos (by kernel_rfl)]
            refine wpIn_store_row (fun _ => trivial) 27 (.tmp 6) (.tmp 29) (by kernel_rfl) (y2.heap.size) _ _ (bv (q : Int)) (by kernel_rfl) (by kernel_rfl) hn7 (bv_info _) (bv_same 0 _) (bv_one _) ?_
            refine hK.out _ _ (Below.row hHeld hv7 _) (fun hHeld => ?_)
            clear hK K
            (try simp only [Act.put, List.getElem_toArray, List.getElem_cons_zero, List.getElem_cons_succ, List.setIfInBounds_toArray, List.set_cons_zero, List.set_cons_succ])
            replace hn8 := (setRow_other _ _ _ (bv (q : Int)) (show y1.heap.size ≠ y2.heap.size by omega)).trans hn8
            replace hn7 : BigAt (y2.heap.size) (q : Int) _ := setRow_heap _ _ _ _ _ _ hn7
            refine held_step (fun _ => trivial) (i := 10) (o := _) (by kernel_rfl) rfl (fun K hK => ?_)
            rw [if_pos (by kernel_rfl)]
            refine wpIn_store_row (fun _ => trivial) 27 (.tmp 7) (.tmp 30) (by kernel_rfl) (y1.heap.size) _ _ (bv (r : Int)) (by kernel_rfl) (by kernel_rfl) hn8 (bv_info _) (bv_same 0 _) (bv_one _) ?_
            refine hK.out _ _ (Below.row hHeld hv8 _) (fun hHeld => ?_)
            clear hK K
            (try simp only [Act.put, List.getElem_toArray, List.getElem_cons_zero, List.getElem_cons_succ, List.setIfInBounds_toArray, List.set_cons_zero, List.set_cons_succ])
            refine held_take (fun _ => trivial) (by kernel_rfl) (i := 11) (oi := _) (v := ?_) rfl (by kernel_rfl) (by kernel_rfl) (by kernel_rfl) (fun _ _ _ h => h) (by assumption) (Or.inl ⟨by kernel_rfl, ?_⟩) ?_
            rotate_left
            · intro wz hSw; (first | (go_simp; done) | (go_simp; with_reducible rfl))
            (try simp only [Act.put, List.getElem_toArray, List.getElem_cons_zero, List.getElem_cons_succ, List.setIfInBounds_toArray, List.set_cons_zero, List.set_cons_succ])
            refine held_done (by kernel_rfl) ?_ _
            exact HT (y2.heap.size) (y1.heap.size) _ (BigAt.other hn7 (show y2.heap.size ≠ y1.heap.size by omega) _) (setRow_heap _ _ _ _ _ _ hn8) hHeld
          · go_simp
            have hn7 : ((y1.alloc (.cells #[.bool false, .int .u64 0, .int .u64 0, .int .u64 0, .int .u64 0, .int .u64 0, .int .u64 0, .int .u64 0, .int .u64 0, .int .u64 0, .int .u64 0, .int .u64 0, .int .u64 0, .int .u64 0, .int .u64 0, .int .u64 0, .int .u64 0, .int .u64 0, .int .u64 0, .int .u64 0, .int .u64 0] 27)).alloc (.cells #[.bool false, .int .u64 0, .int .u64 0, .int .u64 0, .int .u64 0, .int .u64 0, .int .u64 0, .int .u64 0, .int .u64 0, .int .u64 0, .int .u64 0, .int .u64 0, .int .u64 0, .int .u64 0, .int .u64 0, .int .u64 0, .int .u64 0, .int .u64 0, .int .u64 0, .int .u64 0, .int .u64 0] 27)).heap[y1.heap.size + 1]? = _ := heap_alloc2_new _ _ _
            have hv7 : x1.heap.size ≤ y1.heap.size + 1 := Nat.le_succ_of_le hv8
            have hlt : y1.heap.size < y1.heap.size + 1 := Nat.lt_succ_self _
            replace hn8 := step_row (o := (.cells #[.bool false, .int .u64 0, .int .u64 0, .int .u64 0, .int .u64 0, .int .u64 0, .int .u64 0, .int .u64 0, .int .u64 0, .int .u64 0, .int .u64 0, .int .u64 0, .int .u64 0, .int .u64 0, .int .u64 0, .int .u64 0, .int .u64 0, .int .u64 0, .int .u64 0, .int .u64 0, .int .u64 0] 27)) hn8
            refine hK.out _ _ (hHeld.alloc hHeld.size _) (fun hHeld => ?_)
            clear hK K
            (try simp only [Act.put, List.getElem_toArray, List.getElem_cons_zero, List.getElem_cons_succ, List.setIfInBounds_toArray, List.set_cons_zero, List.set_cons_succ])
            refine held_step (fun _ => trivial) (i := 2) (o := _) (by kernel_rfl) rfl (fun K hK => ?_)
            go_simp
            refine ⟨trivial, callsIn_wide.2 ((cD.out _).mono ?_)⟩
            rintro e y2 ⟨rfl, hc2⟩
            dsimp only
            replace hn8 := keep_row hc2 hn8; replace hn7 := keep_row hc2 hn7
            refine hK.out _ _ (bnext hHeld hc2) (fun hHeld => ?_)
            clear hK K
            (try simp only [Act.put, List.getElem_toArray, List.getElem_cons_zero, List.getElem_cons_succ, List.setIfInBounds_toArray, List.set_cons_zero, List.set_cons_succ])
            refine held_take (fun _ => trivial) (by kernel_rfl) (i := 3) (oi := _) (v := ?_) rfl (by kernel_rfl) (by kernel_rfl) (by kernel_rfl) (fun _ _ _ h => h) (by assumption) (Or.inl ⟨by kernel_rfl, ?_⟩) ?_
            rotate_left
            · intro wz hSw; (first | (go_simp; done) | (go_simp; with_reducible rfl))
            (try simp only [Act.put, List.getElem_toArray, List.getElem_cons_zero, List.getElem_cons_succ, List.setIfInBounds_toArray, List.set_cons_zero, List.set_cons_succ])
            refine held_take (fun _ => trivial) (by kernel_rfl) (i := 4) (oi := _) (v := ?_) rfl (by kernel_rfl) (by kernel_rfl) (by kernel_rfl) (fun _ _ _ h => h) (by assumption) (Or.inl ⟨by kernel_rfl, ?_⟩) ?_
            rotate_left
            · intro wz hSw; (first | (go_simp; done) | (go_simp; with_reducible rfl))
            (try simp only [Act.put, List.getElem_toArray, List.getElem_cons_zero, List.getElem_cons_succ, List.setIfInBounds_toArray, List.set_cons_zero, List.set_cons_succ])
            refine held_take (fun _ => trivial) (by kernel_rfl) (i := 5) (oi := _) (v := ?_) rfl (by kernel_rfl) (by kernel_rfl) (by kernel_rfl) (fun _ _ _ h => h) (by assumption) (Or.inl ⟨by kernel_rfl, ?_⟩) ?_
            rotate_left
            · intro wz hSw; (first | (go_simp; done) | (go_simp; with_reducible rfl))
            (try simp only [Act.put, List.getElem_toArray, List.getElem_cons_zero, List.getElem_cons_succ, List.setIfInBounds_toArray, List.set_cons_zero, List.set_cons_succ])
            refine held_take (fun _ => trivial) (by kernel_rfl) (i := 6) (oi := _) (v := ?_) rfl (by kernel_rfl) (by kernel_rfl) (by kernel_rfl) (fun _ _ _ h => h) (by assumption) (Or.inl ⟨by kernel_rfl, ?_⟩) ?_
            rotate_left
            · intro wz hSw; (first | (go_simp; done) | (go_simp; with_reducible rfl))
            (try simp only [Act.put, List.getElem_toArray, List.getElem_cons_zero, List.getElem_cons_succ, List.setIfInBounds_toArray, List.set_cons_zero, List.set_cons_succ])
            refine held_step (fun _ => trivial) (i := 9) (o := _) (by kernel_rfl) rfl (fun K hK => ?_)
            rw [if_pos (by kernel_rfl)]
            refine wpIn_store_row (fun _ => trivial) 27 (.tmp 6) (.tmp 29) (by kernel_rfl) (y1.heap.size + 1) _ _ (bv (q : Int)) (by kernel_rfl) (by kernel_rfl) hn7 (bv_info _) (bv_same 0 _) (bv_one _) ?_
            refine hK.out _ _ (Below.row hHeld hv7 _) (fun hHeld => ?_)
            clear hK K
            (try simp only [Act.put, List.getElem_toArray, List.getElem_cons_zero, List.getElem_cons_succ, List.setIfInBounds_toArray, List.set_cons_zero, List.set_cons_succ])
            replace hn8 := (setRow_other _ _ _ (bv (q : Int)) (show y1.heap.size ≠ y1.heap.size + 1 by omega)).trans hn8
            replace hn7 : BigAt (y1.heap.size + 1) (q : Int) _ := setRow_heap _ _ _ _ _ _ hn7
            refine held_step (fun _ => trivial) (i := 10) (o := _) (by kernel_rfl) rfl (fun K hK => ?_)
            rw [if_pos (by kernel_rfl)]
            refine wpIn_store_row (fun _ => trivial) 27 (.tmp 7) (.tmp 30) (by kernel_rfl) (y1.heap.size) _ _ (bv (r : Int)) (by kernel_rfl) (by kernel_rfl) hn8 (bv_info _) (bv_same 0 _) (bv_one _) ?_
            refine hK.out _ _ (Below.row hHeld hv8 _) (fun hHeld => ?_)
            clear hK K
            (try simp only [Act.put, List.getElem_toArray, List.getElem_cons_zero, List.getElem_cons_succ, List.setIfInBounds_toArray, List.set_cons_zero, List.set_cons_succ])
            refine held_take (fun _ => trivial) (by kernel_rfl) (i := 11) (oi := _) (v := ?_) rfl (by kernel_rfl) (by kernel_rfl) (by kernel_rfl) (fun _ _ _ h => h) (by assumption) (Or.inl ⟨by kernel_rfl, ?_⟩) ?_
            rotate_left
            · intro wz hSw; (first | (go_simp; done) | (go_simp; with_reducible rfl))
            (try simp only [Act.put, List.getElem_toArray, List.getElem_cons_zero, List.getElem_cons_succ, List.setIfInBounds_toArray, List.set_cons_zero, List.set_cons_succ])
            refine held_done (by kernel_rfl) ?_ _
            exact HT (y1.heap.size + 1) (y1.heap.size) _ (BigAt.other hn7 (show y1.heap.size + 1 ≠ y1.heap.size by omega) _) (setRow_heap _ _ _ _ _ _ hn8) hHeld
      · go_simp
        have hn7 : (x1.drew.alloc (.cells #[.bool false, .int .u64 0, .int .u64 0, .int .u64 0, .int .u64 0, .int .u64 0, .int .u64 0, .int .u64 0, .int .u64 0, .int .u64 0, .int .u64 0, .int .u64 0, .int .u64 0, .int .u64 0, .int .u64 0, .int .u64 0, .int .u64 0, .int .u64 0, .int .u64 0, .int .u64 0, .int .u64 0] 27)).heap[x1.drew.heap.size]? = _ := heap_alloc_new _ _
        have hv7 : x1.heap.size ≤ x1.drew.heap.size := hHeld.size
        refine hK.out _ _ (hHeld.alloc hHeld.size _) (fun hHeld => ?_)
        clear hK K
        (try simp only [Act.put, List.getElem_toArray, List.getElem_cons_zero, List.getElem_cons_succ, List.setIfInBounds_toArray, List.set_cons_zero, List.set_cons_succ])
        refine held_step2 (fun _ => trivial) (i := 1) (j := 8) (o := _) (o2 := _) (by kernel_rfl) rfl rfl (fun K hK => ?_) (fun K hK => ?_)
        · go_simp
          refine ⟨trivial, callsIn_wide.2 ((cO.out _).mono ?_)⟩
          rintro e y1 ⟨rfl, hc1⟩
          dsimp only
          replace hn7 := keep_row hc1 hn7
          refine hK.out _ _ (bnext hHeld hc1) (fun hHeld => ?_)
          clear hK K
          (try simp only [Act.put, List.getElem_toArray, List.getElem_cons_zero, List.getElem_cons_succ, List.setIfInBounds_toArray, List.set_cons_zero, List.set_cons_succ])
          refine held_step2 (fun _ => trivial) (i := 2) (j := 8) (o := _) (o2 := _) (by kernel_rfl) rfl rfl (fun K hK => ?_) (fun K hK => ?_)
          · go_simp
            refine ⟨trivial, callsIn_wide.2 ((cD.out _).mono ?_)⟩
            rintro e y2 ⟨rfl, hc2⟩
            dsimp only
            replace hn7 := keep_row hc2 hn7
            refine hK.out _ _ (bnext hHeld hc2) (fun hHeld => ?_)
            clear hK K
            (try simp only [Act.put, List.getElem_toArray, List.getElem_cons_zero, List.getElem_cons_succ, List.setIfInBounds_toArray, List.set_cons_zero, List.set_cons_succ])
            refine held_take (fun _ => trivial) (by kernel_rfl) (i := 3) (oi := _) (v := ?_) rfl (by kernel_rfl) (by kernel_rfl) (by kernel_rfl) (fun _ _ _ h => h) (by assumption) (Or.inl ⟨by kernel_rfl, ?_⟩) ?_
            rotate_left
            · intro wz hSw; (first | (go_simp; done) | (go_simp; with_reducible rfl))
            (try simp only [Act.put, List.getElem_toArray, List.getElem_cons_zero, List.getElem_cons_succ, List.setIfInBounds_toArray, List.set_cons_zero, List.set_cons_succ])
            refine held_take (fun _ => trivial) (by kernel_rfl) (i := 4) (oi := _) (v := ?_) rfl (by kernel_rfl) (by kernel_rfl) (by kernel_rfl) (fun _ _ _ h => h) (by assumption) (Or.inl ⟨by kernel_rfl, ?_⟩) ?_
            rotate_left
            · intro wz hSw; (first | (go_simp; done) | (go_simp; with_reducible rfl))
            (try simp only [Act.put, List.getElem_toArray, List.getElem_cons_zero, List.getElem_cons_succ, List.setIfInBounds_toArray, List.set_cons_zero, List.set_cons_succ])
            refine held_take (fun _ => trivial) (by kernel_rfl) (i := 5) (oi := _) (v := ?_) rfl (by kernel_rfl) (by kernel_rfl) (by kernel_rfl) (fun _ _ _ h => h) (by assumption) (Or.inl ⟨by kernel_rfl, ?_⟩) ?_
            rotate_left
            · intro wz hSw; (first | (go_simp; done) | (go_simp; with_reducible rfl))
            (try simp only [Act.put, List.getElem_toArray, List.getElem_cons_zero, List.getElem_cons_succ, List.setIfInBounds_toArray, List.set_cons_zero, List.set_cons_succ])
            refine held_take (fun _ => trivial) (by kernel_rfl) (i := 6) (oi := _) (v := ?_) rfl (by kernel_rfl) (by kernel_rfl) (by kernel_rfl) (fun _ _ _ h => h) (by assumption) (Or.inl ⟨by kernel_rfl, ?_⟩) ?_
            rotate_left
            · intro wz hSw; (first | (go_simp; done) | (go_simp; with_reducible rfl))
            (try simp only [Act.put, List.getElem_toArray, List.getElem_cons_zero, List.getElem_cons_succ, List.setIfInBounds_toArray, List.set_cons_zero, List.set_cons_succ])
            refine held_step (fun _ => trivial) (i := 8) (o := _) (by kernel_rfl) rfl (fun K hK => ?_)
            go_simp
            have hn8 : (y2.alloc (.cells #[.bool false, .int .u64 0, .int .u64 0, .int .u64 0, .int .u64 0, .int .u64 0, .int .u64 0, .int .u64 0, .int .u64 0, .int .u64 0, .int .u64 0, .int .u64 0, .int .u64 0, .int .u64 0, .int .u64 0, .int .u64 0, .int .u64 0, .int .u64 0, .int .u64 0, .int .u64 0, .int .u64 0] 27)).heap[y2.heap.size]? = _ := heap_alloc_new _ _
            have hv8 : x1.heap.size ≤ y2.heap.size := hHeld.size
            have hlt : x1.drew.heap.size < y2.heap.size := (Array.getElem?_eq_some_iff.1 hn7).1
            replace hn7 := step_row (o := (.cells #[.bool false, .int .u64 0, .int .u64 0, .int .u64 0, .int .u64 0, .int .u64 0, .int .u64 0, .int .u64 0, .int .u64 0, .int .u64 0, .int .u64 0, .int .u64 0, .int .u64 0, .int .u64 0, .int .u64 0, .int .u64 0, .int .u64 0, .int .u64 0, .int .u64 0, .int .u64 0, .int .u64 0] 27)) hn7
            refine hK.out _ _ (hHeld.alloc hHeld.size _) (fun hHeld => ?_)
            clear hK K
            (try simp only [Act.put, List.getElem_toArray, List.getElem_cons_zero, List.getElem_cons_succ, List.setIfInBounds_toArray, List.set_cons_zero, List.set_cons_succ])
            refine held_step (fun _ => trivial) (i := 9) (o := _) (by kernel_rfl) rfl (fun K hK => ?_)
            rw [if_pos (by kernel_rfl)]
            refine wpIn_store_row (fun _ => trivial) 27 (.tmp 6) (.tmp 29) (by kernel_rfl) (x1.drew.heap.size) _ _ (bv (q : Int)) (by kernel_rfl) (by kernel_rfl) hn7 (bv_info _) (bv_same 0 _) (bv_one _) ?_
            refine hK.out _ _ (Below.row hHeld hv7 _) (fun hHeld => ?_)
            clear hK K
            (try simp only [Act.put, List.getElem_toArray, List.getElem_cons_zero, List.getElem_cons_succ, List.setIfInBounds_toArray, List.set_cons_zero, List.set_cons_succ])
            replace hn8 := (setRow_other _ _ _ (bv (q : Int)) (show y2.heap.size ≠ x1.drew.heap.size by omega)).trans hn8
            replace hn7 : BigAt (x1.drew.heap.size) (q : Int) _ := setRow_heap _ _ _ _ _ _ hn7
            refine held_step (fun _ => trivial) (i := 10) (o := _) (by kernel_rfl) rfl (fun K hK => ?_)
            rw [if_pos (by kernel_rfl)]
            refine wpIn_store_row (fun _ => trivial) 27 (.tmp 7) (.tmp 30) (by kernel_rfl) (y2.heap.size) _ _ (bv (r : Int)) (by kernel_rfl) (by kernel_rfl) hn8 (bv_info _) (bv_same 0 _) (bv_one _) ?_
            refine hK.out _ _ (Below.row hHeld hv8 _) (fun hHeld => ?_)
            clear hK K
            (try simp only [Act.put, List.getElem_toArray, List.getElem_cons_zero, List.getElem_cons_succ, List.setIfInBounds_toArray, List.set_cons_zero, List.set_cons_succ])
            refine held_take (fun _ => trivial) (by kernel_rfl) (i := 11) (oi := _) (v := ?_) rfl (by kernel_rfl) (by kernel_rfl) (by kernel_rfl) (fun _ _ _ h => h) (by assumption) (Or.inl ⟨by kernel_rfl, ?_⟩) ?_
            rotate_left
            · intro wz hSw; (first | (go_simp; done) | (go_simp; with_reducible rfl))
            (try simp only [Act.put, List.getElem_toArray, List.getElem_cons_zero, List.getElem_cons_succ, List.setIfInBounds_toArray, List.set_cons_zero, List.set_cons_succ])
            refine held_done (by kernel_rfl) ?_ _
            exact HT (x1.drew.heap.size) (y2.heap.size) _ (BigAt.other hn7 (show x1.drew.heap.size ≠ y2.heap.size by omega) _) (setRow_heap _ _ _ _ _ _ hn8) hHeld
          · go_simp
            have hn8 : (y1.alloc (.cells #[.bool false, .int .u64 0, .int .u64 0, .int .u64 0, .int .u64 0, .int .u64 0, .int .u64 0, .int .u64 0, .int .u64 0, .int .u64 0, .int .u64 0, .int .u64 0, .int .u64 0, .int .u64 0, .int .u64 0, .int .u64 0, .int .u64 0, .int .u64 0, .int .u64 0, .int .u64 0, .int .u64 0] 27)).heap[y1.heap.size]? = _ := heap_alloc_new _ _
            have hv8 : x1.heap.size ≤ y1.heap.size := hHeld.size
            have hlt : x1.drew.heap.size < y1.heap.size := (Array.getElem?_eq_some_iff.1 hn7).1
            replace hn7 := step_row (o := (.cells #[.bool false, .int .u64 0, .int .u64 0, .int .u64 0, .int .u64 0, .int .u64 0, .int .u64 0, .int .u64 0, .int .u64 0, .int .u64 0, .int .u64 0, .int .u64 0, .int .u64 0, .int .u64 0, .int .u64 0, .int .u64 0, .int .u64 0, .int .u64 0, .int .u64 0, .int .u64 0, .int .u64 0] 27)) hn7
            refine hK.out _ _ (hHeld.alloc hHeld.size _) (fun hHeld => ?_)
            clear hK K
            (try simp only [Act.put, List.getElem_toArray, List.getElem_cons_zero, List.getElem_cons_succ, List.setIfInBounds_toArray, List.set_cons_zero, List.set_cons_succ])
            refine held_step (fun _ => trivial) (i := 2) (o := _) (by kernel_rfl) rfl (fun K hK => ?_)
            go_simp
            refine ⟨trivial, callsIn_wide.2 ((cD.out _).mono ?_)⟩
            rintro e y2 ⟨rfl, hc2⟩
            dsimp only
            replace hn7 := keep_row hc2 hn7; replace hn8 := keep_row hc2 hn8
            refine hK.out _ _ (bnext hHeld hc2) (fun hHeld => ?_)
            clear hK K
            (try simp only [Act.put, List.getElem_toArray, List.getElem_cons_zero, List.getElem_cons_succ, List.setIfInBounds_toArray, List.set_cons_zero, List.set_cons_succ])
            refine held_take (fun _ => trivial) (by kernel_rfl) (i := 3) (oi := _) (v := ?_) rfl (by kernel_rfl) (by kernel_rfl) (by kernel_rfl) (fun _ _ _ h => h) (by assumption) (Or.inl ⟨by kernel_rfl, ?_⟩) ?_
            rotate_left
            · intro wz hSw; (first | (go_simp; done) | (go_simp; with_reducible rfl))
            (try simp only [Act.put, List.getElem_toArray, List.getElem_cons_zero, List.getElem_cons_succ, List.setIfInBounds_toArray, List.set_cons_zero, List.set_cons_succ])
            refine held_take (fun _ => trivial) (by kernel_rfl) (i := 4) (oi := _) (v := ?_) rfl (by kernel_rfl) (by kernel_rfl) (by kernel_rfl) (fun _ _ _ h => h) (by assumption) (Or.inl ⟨by kernel_rfl, ?_⟩) ?_
            rotate_left
            · intro wz hSw; (first | (go_simp; done) | (go_simp; with_reducible rfl))
            (try simp only [Act.put, List.getElem_toArray, List.getElem_cons_zero, List.getElem_cons_succ, List.setIfInBounds_toArray, List.set_cons_zero, List.set_cons_succ])
            refine held_take (fun _ => trivial) (by kernel_rfl) (i := 5) (oi := _) (v := ?_) rfl (by kernel_rfl) (by kernel_rfl) (by kernel_rfl) (fun _ _ _ h => h) (by assumption) (Or.inl ⟨by kernel_rfl, ?_⟩) ?_
            rotate_left
            · intro wz hSw; (first | (go_simp; done) | (go_simp; with_reducible rfl))
            (try simp only [Act.put, List.getElem_toArray, List.getElem_cons_zero, List.getElem_cons_succ, List.setIfInBounds_toArray, List.set_cons_zero, List.set_cons_succ])
            refine held_take (fun _ => trivial) (by kernel_rfl) (i := 6) (oi := _) (v := ?_) rfl (by kernel_rfl) (by kernel_rfl) (by kernel_rfl) (fun _ _ _ h => h) (by assumption) (Or.inl ⟨by kernel_rfl, ?_⟩) ?_
            rotate_left
            · intro wz hSw; (first | (go_simp; done) | (go_simp; with_reducible rfl))
            (try simp only [Act.put, List.getElem_toArray, List.getElem_cons_zero, List.getElem_cons_succ, List.setIfInBounds_toArray, List.set_cons_zero, List.set_cons_succ])
            refine held_step (fun _ => trivial) (i := 9) (o := _) (by kernel_rfl) rfl (fun K hK => ?_)
            rw [if_pos (by kernel_rfl)]
            refine wpIn_store_row (fun _ => trivial) 27 (.tmp 6) (.tmp 29) (by kernel_rfl) (x1.drew.heap.size) _ _ (bv (q : Int)) (by kernel_rfl) (by kernel_rfl) hn7 (bv_info _) (bv_same 0 _) (bv_one _) ?_
            refine hK.out _ _ (Below.row hHeld hv7 _) (fun hHeld => ?_)
            clear hK K
            (try simp only [Act.put, List.getElem_toArray, List.getElem_cons_zero, List.getElem_cons_succ, List.setIfInBounds_toArray, List.set_cons_zero, List.set_cons_succ])
            replace hn8 := (setRow_other _ _ _ (bv (q : Int)) (show y1.heap.size ≠ x1.drew.heap.size by omega)).trans hn8
            replace hn7 : BigAt (x1.drew.heap.size) (q : Int) _ := setRow_heap _ _ _ _ _ _ hn7
            refine held_step (fun _ => trivial) (i := 10) (o := _) (by kernel_rfl) rfl (fun K hK => ?_)
            rw [if_pos (by kernel_rfl)]
            refine wpIn_store_row (fun _ => trivial) 27 (.tmp 7) (.tmp 30) (by kernel_rfl) (y1.heap.size) _ _ (bv (r : Int)) (by kernel_rfl) (by kernel_rfl) hn8 (bv_info _) (bv_same 0 _) (bv_one _) ?_
            refine hK.out _ _ (Below.row hHeld hv8 _) (fun hHeld => ?_)
            clear hK K
            (try simp only [Act.put, List.getElem_toArray, List.getElem_cons_zero, List.getElem_cons_succ, List.setIfInBounds_toArray, List.set_cons_zero, List.set_cons_succ])
            refine held_take (fun _ => trivial) (by kernel_rfl) (i := 11) (oi := _) (v := ?_) rfl (by kernel_rfl) (by kernel_rfl) (by kernel_rfl) (fun _ _ _ h => h) (by assumption) (Or.inl ⟨by kernel_rfl, ?_⟩) ?_
            rotate_left
            · intro wz hSw; (first | (go_simp; done) | (go_simp; with_reducible rfl))
            (try simp only [Act.put, List.getElem_toArray, List.getElem_cons_zero, List.getElem_cons_succ, List.setIfInBounds_toArray, List.set_cons_zero, List.set_cons_succ])
            refine held_done (by kernel_rfl) ?_ _
            exact HT (x1.drew.heap.size) (y1.heap.size) _ (BigAt.other hn7 (show x1.drew.heap.size ≠ y1.heap.size by omega) _) (setRow_heap _ _ _ _ _ _ hn8) hHeld
        · go_simp
          have hn8 : ((x1.drew.alloc (.cells #[.bool false, .int .u64 0, .int .u64 0, .int .u64 0, .int .u64 0, .int .u64 0, .int .u64 0, .int .u64 0, .int .u64 0, .int .u64 0, .int .u64 0, .int .u64 0, .int .u64 0, .int .u64 0, .int .u64 0, .int .u64 0, .int .u64 0, .int .u64 0, .int .u64 0, .int .u64 0, .int .u64 0] 27)).alloc (.cells #[.bool false, .int .u64 0, .int .u64 0, .int .u64 0, .int .u64 0, .int .u64 0, .int .u64 0, .int .u64 0, .int .u64 0, .int .u64 0, .int .u64 0, .int .u64 0, .int .u64 0, .int .u64 0, .int .u64 0, .int .u64 0, .int .u64 0, .int .u64 0, .int .u64 0, .int .u64 0, .int .u64 0] 27)).heap[x1.drew.heap.size + 1]? = _ := heap_alloc2_new _ _ _
          have hv8 : x1.heap.size ≤ x1.drew.heap.size + 1 := Nat.le_succ_of_le hv7
          have hlt : x1.drew.heap.size < x1.drew.heap.size + 1 := Nat.lt_succ_self _
          replace hn7 := step_row (o := (.cells #[.bool false, .int .u64 0, .int .u64 0, .int .u64 0, .int .u64 0, .int .u64 0, .int .u64 0, .int .u64 0, .int .u64 0, .int .u64 0, .int .u64 0, .int .u64 0, .int .u64 0, .int .u64 0, .int .u64 0, .int .u64 0, .int .u64 0, .int .u64 0, .int .u64 0, .int .u64 0, .int .u64 0] 27)) hn7
          refine hK.out _ _ (hHeld.alloc hHeld.size _) (fun hHeld => ?_)
          clear hK K
          (try simp only [Act.put, List.getElem_toArray, List.getElem_cons_zero, List.getElem_cons_succ, List.setIfInBounds_toArray, List.set_cons_zero, List.set_cons_succ])
          refine held_step (fun _ => trivial) (i := 1) (o := _) (by kernel_rfl) rfl (fun K hK => ?_)
          go_simp
          refine ⟨trivial, callsIn_wide.2 ((cO.out _).mono ?_)⟩
          rintro e y1 ⟨rfl, hc1⟩
          dsimp only
          replace hn7 := keep_row hc1 hn7; replace hn8 := keep_row hc1 hn8
          refine hK.out _ _ (bnext hHeld hc1) (fun hHeld => ?_)
          clear hK K
          (try simp only [Act.put, List.getElem_toArray, List.getElem_cons_zero, List.getElem_cons_succ, List.setIfInBounds_toArray, List.set_cons_zero, List.set_cons_succ])
          refine held_step (fun _ => trivial) (i := 2) (o := _) (by kernel_rfl) rfl (fun K hK => ?_)
          go_simp
          refine ⟨trivial, callsIn_wide.2 ((cD.out _).mono ?_)⟩
          rintro e y2 ⟨rfl, hc2⟩
          dsimp only
          replace hn7 := keep_row hc2 hn7; replace hn8 := keep_row hc2 hn8
          refine hK.out _ _ (bnext hHeld hc2) (fun hHeld => ?_)
          clear hK K
          (try simp only [Act.put, List.getElem_toArray, List.getElem_cons_zero, List.getElem_cons_succ, List.setIfInBounds_toArray, List.set_cons_zero, List.set_cons_succ])
          refine held_take (fun _ => trivial) (by kernel_rfl) (i := 3) (oi := _) (v := ?_) rfl (by kernel_rfl) (by kernel_rfl) (by kernel_rfl) (fun _ _ _ h => h) (by assumption) (Or.inl ⟨by kernel_rfl, ?_⟩) ?_
          rotate_left
          · intro wz hSw; (first | (go_simp; done) | (go_simp; with_reducible rfl))
          (try simp only [Act.put, List.getElem_toArray, List.getElem_cons_zero, List.getElem_cons_succ, List.setIfInBounds_toArray, List.set_cons_zero, List.set_cons_succ])
          refine held_take (fun _ => trivial) (by kernel_rfl) (i := 4) (oi := _) (v := ?_) rfl (by kernel_rfl) (by kernel_rfl) (by kernel_rfl) (fun _ _ _ h => h) (by assumption) (Or.inl ⟨by kernel_rfl, ?_⟩) ?_
          rotate_left
          · intro wz hSw; (first | (go_simp; done) | (go_simp; with_reducible rfl))
          (try simp only [Act.put, List.getElem_toArray, List.getElem_cons_zero, List.getElem_cons_succ, List.setIfInBounds_toArray, List.set_cons_zero, List.set_cons_succ])
          refine held_take (fun _ => trivial) (by kernel_rfl) (i := 5) (oi := _) (v := ?_) rfl (by kernel_rfl) (by kernel_rfl) (by kernel_rfl) (fun _ _ _ h => h) (by assumption) (Or.inl ⟨by kernel_rfl, ?_⟩) ?_
          rotate_left
          · intro wz hSw; (first | (go_simp; done) | (go_simp; with_reducible rfl))
          (try simp only [Act.put, List.getElem_toArray, List.getElem_cons_zero, List.getElem_cons_succ, List.setIfInBounds_toArray, List.set_cons_zero, List.set_cons_succ])
          refine held_take (fun _ => trivial) (by kernel_rfl) (i := 6) (oi := _) (v := ?_) rfl (by kernel_rfl) (by kernel_rfl) (by kernel_rfl) (fun _ _ _ h => h) (by assumption) (Or.inl ⟨by kernel_rfl, ?_⟩) ?_
          rotate_left
          · intro wz hSw; (first | (go_simp; done) | (go_simp; with_reducible rfl))
          (try simp only [Act.put, List.getElem_toArray, List.getElem_cons_zero, List.getElem_cons_succ, List.setIfInBounds_toArray, List.set_cons_zero, List.set_cons_succ])
          refine held_step (fun _ => trivial) (i := 9) (o := _) (by kernel_rfl) rfl (fun K hK => ?_)
          rw [if_pos (by kernel_rfl)]
          refine wpIn_store_row (fun _ => trivial) 27 (.tmp 6) (.tmp 29) (by kernel_rfl) (x1.drew.heap.size) _ _ (bv (q : Int)) (by kernel_rfl) (by kernel_rfl) hn7 (bv_info _) (bv_same 0 _) (bv_one _) ?_
          refine hK.out _ _ (Below.row hHeld hv7 _) (fun hHeld => ?_)
          clear hK K
          (try simp only [Act.put, List.getElem_toArray, List.getElem_cons_zero, List.getElem_cons_succ, List.setIfInBounds_toArray, List.set_cons_zero, List.set_cons_succ])
          replace hn8 := (setRow_other _ _ _ (bv (q : Int)) (show x1.drew.heap.size + 1 ≠ x1.drew.heap.size by omega)).trans hn8
          replace hn7 : BigAt (x1.drew.heap.size) (q : Int) _ := setRow_heap _ _ _ _ _ _ hn7
          refine held_step (fun _ => trivial) (i := 10) (o := _) (by kernel_rfl) rfl (fun K hK => ?_)
          rw [if_pos (by kernel_rfl)]
          refine wpIn_store_row (fun _ => trivial) 27 (.tmp 7) (.tmp 30) (by kernel_rfl) (x1.drew.heap.size + 1) _ _ (bv (r : Int)) (by kernel_rfl) (by kernel_rfl) hn8 (bv_info _) (bv_same 0 _) (bv_one _) ?_
          refine hK.out _ _ (Below.row hHeld hv8 _) (fun hHeld => ?_)
          clear hK K
          (try simp only [Act.put, List.getElem_toArray, List.getElem_cons_zero, List.getElem_cons_succ, List.setIfInBounds_toArray, List.set_cons_zero, List.set_cons_succ])
          refine held_take (fun _ => trivial) (by kernel_rfl) (i := 11) (oi := _) (v := ?_) rfl (by kernel_rfl) (by kernel_rfl) (by kernel_rfl) (fun _ _ _ h => h) (by assumption) (Or.inl ⟨by kernel_rfl, ?_⟩) ?_
          rotate_left
          · intro wz hSw; (first | (go_simp; done) | (go_simp; with_reducible rfl))
          (try simp only [Act.put, List.getElem_toArray, List.getElem_cons_zero, List.getElem_cons_succ, List.setIfInBounds_toArray, List.set_cons_zero, List.set_cons_succ])
          refine held_done (by kernel_rfl) ?_ _
          exact HT (x1.drew.heap.size) (x1.drew.heap.size + 1) _ (BigAt.other hn7 (show x1.drew.heap.size ≠ x1.drew.heap.size + 1 by omega) _) (setRow_heap _ _ _ _ _ _ hn8) hHeld
      · go_simp
        have hn8 : (x1.drew.alloc (.cells #[.bool false, .int .u64 0, .int .u64 0, .int .u64 0, .int .u64 0, .int .u64 0, .int .u64 0, .int .u64 0, .int .u64 0, .int .u64 0, .int .u64 0, .int .u64 0, .int .u64 0, .int .u64 0, .int .u64 0, .int .u64 0, .int .u64 0, .int .u64 0, .int .u64 0, .int .u64 0, .int .u64 0] 27)).heap[x1.drew.heap.size]? = _ := heap_alloc_new _ _
        have hv8 : x1.heap.size ≤ x1.drew.heap.size := hHeld.size
        refine hK.out _ _ (hHeld.alloc hHeld.size _) (fun hHeld => ?_)
        clear hK K
        (try simp only [Act.put, List.getElem_toArray, List.getElem_cons_zero, List.getElem_cons_succ, List.setIfInBounds_toArray, List.set_cons_zero, List.set_cons_succ])
        refine held_step2 (fun _ => trivial) (i := 1) (j := 7) (o := _) (o2 := _) (by kernel_rfl) rfl rfl (fun K hK => ?_) (fun K hK => ?_)
        · go_simp
          refine ⟨trivial, callsIn_wide.2 ((cO.out _).mono ?_)⟩
          rintro e y1 ⟨rfl, hc1⟩
          dsimp only
          replace hn8 := keep_row hc1 hn8
          refine hK.out _ _ (bnext hHeld hc1) (fun hHeld => ?_)
          clear hK K
          (try simp only [Act.put, List.getElem_toArray, List.getElem_cons_zero, List.getElem_cons_succ, List.setIfInBounds_toArray, List.set_cons_zero, List.set_cons_succ])
          refine held_step2 (fun _ => trivial) (i := 2) (j := 7) (o := _) (o2 := _) (by kernel_rfl) rfl rfl (fun K hK => ?_) (fun K hK => ?_)
          · go_simp
            refine ⟨trivial, callsIn_wide.2 ((cD.out _).mono ?_)⟩
            rintro e y2 ⟨rfl, hc2⟩
            dsimp only
            replace hn8 := keep_row hc2 hn8
            refine hK.out _ _ (bnext hHeld hc2) (fun hHeld => ?_)
            clear hK K
            (try simp only [Act.put, List.getElem_toArray, List.getElem_cons_zero, List.getElem_cons_succ, List.setIfInBounds_toArray, List.set_cons_zero, List.set_cons_succ])
            refine held_take (fun _ => trivial) (by kernel_rfl) (i := 3) (oi := _) (v := ?_) rfl (by kernel_rfl) (by kernel_rfl) (by kernel_rfl) (fun _ _ _ h => h) (by assumption) (Or.inl ⟨by kernel_rfl, ?_⟩) ?_
            rotate_left
            · intro wz hSw; (first | (go_simp; done) | (go_simp; with_reducible rfl))
            (try simp only [Act.put, List.getElem_toArray, List.getElem_cons_zero, List.getElem_cons_succ, List.setIfInBounds_toArray, List.set_cons_zero, List.set_cons_succ])
            refine held_take (fun _ => trivial) (by kernel_rfl) (i := 4) (oi := _) (v := ?_) rfl (by kernel_rfl) (by kernel_rfl) (by kernel_rfl) (fun _ _ _ h => h) (by assumption) (Or.inl ⟨by kernel_rfl, ?_⟩) ?_
            rotate_left
            · intro wz hSw; (first | (go_simp; done) | (go_simp; with_reducible rfl))
            (try simp only [Act.put, List.getElem_toArray, List.getElem_cons_zero, List.getElem_cons_succ, List.setIfInBounds_toArray, List.set_cons_zero, List.set_cons_succ])
            refine held_take (fun _ => trivial) (by kernel_rfl) (i := 5) (oi := _) (v := ?_) rfl (by kernel_rfl) (by kernel_rfl) (by kernel_rfl) (fun _ _ _ h => h) (by assumption) (Or.inl ⟨by kernel_rfl, ?_⟩) ?_
            rotate_left
            · intro wz hSw; (first | (go_simp; done) | (go_simp; with_reducible rfl))
            (try simp only [Act.put, List.getElem_toArray, List.getElem_cons_zero, List.getElem_cons_succ, List.setIfInBounds_toArray, List.set_cons_zero, List.set_cons_succ])
            refine held_take (fun _ => trivial) (by kernel_rfl) (i := 6) (oi := _) (v := ?_) rfl (by kernel_rfl) (by kernel_rfl) (by kernel_rfl) (fun _ _ _ h => h) (by assumption) (Or.inl ⟨by kernel_rfl, ?_⟩) ?_
            rotate_left
            · intro wz hSw; (first | (go_simp; done) | (go_simp; with_reducible rfl))
            (try simp only [Act.put, List.getElem_toArray, List.getElem_cons_zero, List.getElem_cons_succ, List.setIfInBounds_toArray, List.set_cons_zero, List.set_cons_succ])
            refine held_step (fun _ => trivial) (i := 7) (o := _) (by kernel_rfl) rfl (fun K hK => ?_)
            go_simp
            have hn7 : (y2.alloc (.cells #[.bool false, .int .u64 0, .int .u64 0, .int .u64 0, .int .u64 0, .int .u64 0, .int .u64 0, .int .u64 0, .int .u64 0, .int .u64 0, .int .u64 0, .int .u64 0, .int .u64 0, .int .u64 0, .int .u64 0, .int .u64 0, .int .u64 0, .int .u64 0, .int .u64 0, .int .u64 0, .int .u64 0] 27)).heap[y2.heap.size]? = _ := heap_alloc_new _ _
            have hv7 : x1.heap.size ≤ y2.heap.size := hHeld.size
            have hlt : x1.drew.heap.size < y2.heap.size := (Array.getElem?_eq_some_iff.1 hn8).1
            replace hn8 := step_row (o := (.cells #[.bool false, .int .u64 0, .int .u64 0, .int .u64 0, .int .u64 0, .int .u64 0, .int .u64 0, .int .u64 0, .int .u64 0, .int .u64 0, .int .u64 0, .int .u64 0, .int .u64 0, .int .u64 0, .int .u64 0, .int .u64 0, .int .u64 0, .int .u64 0, .int .u64 0, .int .u64 0, .int .u64 0] 27)) hn8
            refine hK.out _ _ (hHeld.alloc hHeld.size _) (fun hHeld => ?_)
            clear hK K
            (try simp only [Act.put, List.getElem_toArray, List.getElem_cons_zero, List.getElem_cons_succ, List.setIfInBounds_toArray, List.set_cons_zero, List.set_cons_succ])
            refine held_step (fun _ => trivial) (i := 9) (o := _) (by kernel_rfl) rfl (fun K hK => ?_)
            rw [if_pos (by kernel_rfl)]
            refine wpIn_store_row (fun _ => trivial) 27 (.tmp 6) (.tmp 29) (by kernel_rfl) (y2.heap.size) _ _ (bv (q : Int)) (by kernel_rfl) (by kernel_rfl) hn7 (bv_info _) (bv_same 0 _) (bv_one _) ?_
            refine hK.out _ _ (Below.row hHeld hv7 _) (fun hHeld => ?_)
            clear hK K
            (try simp only [Act.put, List.getElem_toArray, List.getElem_cons_zero, List.getElem_cons_succ, List.setIfInBounds_toArray, List.set_cons_zero, List.set_cons_succ])
            replace hn8 := (setRow_other _ _ _ (bv (q : Int)) (show x1.drew.heap.size ≠ y2.heap.size by omega)).trans hn8
            replace hn7 : BigAt (y2.heap.size) (q : Int) _ := setRow_heap _ _ _ _ _ _ hn7
            refine held_step (fun _ => trivial) (i := 10) (o := _) (by kernel_rfl) rfl (fun K hK => ?_)
            rw [if_pos (by kernel_rfl)]
            refine wpIn_store_row (fun _ => trivial) 27 (.tmp 7) (.tmp 30) (by kernel_rfl) (x1.drew.heap.size) _ _ (bv (r : Int)) (by kernel_rfl) (by kernel_rfl) hn8 (bv_info _) (bv_same 0 _) (bv_one _) ?_
            refine hK.out _ _ (Below.row hHeld hv8 _) (fun hHeld => ?_)
            clear hK K
            (try simp only [Act.put, List.getElem_toArray, List.getElem_cons_zero, List.getElem_cons_succ, List.setIfInBounds_toArray, List.set_cons_zero, List.set_cons_succ])
            refine held_take (fun _ => trivial) (by kernel_rfl) (i := 11) (oi := _) (v := ?_) rfl (by kernel_rfl) (by kernel_rfl) (by kernel_rfl) (fun _ _ _ h => h) (by assumption) (Or.inl ⟨by kernel_rfl, ?_⟩) ?_
            rotate_left
            · intro wz hSw; (first | (go_simp; done) | (go_simp; with_reducible rfl))
            (try simp only [Act.put, List.getElem_toArray, List.getElem_cons_zero, List.getElem_cons_succ, List.setIfInBounds_toArray, List.set_cons_zero, List.set_cons_succ])
            refine held_done (by kernel_rfl) ?_ _
            exact HT (y2.heap.size) (x1.drew.heap.size) _ (BigAt.other hn7 (show y2.heap.size ≠ x1.drew.heap.size by omega) _) (setRow_heap _ _ _ _ _ _ hn8) hHeld
          · go_simp
            have hn7 : (y1.alloc (.cells #[.bool false, .int .u64 0, .int .u64 0, .int .u64 0, .int .u64 0, .int .u64 0, .int .u64 0, .int .u64 0, .int .u64 0, .int .u64 0, .int .u64 0, .int .u64 0, .int .u64 0, .int .u64 0, .int .u64 0, .int .u64 0, .int .u64 0, .int .u64 0, .int .u64 0, .int .u64 0, .int .u64 0] 27)).heap[y1.heap.size]? = _ := heap_alloc_new _ _
            have hv7 : x1.heap.size ≤ y1.heap.size := hHeld.size
            have hlt : x1.drew.heap.size < y1.heap.size := (Array.getElem?_eq_some_iff.1 hn8).1
            replace hn8 := step_row (o := (.cells #[.bool false, .int .u64 0, .int .u64 0, .int .u64 0, .int .u64 0, .int .u64 0, .int .u64 0, .int .u64 0, .int .u64 0, .int .u64 0, .int .u64 0, .int .u64 0, .int .u64 0, .int .u64 0, .int .u64 0, .int .u64 0, .int .u64 0, .int .u64 0, .int .u64 0, .int .u64 0, .int .u64 0] 27)) hn8
            refine hK.out _ _ (hHeld.alloc hHeld.size _) (fun hHeld => ?_)
            clear hK K
            (try simp only [Act.put, List.getElem_toArray, List.getElem_cons_zero, List.getElem_cons_succ, List.setIfInBounds_toArray, List.set_cons_zero, List.set_cons_succ])
            refine held_step (fun _ => trivial) (i := 2) (o := _) (by kernel_rfl) rfl (fun K hK => ?_)
            go_simp
            refine ⟨trivial, callsIn_wide.2 ((cD.out _).mono ?_)⟩
            rintro e y2 ⟨rfl, hc2⟩
            dsimp only
            replace hn8 := keep_row hc2 hn8; replace hn7 := keep_row hc2 hn7
            refine hK.out _ _ (bnext hHeld hc2) (fun hHeld => ?_)
            clear hK K
            (try simp only [Act.put, List.getElem_toArray, List.getElem_cons_zero, List.getElem_cons_succ, List.setIfInBounds_toArray, List.set_cons_zero, List.set_cons_succ])
            refine held_take (fun _ => trivial) (by kernel_rfl) (i := 3) (oi := _) (v := ?_) rfl (by kernel_rfl) (by kernel_rfl) (by kernel_rfl) (fun _ _ _ h => h) (by assumption) (Or.inl ⟨by kernel_rfl, ?_⟩) ?_
            rotate_left
            · intro wz hSw; (first | (go_simp; done) | (go_simp; with_reducible rfl))
            (try simp only [Act.put, List.getElem_toArray, List.getElem_cons_zero, List.getElem_cons_succ, List.setIfInBounds_toArray, List.set_cons_zero, List.set_cons_succ])
            refine held_take (fun _ => trivial) (by kernel_rfl) (i := 4) (oi := _) (v := ?_) rfl (by kernel_rfl) (by kernel_rfl) (by kernel_rfl) (fun _ _ _ h => h) (by assumption) (Or.inl ⟨by kernel_rfl, ?_⟩) ?_
            rotate_left
            · intro wz hSw; (first | (go_simp; done) | (go_simp; with_reducible rfl))
            (try simp only [Act.put, List.getElem_toArray, List.getElem_cons_zero, List.getElem_cons_succ, List.setIfInBounds_toArray, List.set_cons_zero, List.set_cons_succ])
            refine held_take (fun _ => trivial) (by kernel_rfl) (i := 5) (oi := _) (v := ?_) rfl (by kernel_rfl) (by kernel_rfl) (by kernel_rfl) (fun _ _ _ h => h) (by assumption) (Or.inl ⟨by kernel_rfl, ?_⟩) ?_
            rotate_left
            · intro wz hSw; (first | (go_simp; done) | (go_simp; with_reducible rfl))
            (try simp only [Act.put, List.getElem_toArray, List.getElem_cons_zero, List.getElem_cons_succ, List.setIfInBounds_toArray, List.set_cons_zero, List.set_cons_succ])
            refine held_take (fun _ => trivial) (by kernel_rfl) (i := 6) (oi := _) (v := ?_) rfl (by kernel_rfl) (by kernel_rfl) (by kernel_rfl) (fun _ _ _ h => h) (by assumption) (Or.inl ⟨by kernel_rfl, ?_⟩) ?_
            rotate_left
            · intro wz hSw; (first | (go_simp; done) | (go_simp; with_reducible rfl))
            (try simp only [Act.put, List.getElem_toArray, List.getElem_cons_zero, List.getElem_cons_succ, List.setIfInBounds_toArray, List.set_cons_zero, List.set_cons_succ])
            refine held_step (fun _ => trivial) (i := 9) (o := _) (by kernel_rfl) rfl (fun K hK => ?_)
            rw [if_pos (by kernel_rfl)]
            refine wpIn_store_row (fun _ => trivial) 27 (.tmp 6) (.tmp 29) (by kernel_rfl) (y1.heap.size) _ _ (bv (q : Int)) (by kernel_rfl) (by kernel_rfl) hn7 (bv_info _) (bv_same 0 _) (bv_one _) ?_
            refine hK.out _ _ (Below.row hHeld hv7 _) (fun hHeld => ?_)
            clear hK K
            (try simp only [Act.put, List.getElem_toArray, List.getElem_cons_zero, List.getElem_cons_succ, List.setIfInBounds_toArray, List.set_cons_zero, List.set_cons_succ])
            replace hn8 := (setRow_other _ _ _ (bv (q : Int)) (show x1.drew.heap.size ≠ y1.heap.size by omega)).trans hn8
            replace hn7 : BigAt (y1.heap.size) (q : Int) _ := setRow_heap _ _ _ _ _ _ hn7
            refine held_step (fun _ => trivial) (i := 10) (o := _) (by kernel_rfl) rfl (fun K hK => ?_)
            rw [if_pos (by kernel_rfl)]
            refine wpIn_store_row (fun _ => trivial) 27 (.tmp 7) (.tmp 30) (by kernel_rfl) (x1.drew.heap.size) _ _ (bv (r : Int)) (by kernel_rfl) (by kernel_rfl) hn8 (bv_info _) (bv_same 0 _) (bv_one _) ?_
            refine hK.out _ _ (Below.row hHeld hv8 _) (fun hHeld => ?_)
            clear hK K
            (try simp only [Act.put, List.getElem_toArray, List.getElem_cons_zero, List.getElem_cons_succ, List.setIfInBounds_toArray, List.set_cons_zero, List.set_cons_succ])
            refine held_take (fun _ => trivial) (by kernel_rfl) (i := 11) (oi := _) (v := ?_) rfl (by kernel_rfl) (by kernel_rfl) (by kernel_rfl) (fun _ _ _ h => h) (by assumption) (Or.inl ⟨by kernel_rfl, ?_⟩) ?_
            rotate_left
            · intro wz hSw; (first | (go_simp; done) | (go_simp; with_reducible rfl))
            (try simp only [Act.put, List.getElem_toArray, List.getElem_cons_zero, List.getElem_cons_succ, List.setIfInBounds_toArray, List.set_cons_zero, List.set_cons_succ])
            refine held_done (by kernel_rfl) ?_ _
            exact HT (y1.heap.size) (x1.drew.heap.size) _ (BigAt.other hn7 (show y1.heap.size ≠ x1.drew.heap.size by omega) _) (setRow_heap _ _ _ _ _ _ hn8) hHeld
        · go_simp
          have hn7 : ((x1.drew.alloc (.cells #[.bool false, .int .u64 0, .int .u64 0, .int .u64 0, .int .u64 0, .int .u64 0, .int .u64 0, .int .u64 0, .int .u64 0, .int .u64 0, .int .u64 0, .int .u64 0, .int .u64 0, .int .u64 0, .int .u64 0, .int .u64 0, .int .u64 0, .int .u64 0, .int .u64 0, .int .u64 0, .int .u64 0] 27)).alloc (.cells #[.bool false, .int .u64 0, .int .u64 0, .int .u64 0, .int .u64 0, .int .u64 0, .int .u64 0, .int .u64 0, .int .u64 0, .int .u64 0, .int .u64 0, .int .u64 0, .int .u64 0, .int .u64 0, .int .u64 0, .int .u64 0, .int .u64 0, .int .u64 0, .int .u64 0, .int .u64 0, .int .u64 0] 27)).heap[x1.drew.heap.size + 1]? = _ := heap_alloc2_new _ _ _
          have hv7 : x1.heap.size ≤ x1.drew.heap.size + 1 := Nat.le_succ_of_le hv8
          have hlt : x1.drew.heap.size < x1.drew.heap.size + 1 := Nat.lt_succ_self _
          replace hn8 := step_row (o := (.cells #[.bool false, .int .u64 0, .int .u64 0, .int .u64 0, .int .u64 0, .int .u64 0, .int .u64 0, .int .u64 0, .int .u64 0, .int .u64 0, .int .u64 0, .int .u64 0, .int .u64 0, .int .u64 0, .int .u64 0, .int .u64 0, .int .u64 0, .int .u64 0, .int .u64 0, .int .u64 0, .int .u64 0] 27)) hn8
          refine hK.out _ _ (hHeld.alloc hHeld.size _) (fun hHeld => ?_)
          clear hK K
          (try simp only [Act.put, List.getElem_toArray, List.getElem_cons_zero, List.getElem_cons_succ, List.setIfInBounds_toArray, List.set_cons_zero, List.set_cons_succ])
          refine held_step (fun _ => trivial) (i := 1) (o := _) (by kernel_rfl) rfl (fun K hK => ?_)
          go_simp
          refine ⟨trivial, callsIn_wide.2 ((cO.out _).mono ?_)⟩
          rintro e y1 ⟨rfl, hc1⟩
          dsimp only
          replace hn8 := keep_row hc1 hn8; replace hn7 := keep_row hc1 hn7
          refine hK.out _ _ (bnext hHeld hc1) (fun hHeld => ?_)
          clear hK K
          (try simp only [Act.put, List.getElem_toArray, List.getElem_cons_zero, List.getElem_cons_succ, List.setIfInBounds_toArray, List.set_cons_zero, List.set_cons_succ])
          refine held_step (fun _ => trivial) (i := 2) (o := _) (by kernel_rfl) rfl (fun K hK => ?_)
          go_simp
          refine ⟨trivial, callsIn_wide.2 ((cD.out _).mono ?_)⟩
          rintro e y2 ⟨rfl, hc2⟩
          dsimp only
          replace hn8 := keep_row hc2 hn8; replace hn7 := keep_row hc2 hn7
          refine hK.out _ _ (bnext hHeld hc2) (fun hHeld => ?_)
          clear hK K
          (try simp only [Act.put, List.getElem_toArray, List.getElem_cons_zero, List.getElem_cons_succ, List.setIfInBounds_toArray, List.set_cons_zero, List.set_cons_succ])
          refine held_take (fun _ => trivial) (by kernel_rfl) (i := 3) (oi := _) (v := ?_) rfl (by kernel_rfl) (by kernel_rfl) (by kernel_rfl) (fun _ _ _ h => h) (by assumption) (Or.inl ⟨by kernel_rfl, ?_⟩) ?_
          rotate_left
          · intro wz hSw; (first | (go_simp; done) | (go_simp; with_reducible rfl))
          (try simp only [Act.put, List.getElem_toArray, List.getElem_cons_zero, List.getElem_cons_succ, List.setIfInBounds_toArray, List.set_cons_zero, List.set_cons_succ])
          refine held_take (fun _ => trivial) (by kernel_rfl) (i := 4) (oi := _) (v := ?_) rfl (by kernel_rfl) (by kernel_rfl) (by kernel_rfl) (fun _ _ _ h => h) (by assumption) (Or.inl ⟨by kernel_rfl, ?_⟩) ?_
          rotate_left
          · intro wz hSw; (first | (go_simp; done) | (go_simp; with_reducible rfl))
          (try simp only [Act.put, List.getElem_toArray, List.getElem_cons_zero, List.getElem_cons_succ, List.setIfInBounds_toArray, List.set_cons_zero, List.set_cons_succ])
          refine held_take (fun _ => trivial) (by kernel_rfl) (i := 5) (oi := _) (v := ?_) rfl (by kernel_rfl) (by kernel_rfl) (by kernel_rfl) (fun _ _ _ h => h) (by assumption) (Or.inl ⟨by kernel_rfl, ?_⟩) ?_
          rotate_left
          · intro wz hSw; (first | (go_simp; done) | (go_simp; with_reducible rfl))
          (try simp only [Act.put, List.getElem_toArray, List.getElem_cons_zero, List.getElem_cons_succ, List.setIfInBounds_toArray, List.set_cons_zero, List.set_cons_succ])
          refine held_take (fun _ => trivial) (by kernel_rfl) (i := 6) (oi := _) (v := ?_) rfl (by kernel_rfl) (by kernel_rfl) (by kernel_rfl) (fun _ _ _ h => h) (by assumption) (Or.inl ⟨by kernel_rfl, ?_⟩) ?_
          rotate_left
          · intro wz hSw; (first | (go_simp; done) | (go_simp; with_reducible rfl))
          (try simp only [Act.put, List.getElem_toArray, List.getElem_cons_zero, List.getElem_cons_succ, List.setIfInBounds_toArray, List.set_cons_zero, List.set_cons_succ])
          refine held_step (fun _ => trivial) (i := 9) (o := _) (by kernel_rfl) rfl (fun K hK => ?_)
          rw [if_pos (by kernel_rfl)]
          refine wpIn_store_row (fun _ => trivial) 27 (.tmp 6) (.tmp 29) (by kernel_rfl) (x1.drew.heap.size + 1) _ _ (bv (q : Int)) (by kernel_rfl) (by kernel_rfl) hn7 (bv_info _) (bv_same 0 _) (bv_one _) ?_
          refine hK.out _ _ (Below.row hHeld hv7 _) (fun hHeld => ?_)
          clear hK K
          (try simp only [Act.put, List.getElem_toArray, List.getElem_cons_zero, List.getElem_cons_succ, List.setIfInBounds_toArray, List.set_cons_zero, List.set_cons_succ])
          replace hn8 := (setRow_other _ _ _ (bv (q : Int)) (show x1.drew.heap.size ≠ x1.drew.heap.size + 1 by omega)).trans hn8
          replace hn7 : BigAt (x1.drew.heap.size + 1) (q : Int) _ := setRow_heap _ _ _ _ _ _ hn7
          refine held_step (fun _ => trivial) (i := 10) (o := _) (by kernel_rfl) rfl (fun K hK => ?_)
          rw [if_pos (by kernel_rfl)]
          refine wpIn_store_row (fun _ => trivial) 27 (.tmp 7) (.tmp 30) (by kernel_rfl) (x1.drew.heap.size) _ _ (bv (r : Int)) (by kernel_rfl) (by kernel_rfl) hn8 (bv_info _) (bv_same 0 _) (bv_one _) ?_
          refine hK.out _ _ (Below.row hHeld hv8 _) (fun hHeld => ?_)
          clear hK K
          (try simp only [Act.put, List.getElem_toArray, List.getElem_cons_zero, List.getElem_cons_succ, List.setIfInBounds_toArray, List.set_cons_zero, List.set_cons_succ])
          refine held_take (fun _ => trivial) (by kernel_rfl) (i := 11) (oi := _) (v := ?_) rfl (by kernel_rfl) (by kernel_rfl) (by kernel_rfl) (fun _ _ _ h => h) (by assumption) (Or.inl ⟨by kernel_rfl, ?_⟩) ?_
          rotate_left
          · intro wz hSw; (first | (go_simp; done) | (go_simp; with_reducible rfl))
          (try simp only [Act.put, List.getElem_toArray, List.getElem_cons_zero, List.getElem_cons_succ, List.setIfInBounds_toArray, List.set_cons_zero, List.set_cons_succ])
          refine held_done (by kernel_rfl) ?_ _
          exact HT (x1.drew.heap.size + 1) (x1.drew.heap.size) _ (BigAt.other hn7 (show x1.drew.heap.size + 1 ≠ x1.drew.heap.size by omega) _) (setRow_heap _ _ _ _ _ _ hn8) hHeld

end Go.Proofs.Ytgkcbadfjhicnaa.Fx
