/- The facts that the walk of the reference's Parse stands on. -/
import Derived.Test.YtabfdhecbbemjaaProg
import Derived.Test.YtabfdhecbbemjaaRpm
import Derived.Laws.Strings2
import Derived.Laws.Strings3
set_option linter.unusedVariables false
set_option linter.unusedSimpArgs false
namespace Go.Proofs.Ytabfdhecbbemjaa.Fx
open Go Go.RowKit

theorem sb_len (t : ByteArray) : (sbytes t).length = t.size := by
  show _ = t.data.size
  simp [sbytes]
theorem sb_lt (t : ByteArray) (k : Nat) : (sbytes t).getD k 0 < 256 := by
  rw [List.getD_eq_getElem?_getD]
  by_cases h : k < (sbytes t).length
  · rw [List.getElem?_eq_getElem h]
    have : (sbytes t)[k] ∈ sbytes t := List.getElem_mem h
    simp only [sbytes, List.mem_map] at this
    obtain ⟨u, _, hu⟩ := this
    simp only [Option.getD_some]
    have hu' : u.toNat = (sbytes t)[k] := hu
    rw [← hu']
    exact u.toNat_lt
  · rw [List.getElem?_eq_none (by omega)]; simp
theorem idx_str (t : ByteArray) (k : Nat) (i : Int) (hi : i = (k : Int)) (hk : k < t.size) (w : World) :
    (Instr.index 9 (.string t) (.int .i64 i)).run Try.prog w = .ok (.int .u8 (((sbytes t).getD k 0 : Nat) : Int)) w := by
  subst hi
  rw [run_index_string _ _ _ _ _ Try.underlying9, dif_pos ⟨by omega, by omega⟩]
  congr 3
  have h : k < (sbytes t).length := by rw [sb_len]; exact hk
  rw [List.getD_eq_getElem?_getD, List.getElem?_eq_getElem h]
  simp [sbytes]
  rfl
theorem ext_one (t : ByteArray) (k : Nat) (hk : k < t.size) : t.extract k (k + 1) = bstr [(sbytes t).getD k 0] := by
  have h : k < (sbytes t).length := by rw [sb_len]; exact hk
  have h2 : k < t.data.toList.length := by simpa using hk
  obtain ⟨⟨l⟩⟩ := t
  have h3 : k < l.length := h2
  show (ByteArray.mk l.toArray).extract k (k + 1) = _
  rw [ByteArray.extract_mk, List.drop_eq_getElem_cons h3, Nat.add_sub_cancel_left, List.take_succ_cons, List.take_zero]
  simp [bstr, sbytes, List.getD_eq_getElem?_getD, h3]
theorem slice_str (t : ByteArray) (k : Nat) (i j : Int) (hi : i = (k : Int)) (hj : j = (k : Int) + 1) (hk : k < t.size) (w : World) :
    (Instr.slice 9 (.string t) (some (.int .i64 i)) (some (.int .i64 j)) none).run Try.prog w = .ok (.string (bstr [(sbytes t).getD k 0])) w := by
  subst hi hj
  rw [run_slice_string w 9 t .i64 .i64 k (k + 1) Try.underlying9 (by omega) (by omega) (by omega), ← ext_one t k hk]
  rfl
theorem slice_one (s : ByteArray) (hs : 1 ≤ s.size) (w : World) :
    (Instr.slice 9 (.string s) (some (.int .i64 1)) none none).run Try.prog w = .ok (.string (s.extract 1 s.size)) w := by
  rw [run_slice_string_from_if w 9 s .i64 1 Try.underlying9, if_pos ⟨by omega, by omega⟩]
  rfl
/-- the digit that c says among the first k -/
def cOf (c k : Nat) : Nat := match digitOf c with
  | none => 16
  | some d => if d < k then d else 16
theorem cOf_zero (c : Nat) : cOf c 0 = 16 := by unfold cOf; split <;> simp
theorem num_of {c d : Nat} (h : digitOf c = some d) : num d = c := by
  unfold digitOf at h
  unfold num
  split at h
  · cases h; split <;> omega
  · split at h
    · cases h; split <;> omega
    · cases h
theorem cOf_hit {c k : Nat} (hk : k < 16) (h : num k = c) : cOf c (k + 1) = k := by
  subst h
  unfold cOf
  rw [(digit_num hk).1]
  simp
theorem cOf_miss {c k : Nat} (h : num k ≠ c) : cOf c (k + 1) = cOf c k := by
  unfold cOf
  split
  · rfl
  · rename_i d hd
    have := num_of hd
    have hne : d ≠ k := by rintro rfl; exact h this
    by_cases h1 : d < k
    · rw [if_pos h1, if_pos (by omega)]
    · rw [if_neg h1, if_neg (by omega)]
theorem cOf_none {c : Nat} (h : digitOf c = none) : cOf c 16 = 16 := by unfold cOf; rw [h]
theorem cOf_some {c d : Nat} (h : digitOf c = some d) : cOf c 16 = d := by unfold cOf; rw [h]; exact if_pos (digit_lt h)
theorem cOf_le (c k : Nat) : cOf c k ≤ 16 := by
  unfold cOf
  split
  · omega
  · rename_i d hd
    have := digit_lt hd
    split <;> omega
theorem one_ne {x y : Nat} (hx : x < 256) (hy : y < 256) (h : x ≠ y) : ((bstr [x]).toList == (bstr [y]).toList) = false := by
  refine str_ne fun e => h ?_
  have := congrArg (fun b : ByteArray => b.data.toList) e
  simp [bstr] at this
  exact ofNat_inj hx hy (by simpa using this)
theorem uns_tx (a : Int) (ha : Fm.mayB a = true) : sbytes (unsignedOf (bstr (tx a))) = bodyT a.natAbs ∧ signed (negOf (bstr (tx a))) a.natAbs = a := by
  obtain ⟨a0, a1⟩ := (Fm.may_iff a).1 ha
  by_cases hn : a < 0
  · have e : (bstr (tx a)).data.toList = 45 :: (bstr (bodyT a.natAbs)).data.toList := by
      unfold tx; rw [if_pos hn]; exact bstr_cons 45 _
    have h1 : negOf (bstr (tx a)) = true := by unfold negOf; rw [e]; simp [Lib.hasPrefix, dash]
    have h2 : unsignedOf (bstr (tx a)) = bstr (bodyT a.natAbs) := by
      unfold unsignedOf
      rw [e]
      simp [Lib.trimPrefix, Lib.hasPrefix, dash]
    rw [h1, h2, sbytes_bstr _ (fun x h => (body_small _ x h).1)]
    refine ⟨rfl, ?_⟩
    simp only [signed, if_true]
    omega
  · obtain ⟨x, l, hb, hx, hx2⟩ := body_ne a.natAbs
    have e : (bstr (tx a)) = bstr (bodyT a.natAbs) := by unfold tx; rw [if_neg hn]; rfl
    have h0 : (45 : UInt8) ≠ UInt8.ofNat x := fun h => hx (ofNat_inj hx2 (by omega) h.symm)
    have h1 : negOf (bstr (bodyT a.natAbs)) = false := by
      unfold negOf; rw [hb, bstr_cons]; exact pre_no h0
    have h2 : unsignedOf (bstr (bodyT a.natAbs)) = bstr (bodyT a.natAbs) := by
      unfold unsignedOf
      have : Lib.trimPrefix (bstr (bodyT a.natAbs)).data.toList dash = (bstr (bodyT a.natAbs)).data.toList := by
        rw [hb, bstr_cons]; unfold Lib.trimPrefix; rw [pre_no h0]; rfl
      rw [this]
    rw [e, h1, h2, sbytes_bstr _ (fun x h => (body_small _ x h).1)]
    refine ⟨rfl, ?_⟩
    simp only [signed]
    rw [if_neg (by simp)]
    omega
theorem refuse_of (s : ByteArray) (h : ∀ a, Fm.mayB a = true → bstr (tx a) ≠ s) : pv s = 0 ∧ pe s = 12 := by
  rcases pv_ok s with ⟨_, h2, h3⟩ | ⟨h1, h2⟩
  · exact absurd h2 (h _ h3)
  · exact ⟨h2, h1⟩
theorem may_abs {a : Int} (ha : Fm.mayB a = true) : a.natAbs ≤ 4611686018427387904 := by
  have := (Fm.may_iff a).1 ha
  omega
theorem refuse_shape (s : ByteArray) (h : (sbytes (unsignedOf s)).length < 6 ∨ 20 < (sbytes (unsignedOf s)).length ∨ (sbytes (unsignedOf s)).getD ((sbytes (unsignedOf s)).length - 5) 0 ≠ 46) : pv s = 0 ∧ pe s = 12 := by
  refine refuse_of s ?_
  rintro a ha rfl
  exact parts_no _ h a.natAbs (may_abs ha) (uns_tx a ha).1
theorem refuse_read (s : ByteArray) {D H : List Nat} (h : Parts (sbytes (unsignedOf s)) D H) (hn : rdh D H = none) : pv s = 0 ∧ pe s = 12 := by
  refine refuse_of s ?_
  rintro a ha rfl
  have := parts_body h (uns_tx a ha).1 (may_abs ha)
  rw [hn] at this
  cases this
theorem accept_read (s : ByteArray) {D H : List Nat} (h : Parts (sbytes (unsignedOf s)) D H) {n : Nat} (hn : rdh D H = some n) (x : Int) (hx : signed (negOf s) n = x) :
    (Fm.mayB x = true → bstr (tx x) = s → pv s = x ∧ pe s = 0) ∧ (Fm.mayB x = false → pv s = 0 ∧ pe s = 12) ∧ (bstr (tx x) ≠ s → pv s = 0 ∧ pe s = 12) := by
  have key : ∀ a, Fm.mayB a = true → bstr (tx a) = s → a = x := by
    rintro a ha rfl
    have := parts_body h (uns_tx a ha).1 (may_abs ha)
    rw [hn] at this
    cases this
    rw [← hx]
    exact (uns_tx a ha).2.symm
  refine ⟨?_, ?_, ?_⟩
  · rintro h1 rfl
    exact pv_tx x h1
  · intro h1
    refine refuse_of s fun a ha e => ?_
    rw [key a ha e, h1] at ha
    cases ha
  · intro h1
    refine refuse_of s fun a ha e => ?_
    have := key a ha e
    subst this
    exact h1 e
/-- the sign of a text, and what lies behind it -/
theorem uns_cases (s : ByteArray) (h : 0 < s.size) : (negOf s = true ∧ (sbytes s).getD 0 0 = 45 ∧ unsignedOf s = s.extract 1 s.size) ∨ (negOf s = false ∧ (sbytes s).getD 0 0 ≠ 45 ∧ unsignedOf s = s) := by
  obtain ⟨⟨l⟩⟩ := s
  cases l with
  | nil => exact absurd h (by decide)
  | cons x l =>
    by_cases hx : x = 45
    · subst hx
      left
      refine ⟨by simp [negOf, Lib.hasPrefix, dash], by simp [sbytes], ?_⟩
      show _ = (ByteArray.mk (45 :: l).toArray).extract 1 (ByteArray.mk (45 :: l).toArray).size
      rw [ByteArray.extract_mk]
      simp [unsignedOf, Lib.trimPrefix, Lib.hasPrefix, dash, ByteArray.size]
    · right
      have hp : Lib.hasPrefix (x :: l) dash = false := pre_no (fun e => hx e.symm)
      refine ⟨hp, ?_, ?_⟩
      · simp [sbytes]
        intro e
        apply hx
        exact UInt8.toNat_inj.1 e
      · unfold unsignedOf
        have : Lib.trimPrefix (x :: l) dash = x :: l := by unfold Lib.trimPrefix; rw [hp]; rfl
        show (ByteArray.mk (Lib.trimPrefix (x :: l) dash).toArray) = _
        rw [this]
theorem p15 {k : Nat} (h : k ≤ 15) : 10 ^ k ≤ 1000000000000000 := Nat.pow_le_pow_right (by omega) h
theorem part_left {T D H : List Nat} (h : Parts T D H) {k : Nat} (hk : k < D.length) : T.getD k 0 = D.getD k 0 := by
  rw [h.1, List.getD_eq_getElem?_getD, List.getD_eq_getElem?_getD, List.getElem?_append_left hk]
theorem part_right {T D H : List Nat} (h : Parts T D H) (k : Nat) : T.getD (D.length + 1 + k) 0 = H.getD k 0 := by
  rw [h.1, List.getD_eq_getElem?_getD, List.getD_eq_getElem?_getD, List.getElem?_append_right (by omega), show D.length + 1 + k - D.length = k + 1 from by omega, List.getElem?_cons_succ]
theorem drop_at {l : List Nat} {k : Nat} (h : k < l.length) : l.drop k = l.getD k 0 :: l.drop (k + 1) := by
  rw [List.drop_eq_getElem_cons h, List.getD_eq_getElem?_getD, List.getElem?_eq_getElem h]
  rfl
end Go.Proofs.Ytabfdhecbbemjaa.Fx
