/- wide.Parse, walked; a text says its number. -/
import Derived.Test.YtgkcbadfjhicnaaProg
import Derived.Test.YtgkcbadfjhicnaaV1
set_option linter.unusedVariables false
set_option linter.unusedSimpArgs false
namespace Go.Proofs.Ytgkcbadfjhicnaa.Fx
open Go Go.RowKit Wm
def pval (s : ByteArray) : Int := valI (sbytes s)
def pok (s : ByteArray) : Prop := bstr (wtx (pval s)) = s
open Classical in
noncomputable def pv (s : ByteArray) : Int := if pok s then pval s else 0
open Classical in
noncomputable def pe (s : ByteArray) : Int := if pok s then 0 else 20
/-- answers the number that the text says, or the error -/
def RetP (s : ByteArray) (w : World) (e : Ending) (w' : World) : Prop := ∃ h : Int, ∃ l : Nat, e = .returned (.tuple #[.agg #[.int .i64 h, .int .u64 l], .int .i64 (pe s)]) ∧ At (pv s) h l ∧ Below w.heap.size w w'
theorem str_ne {t s : ByteArray} (h : t ≠ s) : (t.toList == s.toList) = false := by
  refine beq_eq_false_iff_ne.2 fun e => h ?_
  rw [Lib.toList_data, Lib.toList_data] at e
  exact ByteArray.ext (Array.ext' e)
set_option maxHeartbeats 1000000 in
theorem parse_ok (s : ByteArray) (x : Int) (t : ByteArray) (w : World) (hv : ∀ w, Calls Try.prog 59 #[.string s] w (RetW x w)) (ht : ∀ w h l, At x h l → Calls Try.prog 31 #[.agg #[.int .i64 h, .int .u64 l]] w fun e w' => e = .returned (.string t) ∧ Below w.heap.size w w')
    (hc : (t.toList == s.toList) = true) : Calls Try.prog 28 #[.string s] w fun e w' => ∃ h : Int, ∃ l : Nat, e = .returned (.tuple #[.agg #[.int .i64 h, .int .u64 l], .int .i64 0]) ∧ At x h l ∧ Below w.heap.size w w' := by
  have HV := Lib.hid hv
  have HT := Lib.hid ht
  clear hv ht
  go_enter Try.func28, Try.ntmps28
  go_wp2_with fail
  refine (HV.out _).mono ?_
  rintro e wx1 ⟨a1, b1, rfl, hat1, hb1⟩
  have hB1 : Below w.heap.size w wx1 := by (repeat' (first | (with_reducible exact Below.refl _ _) | (with_reducible assumption) | (with_reducible refine Below.drew ?_) | (with_reducible refine Below.setCell ?_ ?_ _) | (with_reducible refine bnext ?_ (by assumption)) | (with_reducible refine Below.alloc ?_ ?_ _) | go_size))
  have hS1 : w.heap.size ≤ wx1.heap.size := hB1.size
  have hz1_0 : w.heap.size < wx1.heap.size := Nat.lt_of_lt_of_le (by first | assumption | (simp [go_sem]; done) | (simp [go_sem]; omega)) hb1.size
  have k1_0 : wx1.cell? ⟨w.heap.size, 0, none⟩ = some (.int .i64 0) := keep_cell hb1 (by first | assumption | (simp [go_sem, *]; done))
  have k1_1 : wx1.cell? ⟨w.heap.size, 1, none⟩ = some (.int .u64 0) := keep_cell hb1 (by first | assumption | (simp [go_sem, *]; done))
  have f1_0 : wx1.frozen? ⟨w.heap.size, 0, none⟩ = false := keep_free hb1 (by first | assumption | (simp [go_sem]; done) | (simp [go_sem]; omega)) (by first | assumption | (simp [go_sem, *]; done))
  have f1_1 : wx1.frozen? ⟨w.heap.size, 1, none⟩ = false := keep_free hb1 (by first | assumption | (simp [go_sem]; done) | (simp [go_sem]; omega)) (by first | assumption | (simp [go_sem, *]; done))
  have HA1 := Lib.hid hat1
  clear hat1
  go_wp2_with fail
  refine (HT.out _ a1 b1 HA1.out).mono ?_
  rintro e wx2 ⟨rfl, hb2⟩
  have hB2 : Below w.heap.size w wx2 := by (repeat' (first | (with_reducible exact Below.refl _ _) | (with_reducible assumption) | (with_reducible refine Below.drew ?_) | (with_reducible refine Below.setCell ?_ ?_ _) | (with_reducible refine bnext ?_ (by assumption)) | (with_reducible refine Below.alloc ?_ ?_ _) | go_size))
  have hS2 : w.heap.size ≤ wx2.heap.size := hB2.size
  have hz2_0 : w.heap.size < wx2.heap.size := Nat.lt_of_lt_of_le (by first | assumption | (simp [go_sem]; done) | (simp [go_sem]; omega)) hb2.size
  have hz2_1 : wx1.heap.size < wx2.heap.size := Nat.lt_of_lt_of_le (by first | assumption | (simp [go_sem]; done) | (simp [go_sem]; omega)) hb2.size
  have k2_0 : wx2.cell? ⟨w.heap.size, 0, none⟩ = some (.int .i64 0) := keep_cell hb2 (by first | assumption | (simp [go_sem, *]; done))
  have k2_1 : wx2.cell? ⟨w.heap.size, 1, none⟩ = some (.int .u64 0) := keep_cell hb2 (by first | assumption | (simp [go_sem, *]; done))
  have k2_2 : wx2.cell? ⟨wx1.heap.size, 0, none⟩ = some (.int .i64 a1) := keep_cell hb2 (by first | assumption | (simp [go_sem, *]; done))
  have k2_3 : wx2.cell? ⟨wx1.heap.size, 1, none⟩ = some (.int .u64 b1) := keep_cell hb2 (by first | assumption | (simp [go_sem, *]; done))
  have f2_0 : wx2.frozen? ⟨w.heap.size, 0, none⟩ = false := keep_free hb2 (by first | assumption | (simp [go_sem]; done) | (simp [go_sem]; omega)) (by first | assumption | (simp [go_sem, *]; done))
  have f2_1 : wx2.frozen? ⟨w.heap.size, 1, none⟩ = false := keep_free hb2 (by first | assumption | (simp [go_sem]; done) | (simp [go_sem]; omega)) (by first | assumption | (simp [go_sem, *]; done))
  have f2_2 : wx2.frozen? ⟨wx1.heap.size, 0, none⟩ = false := keep_free hb2 (by first | assumption | (simp [go_sem]; done) | (simp [go_sem]; omega)) (by first | assumption | (simp [go_sem, *]; done))
  have f2_3 : wx2.frozen? ⟨wx1.heap.size, 1, none⟩ = false := keep_free hb2 (by first | assumption | (simp [go_sem]; done) | (simp [go_sem]; omega)) (by first | assumption | (simp [go_sem, *]; done))
  go_wp2
  refine bodyPost_ret (v := .tuple #[.agg #[.int .i64 a1, .int .u64 b1], .int .i64 0]) (by simp [results, Try.results28, go_sem, *]) rfl (⟨_, _, rfl, HA1.out, ?_⟩)
  repeat' (first | (with_reducible exact Below.refl _ _) | (with_reducible assumption) | (with_reducible refine Below.drew ?_) | (with_reducible refine Below.setCell ?_ ?_ _) | (with_reducible refine bnext ?_ (by assumption)) | (with_reducible refine Below.alloc ?_ ?_ _) | go_size)
set_option maxHeartbeats 1000000 in
theorem parse_no (s : ByteArray) (x : Int) (t : ByteArray) (w : World) (hv : ∀ w, Calls Try.prog 59 #[.string s] w (RetW x w)) (ht : ∀ w h l, At x h l → Calls Try.prog 31 #[.agg #[.int .i64 h, .int .u64 l]] w fun e w' => e = .returned (.string t) ∧ Below w.heap.size w w')
    (hc : (t.toList == s.toList) = false) : Calls Try.prog 28 #[.string s] w fun e w' => ∃ h : Int, ∃ l : Nat, e = .returned (.tuple #[.agg #[.int .i64 h, .int .u64 l], .int .i64 20]) ∧ At 0 h l ∧ Below w.heap.size w w' := by
  have HV := Lib.hid hv
  have HT := Lib.hid ht
  clear hv ht
  go_enter Try.func28, Try.ntmps28
  go_wp2_with fail
  refine (HV.out _).mono ?_
  rintro e wx1 ⟨a1, b1, rfl, hat1, hb1⟩
  have hB1 : Below w.heap.size w wx1 := by (repeat' (first | (with_reducible exact Below.refl _ _) | (with_reducible assumption) | (with_reducible refine Below.drew ?_) | (with_reducible refine Below.setCell ?_ ?_ _) | (with_reducible refine bnext ?_ (by assumption)) | (with_reducible refine Below.alloc ?_ ?_ _) | go_size))
  have hS1 : w.heap.size ≤ wx1.heap.size := hB1.size
  have hz1_0 : w.heap.size < wx1.heap.size := Nat.lt_of_lt_of_le (by first | assumption | (simp [go_sem]; done) | (simp [go_sem]; omega)) hb1.size
  have k1_0 : wx1.cell? ⟨w.heap.size, 0, none⟩ = some (.int .i64 0) := keep_cell hb1 (by first | assumption | (simp [go_sem, *]; done))
  have k1_1 : wx1.cell? ⟨w.heap.size, 1, none⟩ = some (.int .u64 0) := keep_cell hb1 (by first | assumption | (simp [go_sem, *]; done))
  have f1_0 : wx1.frozen? ⟨w.heap.size, 0, none⟩ = false := keep_free hb1 (by first | assumption | (simp [go_sem]; done) | (simp [go_sem]; omega)) (by first | assumption | (simp [go_sem, *]; done))
  have f1_1 : wx1.frozen? ⟨w.heap.size, 1, none⟩ = false := keep_free hb1 (by first | assumption | (simp [go_sem]; done) | (simp [go_sem]; omega)) (by first | assumption | (simp [go_sem, *]; done))
  have HA1 := Lib.hid hat1
  clear hat1
  go_wp2_with fail
  refine (HT.out _ a1 b1 HA1.out).mono ?_
  rintro e wx2 ⟨rfl, hb2⟩
  have hB2 : Below w.heap.size w wx2 := by (repeat' (first | (with_reducible exact Below.refl _ _) | (with_reducible assumption) | (with_reducible refine Below.drew ?_) | (with_reducible refine Below.setCell ?_ ?_ _) | (with_reducible refine bnext ?_ (by assumption)) | (with_reducible refine Below.alloc ?_ ?_ _) | go_size))
  have hS2 : w.heap.size ≤ wx2.heap.size := hB2.size
  have hz2_0 : w.heap.size < wx2.heap.size := Nat.lt_of_lt_of_le (by first | assumption | (simp [go_sem]; done) | (simp [go_sem]; omega)) hb2.size
  have hz2_1 : wx1.heap.size < wx2.heap.size := Nat.lt_of_lt_of_le (by first | assumption | (simp [go_sem]; done) | (simp [go_sem]; omega)) hb2.size
  have k2_0 : wx2.cell? ⟨w.heap.size, 0, none⟩ = some (.int .i64 0) := keep_cell hb2 (by first | assumption | (simp [go_sem, *]; done))
  have k2_1 : wx2.cell? ⟨w.heap.size, 1, none⟩ = some (.int .u64 0) := keep_cell hb2 (by first | assumption | (simp [go_sem, *]; done))
  have k2_2 : wx2.cell? ⟨wx1.heap.size, 0, none⟩ = some (.int .i64 a1) := keep_cell hb2 (by first | assumption | (simp [go_sem, *]; done))
  have k2_3 : wx2.cell? ⟨wx1.heap.size, 1, none⟩ = some (.int .u64 b1) := keep_cell hb2 (by first | assumption | (simp [go_sem, *]; done))
  have f2_0 : wx2.frozen? ⟨w.heap.size, 0, none⟩ = false := keep_free hb2 (by first | assumption | (simp [go_sem]; done) | (simp [go_sem]; omega)) (by first | assumption | (simp [go_sem, *]; done))
  have f2_1 : wx2.frozen? ⟨w.heap.size, 1, none⟩ = false := keep_free hb2 (by first | assumption | (simp [go_sem]; done) | (simp [go_sem]; omega)) (by first | assumption | (simp [go_sem, *]; done))
  have f2_2 : wx2.frozen? ⟨wx1.heap.size, 0, none⟩ = false := keep_free hb2 (by first | assumption | (simp [go_sem]; done) | (simp [go_sem]; omega)) (by first | assumption | (simp [go_sem, *]; done))
  have f2_3 : wx2.frozen? ⟨wx1.heap.size, 1, none⟩ = false := keep_free hb2 (by first | assumption | (simp [go_sem]; done) | (simp [go_sem]; omega)) (by first | assumption | (simp [go_sem, *]; done))
  go_wp2
  refine bodyPost_ret (v := .tuple #[.agg #[.int .i64 0, .int .u64 0], .int .i64 20]) (by simp [results, Try.results28, go_sem, *]) rfl (⟨0, 0, rfl, At.zero, ?_⟩)
  repeat' (first | (with_reducible exact Below.refl _ _) | (with_reducible assumption) | (with_reducible refine Below.drew ?_) | (with_reducible refine Below.setCell ?_ ?_ _) | (with_reducible refine bnext ?_ (by assumption)) | (with_reducible refine Below.alloc ?_ ?_ _) | go_size)
theorem parse_any (s : ByteArray) (w : World) (hs : s.size ≤ 1000) : Calls Try.prog 28 #[.string s] w (RetP s w) := by
  have HV := fun w => value_any s w hs
  have HT := fun w h l (hat : At (pval s) h l) => text_any (pval s) h l w hat
  by_cases h : pok s
  · have e1 : pv s = pval s := if_pos h
    have e2 : pe s = 0 := if_pos h
    unfold RetP
    rw [e1, e2]
    exact parse_ok s _ _ w HV HT (by rw [show bstr (wtx (pval s)) = s from h]; simp)
  · have e1 : pv s = 0 := if_neg h
    have e2 : pe s = 20 := if_neg h
    unfold RetP
    rw [e1, e2]
    exact parse_no s _ _ w HV HT (str_ne h)
theorem sbytes_bstr (l : List Int) (h : ∀ x ∈ l, 0 ≤ x ∧ x < 256) : sbytes (bstr l) = l.map Int.toNat := by
  unfold sbytes bstr
  simp only [List.map_map]
  apply List.map_congr_left
  intro x hx
  have := h x hx
  simp
  omega
theorem decF_range : ∀ (f n : Nat), ∀ x ∈ decF f n, 48 ≤ x ∧ x ≤ 57
  | 0, _, x, h => by simp [decF] at h
  | f + 1, n, x, h => by
    simp only [decF] at h
    split at h
    · simp at h; omega
    · rw [List.mem_append] at h
      rcases h with h | h
      · exact decF_range f _ x h
      · simp at h; omega
theorem decF_vals : ∀ (f n : Nat) (b : Bool), n < 10 ^ f → n < 340282366920938463463374607431768211456 → ((decF f n).map Int.toNat).foldl vstep (0, b) = (n, b)
  | 0, n, b, h, _ => by
    have : n = 0 := by simpa using h
    subst this
    rfl
  | f + 1, n, b, h, hn => by
    simp only [decF]
    split
    · rename_i h1
      have e : (48 + (n : Int)).toNat = 48 + n := by omega
      simp only [List.map_cons, List.map_nil, List.foldl_cons, List.foldl_nil, e]
      unfold vstep cw
      rw [if_neg (by omega), if_pos (by omega)]
      congr 1
      omega
    · have hd : n % 10 < 10 := Nat.mod_lt _ (by omega)
      have e : (48 + ((n % 10 : Nat) : Int)).toNat = 48 + n % 10 := by omega
      rw [List.map_append, List.foldl_append, decF_vals f (n / 10) b (by rw [Nat.pow_succ] at h; omega) (by omega)]
      simp only [List.map_cons, List.map_nil, List.foldl_cons, List.foldl_nil, e]
      unfold vstep cw
      rw [if_neg (by omega), if_pos (by omega)]
      congr 1
      omega
theorem wtx_range (x : Int) : ∀ c ∈ wtx x, 0 ≤ c ∧ c < 256 := by
  intro c h
  unfold wtx at h
  rw [List.mem_append] at h
  rcases h with h | h
  · split at h <;> simp at h
    omega
  · have := decF_range _ _ c h
    omega
theorem pval_text {x : Int} (hx : In x) : pval (bstr (wtx x)) = x := by
  unfold pval valI
  rw [sbytes_bstr _ (wtx_range x)]
  have hn : x.natAbs < 340282366920938463463374607431768211456 := by unfold In at hx; omega
  have e : vals ((wtx x).map Int.toNat) = (x.natAbs, decide (x < 0)) := by
    unfold vals wtx
    rw [List.map_append, List.foldl_append]
    by_cases h : x < 0
    · rw [if_pos h, decide_eq_true h]
      exact decF_vals 40 _ true (by omega) hn
    · rw [if_neg h, decide_eq_false h]
      exact decF_vals 40 _ false (by omega) hn
  rw [e]
  by_cases h : x < 0
  · rw [if_pos (by simpa using h), show -(x.natAbs : Int) = x from by omega, w128_in hx]
  · rw [if_neg (by simpa using h), show (x.natAbs : Int) = x from by omega, w128_in hx]
theorem pok_text {x : Int} (hx : In x) : pok (bstr (wtx x)) := by unfold pok; rw [pval_text hx]
theorem pv_text {x : Int} (hx : In x) : pv (bstr (wtx x)) = x ∧ pe (bstr (wtx x)) = 0 := by
  unfold pv pe
  rw [if_pos (pok_text hx), if_pos (pok_text hx), pval_text hx]
  exact ⟨rfl, rfl⟩
theorem pv_ok (s : ByteArray) : (pe s = 0 ∧ bstr (wtx (pv s)) = s) ∨ (pe s = 20 ∧ pv s = 0) := by
  by_cases h : pok s
  · left
    unfold pe pv
    rw [if_pos h, if_pos h]
    exact ⟨rfl, h⟩
  · right
    unfold pe pv
    rw [if_neg h, if_neg h]
    exact ⟨rfl, rfl⟩
theorem pv_in (s : ByteArray) : In (pv s) := by
  unfold pv
  split
  · exact in_w128 _
  · unfold In; omega
theorem bstr_size (l : List Int) : (bstr l).size = l.length := by simp [bstr, ByteArray.size]
theorem decF_len : ∀ (f n : Nat), (decF f n).length ≤ f
  | 0, _ => by simp [decF]
  | f + 1, n => by
    simp only [decF]
    split
    · simp
    · have := decF_len f (n / 10)
      simp
      omega
theorem wtx_len (x : Int) : (wtx x).length ≤ 41 := by
  have := decF_len 40 x.natAbs
  unfold wtx
  rw [List.length_append]
  split <;> simp <;> omega
end Go.Proofs.Ytgkcbadfjhicnaa.Fx
