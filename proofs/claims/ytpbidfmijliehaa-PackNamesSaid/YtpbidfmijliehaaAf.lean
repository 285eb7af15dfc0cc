/- A number's bytes: plain; the document's, walked. -/
import Derived.Test.YtpbidfmijliehaaProg
import Derived.Test.YtpbidfmijliehaaAa
set_option linter.unusedVariables false
set_option linter.unusedSimpArgs false
namespace Go.Proofs.Ytpbidfmijliehaa.Fx
open Go Go.RowKit
def formF : Nat → Nat → List Nat
  | 0, n => [n]
  | f + 1, n => if n < 128 then [n] else (128 + n % 128) :: formF f (n / 128)
/-- a number's bytes -/
def form (n : Nat) : List Nat := formF 10 n
theorem formF_more : ∀ (f m : Nat), 1 ≤ f → m < 128 ^ f → formF f m = formF (f + 1) m
  | 0, _, h, _ => by omega
  | f + 1, m, _, h => by
    by_cases h1 : m < 128
    · simp only [formF, if_pos h1]
    · have e : ∀ g, formF (g + 1) m = (128 + m % 128) :: formF g (m / 128) := fun g => by simp only [formF, if_neg h1]
      rw [e, e]
      congr 1
      have hf : 1 ≤ f := by
        rcases Nat.eq_zero_or_pos f with rfl | h0
        · simp at h; omega
        · exact h0
      exact formF_more f (m / 128) hf (by rw [Nat.pow_succ] at h; omega)
theorem form_small {n : Nat} (h : n < 128) : form n = [n] := by unfold form; simp only [formF, if_pos h]
theorem form_big {n : Nat} (h : ¬ n < 128) (hn : n < 18446744073709551616) : form n = (128 + n % 128) :: form (n / 128) := by
  unfold form
  have e : formF 10 n = (128 + n % 128) :: formF 9 (n / 128) := by rw [formF, if_neg h]
  rw [e, formF_more 9 _ (by omega) (by have : (128 : Nat) ^ 9 = 9223372036854775808 := by decide
                                       omega)]
theorem formF_len : ∀ (f n : Nat), 1 ≤ (formF f n).length ∧ (formF f n).length ≤ f + 1
  | 0, n => by simp [formF]
  | f + 1, n => by
    simp only [formF]
    split
    · simp
    · have := formF_len f (n / 128)
      simp
      omega
theorem form_len (n : Nat) : 1 ≤ (form n).length ∧ (form n).length ≤ 11 := formF_len 10 n
theorem form_by : ∀ (f n : Nat), n < 128 ^ (f + 1) → By (formF f n)
  | 0, n, h => by
    intro c hc
    simp [formF] at hc
    subst hc
    simp at h
    omega
  | f + 1, n, h => by
    simp only [formF]
    split
    · intro c hc
      simp at hc
      subst hc
      omega
    · intro c hc
      rcases List.mem_cons.1 hc with rfl | hc
      · omega
      · exact form_by f (n / 128) (by rw [Nat.pow_succ] at h; omega) c hc
theorem form_bytes {n : Nat} (hn : n < 18446744073709551616) : By (form n) := form_by 10 n (by
  have h : (128 : Nat) ^ (10 + 1) = 151115727451828646838272 := by decide
  rw [h]
  omega)
theorem Own.alloc {w : World} {B : Nat} {v : Value} {l : List Nat} (s : Own w B v l) (o : Obj) : Own (w.alloc o) B v l := by
  obtain ⟨h1, h2⟩ := s
  refine ⟨h1, ?_⟩
  rcases h2 with h2 | ⟨g, cap, cur, e, hb, hg, h3⟩
  · exact Or.inl h2
  · exact Or.inr ⟨g, cap, cur, e, hb, step_row hg, h3⟩
theorem Own.more {w : World} {B : Nat} {v : Value} {l m : List Nat} (h : w.ownsRow B 5 1 v (l.length + m.length) (l.map encB ++ m.map encB)) : Own w B v (l ++ m) := by
  unfold Own
  rw [List.length_append, List.map_append]
  exact h
theorem Own.blk {w : World} {B : Nat} {v : Value} {l : List Nat} (s : Own w B v l) : ∀ k, v.ownBlock = some k → B ≤ k := by
  intro k hk
  obtain ⟨h1, h2⟩ := s
  rcases h2 with ⟨rfl, _⟩ | ⟨g, cap, cur, rfl, hb, _⟩
  · cases hk
  · cases hk
    exact hb
theorem pow_cut (k : Nat) (hk : k < 9) : (2 : Nat) ^ (64 - 7 * k) = 128 * 2 ^ (64 - 7 * (k + 1)) := by
  rw [show 64 - 7 * k = 7 + (64 - 7 * (k + 1)) by omega, Nat.pow_add]
theorem cell_one_new' (w : World) (v : Value) (t : TypeId) : ∀ j u, [v][j]? = some u → (w.alloc (.cells #[v] t)).cell? ((⟨w.heap.size, 0, none⟩ : Addr).add j) = some u := by
  intro j u hu
  have hj : j = 0 := by
    have := (List.getElem?_eq_some_iff.1 hu).1
    simp at this
    omega
  subst hj
  rw [Addr.add_lit, cell_of_row _ _ _ _ _ _ (heap_alloc_new _ _)]
  exact hu
set_option maxRecDepth 100000 in
set_option maxHeartbeats 2000000 in
theorem zform_any (n : Nat) (hn : n < 18446744073709551616) (w : World) :
    Calls Try.prog 46 #[.int .u64 (n : Int)] w fun e w' => (∃ v, e = .returned v ∧ Own w' w.heap.size v (form n)) ∧ Below w.heap.size w w' := by
  obtain ⟨i0, hi, hz0, hz1, hz2⟩ := info_parts info5
  have HN := Lib.hid hn
  clear hn
  go_enter Try.func46, Try.ntmps46
  go_wp2_with fail
  go_loopg [0, 3, 4] 9 (fun g s0 s3 s4 wr => ∃ (k m : Nat) (l : List Nat), g = 9 - k ∧ k ≤ 9 ∧ s4 = .int .i64 (k : Int) ∧ s0 = .int .u64 (m : Int) ∧ l.length = k ∧ l ++ form m = form n ∧ m < 2 ^ (64 - 7 * k) ∧ Own wr w.heap.size s3 l ∧ Below w.heap.size w wr)
  case atStart => exact ⟨0, n, [], rfl, by omega, rfl, rfl, rfl, rfl, HN.out, World.ownsRow_nil _ _ _ _, Below.refl _ _⟩
  case round =>
    obtain ⟨k, m, l, hg, hk, rfl, rfl, hl, hf, hm, ho, hb⟩ := hrel
    have HO := Lib.hid ho
    have HB := Lib.hid hb
    have HF := Lib.hid hf
    have HL := Lib.hid hl
    have HM := Lib.hid hm
    have hs := hb.size
    have HS := Lib.hid hs
    subst hg
    clear ho hb hf hl hm hs
    have HOA := fun o => HO.out.alloc o
    have HOAH := Lib.hid HOA
    clear HOA
    by_cases h128 : m < 128
    · have t2 : ¬ (128 : Int) ≤ (m : Int) := by omega
      have hk10 : (k : Int) < 10 := by omega
      have hnm : Hid (form m = [m]) := Lib.hid (form_small h128)
      have m0 : (0 : Int) ≤ (m : Int) := by omega
      have m1 : (m : Int) < 128 := by omega
      go_wp2_with (at_builtin; refine wpList_append_own _ rfl _ _ 27 rfl w.heap.size 5 i0 (.int .u8 0) 1 1 Try.underlying27 hi hz0 hz1 hz2 rfl (by decide) _ l.length (l.map encB) rfl (HOAH.out _) ⟨wr.heap.size, 0, none⟩ 1 1 [.int .u8 (m : Int)] rfl rfl (cell_one_new' _ _ _) (by simp [Value.oneCell']) (by have := HL.out; unfold maxLen; omega) (by have := HL.out; omega) (by have := HS.out; simp; omega) ?_; intro v' w1 hown hgrow _)
      have HO2 : Hid (Own w1 w.heap.size v' (form n)) := Lib.hid (by
        rw [← HF.out, hnm.out]
        exact Own.more hown)
      have HB2 : Hid (Below w.heap.size w w1) := Lib.hid ((HB.out.alloc HB.out.size _).grown hgrow (by have := HS.out; simp; omega) (fun k hk => HO.out.blk k hk))
      clear hown hgrow
      go_ret
      exact ⟨⟨v', rfl, HO2.out⟩, HB2.out⟩
    · have hk9 : k < 9 := by
        rcases Nat.lt_or_ge k 9 with h | h
        · exact h
        · have := HM.out
          have e : k = 9 := by omega
          subst e
          simp at this
          omega
      have t1 : (k : Int) < 10 := by omega
      have t2 : (128 : Int) ≤ (m : Int) := by omega
      have hm64 : m < 18446744073709551616 := by
        have h1 := HM.out
        have h2 : (2 : Nat) ^ (64 - 7 * k) ≤ 2 ^ 64 := Nat.pow_le_pow_right (by omega) (by omega)
        have h3 : (2 : Nat) ^ 64 = 18446744073709551616 := by decide
        omega
      have hnm : Hid (form m = (128 + m % 128) :: form (m / 128)) := Lib.hid (form_big h128 hm64)
      have HM2 : Hid (m / 128 < 2 ^ (64 - 7 * (k + 1))) := Lib.hid (by
        have h1 := HM.out
        rw [pow_cut k hk9] at h1
        exact Nat.div_lt_of_lt_mul h1)
      have hc : (128 + (m : Int) % 128) = ((128 + m % 128 : Nat) : Int) := by omega
      have HC := Lib.hid hc
      have HW : Hid (IntKind.u64.wrap ((m : Int) / 128) = (m : Int) / 128) := Lib.hid (by rw [IntKind.wrap_u64]; omega)
      clear hm64 hc
      go_wp2_with (at_builtin; refine wpList_append_own _ rfl _ _ 27 rfl w.heap.size 5 i0 (.int .u8 0) 1 1 Try.underlying27 hi hz0 hz1 hz2 rfl (by decide) _ l.length (l.map encB) rfl (HOAH.out _) ⟨wr.heap.size, 0, none⟩ 1 1 [.int .u8 (128 + (m : Int) % 128)] rfl rfl (cell_one_new' _ _ _) (by simp [Value.oneCell']) (by have := HL.out; unfold maxLen; omega) (by have := HL.out; omega) (by have := HS.out; simp; omega) ?_; intro v' w1 hown hgrow _)
      have HO2 : Hid (Own w1 w.heap.size v' (l ++ [128 + m % 128])) := Lib.hid (by
        rw [HC.out] at hown
        exact Own.more (m := [128 + m % 128]) hown)
      have HB2 : Hid (Below w.heap.size w w1) := Lib.hid ((HB.out.alloc HB.out.size _).grown hgrow (by have := HS.out; simp; omega) (fun k hk => HO.out.blk k hk))
      clear hown hgrow
      go_roundg (9 - (k + 1))
      case measure => omega
      case rel => exact ⟨k + 1, m / 128, l ++ [128 + m % 128], rfl, by omega, by go_num, by rw [HW.out]; go_num, by have := HL.out; simp; omega, by rw [← HF.out, hnm.out]; simp, HM2.out, HO2.out, HB2.out⟩
end Go.Proofs.Ytpbidfmijliehaa.Fx
