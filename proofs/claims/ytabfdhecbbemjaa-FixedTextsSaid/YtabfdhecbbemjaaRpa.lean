/- The reference's Parse: it answers as the program's. -/
import Derived.Test.YtabfdhecbbemjaaProg
import Derived.Test.YtabfdhecbbemjaaRpw
set_option linter.unusedVariables false
set_option linter.unusedSimpArgs false
namespace Go.Proofs.Ytabfdhecbbemjaa.Fx
open Go Go.RowKit
theorem rparse_any (s : ByteArray) (w : World) (hs : s.size ≤ 100) :
    Calls Try.prog 26 #[.string s] w fun e w' => e = .returned (.tuple #[.int .i64 (pv s), .int .i64 (pe s)]) ∧ _root_.Go.RowKit.Below w.heap.size w w' := by
  by_cases h0 : 0 < s.size
  · have hsh := refuse_shape s
    rcases uns_cases s h0 with ⟨hn, hb, hu⟩ | ⟨hn, hb, hu⟩
    · obtain ⟨u, hu'⟩ : ∃ u, unsignedOf s = u := ⟨_, rfl⟩
      have hur : ∀ {D H : List Nat}, Parts (sbytes u) D H → rdh D H = none → pv s = 0 ∧ pe s = 12 := fun hp => refuse_read s (by rw [hu']; exact hp)
      have hua : ∀ {D H : List Nat}, Parts (sbytes u) D H → ∀ n : Nat, rdh D H = some n → PTest s (-(n : Int)) (pv s) (pe s) := fun hp n hr => accept_read s (by rw [hu']; exact hp) hr _ (by rw [hn]; rfl)
      rw [hu'] at hsh hu
      rw [sb_len] at hsh
      by_cases h6 : u.size < 6
      · obtain ⟨e1, e2⟩ := hsh (.inl h6)
        exact rp_few_t s u w hs h0 hb hu _ _ e1 e2 h6
      · by_cases h20 : 20 < u.size
        · obtain ⟨e1, e2⟩ := hsh (.inr (.inl h20))
          exact rp_many_t s u w hs h0 hb hu _ _ e1 e2 h20
        · by_cases h46 : (sbytes u).getD (u.size - 5) 0 = 46
          · obtain ⟨D, H, hP⟩ := parts_of (sbytes u) (by rw [sb_len]; omega) (by rw [sb_len]; omega) (by rw [sb_len]; exact h46)
            exact rp_main_t s u w hs h0 hb hu _ _ D H hP h46 (hur hP) (hua hP)
          · obtain ⟨e1, e2⟩ := hsh (.inr (.inr h46))
            exact rp_point_t s u w hs h0 hb hu _ _ e1 e2 (by omega) (by omega) h46
    · have hur : ∀ {D H : List Nat}, Parts (sbytes s) D H → rdh D H = none → pv s = 0 ∧ pe s = 12 := fun hp => refuse_read s (by rw [hu]; exact hp)
      have hua : ∀ {D H : List Nat}, Parts (sbytes s) D H → ∀ n : Nat, rdh D H = some n → PTest s (n : Int) (pv s) (pe s) := fun hp n hr => accept_read s (by rw [hu]; exact hp) hr _ (by rw [hn]; rfl)
      rw [hu] at hsh
      rw [sb_len] at hsh
      by_cases h6 : s.size < 6
      · obtain ⟨e1, e2⟩ := hsh (.inl h6)
        exact rp_few_f s w hs h0 hb _ _ e1 e2 h6
      · by_cases h20 : 20 < s.size
        · obtain ⟨e1, e2⟩ := hsh (.inr (.inl h20))
          exact rp_many_f s w hs h0 hb _ _ e1 e2 h20
        · by_cases h46 : (sbytes s).getD (s.size - 5) 0 = 46
          · obtain ⟨D, H, hP⟩ := parts_of (sbytes s) (by rw [sb_len]; omega) (by rw [sb_len]; omega) (by rw [sb_len]; exact h46)
            exact rp_main_f s w hs h0 hb _ _ D H hP h46 (hur hP) (hua hP)
          · obtain ⟨e1, e2⟩ := hsh (.inr (.inr h46))
            exact rp_point_f s w hs h0 hb _ _ e1 e2 (by omega) (by omega) h46
  · have hz : s.size = 0 := by omega
    obtain ⟨e1, e2⟩ := refuse_of s (by
      rintro a ha rfl
      have h1 := bstr_size (tx a)
      have h2 : (tx a).length ≠ 0 := by unfold tx bodyT; simp
      omega)
    exact rp_empty s w hz _ _ e1 e2
end Go.Proofs.Ytabfdhecbbemjaa.Fx
