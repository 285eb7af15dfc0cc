/- fixed.value, walked: what a text's digits come to. -/
import Derived.Test.YtabfdhecbbemjaaProg
import Derived.Test.YtabfdhecbbemjaaShelf
import Derived.WalkKit
import Derived.Lib.ConvBytes
import Derived.Lib.Hide
import Derived.Outline
import Derived.Deep.LoopGhost
import Derived.Below
set_option linter.unusedVariables false
set_option linter.unusedSimpArgs false
namespace Go.Proofs.Ytabfdhecbbemjaa.Fx
open Go Go.RowKit

/-- a sign's digit -/
def digitOf (c : Nat) : Option Nat := if 48 ≤ c ∧ c ≤ 57 then some (c - 48) else if 97 ≤ c ∧ c ≤ 102 then some (c - 87) else none
def val : List Nat → Nat → Nat → Option Nat
  | [], n, _ => some n
  | c :: l, n, b => if c = 46 then val l n 16 else match digitOf c with
    | none => none
    | some d => if (4611686018427387904 - d) / b < n then none else val l (n * b + d) b
def idxOf (c : Nat) : Int := match digitOf c with
  | none => -1
  | some d => (d : Int)
theorem idx_all : ∀ c : Fin 256, Lib.indexByte [48, 49, 50, 51, 52, 53, 54, 55, 56, 57, 97, 98, 99, 100, 101, 102] (c.val.toUInt8) = idxOf c.val := by decide +kernel
theorem idx_any (c : Nat) (hc : c < 256) (w : World) :
    Calls Try.prog 51 #[.string { data := #[48, 49, 50, 51, 52, 53, 54, 55, 56, 57, 97, 98, 99, 100, 101, 102] }, .int .u8 (c : Int)] w fun e w' => e = .returned (.int .i64 (idxOf c)) ∧ w = w' := by
  refine (Try.strings_IndexByte _ _ w).mono ?_
  rintro e w' ⟨rfl, h⟩
  exact ⟨by rw [← idx_all ⟨c, hc⟩]; rfl, h.symm⟩
/-- a string's bytes as numbers -/
def sbytes (s : ByteArray) : List Nat := s.data.toList.map UInt8.toNat
theorem below_bytes (w : World) (e : TypeId) (s : ByteArray) : Below w.heap.size w (Lib.bytesWorld w e s) :=
  ⟨rfl, rfl, rfl, by rw [Lib.bytesWorld_size]; omega, fun k hk => Lib.bytesWorld_at_old w e s k hk⟩
def ValRel (l : List Nat) (k n b : Nat) : Prop := val (l.drop k) n b = val l 0 10 ∧ n ≤ 4611686018427387904 ∧ (b = 10 ∨ b = 16) ∧ k ≤ l.length
theorem digit_lt {c d : Nat} (h : digitOf c = some d) : d < 16 := by
  unfold digitOf at h
  split at h
  · cases h; omega
  · split at h
    · cases h; omega
    · cases h
def okB : Option Nat → Bool
  | none => false
  | some _ => true
def okV : Option Nat → Int
  | none => 0
  | some n => (n : Int)
set_option maxHeartbeats 1600000 in
set_option maxRecDepth 100000 in
theorem value_any (s : ByteArray) (w : World) (hs : s.size ≤ 100) :
    Calls Try.prog 44 #[.string s] w fun e w' => e = .returned (.tuple #[.int .u64 (okV (val (sbytes s) 0 10)), .bool (okB (val (sbytes s) 0 10))]) ∧ Below w.heap.size w w' := by
  have hconv := Lib.run_convert_string_bytes (P := Try.prog) w 9 52 5 s Try.underlying9 Try.underlying52 Try.underlying5
  have hcell : ∀ j, j < s.size → (Lib.bytesWorld w 5 s).cell? ⟨w.heap.size, j, none⟩ = some (.int .u8 (((sbytes s).getD j 0 : Nat) : Int)) := by
    intro j hj
    rw [Lib.bytesWorld_cell w _ s j hj]
    have hj' : j < s.data.toList.length := by simpa using hj
    simp only [sbytes, List.getD_eq_getElem?_getD, List.getElem?_map, Array.getElem?_toList]
    cases s.data[j]? <;> rfl
  have hB := below_bytes w 5 s
  obtain ⟨W1, hW1⟩ : ∃ W1, Lib.bytesWorld w 5 s = W1 := ⟨_, rfl⟩
  rw [hW1] at hconv hcell hB
  obtain ⟨l, hl⟩ : ∃ l, sbytes s = l := ⟨_, rfl⟩
  have hlen : s.size = l.length := by rw [← hl]; simp [sbytes]
  have hlt : ∀ x ∈ l, x < 256 := by
    intro x hx
    rw [← hl] at hx
    simp only [sbytes, List.mem_map] at hx
    obtain ⟨u, _, rfl⟩ := hx
    exact u.toNat_lt
  rw [hl] at hcell ⊢
  have Hlen := Lib.hid hlen; clear hlen
  have Hcell := Lib.hid hcell; clear hcell
  have Hlt := Lib.hid hlt; clear hlt
  clear hW1 hl
  obtain ⟨res, hres⟩ : ∃ res, val l 0 10 = res := ⟨_, rfl⟩
  rw [hres]
  go_enter Try.func44, Try.ntmps44
  go_wp2_with fail
  go_loopg [4, 5, 13] l.length (fun g s4 s5 s13 wx => ∃ k n b : Nat, g = l.length - k ∧ s4 = .int .u64 (n : Int) ∧ s5 = .int .u64 (b : Int) ∧ s13 = .int .i64 (k : Int) ∧ ValRel l k n b ∧ W1 = wx)
  case atStart => exact ⟨0, 0, 10, rfl, rfl, rfl, rfl, ⟨rfl, by omega, .inl rfl, by omega⟩, rfl⟩
  case round =>
    obtain ⟨k, n, b, rfl, rfl, rfl, rfl, ⟨hv, hn, hb, hkl⟩, rfl⟩ := hrel
    by_cases hk : k < l.length
    · have hks : (k : Int) < (s.size : Int) := by have := Hlen.out; omega
      have hc := Hcell.out k (by have := Hlen.out; omega)
      obtain ⟨c, hcc⟩ : ∃ c, l.getD k 0 = c := ⟨_, rfl⟩
      rw [hcc] at hc
      have hdr : l.drop k = c :: l.drop (k + 1) := by
        rw [List.drop_eq_getElem_cons hk, ← hcc]
        simp [List.getD_eq_getElem?_getD, hk]
      have hcl : c < 256 := Hlt.out c (by
        have : c ∈ l.drop k := by rw [hdr]; exact List.mem_cons_self ..
        exact List.mem_of_mem_drop this)
      rw [hdr] at hv
      clear hdr hcc
      have hI := idx_any c hcl
      by_cases h46 : c = 46
      · have hv2 : val (l.drop (k + 1)) n 16 = val l 0 10 := by rw [← hv]; simp only [val, if_pos h46]
        have Hv2 := Lib.hid hv2; clear hv2
        have t46 : ((c : Int) == 46) = true := by simp; omega
        clear hv h46 hI
        go_wp2_with fail
        go_roundg (l.length - (k + 1))
        case measure => omega
        case rel => exact ⟨k + 1, n, 16, rfl, rfl, rfl, by go_num, ⟨Hv2.out, hn, .inr rfl, by omega⟩, rfl⟩
      · have t46 : ((c : Int) == 46) = false := by simp; omega
        rcases hb with rfl | rfl
        · skip
          have hn : n ≤ 4611686018427387904 := hn
          cases hdg : digitOf c with
          | none =>
            have hx : idxOf c = -1 := by unfold idxOf; rw [hdg]
            have hr : res = none := by rw [← hres, ← hv]; simp only [val, if_neg h46, hdg]
            rw [hx] at hI
            subst hr
            clear hdg hv
            go_wp2_with fail
            refine (hI _).mono ?_
            rintro e w' ⟨rfl, rfl⟩
            go_wp2_with fail
            go_ret2
            exact ⟨rfl, hB⟩
          | some d =>
            have hx : idxOf c = (d : Int) := by unfold idxOf; rw [hdg]
            have hd : d < 16 := digit_lt hdg
            rw [hx] at hI
            clear hx
            by_cases hov : (4611686018427387904 - d) / 10 < n
            · have hr : res = none := by rw [← hres, ← hv]; simp only [val, if_neg h46, hdg, if_pos hov]
              have tov : ((4611686018427387904 : Int) - (d : Int)) / 10 < (n : Int) := by omega
              subst hr
              clear hdg hv hov
              go_wp2_with fail
              refine (hI _).mono ?_
              rintro e w' ⟨rfl, rfl⟩
              go_wp2_with fail
              go_ret2
              exact ⟨rfl, hB⟩
            · have hv2 : val (l.drop (k + 1)) (n * 10 + d) 10 = val l 0 10 := by rw [← hv]; simp only [val, if_neg h46, hdg, if_neg hov]
              have Hv2 := Lib.hid hv2; clear hv2
              have tov : ¬ ((4611686018427387904 : Int) - (d : Int)) / 10 < (n : Int) := by omega
              have tov' : (n : Int) ≤ ((4611686018427387904 : Int) - (d : Int)) / 10 := by omega
              have tb : n * 10 + d ≤ 4611686018427387904 := by omega
              clear hdg hv hov
              go_wp2_with fail
              refine (hI _).mono ?_
              rintro e w' ⟨rfl, rfl⟩
              go_wp2_with fail
              go_roundg (l.length - (k + 1))
              case measure => omega
              case rel => exact ⟨k + 1, n * 10 + d, 10, rfl, by go_num, rfl, by go_num, ⟨Hv2.out, tb, by omega, by omega⟩, rfl⟩
        · skip
          have hn : n ≤ 4611686018427387904 := hn
          cases hdg : digitOf c with
          | none =>
            have hx : idxOf c = -1 := by unfold idxOf; rw [hdg]
            have hr : res = none := by rw [← hres, ← hv]; simp only [val, if_neg h46, hdg]
            rw [hx] at hI
            subst hr
            clear hdg hv
            go_wp2_with fail
            refine (hI _).mono ?_
            rintro e w' ⟨rfl, rfl⟩
            go_wp2_with fail
            go_ret2
            exact ⟨rfl, hB⟩
          | some d =>
            have hx : idxOf c = (d : Int) := by unfold idxOf; rw [hdg]
            have hd : d < 16 := digit_lt hdg
            rw [hx] at hI
            clear hx
            by_cases hov : (4611686018427387904 - d) / 16 < n
            · have hr : res = none := by rw [← hres, ← hv]; simp only [val, if_neg h46, hdg, if_pos hov]
              have tov : ((4611686018427387904 : Int) - (d : Int)) / 16 < (n : Int) := by omega
              subst hr
              clear hdg hv hov
              go_wp2_with fail
              refine (hI _).mono ?_
              rintro e w' ⟨rfl, rfl⟩
              go_wp2_with fail
              go_ret2
              exact ⟨rfl, hB⟩
            · have hv2 : val (l.drop (k + 1)) (n * 16 + d) 16 = val l 0 10 := by rw [← hv]; simp only [val, if_neg h46, hdg, if_neg hov]
              have Hv2 := Lib.hid hv2; clear hv2
              have tov : ¬ ((4611686018427387904 : Int) - (d : Int)) / 16 < (n : Int) := by omega
              have tov' : (n : Int) ≤ ((4611686018427387904 : Int) - (d : Int)) / 16 := by omega
              have tb : n * 16 + d ≤ 4611686018427387904 := by omega
              clear hdg hv hov
              go_wp2_with fail
              refine (hI _).mono ?_
              rintro e w' ⟨rfl, rfl⟩
              go_wp2_with fail
              go_roundg (l.length - (k + 1))
              case measure => omega
              case rel => exact ⟨k + 1, n * 16 + d, 16, rfl, by go_num, rfl, by go_num, ⟨Hv2.out, tb, by omega, by omega⟩, rfl⟩
    · have hks : ¬ (k : Int) < (s.size : Int) := by have := Hlen.out; omega
      have hr : res = some n := by
        rw [← hres, ← hv, List.drop_eq_nil_of_le (by omega)]; rfl
      subst hr
      clear hv hres
      go_wp2_with fail
      go_ret2
      exact ⟨rfl, hB⟩
end Go.Proofs.Ytabfdhecbbemjaa.Fx
