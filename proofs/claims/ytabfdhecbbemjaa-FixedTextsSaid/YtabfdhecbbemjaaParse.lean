/- fixed.Parse, walked; a text is read as its number. -/
import Derived.Test.YtabfdhecbbemjaaProg
import Derived.Test.YtabfdhecbbemjaaPv
import Derived.Test.YtabfdhecbbemjaaTs
import Derived.Test.YtabfdhecbbemjaaMd
import Derived.Test.YtabfdhecbbemjaaShelf
import Derived.WalkKit
import Derived.Lib.Hide
import Derived.Lib.Strings
set_option linter.unusedVariables false
set_option linter.unusedSimpArgs false
namespace Go.Proofs.Ytabfdhecbbemjaa.Fx
open Go Go.RowKit

theorem val_le : ∀ (l : List Nat) (n b m : Nat), 0 < b → n ≤ 4611686018427387904 → val l n b = some m → m ≤ 4611686018427387904
  | [], n, b, m, _, hn, h => by simp only [val, Option.some.injEq] at h; omega
  | c :: l, n, b, m, hb, hn, h => by
    simp only [val] at h
    split at h
    · exact val_le l n 16 m (by omega) hn h
    · split at h
      · cases h
      · rename_i d hd
        split at h
        · cases h
        · rename_i hov
          have hd16 := digit_lt hd
          refine val_le l _ b m hb ?_ h
          have h1 : n ≤ (4611686018427387904 - d) / b := by omega
          have := (Nat.le_div_iff_mul_le hb).1 h1
          omega
theorem str_ne {t s : ByteArray} (h : t ≠ s) : (t.toList == s.toList) = false := by
  refine beq_eq_false_iff_ne.2 fun e => h ?_
  rw [Lib.toList_data, Lib.toList_data] at e
  exact ByteArray.ext (Array.ext' e)
def dash : List UInt8 := [45]
def unsignedOf (s : ByteArray) : ByteArray := ⟨(Lib.trimPrefix s.data.toList dash).toArray⟩
def negOf (s : ByteArray) : Bool := Lib.hasPrefix s.data.toList dash
def signed (neg : Bool) (n : Nat) : Int := if neg = true then -(n : Int) else (n : Int)
/-- the number that a text could say -/
def cand (s : ByteArray) : Option Int := (val (sbytes (unsignedOf s)) 0 10).map (signed (negOf s))
def pv (s : ByteArray) : Int := match cand s with
  | none => 0
  | some a => if bstr (tx a) = s then a else 0
def pe (s : ByteArray) : Int := match cand s with
  | none => 12
  | some a => if bstr (tx a) = s then 0 else 12
theorem unsigned_le (s : ByteArray) : (unsignedOf s).size ≤ s.size := by
  have := Lib.trimPrefix_le s.data.toList dash
  show (Lib.trimPrefix s.data.toList dash).toArray.size ≤ s.data.size
  rw [List.size_toArray, ← Array.length_toList]
  exact this
theorem sign_any (neg : Bool) (n : Nat) (w : World) (hn : n ≤ 4611686018427387904) :
    Calls Try.prog 45 #[.int .u64 n, .bool neg] w fun e w' => e = .returned (.int .i64 (signed neg n)) ∧ w = w' := by
  cases neg with
  | true => exact sign_yes n w hn
  | false => exact sign_no n w hn
set_option maxHeartbeats 1600000 in
set_option maxRecDepth 100000 in
theorem parse_any (s : ByteArray) (w : World) (hs : s.size ≤ 100) :
    Calls Try.prog 25 #[.string s] w fun e w' => e = .returned (.tuple #[.int .i64 (pv s), .int .i64 (pe s)]) ∧ _root_.Go.RowKit.Below w.heap.size w w' := by
  have hC : ∀ w, Calls Try.prog 43 #[.string s, .string { data := #[45] }] w fun e w' => e = .returned (.tuple #[.string (unsignedOf s), .bool (negOf s)]) ∧ w' = w := fun w => Try.strings_CutPrefix s { data := #[45] } w
  have hV := fun w => value_any (unsignedOf s) w (Nat.le_trans (unsigned_le s) hs)
  have hpv : pv s = match cand s with
    | none => 0
    | some a => if bstr (tx a) = s then a else 0 := rfl
  have hpe : pe s = match cand s with
    | none => 12
    | some a => if bstr (tx a) = s then 0 else 12 := rfl
  have hcd : cand s = (val (sbytes (unsignedOf s)) 0 10).map (signed (negOf s)) := rfl
  generalize unsignedOf s = u at *
  generalize negOf s = neg at *
  have hle := fun m => val_le (sbytes u) 0 10 m (by omega) (by omega)
  generalize val (sbytes u) 0 10 = r at *
  generalize cand s = cd at *
  subst hcd
  cases r with
  | none =>
    simp only [Option.map_none] at hpv hpe
    rw [hpv, hpe]
    clear hpv hpe hle
    simp only [okV, okB] at hV
    go_enter Try.func25, Try.ntmps25
    go_wp2_with fail
    refine (hC _).mono ?_
    rintro e w' ⟨rfl, rfl⟩
    go_wp2_with fail
    refine (hV _).mono ?_
    rintro e w1 ⟨rfl, hB⟩
    go_wp2_with fail
    go_ret2
    exact ⟨rfl, hB⟩
  | some n =>
    have hn := hle n rfl
    simp only [Option.map_some] at hpv hpe
    have hG := fun w => sign_any neg n w hn
    have hab : -4611686018427387904 ≤ signed neg n ∧ signed neg n ≤ 4611686018427387904 := by unfold signed; split <;> omega
    generalize signed neg n = a at *
    have hT := fun w => text_any a w (by omega) (by omega)
    rw [(Fm.may_iff a).2 hab] at hT
    simp only [if_true] at hT
    simp only [okV, okB] at hV
    generalize bstr (tx a) = t at *
    clear hle hn
    by_cases ht : t = s
    · rw [if_pos ht] at hpv hpe
      rw [hpv, hpe]
      clear hpv hpe
      subst ht
      go_enter Try.func25, Try.ntmps25
      go_wp2_with fail
      refine (hC _).mono ?_
      rintro e w' ⟨rfl, rfl⟩
      go_wp2_with fail
      refine (hV _).mono ?_
      rintro e w1 ⟨rfl, hB⟩
      go_wp2_with fail
      refine (hG _).mono ?_
      rintro e w' ⟨rfl, rfl⟩
      go_wp2_with fail
      refine (hT _).mono ?_
      rintro e w2 ⟨rfl, hB2⟩
      have hB3 := hB.trans (hB2.mono hB.size)
      go_wp2_with fail
      go_ret2
      exact ⟨rfl, hB3⟩
    · rw [if_neg ht] at hpv hpe
      rw [hpv, hpe]
      clear hpv hpe
      have tt : (t.toList == s.toList) = false := str_ne ht
      clear ht
      go_enter Try.func25, Try.ntmps25
      go_wp2_with fail
      refine (hC _).mono ?_
      rintro e w' ⟨rfl, rfl⟩
      go_wp2_with fail
      refine (hV _).mono ?_
      rintro e w1 ⟨rfl, hB⟩
      go_wp2_with fail
      refine (hG _).mono ?_
      rintro e w' ⟨rfl, rfl⟩
      go_wp2_with fail
      refine (hT _).mono ?_
      rintro e w2 ⟨rfl, hB2⟩
      have hB3 := hB.trans (hB2.mono hB.size)
      go_wp2_with fail
      go_ret2
      exact ⟨rfl, hB3⟩
end Go.Proofs.Ytabfdhecbbemjaa.Fx
