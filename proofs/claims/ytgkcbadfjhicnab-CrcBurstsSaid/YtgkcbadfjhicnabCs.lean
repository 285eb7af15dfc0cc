/- More and Sum, walked; the document's too. -/
import Derived.Test.YtgkcbadfjhicnabProg
import Derived.Test.YtgkcbadfjhicnabCe
import Derived.Test.YtgkcbadfjhicnabCh
import Derived.WalkKit
import Derived.Lib.Hide
import Derived.Outline
import Derived.Deep.LoopGhost
import Derived.Deep.QuietTactic
import Derived.BigQuiet
set_option linter.unusedVariables false
set_option linter.unusedSimpArgs false
namespace Go.Proofs.Ytgkcbadfjhicnab.Fx
open Go Go.RowKit
/-- bytes behind a slice's address -/
def Bs (W : World) (o : Option Addr) (l : List Nat) : Prop :=
  ∀ j, j < l.length → ∃ b off, o = some ⟨b, off, none⟩ ∧ W.cell? ⟨b, off + j, none⟩ = some (.int .u8 ((l.getD j 0 : Nat) : Int))
theorem Bs.below {w W : World} (h : Below w.heap.size w W) {o : Option Addr} {l : List Nat} (s : Bs w o l) : Bs W o l := fun j hj => by
  obtain ⟨b, off, e, hc⟩ := s j hj
  exact ⟨b, off, e, keep_cell h hc⟩
/-- all of them are bytes -/
def By (l : List Nat) : Prop := ∀ c ∈ l, c < 256
theorem By.get {l : List Nat} (h : By l) (k : Nat) : l.getD k 0 < 256 := by
  by_cases hk : k < l.length
  · have : l.getD k 0 = l[k] := by simp [List.getD, hk]
    rw [this]
    exact h _ (List.getElem_mem hk)
  · simp [List.getD, hk]
theorem By.take {l : List Nat} (h : By l) (k : Nat) : By (l.take k) := fun c hc => h c (List.mem_of_mem_take hc)
theorem By.drop {l : List Nat} (h : By l) (k : Nat) : By (l.drop k) := fun c hc => h c (List.mem_of_mem_drop hc)
theorem By.append {l m : List Nat} (h : By l) (h2 : By m) : By (l ++ m) := fun c hc => (List.mem_append.1 hc).elim (h c) (h2 c)
theorem reg_take {l : List Nat} {k : Nat} (hk : k < l.length) (n : Nat) : reg (l.take (k + 1)) n = it 8 (reg (l.take k) n ^^^ l.getD k 0) := by
  rw [List.take_add_one, List.getElem?_eq_getElem hk, reg_append]
  simp [reg, List.getD, hk]
theorem nt_bits {x : Nat} (hx : x < 4294967296) : bits .xor .u32 IntKind.u32.max (x : Int) = ((nt x : Nat) : Int) := by
  rw [show IntKind.u32.max = (4294967295 : Int) from rfl, show (4294967295 : Int) = ((4294967295 : Nat) : Int) from rfl, u32_xor_nat _ x (by omega) hx, Nat.xor_comm, ← ones_eq]
  rfl
set_option maxHeartbeats 1600000 in
theorem more_any (s : Nat) (l : List Nat) (o : Option Addr) (cap : Nat) (w : World) (hs : s < 4294967296) (hl : By l) (hlen : l.length ≤ 9223372036854775807) (hb : Bs w o l) :
    Calls Try.prog 10 #[.int .u32 (s : Int), .slice o l.length cap] w fun e w' => e = .returned (.int .u32 ((more s l : Nat) : Int)) ∧ w' = w := by
  have h0 := nt_bits hs
  have hn := nt_lt hs
  have HB := Lib.hid hb; clear hb
  have HM : Hid (more s l = nt (reg l (nt s))) := Lib.hid rfl
  generalize more s l = m at *
  generalize nt s = n at *
  go_enter Try.func10, Try.ntmps10
  go_wp2_with fail
  go_loopg [5, 12] l.length (fun g s5 s12 wx => ∃ k : Nat, g = l.length - k ∧ k ≤ l.length ∧ s12 = .int .i64 (k : Int) ∧ s5 = .int .u32 ((reg (l.take k) n : Nat) : Int) ∧ wx = w)
  case atStart => exact ⟨0, rfl, by omega, rfl, by simp [reg], rfl⟩
  case round =>
    obtain ⟨k, rfl, hk, rfl, rfl, rfl⟩ := hrel
    have hx : reg (l.take k) n < 4294967296 := reg_lt (hl.take k) hn
    by_cases h8 : k < l.length
    · have t1 : (k : Int) < (l.length : Int) := by omega
      obtain ⟨b, off, rfl, hc⟩ := HB.out k h8
      have hc2 := hl.get k
      have hT := Lib.hid (reg_take h8 n)
      generalize l.getD k 0 = c at *
      generalize reg (l.take k) n = x at *
      have hxor := u32_xor_nat x c hx (by omega)
      have hxl := xor_lt hx (show c < 4294967296 by omega)
      go_wp2_with fail
      refine (eight_any _ _ hxl).mono ?_
      rintro e w' ⟨rfl, rfl⟩
      go_wp2_with fail
      go_roundg (l.length - (k + 1))
      case measure => omega
      case rel => exact ⟨k + 1, rfl, by omega, by go_num, by rw [hT.out], rfl⟩
    · have t1 : ¬ (k : Int) < (l.length : Int) := by omega
      obtain rfl : k = l.length := by omega
      rw [List.take_length] at *
      have h1 := nt_bits hx
      go_wp2_with fail
      go_ret
      exact ⟨by rw [HM.out]; rfl, rfl⟩
end Go.Proofs.Ytgkcbadfjhicnab.Fx
