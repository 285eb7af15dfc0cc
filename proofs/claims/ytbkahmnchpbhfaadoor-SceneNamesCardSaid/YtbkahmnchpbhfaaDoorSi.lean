/- A rule's name: the document's, walked. -/
import Derived.Test.YtbkahmnchpbhfaaDoorProg
import Derived.Test.YtbkahmnchpbhfaaDoorSb
set_option linter.unusedVariables false
set_option linter.unusedSimpArgs false
namespace Go.Proofs.YtbkahmnchpbhfaaDoor.Fx
open Go Go.RowKit
def nameB : Nat → ByteArray
  | 1 => ⟨#[115, 105, 122, 101]⟩
  | 2 => ⟨#[99, 97, 109, 101, 114, 97]⟩
  | 3 => ⟨#[111, 98, 106, 101, 99, 116, 115]⟩
  | 4 => ⟨#[105, 100, 115]⟩
  | 5 => ⟨#[109, 97, 116, 114, 105, 120]⟩
  | 6 => ⟨#[98, 111, 116, 104]⟩
  | 7 => ⟨#[118, 101, 114, 116, 105, 99, 101, 115]⟩
  | 8 => ⟨#[116, 114, 105, 97, 110, 103, 108, 101, 115]⟩
  | _ => ⟨#[]⟩
def nameZ (n : Int) : ByteArray := if n < 1 ∨ 8 < n then ⟨#[]⟩ else nameB n.toNat
set_option maxRecDepth 100000 in
set_option maxHeartbeats 1000000 in
theorem zname_any (n : Int) (w : World) : Calls Tryd.prog 11 #[.int .i64 n] w fun e w' => e = .returned (.string (nameZ n)) ∧ Below w.heap.size w w' := by
  by_cases h1 : n < 1
  · have e : nameZ n = ⟨#[]⟩ := by unfold nameZ; rw [if_pos (Or.inl h1)]
    rw [e]
    clear e
    go_enter Tryd.func11, Tryd.ntmps11
    go_wp2_with fail
    go_ret
    exact ⟨rfl, Below.refl _ _⟩
  by_cases h2 : 8 < n
  · have e : nameZ n = ⟨#[]⟩ := by unfold nameZ; rw [if_pos (Or.inr h2)]
    rw [e]
    clear e
    go_enter Tryd.func11, Tryd.ntmps11
    go_wp2_with fail
    go_ret
    exact ⟨rfl, Below.refl _ _⟩
  obtain rfl | rfl | rfl | rfl | rfl | rfl | rfl | rfl : n = 1 ∨ n = 2 ∨ n = 3 ∨ n = 4 ∨ n = 5 ∨ n = 6 ∨ n = 7 ∨ n = 8 := by omega
  all_goals
    clear h1 h2
    go_enter Tryd.func11, Tryd.ntmps11
    go_wp2_with fail
    go_ret
    exact ⟨rfl, by go_grown⟩
end Go.Proofs.YtbkahmnchpbhfaaDoor.Fx
