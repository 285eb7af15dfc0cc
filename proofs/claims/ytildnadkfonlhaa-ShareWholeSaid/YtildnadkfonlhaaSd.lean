/- Rules of matrices of the document's holds, walked; holds for each rule. 
  The first rule that a scene breaks, and by which object: the document's Wrong, Check, walked. -/
import Derived.Test.YtildnadkfonlhaaProg
import Derived.Test.YtildnadkfonlhaaSb
import Derived.Test.YtildnadkfonlhaaQ4
set_option linter.unusedVariables false
set_option linter.unusedSimpArgs false
namespace Go.Proofs.Ytildnadkfonlhaa.Fx
open Go Go.RowKit
def keep5 (s : ScR) (x : ObjR) (k : Nat) : Bool := wB 16777216 x.m 16
def mayB (o : Option (List Int)) : Bool := match o with
  | none => false
  | some m => wB 67108864 m 16
def keep6 (s : ScR) (x : ObjR) (k : Nat) : Bool := mayB (mulO s.cam x.m)
theorem sizeM {m : List Int} (h : m.length = 16) : (Try.prog.info? 29).map (·.size) = some (m.map encI).length := by rw [size16, List.length_map, h]
theorem range_mC {V : World} {b : Nat} {m : List Int} {t : TypeId} {fr : Nat × Nat} (h : V.heap[b]? = some (.cells (mC m) t fr)) : V.rangeAt b 0 (m.map encI) := fun j v hj => by
  rw [cell_of_row _ _ _ _ _ _ h, Nat.zero_add]
  simpa [mC] using hj
theorem mulO_len {a b m : List Int} (h : mulO a b = some m) : m.length = 16 := by
  unfold mulO at h
  split at h
  · cases h; rfl
  · cases h
/-- does an object keep a rule? -/
def keepZ (s : ScR) (x : ObjR) (k r : Nat) : Bool := if r = 4 then keep4 s x k else if r = 5 then keep5 s x k else if r = 6 then keep6 s x k else if r = 7 then keep7 s x k else keep8 s x k
end Go.Proofs.Ytildnadkfonlhaa.Fx
set_option linter.unusedVariables false
set_option linter.unusedSimpArgs false
namespace Go.Proofs.Ytildnadkfonlhaa.Fx
open Go Go.RowKit
/-- does the object at a place break a rule? -/
def badAt (s : ScR) (r k : Nat) : Bool := match s.os[k]? with
  | some x => !keepZ s x k r
  | none => false
def badIn (s : ScR) (r : Nat) : Option Nat := (List.range s.os.length).find? (badAt s r)
def sizeB (s : ScR) : Bool := decide (s.w < 1) || decide (64 < s.w) || decide (s.h < 1) || decide (64 < s.h)
def wrongZ (s : ScR) : Int × Int :=
  if sizeB s = true then (1, -1) else if wB 16777216 s.cam 16 = false then (2, -1) else if 16 < s.os.length then (3, -1) else
  (([4, 5, 6, 7, 8] : List Nat).findSome? fun r => (badIn s r).map fun k => ((r : Int), (k : Int))).getD (0, -1)
theorem badIn_none {s : ScR} {r : Nat} (h : ∀ k, k < s.os.length → badAt s r k = false) : badIn s r = none := by
  unfold badIn
  rw [List.find?_eq_none]
  intro k hk
  rw [h k (by simpa using hk)]
  simp
theorem badIn_some {s : ScR} {r k : Nat} (hk : k < s.os.length) (h : ∀ j, j < k → badAt s r j = false) (hb : badAt s r k = true) : badIn s r = some k := by
  unfold badIn
  rw [List.find?_eq_some_iff_append]
  refine ⟨hb, List.range k, (List.range (s.os.length - k - 1)).map (· + (k + 1)), ?_, ?_⟩
  · rw [show s.os.length = k + (1 + (s.os.length - k - 1)) by omega, List.range_add, List.range_add]
    simp
    intro a ha
    omega
  · intro j hj
    rw [h j (by simpa using hj)]
    rfl
theorem wrong_at {s : ScR} {r k : Nat} (h1 : sizeB s = false) (h2 : wB 16777216 s.cam 16 = true) (h3 : s.os.length ≤ 16) (h4 : 4 ≤ r) (h8 : r ≤ 8) (hn : ∀ q, 4 ≤ q → q < r → badIn s q = none) (hb : badIn s r = some k) : wrongZ s = ((r : Int), (k : Int)) := by
  unfold wrongZ
  rw [if_neg (by simp [h1]), if_neg (by simp [h2]), if_neg (by omega)]
  obtain rfl | rfl | rfl | rfl | rfl : r = 4 ∨ r = 5 ∨ r = 6 ∨ r = 7 ∨ r = 8 := by omega
  · simp [List.findSome?, hb]
  · simp [List.findSome?, hb, hn 4 (by omega) (by omega)]
  · simp [List.findSome?, hb, hn 4 (by omega) (by omega), hn 5 (by omega) (by omega)]
  · simp [List.findSome?, hb, hn 4 (by omega) (by omega), hn 5 (by omega) (by omega), hn 6 (by omega) (by omega)]
  · simp [List.findSome?, hb, hn 4 (by omega) (by omega), hn 5 (by omega) (by omega), hn 6 (by omega) (by omega), hn 7 (by omega) (by omega)]
theorem wrong_not {s : ScR} (h1 : sizeB s = false) (h2 : wB 16777216 s.cam 16 = true) (h3 : s.os.length ≤ 16) (hn : ∀ q, 4 ≤ q → q < 9 → badIn s q = none) : wrongZ s = (0, -1) := by
  unfold wrongZ
  rw [if_neg (by simp [h1]), if_neg (by simp [h2]), if_neg (by omega)]
  simp [List.findSome?, hn 4 (by omega) (by omega), hn 5 (by omega) (by omega), hn 6 (by omega) (by omega), hn 7 (by omega) (by omega), hn 8 (by omega) (by omega)]
/-- a scene in its row -/
structure WrI (s : ScR) (w V : World) : Prop where
  sc : ScAt w.heap.size s V
  ob : ObjsAt V s.oo s.os
  bel : Below w.heap.size w V
theorem WrI.up {s : ScR} {w V X : World} (i : WrI s w V) (hb : Below V.heap.size V X) : WrI s w X := ⟨i.sc.below hb, i.ob.below hb, bnext i.bel hb⟩
theorem WrI.new {s : ScR} {w : World} (h : ObjsAt w s.oo s.os) : WrI s w (w.alloc (.cells (scC s) 32)) :=
  ⟨ScAt.new w s, h.below (by go_grown), by go_grown⟩
theorem WrI.all {s : ScR} {w V : World} (i : WrI s w V) : V.rangeAt w.heap.size 0 (scL s) := fun j v hj => by
  rw [Nat.zero_add]
  exact i.sc.at.trans hj
def WoRel (s : ScR) (w : World) (g : Nat) (u : Value) (W : World) : Prop :=
  ∃ r, g = 9 - r ∧ u = .int .i64 (r : Int) ∧ 4 ≤ r ∧ r ≤ 9 ∧ (∀ q, 4 ≤ q → q < r → badIn s q = none) ∧ WrI s w W
def WiRel (s : ScR) (w : World) (n r : Nat) (g : Nat) (u : Value) (W : World) : Prop :=
  ∃ k, g = n - k ∧ u = .int .i64 (k : Int) ∧ k ≤ n ∧ (∀ j, j < k → badAt s r j = false) ∧ WrI s w W
def RetWrong (p : Int × Int) (w : World) (e : Ending) (w' : World) : Prop := e = .returned (.tuple #[.int .i64 p.1, .int .i64 p.2]) ∧ Below w.heap.size w w'
def okZ (s : ScR) : Bool := decide ((wrongZ s).1 = 0)
end Go.Proofs.Ytildnadkfonlhaa.Fx
