/- slices.Reverse at bytes, in the words of an owned row; a row of bytes as a string. -/
import Derived.Test.YtabfdhecbbemjaaProg
import Derived.Shelf.SlicesE.Reverse
import Derived.RangeFuncBox
import Derived.WalkKit
import Derived.Laws.BytesString
set_option linter.unusedVariables false
set_option linter.unusedSimpArgs false
namespace Go.Proofs.Ytabfdhecbbemjaa.Fx
open Go Go.RowKit Go.Shelf Go.Sort
def lrev_ren : Go.Shelf.Ren := ⟨fun | 35 => 40 | n => n, fun | 0 => 0 | 3 => 3 | 4 => 4 | 22 => 52 | 23 => 5 | n => n, fun | n => n⟩
theorem lrev : SlLaysE.n35 Try.prog lrev_ren := {
  mixed := by kernel_rfl
  f35 := ⟨Try.f40.name, by decide, Try.func40.trans (congrArg some (by kernel_rfl))⟩
  t0 := Try.underlying0
  a0 := Try.isAgg0
  z0 := Try.sizeOf0
  v0 := Try.zeroValue0
  t3 := Try.underlying3
  a3 := Try.isAgg3
  z3 := Try.sizeOf3
  v3 := Try.zeroValue3
  t4 := Try.underlying4
  a4 := Try.isAgg4
  z4 := Try.sizeOf4
  v4 := Try.zeroValue4
  t22 := Try.underlying52
  a22 := Try.isAgg52
  z22 := Try.sizeOf52
  v22 := Try.zeroValue52
  a23 := Try.isAgg5
  z23 := Try.sizeOf5 }

def encB (x : Nat) : Value := .int .u8 (x : Int)
theorem add_off (g j : Nat) : (⟨g, 0, none⟩ : Addr).add j = ⟨g, j, none⟩ := by unfold Addr.add; split <;> simp_all
theorem heap_putRow_other {α : Type} [Inhabited α] (enc : α → Value) (w : World) (n g off : Nat) (d : Array α) (k : Nat) (h : k ≠ g) : (putRow enc (Sort.ahead w n) g off d).heap[k]? = w.heap[k]? := by
  simp only [putRow, mapBlock, Sort.ahead]
  rw [Array.getElem?_modify, if_neg (Ne.symm h)]
/-- behind slices.Reverse of a row of its own -/
theorem rev_own (l : List Nat) (n₀ cap g : Nat) (W : World) (hl : l.length ≤ 9223372036854775807) (hrow : W.ownsRow n₀ 5 1 (.slice (some ⟨g, 0, none⟩) l.length cap) l.length (l.map encB)) :
    Calls Try.prog 40 #[.slice (some ⟨g, 0, none⟩) l.length cap] W fun e W' => e = .returned (.tuple #[]) ∧ W.grownBy W' (some g) ∧ (∀ j u, (l.reverse.map encB)[j]? = some u → W'.cell? ((⟨g, 0, none⟩ : Addr).add j) = some u) := by
  have hcells := hrow.cells (g := g) rfl
  have hfro : ∀ j, W.frozen? ⟨g, j, none⟩ = false := by
    obtain ⟨_, ⟨h, _⟩ | ⟨g', cap', cur, h, _, hgg, _⟩⟩ := hrow
    · cases h
    · cases h
      intro j
      simp [World.frozen?, hgg]
  have hH : Holds encB W g 0 l.toArray := by
    intro j hj
    have hj' : j < l.length := by simpa using hj
    refine ⟨?_, hfro _⟩
    have := hcells j (encB l[j]) (by simp [hj'])
    rw [add_off] at this
    simpa [getElem!_pos, hj'] using this
  refine (AnyE.slices_Reverse lrev encB (fun _ => rfl) g 0 cap l W hH hl).mono ?_
  rintro e W' ⟨rfl, n, rfl⟩
  refine ⟨rfl, ⟨rfl, rfl, rfl, by simp [Sort.ahead], fun k hk hne => heap_putRow_other _ _ _ _ _ _ _ (fun e => hne (by rw [e]))⟩, ?_⟩
  intro j u hu
  have hj : j < l.length := by
    have := (List.getElem?_eq_some_iff.1 hu).1
    simpa using this
  have hc := cell?_putRow encB (Sort.ahead W n) g 0 l.toArray l.reverse.toArray (by exact hH) (by simp) j (by simpa using hj)
  rw [add_off]
  rw [Nat.zero_add] at hc
  rw [hc]
  rw [← hu]
  simp [getElem!_pos, hj]
theorem push_all (l : List Nat) : ∀ (b : ByteArray), (l.map fun x : Nat => (x : Int)).foldl (fun r n => r.push (UInt8.ofNat n.toNat)) b = ⟨b.data ++ (l.map UInt8.ofNat).toArray⟩ := by
  induction l with
  | nil => intro b; simp
  | cons x l ih =>
    intro b
    simp only [List.map_cons, List.foldl_cons]
    rw [ih]
    simp [ByteArray.push]
/-- the string that bytes make -/
def bstr (l : List Nat) : ByteArray := ⟨(l.map UInt8.ofNat).toArray⟩
theorem conv_own (l : List Nat) (g cap : Nat) (W : World) (h : ∀ j u, (l.map encB)[j]? = some u → W.cell? ((⟨g, 0, none⟩ : Addr).add j) = some u) :
    (convert 52 9 (.slice (some ⟨g, 0, none⟩) l.length cap)).run Try.prog W = .ok (.string (bstr l)) W := by
  rw [run_convert_bytes_string W _ _ _ _ _ _ Try.underlying52 Try.underlying5 Try.underlying9]
  have hl := run_loadCells_list (P := Try.prog) (w := W) ⟨g, 0, none⟩ (l.map encB) h
  rw [List.length_map] at hl
  have hm : l.map encB = (l.map fun x : Nat => (x : Int)).map (Value.int .u8) := by simp [encB]
  rw [hm] at hl
  rw [run_bytesToString W _ _ _ _ hl, push_all]
  simp [bstr, ByteArray.empty, ByteArray.emptyWithCapacity]
  rfl
end Go.Proofs.Ytabfdhecbbemjaa.Fx
