/- The laws on texts and sums: exact contracts -/
import Derived.Test.YtknggdlhndffeaaProg
import Derived.Test.YtknggdlhndffeaaP1
import Derived.Test.YtknggdlhndffeaaW8
import Derived.Deep.RegionHeld3
import Derived.Deep.DeepCutAuto
import Derived.Outline
set_option linter.unusedVariables false
set_option linter.unusedSimpArgs false
namespace Go.Proofs.Ytknggdlhndffeaa.Fx
open Go Go.RowKit Wm
theorem exW {f : Nat} {args : Array Value} {z h : Int} {l : Nat} {w : World} (H : Calls Try.prog f args w (RetW z w)) (hat : At z h l) :
    Calls Try.prog f args w fun e w' => e = .returned (.agg #[.int .i64 h, .int .u64 l]) ∧ Below w.heap.size w w' :=
  H.mono fun e w' ⟨a, b, he, ha, hb⟩ => ⟨by rw [he, (ha.uniq hat).1, (ha.uniq hat).2], hb⟩
theorem exE {f : Nat} {args : Array Value} {z h g : Int} {l : Nat} {w : World} (H : Calls Try.prog f args w (RetE z w)) (hat : At (valE z) h l) (hg : errE z = g) :
    Calls Try.prog f args w fun e w' => e = .returned (.tuple #[.agg #[.int .i64 h, .int .u64 l], .int .i64 g]) ∧ Below w.heap.size w w' :=
  H.mono fun e w' ⟨a, b, he, ha, hb⟩ => ⟨by rw [he, (ha.uniq hat).1, (ha.uniq hat).2, hg], hb⟩
theorem exP {f : Nat} {args : Array Value} {s : ByteArray} {h g : Int} {l : Nat} {w : World} (H : Calls Try.prog f args w (RetP s w)) (hat : At (pv s) h l) (hg : pe s = g) :
    Calls Try.prog f args w fun e w' => e = .returned (.tuple #[.agg #[.int .i64 h, .int .u64 l], .int .i64 g]) ∧ Below w.heap.size w w' :=
  H.mono fun e w' ⟨a, b, he, ha, hb⟩ => ⟨by rw [he, (ha.uniq hat).1, (ha.uniq hat).2, hg], hb⟩
theorem exD {f : Nat} {args : Array Value} {z r s h : Int} {l : Nat} {w : World} (H : Calls Try.prog f args w (RetD z r s w)) (hat : At z h l) :
    Calls Try.prog f args w fun e w' => e = .returned (.tuple #[.agg #[.int .i64 h, .int .u64 l], .int .i64 r, .int .i64 s]) ∧ Below w.heap.size w w' :=
  H.mono fun e w' ⟨a, b, he, ha, hb⟩ => ⟨by rw [he, (ha.uniq hat).1, (ha.uniq hat).2], hb⟩
/-- a call of which the answer is known, whatever the world -/
def Ans (f : Nat) (args : Array Value) (v : Value) : Prop := ∀ w, Calls Try.prog f args w fun e w' => e = .returned v ∧ Below w.heap.size w w'
theorem valE_in (z : Int) : In (valE z) := by
  unfold valE
  split
  · assumption
  · unfold In; omega
end Go.Proofs.Ytknggdlhndffeaa.Fx
