/- A part of a slice; an append, in a region that draws its order. -/
import Derived.Test.YtpbidfmijliehaaProg
import Derived.Test.YtpbidfmijliehaaAt
import Derived.Lib.SlBytesRow
set_option linter.unusedVariables false
set_option linter.unusedSimpArgs false
namespace Go.Proofs.Ytpbidfmijliehaa.Fx
open Go Go.RowKit
def cutA (o : Option Addr) (c l : Nat) : Option Addr := o.map fun a => if c = l then a else ⟨a.block, a.off + l, none⟩
theorem Bs.cut {W : World} {o : Option Addr} {m : List Nat} {c l h : Nat} (hb : Bs W o m) (hl : l ≤ h) (hh : h ≤ m.length) (hc : m.length ≤ c) : Bs W (cutA o c l) ((m.drop l).take (h - l)) := fun j hj => by
  have hj1 : j < h - l := by simp at hj; omega
  obtain ⟨b, off, e, hcell⟩ := hb (l + j) (by omega)
  subst e
  refine ⟨b, off + l, ?_, ?_⟩
  · unfold cutA
    simp only [Option.map_some]
    rw [if_neg (by omega)]
  · rw [show off + l + j = off + (l + j) by omega, hcell]
    congr 3
    simp [List.getD, List.getElem?_take, List.getElem?_drop, hj1]
theorem run_cut (W : World) (o : Option Addr) (n c l h : Nat) (hl : l ≤ h) (hh : h ≤ c) (ho : o = none → c = 0) (hs : 0 < c → ∀ a, o = some a → a.spot = none) :
    (Instr.slice 27 (.slice o n c) (some (.int .i64 (l : Int))) (some (.int .i64 (h : Int))) none).run Try.prog W = .ok (.slice (cutA o c l) (h - l) (c - l)) W := by
  have ht : Try.prog.underlying 27 = some (.slice 5) := Try.underlying27
  have hz : ∀ w, (Go.sizeOf 5).run Try.prog w = .ok 1 w := fun _ => by kernel_rfl
  have ht' : Try.prog.underlying 27 = some (.slice (Try.prog.elem 27)) := by simp [Program.elem, ht]
  have he : Try.prog.elem 27 = 5 := by simp [Program.elem, ht]
  rw [run_slice_lh W 27 _ _ _ ht' .i64 .i64 _ _ (by omega) (by omega) (by omega), he, hz]
  cases o with
  | none =>
    obtain rfl := ho rfl
    obtain rfl : h = 0 := by omega
    obtain rfl : l = 0 := by omega
    simp [Result.andThen, sliced, cutA]
  | some a =>
    obtain ⟨b, off, spot⟩ := a
    by_cases hcl : c = l
    · subst hcl
      simp [Result.andThen, sliced, Addr.add, cutA]
    · obtain rfl : spot = none := hs (by omega) _ rfl
      by_cases h0 : l = 0
      · subst h0
        simp [Result.andThen, sliced, Addr.add, cutA, hcl]
      · simp [Result.andThen, sliced, Addr.add, cutA, hcl, h0]
theorem exec_cut {o : Oper} {a : Act} {W : World} (x y z : Operand) (ho : o.op = .slice 27 x (some y) (some z) none) (oa : Option Addr) (n c l h : Nat) (i j : Int) (hi : i = (l : Int)) (hj : j = (h : Int)) (hx : a.eval x = .slice oa n c) (hy : a.eval y = .int .i64 i) (hz : a.eval z = .int .i64 j)
    (hl : l ≤ h) (hh : h ≤ c) (hn : oa = none → c = 0) (hs : 0 < c → ∀ a, oa = some a → a.spot = none) :
    (execOp a.eval o).run Try.prog W = .ok (.value (.slice (cutA oa c l) (h - l) (c - l))) W := by
  subst hi hj
  have ht' : Try.prog.underlying 27 = some (.slice (Try.prog.elem 27)) := by simp [Program.elem, Try.underlying27]
  unfold execOp
  simp only [ho, hx, hy, hz, Option.map_some, Option.map_none, Sem.run_bind, run_sliceAt_slice W 27 _ _ _ _ ht', run_cut W oa n c l h hl hh hn hs, Result.andThen_ok, Sem.run_pure]
theorem wpIn_app {n : Nat} {o : Oper} {a : Act} {K : Act → World → Prop} {Q : Exit → Act → World → Prop} {w : World} (s x : Operand)
    (ho : o.op = .call { callee := .builtin .append, args := #[s, x], argTypes := #[27, 27] })
    (B : Nat) (v : Value) (l : List Nat) (hs : a.eval s = v) (hown : Own w B v l) (ox : Option Addr) (m : List Nat) (c : Nat) (hx : a.eval x = .slice ox m.length c) (hc : ox = none → c = 0) (hb : Bs w ox m)
    (hlen : l.length + m.length ≤ 1000000000) (hbase : B ≤ w.heap.size)
    (h : ∀ v' w', Own w' B v' (l ++ m) → w.grownBy w' v.ownBlock → K (a.put o.dst v') w') : Oper.wpIn Fence.wide n Try.prog o a w K Q := by
  obtain ⟨i0, hi, hz0, hz1, hz2⟩ := info_parts info5
  unfold Oper.wpIn
  rw [Oper.semAt_plain _ _ _ (by intro c e; rw [ho] at e; cases e)]
  refine ⟨fun _ _ => trivial, ?_⟩
  cases ox with
  | none =>
    obtain rfl := nil_of hb
    obtain rfl := hc rfl
    have hrun := run_append_owned_none (P := Try.prog) (w := w) B 27 o.type 5 i0 1 Try.underlying27 hi v l.length (l.map encB) hown
    unfold execOp
    simp only [List.length_nil] at hx
    simp only [ho, resolve, invoke, builtin, Sem.run_bind, Sem.run_pure, Result.andThen_ok, List.map_toArray, List.map_cons, List.map_nil, hs, hx, hrun]
    exact h v w (by rw [List.append_nil]; exact hown) (World.grownBy.refl _ _)
  | some ad =>
    obtain ⟨v', w', hr, h2, h3, h4⟩ := run_append_own (P := Try.prog) w B 27 o.type 5 i0 (.int .u8 0) 1 1 Try.underlying27 hi hz0 hz1 hz2 rfl (by decide) v l.length (l.map encB) hown ad m.length c (m.map encB) (by simp) (news_any hb ad rfl) (news_one m) (by unfold maxLen; omega) (by omega) hbase
    unfold execOp
    simp only [ho, resolve, invoke, builtin, Sem.run_bind, Sem.run_pure, Result.andThen_ok, List.map_toArray, List.map_cons, List.map_nil, hs, hx, hr]
    exact h v' w' (by unfold Own; rw [List.length_append, List.map_append]; exact h2) h3
def txR (lost : Bool) (most : Int) (l : List Nat) (at0 : Nat) : Option (List Nat × Nat) :=
  match rz lost most (l.drop at0) with
  | none => none
  | some (n, j) => if n ≤ l.length - (at0 + j) then some ((l.drop (at0 + j)).take n, j + n) else none
def txA (r : Option (List Nat × Nat)) (at0 : Nat) : Nat := match r with | some (_, d) => at0 + d | none => at0
def TxtPost (o : Option Addr) (c : Nat) (l : List Nat) (p at0 : Nat) (r : Option (List Nat × Nat)) (w : World) (e : Ending) (w' : World) : Prop :=
  (∃ v, e = .returned v ∧ Own w' w.heap.size v ((r.map (·.1)).getD [])) ∧ ZR o c l p (txA r at0) r.isNone w' ∧ w.grownBy w' (some p)
end Go.Proofs.Ytpbidfmijliehaa.Fx
