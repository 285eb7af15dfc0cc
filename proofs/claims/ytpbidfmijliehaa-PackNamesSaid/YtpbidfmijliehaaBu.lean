/- An append to a row of one's own: it is the same row, or a new one behind all. -/
import Derived.Test.YtpbidfmijliehaaProg
import Derived.Test.YtpbidfmijliehaaBw
import Derived.Test.YtpbidfmijliehaaHd
import Derived.Maps.AppendAt
set_option linter.unusedVariables false
set_option linter.unusedSimpArgs false
namespace Go.Proofs.Ytpbidfmijliehaa.Fx
open Go Go.RowKit
theorem run_app {B : Nat} {v : Value} {l : List Nat} {w : World} (ty : TypeId) (hown : Own w B v l) (ox : Option Addr) (m : List Nat) (c : Nat) (hc : ox = none → c = 0) (hb : Bs w ox m)
    (hlen : l.length + m.length ≤ 1000000000) (hbase : B ≤ w.heap.size) :
    ∃ v' w', (Builtin.append_ #[27, 27] ty #[v, .slice ox m.length c]).run Try.prog w = .ok v' w' ∧ Own w' B v' (l ++ m) ∧ w.grownBy w' v.ownBlock ∧ (∀ k, v'.ownBlock = some k → v.ownBlock = some k ∨ w.heap.size ≤ k) := by
  obtain ⟨i0, hi, hz0, hz1, hz2⟩ := info_parts info5
  cases ox with
  | none =>
    obtain rfl := nil_of hb
    obtain rfl := hc rfl
    have hrun := run_append_owned_none (P := Try.prog) (w := w) B 27 ty 5 i0 1 Try.underlying27 hi v l.length (l.map encB) hown
    exact ⟨v, w, hrun, by rw [List.append_nil]; exact hown, World.grownBy.refl _ _, fun k h => .inl h⟩
  | some ad =>
    obtain ⟨v', w', hr, h2, h3, _, h5⟩ := run_append_own_at (P := Try.prog) w B 27 ty 5 i0 (.int .u8 0) 1 1 Try.underlying27 hi hz0 hz1 hz2 rfl (by decide) v l.length (l.map encB) hown ad m.length c (m.map encB) (by simp) (news_any hb ad rfl) (news_one m) (by unfold maxLen; omega) (by omega) hbase
    refine ⟨v', w', hr, by unfold Own; rw [List.length_append, List.map_append]; exact h2, h3, fun k hk => ?_⟩
    rcases h5 with h5 | h5
    · exact .inl (h5 ▸ hk)
    · rw [h5] at hk
      cases hk
      exact .inr (Nat.le_refl _)
/-- in a region that draws its order -/
theorem wpIn_appT {F : Fence} (hF : ∀ f, F.fn f) {n : Nat} {o : Oper} {a : Act} {K : Act → World → Prop} {Q : Exit → Act → World → Prop} {w : World} (s x : Operand)
    (ho : o.op = .call { callee := .builtin .append, args := #[s, x], argTypes := #[27, 27] })
    (B : Nat) (v : Value) (l : List Nat) (hs : a.eval s = v) (hown : Own w B v l) (ox : Option Addr) (m : List Nat) (c : Nat) (hx : a.eval x = .slice ox m.length c) (hc : ox = none → c = 0) (hb : Bs w ox m)
    (hlen : l.length + m.length ≤ 1000000000) (hbase : B ≤ w.heap.size)
    (h : ∀ v' w', Own w' B v' (l ++ m) → w.grownBy w' v.ownBlock → (∀ k, v'.ownBlock = some k → v.ownBlock = some k ∨ w.heap.size ≤ k) → K (a.put o.dst v') w') : Oper.wpIn F n Try.prog o a w K Q := by
  unfold Oper.wpIn
  rw [Oper.semAt_plain _ _ _ (by intro c e; rw [ho] at e; cases e)]
  refine ⟨fun _ _ => hF _, ?_⟩
  obtain ⟨v', w', hrun, h1, h2, h3⟩ := run_app o.type hown ox m c hc hb hlen hbase
  unfold execOp
  simp only [ho, resolve, invoke, builtin, Sem.run_bind, Sem.run_pure, Result.andThen_ok, List.map_toArray, List.map_cons, List.map_nil, hs, hx, hrun]
  exact h v' w' h1 h2 h3
/-- in a region in order -/
theorem app_at {ops : Array Oper} {rest : List Oper} {o : Oper} {a : Act} {Q : Exit → Act → World → Prop} {w : World} (hgd : o.guard = none) (s x : Operand)
    (ho : o.op = .call { callee := .builtin .append, args := #[s, x], argTypes := #[27, 27] })
    (B : Nat) (v : Value) (l : List Nat) (hs : a.eval s = v) (hown : Own w B v l) (ox : Option Addr) (m : List Nat) (c : Nat) (hx : a.eval x = .slice ox m.length c) (hc : ox = none → c = 0) (hb : Bs w ox m)
    (hlen : l.length + m.length ≤ 1000000000) (hbase : B ≤ w.heap.size)
    (h : ∀ v' w', Own w' B v' (l ++ m) → w.grownBy w' v.ownBlock → (∀ k, v'.ownBlock = some k → v.ownBlock = some k ∨ w.heap.size ≤ k) → wpList Try.prog ops Q rest (a.put o.dst v') w') : wpList Try.prog ops Q (o :: rest) a w := by
  obtain ⟨i0, hi, hz0, hz1, hz2⟩ := info_parts info5
  cases ox with
  | none =>
    obtain rfl := nil_of hb
    obtain rfl := hc rfl
    refine wpList_append_own_none hgd s x 27 ho B 5 i0 1 Try.underlying27 hi v l.length (l.map encB) hs hown hx ?_
    exact h v w (by rw [List.append_nil]; exact hown) (World.grownBy.refl _ _) (fun k h => .inl h)
  | some ad =>
    refine wpList_append_own_at w hgd s x 27 ho B 5 i0 (.int .u8 0) 1 1 Try.underlying27 hi hz0 hz1 hz2 rfl (by decide) v l.length (l.map encB) hs hown ad m.length c (m.map encB) hx (by simp) (news_any hb ad rfl) (news_one m) (by unfold maxLen; omega) (by omega) hbase ?_
    intro v' w' hown' hgrow _ h5
    refine h v' w' (by unfold Own; rw [List.length_append, List.map_append]; exact hown') hgrow (fun k hk => ?_)
    rcases h5 with h5 | h5
    · exact .inl (h5 ▸ hk)
    · rw [h5] at hk
      cases hk
      exact .inr (Nat.le_refl _)
end Go.Proofs.Ytpbidfmijliehaa.Fx
