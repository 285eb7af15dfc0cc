/- The document's writer, walked. -/
import Derived.Test.YtpbidfmijliehaaProg
import Derived.Test.YtpbidfmijliehaaAf
import Derived.Laws.AppendOwnNone
set_option linter.unusedVariables false
set_option linter.unusedSimpArgs false
namespace Go.Proofs.Ytpbidfmijliehaa.Fx
open Go Go.RowKit
/-- append to bytes of one's own of bytes anywhere, none included -/
theorem app_bs {ops : Array Oper} {rest : List Oper} {o : Oper} {a : Act} {Q : Exit → Act → World → Prop} {w : World} (hgd : o.guard = none) (s x : Operand)
    (ho : o.op = .call { callee := .builtin .append, args := #[s, x], argTypes := #[27, 27] })
    (B : Nat) (v : Value) (l : List Nat) (hs : a.eval s = v) (hown : Own w B v l) (ox : Option Addr) (m : List Nat) (c : Nat) (hx : a.eval x = .slice ox m.length c) (hc : ox = none → c = 0) (hb : Bs w ox m)
    (hlen : l.length + m.length ≤ 1000000000) (hbase : B ≤ w.heap.size)
    (h : ∀ v' w', Own w' B v' (l ++ m) → w.grownBy w' v.ownBlock → wpList Try.prog ops Q rest (a.put o.dst v') w') : wpList Try.prog ops Q (o :: rest) a w := by
  obtain ⟨i0, hi, hz0, hz1, hz2⟩ := info_parts info5
  cases ox with
  | none =>
    obtain rfl := nil_of hb
    obtain rfl := hc rfl
    refine wpList_append_own_none hgd s x 27 ho B 5 i0 1 Try.underlying27 hi v l.length (l.map encB) hs hown hx ?_
    exact h v w (by rw [List.append_nil]; exact hown) (World.grownBy.refl _ _)
  | some ad =>
    refine wpList_append_own w hgd s x 27 ho B 5 i0 (.int .u8 0) 1 1 Try.underlying27 hi hz0 hz1 hz2 rfl (by decide) v l.length (l.map encB) hs hown ad m.length c (m.map encB) hx (by simp) (news_any hb ad rfl) (news_one m) (by unfold maxLen; omega) (by omega) hbase ?_
    intro v' w' hown' hgrow _
    exact h v' w' (by unfold Own; rw [List.length_append, List.map_append]; exact hown') hgrow
/-- the document's writer at p: its bytes, from block B on, and whether it is spoilt -/
def ZW (B p : Nat) (l : List Nat) (lost : Bool) (W : World) : Prop := ∃ v, W.heap[p]? = some (.cells #[v, .bool lost] 29 (0, 0)) ∧ Own W B v l
theorem ZW.lt {B p : Nat} {l : List Nat} {lost : Bool} {W : World} (h : ZW B p l lost W) : p < W.heap.size := by
  obtain ⟨v, h, _⟩ := h
  exact (Array.getElem?_eq_some_iff.1 h).1
theorem ZW.below {B p : Nat} {l : List Nat} {lost : Bool} {W X : World} (h : ZW B p l lost W) (hb : Below W.heap.size W X) : ZW B p l lost X := by
  obtain ⟨v, h, o⟩ := h
  exact ⟨v, keep_row hb h, o.below hb⟩
/-- a row of bytes lies apart from a block of another type -/
theorem Own.apart {W : World} {B p : Nat} {v : Value} {l : List Nat} {cs : Array Value} {t : TypeId} {fr : Nat × Nat} (s : Own W B v l) (h : W.heap[p]? = some (.cells cs t fr)) (ht : t ≠ 5) : ∀ k, v.ownBlock = some k → k ≠ p := by
  intro k hk e
  subst e
  obtain ⟨h1, h2⟩ := s
  rcases h2 with ⟨rfl, _⟩ | ⟨g, cap, cur, rfl, hb, hg, _⟩
  · cases hk
  · cases hk
    rw [h] at hg
    injection hg with hg
    injection hg with _ hg
    exact ht hg
theorem Own.grown {W X : World} {B : Nat} {v : Value} {l : List Nat} {row : Option Nat} (s : Own W B v l) (hg : W.grownBy X row) (hr : ∀ k, v.ownBlock = some k → some k ≠ row) : Own X B v l := by
  obtain ⟨h1, h2⟩ := s
  refine ⟨h1, ?_⟩
  rcases h2 with h2 | ⟨g, cap, cur, rfl, hb, hgg, h3⟩
  · exact Or.inl h2
  · exact Or.inr ⟨g, cap, cur, rfl, hb, by rw [hg.block g (Array.getElem?_eq_some_iff.1 hgg).1 (hr g rfl)]; exact hgg, h3⟩
theorem below_grown {w w' : World} (h : Below w.heap.size w w') (row : Option Nat) : w.grownBy w' row := ⟨h.os, h.tape, h.output, h.size, fun k hk _ => h.block k hk⟩
theorem grown_cell (W : World) (b j : Nat) (v : Value) : W.grownBy (W.setCell ⟨b, j, none⟩ v) (some b) :=
  ⟨rfl, rfl, rfl, by simp, fun k hk hne => heap_setCell_other _ _ _ _ (by intro e; exact hne (by rw [e]))⟩
def PutPost (p : Nat) (l m : List Nat) (lost may : Bool) (w : World) (e : Ending) (w' : World) : Prop :=
  e = .returned undef ∧ (lost = false → may = true → ZW w.heap.size p (l ++ m) false w') ∧ (lost = true ∨ may = false → w' = w.setCell ⟨p, 1, none⟩ (.bool true)) ∧ w.grownBy w' (some p)
theorem bs_apart {W : World} {p : Nat} {v : Value} {lost : Bool} {t : TypeId} {b off : Nat} {m : List Nat} (h : W.heap[p]? = some (.cells #[v, .bool lost] t (0, 0))) (hv : ∀ x : Int, v ≠ .int .u8 x) (hb : Bs W (some ⟨b, off, none⟩) m) (hm : 0 < m.length) : b ≠ p := by
  rintro rfl
  obtain ⟨b', off', e, hc⟩ := hb 0 hm
  cases e
  rw [cell_of_row _ _ _ _ _ _ h] at hc
  obtain h0 | h0 | h0 : off + 0 = 0 ∨ off + 0 = 1 ∨ 2 ≤ off + 0 := by omega
  · rw [h0] at hc
    simp at hc
    exact hv _ hc
  · rw [h0] at hc
    simp at hc
  · rw [Array.getElem?_eq_none (by simpa using h0)] at hc
    cases hc
theorem Bs.set {W : World} {o : Option Addr} {m : List Nat} (hb : Bs W o m) {p j : Nat} (v : Value) (h : ∀ b off, o = some ⟨b, off, none⟩ → 0 < m.length → b ≠ p) : Bs (W.setCell ⟨p, j, none⟩ v) o m := fun i hi => by
  obtain ⟨b, off, e, hc⟩ := hb i hi
  refine ⟨b, off, e, ?_⟩
  have hne := h b off e (by omega)
  rw [World.cell?_of_block (show (W.setCell ⟨p, j, none⟩ v).heap[b]? = W.heap[b]? from heap_setCell_other _ _ _ _ hne)]
  exact hc
theorem Bs.grown {W X : World} {o : Option Addr} {m : List Nat} {row : Option Nat} (hb : Bs W o m) (hg : W.grownBy X row) (h : ∀ b off, o = some ⟨b, off, none⟩ → 0 < m.length → some b ≠ row) : Bs X o m := fun i hi => by
  obtain ⟨b, off, e, hc⟩ := hb i hi
  exact ⟨b, off, e, hg.cell hc (h b off e (by omega))⟩
theorem Bs.lt {W : World} {b off : Nat} {m : List Nat} (hb : Bs W (some ⟨b, off, none⟩) m) (hm : 0 < m.length) : b < W.heap.size := by
  obtain ⟨b', off', e, hc⟩ := hb 0 hm
  cases e
  rcases Nat.lt_or_ge b W.heap.size with h | h
  · exact h
  · rw [World.cell?, Array.getElem?_eq_none h] at hc
    cases hc
set_option maxRecDepth 100000 in
set_option maxHeartbeats 2000000 in
theorem zput_off (B p : Nat) (l m : List Nat) (lost may : Bool) (o : Option Addr) (c : Nat) (w : World) (h : lost = true ∨ may = false) (hw : ZW B p l lost w) :
    Calls Try.prog 45 #[.pointer (some ⟨p, 0, none⟩), .slice o m.length c, .bool may] w (PutPost p l m lost may w) := by
  obtain ⟨v, hrow, ho⟩ := hw
  have c0 : w.cell? ⟨p, 0, none⟩ = some v := by rw [cell_of_row _ _ _ _ _ _ hrow]; rfl
  have c1 : w.cell? ⟨p, 1, none⟩ = some (.bool lost) := by rw [cell_of_row _ _ _ _ _ _ hrow]; rfl
  have f1 : w.frozen? ⟨p, 1, none⟩ = false := frozen_row hrow
  have HP : Hid (PutPost p l m lost may w (.returned undef) (w.setCell ⟨p, 1, none⟩ (.bool true))) := Lib.hid ⟨rfl, fun h1 h2 => by rcases h with h | h <;> simp_all, fun _ => rfl, grown_cell _ _ _ _⟩
  clear hrow ho
  cases lost with
  | true =>
    clear h
    go_enter Try.func45, Try.ntmps45
    go_wp2_with fail
    exact bodyPost_ret (results_none rfl _ _ _) rfl HP.out
  | false =>
    obtain rfl : may = false := by
      rcases h with h | h
      · cases h
      · exact h
    clear h
    go_enter Try.func45, Try.ntmps45
    go_wp2_with fail
    exact bodyPost_ret (results_none rfl _ _ _) rfl HP.out
set_option maxRecDepth 100000 in
set_option maxHeartbeats 2000000 in
theorem zput_on (B p : Nat) (l m : List Nat) (o : Option Addr) (c : Nat) (w : World) (hc : o = none → c = 0) (hb : Bs w o m) (hlen : l.length + m.length ≤ 1000000000) (hw : ZW B p l false w) :
    Calls Try.prog 45 #[.pointer (some ⟨p, 0, none⟩), .slice o m.length c, .bool true] w (PutPost p l m false true w) := by
  have hp := hw.lt
  obtain ⟨v, hrow, ho⟩ := hw
  obtain ⟨o1, cap1, rfl, hb1, _, _, hn1, _⟩ := ho.open
  have c0 : w.cell? ⟨p, 0, none⟩ = some (.slice o1 l.length cap1) := by rw [cell_of_row _ _ _ _ _ _ hrow]; rfl
  have c1 : w.cell? ⟨p, 1, none⟩ = some (.bool false) := by rw [cell_of_row _ _ _ _ _ _ hrow]; rfl
  have f0 : w.frozen? ⟨p, 0, none⟩ = false := frozen_row hrow
  have f1 : w.frozen? ⟨p, 1, none⟩ = false := frozen_row hrow
  have R1 : (w.setCell ⟨p, 1, none⟩ (.bool false)).heap[p]? = some (.cells #[.slice o1 l.length cap1, .bool false] 29 (0, 0)) := heap_setCell_same _ _ 1 _ _ (.bool false) hrow
  have B1 : Bs (w.setCell ⟨p, 1, none⟩ (.bool false)) o1 l := hb1.set _ fun b off e hm => by subst e; exact bs_apart hrow (by intro x h; cases h) hb1 hm
  have B2 : Bs (w.setCell ⟨p, 1, none⟩ (.bool false)) o m := hb.set _ fun b off e hm => by subst e; exact bs_apart hrow (by intro x h; cases h) hb hm
  have G1 := grown_cell w p 1 (.bool false)
  have HR1 := Lib.hid R1
  have HB1 := Lib.hid B1
  have HB2 := Lib.hid B2
  have HG1 := Lib.hid G1
  have HN1 := Lib.hid hn1
  have HC := Lib.hid hc
  have HLEN := Lib.hid hlen
  clear hrow ho hb1 hn1 R1 B1 B2 G1 hc hb hlen
  go_enter Try.func45, Try.ntmps45
  go_wp2_with (first
    | (at_builtin; refine app_bs rfl (.tmp 22) (.tmp 26) rfl w.heap.size _ [] rfl (World.ownsRow_nil _ _ _ _) o1 l cap1 rfl HN1.out HB1.out (by have := HLEN.out; simp; omega) (by simp) ?_; intro v1 w1 ho1 hg1; have HO1 := Lib.hid ho1; have HGR1 := Lib.hid hg1; clear ho1 hg1)
    | (at_builtin; refine app_bs rfl (.tmp 29) (.tmp 30) rfl w.heap.size v1 l rfl HO1.out o m c rfl HC.out (HB2.out.grown HGR1.out (fun b off e hm h => by cases h)) HLEN.out (by have := HGR1.out.size; simp at this; omega) ?_; intro v2 w2 ho2 hg2
       obtain ⟨q, hq⟩ : ∃ q, l ++ m = q := ⟨_, rfl⟩
       rw [hq] at ho2
       have HQ := Lib.hid hq
       clear hq
       obtain ⟨o2, cap2, rfl, _, _, _, _, _⟩ := ho2.open
       have R2 : w1.heap[p]? = some (.cells #[.slice o1 l.length cap1, .bool false] 29 (0, 0)) := (HGR1.out.block p (by simpa using hp) (by intro h; cases h)).trans HR1.out
       have AP := HO1.out.apart R2 (by decide)
       have R3 : w2.heap[p]? = some (.cells #[.slice o1 l.length cap1, .bool false] 29 (0, 0)) := (hg2.block p (Array.getElem?_eq_some_iff.1 R2).1 (by intro h; exact AP p h.symm rfl)).trans R2
       have d0 : w2.cell? ⟨p, 0, none⟩ = some (.slice o1 l.length cap1) := by rw [cell_of_row _ _ _ _ _ _ R3]; rfl
       have e0 : w2.frozen? ⟨p, 0, none⟩ = false := frozen_row R3
       have HO2 := Lib.hid ho2
       have HG2 := Lib.hid hg2
       have HR3 := Lib.hid R3
       have HAP := Lib.hid AP
       clear ho2 hg2 R2 R3 AP))
  have hne : ∀ k, (Value.slice o2 q.length cap2).ownBlock = some k → k ≠ p := HO2.out.apart HR3.out (by decide)
  have R4 := heap_setCell_same _ _ 0 _ _ (.slice o2 q.length cap2) HR3.out
  have GG : w.grownBy (w2.setCell ⟨p, 0, none⟩ (.slice o2 q.length cap2)) (some p) := by
    refine ⟨?_, ?_, ?_, ?_, ?_⟩
    · exact (HG2.out.os.trans HGR1.out.os)
    · exact (HG2.out.tape.trans HGR1.out.tape)
    · exact (HG2.out.output.trans HGR1.out.output)
    · have h1 := HGR1.out.size
      have h2 := HG2.out.size
      simp at h1 ⊢
      omega
    · intro k hk hkp
      have hkp' : k ≠ p := fun e => hkp (by rw [e])
      have h1 := HGR1.out.size
      simp at h1
      rw [heap_setCell_other _ _ _ _ hkp', HG2.out.block k (by omega) (fun e => by have := HO1.out.blk k e.symm; omega), HGR1.out.block k (by simpa using hk) (by intro h; cases h), heap_setCell_other _ _ _ _ hkp']
  refine bodyPost_ret (results_none rfl _ _ _) rfl ⟨rfl, fun _ _ => ⟨_, R4, ?_⟩, fun (h : false = true ∨ true = false) => (by rcases h with h | h <;> cases h), GG⟩
  rw [HQ.out]
  exact HO2.out.grown (grown_cell _ _ _ _) (fun k hk h => hne k hk (Option.some.inj h))
end Go.Proofs.Ytpbidfmijliehaa.Fx
