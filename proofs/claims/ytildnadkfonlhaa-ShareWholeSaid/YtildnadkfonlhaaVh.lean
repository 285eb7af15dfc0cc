/- Does a scene break a rule by an object: the program's Check, the statements' is; walked. 
  What may be stays within its bounds: plain; a call that reads memory in a region that draws its order. -/
import Derived.Test.YtildnadkfonlhaaProg
import Derived.Test.YtildnadkfonlhaaVg
import Derived.Test.YtildnadkfonlhaaHg
set_option linter.unusedVariables false
set_option linter.unusedSimpArgs false
namespace Go.Proofs.Ytildnadkfonlhaa.Fx
open Go Go.RowKit Go.Shelf
def RetErr (b : Bool) (w : World) (e : Ending) (w' : World) : Prop := e = .returned (.int .i64 (if b = true then 0 else 60)) ∧ Below w.heap.size w w'
set_option maxRecDepth 100000 in
set_option maxHeartbeats 1000000 in
theorem pcheck_any (s : ScR) (w : World) (hs : ScWf s) (h : ObjsAt w s.oo s.os) :
    Calls Try.prog 15 #[.agg (scC s)] w (RetErr (okZ s) w) := by
  have HI := Lib.hid (WrI.new h)
  have hall := Lib.hid (sizeS hs)
  have HC := Lib.hid (pwrong_any s _ hs HI.out.ob)
  clear h hs
  unfold RetErr
  cases hc : okZ s
  · have h0 : ¬ (wrongZ s).1 = 0 := by simpa [okZ] using hc
    have e : ((if false = true then 0 else 60 : Int)) = 60 := rfl
    rw [e]
    clear hc e
    unfold RetWrong at HC
    generalize wrongZ s = p at HC h0
    obtain ⟨p1, p2⟩ := p
    dsimp only at HC h0
    go_enter Try.func15, Try.ntmps15
    go_wp2_with (refine wpList_load_mid rfl 32 (.tmp 1) rfl w.heap.size 0 rfl (scL s) _ HI.out.all Try.underlying32 rfl hall.out ?_)
    refine HC.out.mono ?_
    rintro e w1 ⟨rfl, hb⟩
    have HB := Lib.hid (bnext HI.out.bel hb)
    clear hb
    go_wp2_with fail
    go_ret
    exact ⟨rfl, HB.out⟩
  · have h0 : (wrongZ s).1 = 0 := by simpa [okZ] using hc
    have e : ((if true = true then 0 else 60 : Int)) = 0 := rfl
    rw [e]
    clear hc e
    unfold RetWrong at HC
    generalize wrongZ s = p at HC h0
    obtain ⟨p1, p2⟩ := p
    dsimp only at HC h0
    subst h0
    go_enter Try.func15, Try.ntmps15
    go_wp2_with (refine wpList_load_mid rfl 32 (.tmp 1) rfl w.heap.size 0 rfl (scL s) _ HI.out.all Try.underlying32 rfl hall.out ?_)
    refine HC.out.mono ?_
    rintro e w1 ⟨rfl, hb⟩
    have HB := Lib.hid (bnext HI.out.bel hb)
    clear hb
    go_wp2_with fail
    go_ret
    exact ⟨rfl, HB.out⟩
def isZ (s : ScR) (r a : Int) : Bool := decide (wrongZ s = (r, a))
end Go.Proofs.Ytildnadkfonlhaa.Fx
set_option linter.unusedVariables false
set_option linter.unusedSimpArgs false
namespace Go.Proofs.Ytildnadkfonlhaa.Fx
open Go Go.RowKit Go.Shelf Wm
theorem give_callS {n : Nat} {P : Program} {ops : Array Oper} {Q : Exit → Act → World → Prop} {md : Region.Mode} {S : World → Prop} {Z : List Nat} (D : List Nat) (i : Nat) (f : FuncId) (args : Array Value) (v : Value) (s : Sound P ops Q S) {oi : Oper} {fuel : Nat} {listed : Array Bool} {a : Act} {w : World} (hi : ops[i]? = some oi)
    (hk : okTake md ops Z listed i D = true) (hS : S w) (hw : Region.wanted oi (yielded ops a.tmps) = true) (hv : ∀ w, (execOp a.eval oi).run P w = .ok (.enter f args) w)
    (hc : ∀ w, S w → Calls P f args w fun e w' => e = .returned v ∧ Below w.heap.size w w')
    (h : ∀ w3, S w3 → HeldG n P md ops Q S Z fuel (listed.setIfInBounds i true) (a.put oi.dst v) w3) : HeldG n P md ops Q S Z (fuel + 1) listed a w :=
  give_take D i v s hi hk hS (Or.inl ⟨hw, fun w hS => Or.inr ⟨f, args, hv w, hc w hS⟩⟩) h
theorem bad_none {s : ScR} {r k : Nat} {x : ObjR} (h : badIn s r = none) (hx : s.os[k]? = some x) : keepZ s x k r = true := by
  unfold badIn at h
  rw [List.find?_eq_none] at h
  have h1 := h k (by simpa using (List.getElem?_eq_some_iff.1 hx).1)
  unfold badAt at h1
  rw [hx] at h1
  simpa using h1
theorem ok_all {s : ScR} (h : okZ s = true) : sizeB s = false ∧ wB 16777216 s.cam 16 = true ∧ s.os.length ≤ 16 ∧ ∀ r, 4 ≤ r → r < 9 → badIn s r = none := by
  have h0 : (wrongZ s).1 = 0 := by simpa [okZ] using h
  unfold wrongZ at h0
  split at h0
  · simp at h0
  rename_i h1
  split at h0
  · simp at h0
  rename_i h2
  split at h0
  · simp at h0
  rename_i h3
  refine ⟨by simpa using h1, by simpa using h2, by omega, ?_⟩
  cases b4 : badIn s 4 with
  | some k => simp [List.findSome?, b4] at h0
  | none =>
  cases b5 : badIn s 5 with
  | some k => simp [List.findSome?, b4, b5] at h0
  | none =>
  cases b6 : badIn s 6 with
  | some k => simp [List.findSome?, b4, b5, b6] at h0
  | none =>
  cases b7 : badIn s 7 with
  | some k => simp [List.findSome?, b4, b5, b6, b7] at h0
  | none =>
  cases b8 : badIn s 8 with
  | some k => simp [List.findSome?, b4, b5, b6, b7, b8] at h0
  | none =>
  intro r h4 h9
  obtain rfl | rfl | rfl | rfl | rfl : r = 4 ∨ r = 5 ∨ r = 6 ∨ r = 7 ∨ r = 8 := by omega
  all_goals assumption
theorem ok_find {s : ScR} {k : Nat} {x : ObjR} (h : okZ s = true) (hx : s.os[k]? = some x) : findZ s.os x.id = some k := by
  have h4 : keep4 s x k = true := bad_none ((ok_all h).2.2.2 4 (by omega) (by omega)) hx
  unfold keep4 at h4
  rw [find_first hx] at h4
  simp only [Bool.and_eq_true, decide_eq_true_eq] at h4
  cases hf : findZ (s.os.take k) x.id with
  | none => exact find_hit hx hf rfl
  | some i =>
    exfalso
    have hi : findZ s.os x.id = some i := by
      unfold findZ at hf ⊢
      rw [← List.take_append_drop k s.os, List.findIdx?_append, hf]
      rfl
    have hlt : i < k := by
      unfold findZ at hf
      obtain ⟨h1, _⟩ := List.findIdx?_eq_some_iff_getElem.1 hf
      simp at h1
      omega
    rw [hi] at h4
    have := h4.1
    simp at this
    omega
theorem ok_both {s : ScR} {k : Nat} {x : ObjR} (h : okZ s = true) (hs : ScWf s) (hw : ObjWf x) (hx : s.os[k]? = some x) : ∃ m, bothO s (k : Int) = some m ∧ BM 16 m := by
  obtain ⟨_, hc, _, hall⟩ := ok_all h
  have h5 : keep5 s x k = true := bad_none (hall 5 (by omega) (by omega)) hx
  have h6 : keep6 s x k = true := bad_none (hall 6 (by omega) (by omega)) hx
  obtain ⟨m, hm, hl⟩ := mul_is hs.len hw.len hc h5
  refine ⟨m, by rw [bothO_at hx, hm], ?_⟩
  unfold keep6 at h6
  rw [hm] at h6
  exact BM.of_wB hl (by omega) h6
theorem ok_vert {s : ScR} {k i : Nat} {x : ObjR} {v : List Int} (h : okZ s = true) (hx : s.os[k]? = some x) (hv : x.vs[i]? = some v) : BV 4 [v.getD 0 0, v.getD 1 0, v.getD 2 0, 65536] := by
  have h7 : keep7 s x k = true := bad_none ((ok_all h).2.2.2 7 (by omega) (by omega)) hx
  unfold keep7 at h7
  rw [Bool.and_eq_true, List.all_eq_true] at h7
  have hf := h7.1 v (List.mem_of_getElem? hv)
  unfold fineV farZ at hf
  simp only [Bool.not_eq_true', Bool.or_eq_false_iff, decide_eq_false_iff_not] at hf
  refine ⟨rfl, fun p hp => ?_⟩
  obtain rfl | rfl | rfl | rfl : p = 0 ∨ p = 1 ∨ p = 2 ∨ p = 3 := by omega
  · show _ ≤ v.getD 0 0 ∧ v.getD 0 0 ≤ _; omega
  · show _ ≤ v.getD 1 0 ∧ v.getD 1 0 ≤ _; omega
  · show _ ≤ v.getD 2 0 ∧ v.getD 2 0 ≤ _; omega
  · show _ ≤ (65536 : Int) ∧ (65536 : Int) ≤ _; omega
end Go.Proofs.Ytildnadkfonlhaa.Fx
