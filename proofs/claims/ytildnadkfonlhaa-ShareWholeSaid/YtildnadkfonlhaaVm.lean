/- What the rules' bounds give: the product is, and is within its own bound; plain. 
  Deferred marks behind many ranges; the program's five rules as one; a scene's rules laid in a slice. -/
import Derived.Test.YtildnadkfonlhaaProg
import Derived.Test.YtildnadkfonlhaaSd
import Derived.Test.YtildnadkfonlhaaVe
set_option linter.unusedVariables false
set_option linter.unusedSimpArgs false
namespace Go.Proofs.Ytildnadkfonlhaa.Fx
open Go Go.RowKit Wm
def BM (k : Nat) (m : List Int) : Prop := m.length = 16 ∧ ∀ p, p < k → -67108864 ≤ m.getD p 0 ∧ m.getD p 0 ≤ 67108864
def BV (k : Nat) (v : List Int) : Prop := v.length = 4 ∧ ∀ p, p < k → -1073741824 ≤ v.getD p 0 ∧ v.getD p 0 ≤ 1073741824
theorem prod_le2 {a b : Int} (a0 : -67108864 ≤ a ∧ a ≤ 67108864) (b0 : -1073741824 ≤ b ∧ b ≤ 1073741824) : -72057594037927936 ≤ a * b ∧ a * b ≤ 72057594037927936 := by
  have h : a.natAbs * b.natAbs ≤ 67108864 * 1073741824 := Nat.mul_le_mul (by omega) (by omega)
  have e := Int.natAbs_mul a b
  omega
theorem pq_le {m v : List Int} (hm : BM 16 m) (hv : BV 4 v) (r : Nat) (hr : r < 4) : -4398046511105 ≤ pq (rowOf m r) v ∧ pq (rowOf m r) v ≤ 4398046511104 := by
  have h0 := prod_le2 (hm.2 (r * 4) (by omega)) (hv.2 0 (by omega))
  have h1 := prod_le2 (hm.2 (r * 4 + 1) (by omega)) (hv.2 1 (by omega))
  have h2 := prod_le2 (hm.2 (r * 4 + 2) (by omega)) (hv.2 2 (by omega))
  have h3 := prod_le2 (hm.2 (r * 4 + 3) (by omega)) (hv.2 3 (by omega))
  have e : dot (rowOf m r) v = m.getD (r * 4) 0 * v.getD 0 0 + m.getD (r * 4 + 1) 0 * v.getD 1 0 + m.getD (r * 4 + 2) 0 * v.getD 2 0 + m.getD (r * 4 + 3) 0 * v.getD 3 0 := rfl
  unfold pq
  rw [e]
  omega
theorem ap_small {m v : List Int} (hm : BM 16 m) (hv : BV 4 v) : apO m v = some (apRows m v) := by
  unfold apO
  rw [if_pos]
  refine ⟨wB_iff.2 fun j hj => ?_, wB_iff.2 fun j hj => ?_, wB_iff.2 fun j hj => ?_⟩
  · have := hm.2 j hj; omega
  · have := hv.2 j hj; omega
  · have hd : j = 0 ∨ j = 1 ∨ j = 2 ∨ j = 3 := by omega
    rcases hd with rfl | rfl | rfl | rfl
    · have := pq_le hm hv 0 (by omega)
      show (0 : Int) ≤ _ ∧ -4611686018427387904 ≤ pq (rowOf m 0) v ∧ pq (rowOf m 0) v ≤ 4611686018427387904
      omega
    · have := pq_le hm hv 1 (by omega)
      show (0 : Int) ≤ _ ∧ -4611686018427387904 ≤ pq (rowOf m 1) v ∧ pq (rowOf m 1) v ≤ 4611686018427387904
      omega
    · have := pq_le hm hv 2 (by omega)
      show (0 : Int) ≤ _ ∧ -4611686018427387904 ≤ pq (rowOf m 2) v ∧ pq (rowOf m 2) v ≤ 4611686018427387904
      omega
    · have := pq_le hm hv 3 (by omega)
      show (0 : Int) ≤ _ ∧ -4611686018427387904 ≤ pq (rowOf m 3) v ∧ pq (rowOf m 3) v ≤ 4611686018427387904
      omega
theorem ap_len (m v : List Int) : (apRows m v).length = 4 := rfl
theorem ap_num {m v : List Int} (hm : BM 16 m) (hv : BV 4 v) (r : Nat) (hr : r < 4) : -8796093022208 < (apRows m v).getD r 0 ∧ (apRows m v).getD r 0 < 8796093022208 := by
  have h := pq_le hm hv r hr
  have hd : r = 0 ∨ r = 1 ∨ r = 2 ∨ r = 3 := by omega
  have e : (apRows m v).getD r 0 = pq (rowOf m r) v := by rcases hd with rfl | rfl | rfl | rfl <;> rfl
  rw [e]
  omega
theorem BM.of_wB {m : List Int} (hl : m.length = 16) {z : Int} (hz : z ≤ 67108864) (h : wB z m 16 = true) : BM 16 m := ⟨hl, fun p hp => by
  have := wB_iff.1 h p hp
  omega⟩
theorem mul_is {a b : List Int} (la : a.length = 16) (lb : b.length = 16) (ha : wB 16777216 a 16 = true) (hb : wB 16777216 b 16 = true) : ∃ m, mulO a b = some m ∧ m.length = 16 := by
  have hA := BM.of_wB la (by omega) ha
  have key : ∀ r, r < 4 → (colO a b r).isSome = true := by
    intro r hr
    unfold colO
    have hv : BV 4 (rowOf (tr b) r) := by
      refine ⟨rfl, fun p hp => ?_⟩
      have e : (rowOf (tr b) r).getD p 0 = (tr b).getD (r * 4 + p) 0 := by
        obtain rfl | rfl | rfl | rfl : p = 0 ∨ p = 1 ∨ p = 2 ∨ p = 3 := by omega
        all_goals rfl
      have e2 : (tr b).getD (r * 4 + p) 0 = b.getD ((r * 4 + p) % 4 * 4 + (r * 4 + p) / 4) 0 := by
        unfold tr
        rw [List.getD_eq_getElem?_getD, List.getElem?_map, List.getElem?_range (by omega)]
        rfl
      have := wB_iff.1 hb ((r * 4 + p) % 4 * 4 + (r * 4 + p) / 4) (by omega)
      rw [e, e2]
      omega
    rw [ap_small hA hv]
    rfl
  have hm : mulO a b = some (tr (csA a b)) := by
    unfold mulO
    rw [if_pos ⟨key 0 (by omega), key 1 (by omega), key 2 (by omega), key 3 (by omega)⟩]
  exact ⟨_, hm, mulO_len hm⟩
theorem bothO_at {s : ScR} {k : Nat} {x : ObjR} (hx : s.os[k]? = some x) : bothO s (k : Int) = mulO s.cam x.m := by
  unfold bothO
  rw [if_pos (by have := (List.getElem?_eq_some_iff.1 hx).1; omega)]
  simp [hx]
theorem keep6_is {s : ScR} {x : ObjR} {k : Nat} (hs : ScWf s) (hw : ObjWf x) (hx : s.os[k]? = some x) (hc : wB 16777216 s.cam 16 = true) (h5 : keep5 s x k = true) : keep6p s k = keep6 s x k := by
  obtain ⟨m, hm, _⟩ := mul_is hs.len hw.len hc h5
  unfold keep6p keep6
  rw [bothO_at hx, hm]
  rfl
end Go.Proofs.Ytildnadkfonlhaa.Fx
set_option linter.unusedVariables false
set_option linter.unusedSimpArgs false
namespace Go.Proofs.Ytildnadkfonlhaa.Fx
open Go Go.RowKit Go.Shelf
theorem Kept.refl (B : Nat) (W : World) : Kept B W W := ⟨rfl, rfl, rfl, Nat.le_refl _, fun _ _ h _ => h⟩
theorem Kept.trans {B : Nat} {X Y Z : World} (h : Kept B X Y) (k : Kept B Y Z) : Kept B X Z :=
  ⟨k.os.trans h.os, k.tape.trans h.tape, k.output.trans h.output, Nat.le_trans h.size k.size, fun i o hi hc => k.block i o (h.block i o hi hc) hc⟩
/-- the marks that ranges left behind: each its own, from B on, below hi -/
structure DefOk (B hi : Nat) (ds : List Deferred) (W : World) : Prop where
  each : ∀ d ∈ ds, ∃ D, d = { target := .collected D, args := #[] } ∧ B ≤ D ∧ D < hi ∧ W.heap[D]? = some (.deferred (some []))
  apart : ds.Pairwise fun a b => a.target ≠ b.target
theorem DefOk.nil (B hi : Nat) (W : World) : DefOk B hi [] W := ⟨fun d h => (List.not_mem_nil h).elim, List.Pairwise.nil⟩
theorem DefOk.cons {B hi D : Nat} {ds : List Deferred} {W : World} (h : DefOk B hi ds W) (hB : B ≤ D) (hD : hi ≤ D) (hd : W.heap[D]? = some (.deferred (some []))) : DefOk B (D + 1) ({ target := .collected D, args := #[] } :: ds) W := by
  refine ⟨fun d hm => ?_, List.pairwise_cons.2 ⟨fun d hm => ?_, h.apart⟩⟩
  · rcases List.mem_cons.1 hm with rfl | hm
    · exact ⟨D, rfl, hB, by omega, hd⟩
    · obtain ⟨E, e, h1, h2, h3⟩ := h.each d hm
      exact ⟨E, e, h1, by omega, h3⟩
  · obtain ⟨E, rfl, h1, h2, h3⟩ := h.each d hm
    intro e
    have : D = E := by simpa using e
    omega
theorem DefOk.keeps {B hi : Nat} {ds : List Deferred} {W X : World} (h : DefOk B hi ds W) (k : KeepsFrom B W X) : DefOk B hi ds X :=
  ⟨fun d hm => by
    obtain ⟨E, e, h1, h2, h3⟩ := h.each d hm
    exact ⟨E, e, h1, h2, k.same _ _ h1 h3 rfl⟩, h.apart⟩
theorem DefOk.kept {B hi C : Nat} {ds : List Deferred} {W X : World} (h : DefOk B hi ds W) (hc : hi ≤ C) (k : Kept C W X) : DefOk B hi ds X :=
  ⟨fun d hm => by
    obtain ⟨E, e, h1, h2, h3⟩ := h.each d hm
    exact ⟨E, e, h1, h2, k.block _ _ h3 (.inl (by omega))⟩, h.apart⟩
theorem DefOk.wide {B hi hj : Nat} {ds : List Deferred} {W : World} (h : DefOk B hi ds W) (hc : hi ≤ hj) : DefOk B hj ds W :=
  ⟨fun d hm => by
    obtain ⟨E, e, h1, h2, h3⟩ := h.each d hm
    exact ⟨E, e, h1, by omega, h3⟩, h.apart⟩
theorem leaves_all {n : Nat} {P : Program} {fn : Func} {tmps : Array Value} {R : Ending → World → Prop} {B : Nat} : ∀ (ds : List Deferred) (hi : Nat) (W : World), DefOk B hi ds W →
    (∀ X, Kept B W X → LeavesInM Fence.wide n P fn tmps R [] .returning X) → LeavesInM Fence.wide n P fn tmps R ds .returning W
  | [], hi, W, _, h => h W (Kept.refl _ _)
  | d :: ds, hi, W, hd, h => by
    obtain ⟨D, rfl, h1, h2, h3⟩ := hd.each d (by simp)
    have hk : Kept B W (W.putObj D (.deferred none)) := Kept.putObj _ h1 h3 rfl
    refine ⟨by simp, .inl ⟨_, _, rfl, run_takeDeferred h3, ?_⟩⟩
    refine leaves_all ds hi _ ⟨fun d hm => ?_, (List.pairwise_cons.1 hd.apart).2⟩ (fun X k => h X (hk.trans k))
    obtain ⟨E, rfl, e1, e2, e3⟩ := hd.each d (by simp [hm])
    refine ⟨E, rfl, e1, e2, (World.putObj_heap_other (fun e => ?_)).trans e3⟩
    have := (List.pairwise_cons.1 hd.apart).1 _ hm
    exact this (by rw [e])
/-- the program's rules by number -/
def dutyZ (s : ScR) (r : Nat) (x : ObjR) (k : Nat) : Bool := if r = 0 then keep4 s x k else if r = 1 then keep5 s x k else if r = 2 then keep6p s k else if r = 3 then keep7 s x k else keep8 s x k
def dutyF (r : Nat) : Nat := if r = 0 then 35 else if r = 1 then 37 else if r = 2 then 38 else if r = 3 then 40 else 43
def dutyL (A r : Nat) : Array Value := if r = 0 ∨ r = 2 then #[.pointer (some ⟨A, 0, none⟩)] else #[]
def dutyV (A r : Nat) : Value := .func (.func (dutyF r)) #[] (dutyL A r)
def dutyC (A : Nat) : Array Value := #[dutyV A 0, dutyV A 1, dutyV A 2, dutyV A 3, dutyV A 4]
theorem duty_enter {r : Nat} (hr : r < 5) : ∀ args w, (callFunc (dutyF r) args).run Try.prog w = .ok (.enter (dutyF r) args) w := by
  obtain rfl | rfl | rfl | rfl | rfl : r = 0 ∨ r = 1 ∨ r = 2 ∨ r = 3 ∨ r = 4 := by omega
  · exact enters_of Try.func35 (by kernel_rfl) rfl
  · exact enters_of Try.func37 (by kernel_rfl) rfl
  · exact enters_of Try.func38 (by kernel_rfl) rfl
  · exact enters_of Try.func40 (by kernel_rfl) rfl
  · exact enters_of Try.func43 (by kernel_rfl) rfl
theorem duty_any (s : ScR) (x : ObjR) (k r A : Nat) (w : World) (hr : r < 5) (hs : ScWf s) (ha : ScAt A s w) (h : ObjsAt w s.oo s.os) (hx : s.os[k]? = some x) :
    Calls Try.prog (dutyF r) (#[.int .i64 (k : Int), .agg (objL x).toArray] ++ dutyL A r) w (RetBool (dutyZ s r x k) w) := by
  obtain ⟨hw, hv, ht⟩ := h.wf hx
  obtain rfl | rfl | rfl | rfl | rfl : r = 0 ∨ r = 1 ∨ r = 2 ∨ r = 3 ∨ r = 4 := by omega
  · exact duty1 s x k A w hs ha h hx
  · exact duty2 s x k w hw
  · exact duty3 s x k A w hs ha h hx
  · exact duty4 s x k w hw hv
  · exact duty5 s x k w hw ht
theorem duty_bad {s : ScR} {x : ObjR} {k r : Nat} (hr : r < 5) (hs : ScWf s) (hw : ObjWf x) (hx : s.os[k]? = some x) (hc : wB 16777216 s.cam 16 = true) (hn : ∀ q, 4 ≤ q → q < 4 + r → badIn s q = none) : badAt s (4 + r) k = !dutyZ s r x k := by
  have hb : badAt s (4 + r) k = !keepZ s x k (4 + r) := by unfold badAt; rw [hx]
  rw [hb]
  obtain rfl | rfl | rfl | rfl | rfl : r = 0 ∨ r = 1 ∨ r = 2 ∨ r = 3 ∨ r = 4 := by omega
  · rfl
  · rfl
  · have h5 : keep5 s x k = true := by
      have := hn 5 (by omega) (by omega)
      unfold badIn at this
      rw [List.find?_eq_none] at this
      have h1 := this k (by simpa using (List.getElem?_eq_some_iff.1 hx).1)
      unfold badAt at h1
      rw [hx] at h1
      have e : keepZ s x k 5 = keep5 s x k := rfl
      dsimp only at h1
      rw [e] at h1
      simpa using h1
    have : dutyZ s 2 x k = keep6p s k := rfl
    rw [this, keep6_is hs hw hx hc h5]
    rfl
  · rfl
  · rfl
def DutyAt (D A : Nat) (W : World) : Prop := W.heap[D]? = some (.cells (dutyC A) 71 (0, 0))
theorem DutyAt.cell {D A r : Nat} {W : World} (h : DutyAt D A W) (hr : r < 5) : W.cell? ⟨D, r, none⟩ = some (dutyV A r) := by
  rw [cell_of_row _ _ _ _ _ _ h]
  obtain rfl | rfl | rfl | rfl | rfl : r = 0 ∨ r = 1 ∨ r = 2 ∨ r = 3 ∨ r = 4 := by omega
  all_goals rfl
theorem duties_w (s : ScR) (w : World) : Calls Try.prog 30 #[.agg (scC s)] w fun e w' =>
    e = .returned (.slice (some ⟨w.heap.size + 1, 0, none⟩) 5 5) ∧ w' = (w.alloc (.cells (scC s) 32)).alloc (.cells (dutyC w.heap.size) 71) := by
  go_enter Try.func30, Try.ntmps30
  go_wp2_with fail
  go_ret
  exact ⟨rfl, rfl⟩
theorem side_any (n : Int) (w : World) : Calls Try.prog 28 #[.int .i64 n] w fun e w' => e = .returned (.bool (decide (1 ≤ n) && decide (n ≤ 64))) ∧ w' = w := by
  by_cases h1 : 1 ≤ n
  · by_cases h2 : n ≤ 64
    · go_enter Try.func28, Try.ntmps28
      go_wp2_with fail
      go_ret
      exact ⟨by (first | (simp [*]; done) | (simp; omega) | (simp [*]; omega)), rfl⟩
    · go_enter Try.func28, Try.ntmps28
      go_wp2_with fail
      go_ret
      exact ⟨by (first | (simp [*]; done) | (simp; omega) | (simp [*]; omega)), rfl⟩
  · go_enter Try.func28, Try.ntmps28
    go_wp2_with fail
    go_ret
    exact ⟨by (first | (simp [*]; done) | (simp; omega) | (simp [*]; omega)), rfl⟩
end Go.Proofs.Ytildnadkfonlhaa.Fx
