import Derived.Laws.Rows
import Derived.Test.YtbbhmhihpdmoiaaGreatProg
import Derived.Test.YtbbhmhihpdmoiaaGreatMw04
import Derived.Test.YtbbhmhihpdmoiaaGreatMw21
import Derived.Test.YtbbhmhihpdmoiaaGreatMw22
import Derived.Test.YtbbhmhihpdmoiaaGreatMw24
import Derived.Test.YtbbhmhihpdmoiaaGreatMw25
set_option linter.unusedVariables false
set_option linter.unusedSimpArgs false
namespace Go.Proofs.YtbbhmhihpdmoiaaGreat.Fx
open Go Go.RowKit Wm
def BM (k : Nat) (m : List Int) : Prop := m.length = 16 ∧ ∀ p, p < k → -67108864 ≤ m.getD p 0 ∧ m.getD p 0 ≤ 67108864
def BV (k : Nat) (v : List Int) : Prop := v.length = 4 ∧ ∀ p, p < k → -1073741824 ≤ v.getD p 0 ∧ v.getD p 0 ≤ 1073741824
theorem prod_le2 {a b : Int} (a0 : -67108864 ≤ a ∧ a ≤ 67108864) (b0 : -1073741824 ≤ b ∧ b ≤ 1073741824) : -72057594037927936 ≤ a * b ∧ a * b ≤ 72057594037927936 := by
 have h : a.natAbs * b.natAbs ≤ 67108864 * 1073741824 := Nat.mul_le_mul (by omega) (by omega)
 have e := Int.natAbs_mul a b
 omega
theorem pq_le {m v : List Int} (hm : BM 16 m) (hv : BV 4 v) (r : Nat) (hr : r < 4) : -4398046511105 ≤ pq (rowOf m r) v ∧ pq (rowOf m r) v ≤ 4398046511104 := by
 have h0 := prod_le2 (hm.2 (r * 4) (by omega)) (hv.2 0 (by omega))
 have h1 := prod_le2 (hm.2 (r * 4 + 1) (by omega)) (hv.2 1 (by omega))
 have h2 := prod_le2 (hm.2 (r * 4 + 2) (by omega)) (hv.2 2 (by omega))
 have h3 := prod_le2 (hm.2 (r * 4 + 3) (by omega)) (hv.2 3 (by omega))
 have e : dot (rowOf m r) v = m.getD (r * 4) 0 * v.getD 0 0 + m.getD (r * 4 + 1) 0 * v.getD 1 0 + m.getD (r * 4 + 2) 0 * v.getD 2 0 + m.getD (r * 4 + 3) 0 * v.getD 3 0 := rfl
 unfold pq
 rw [e]
 omega
theorem ap_small {m v : List Int} (hm : BM 16 m) (hv : BV 4 v) : apO m v = some (apRows m v) := by
 unfold apO
 rw [if_pos]
 refine ⟨wB_iff.2 fun j hj => ?_, wB_iff.2 fun j hj => ?_, wB_iff.2 fun j hj => ?_⟩
 ·have := hm.2 j hj; omega
 ·have := hv.2 j hj; omega
 ·have hd : j = 0 ∨ j = 1 ∨ j = 2 ∨ j = 3 := by omega
  rcases hd with rfl | rfl | rfl | rfl
  ·have := pq_le hm hv 0 (by omega)
   show (0 : Int) ≤ _ ∧ -4611686018427387904 ≤ pq (rowOf m 0) v ∧ pq (rowOf m 0) v ≤ 4611686018427387904
   omega
  ·have := pq_le hm hv 1 (by omega)
   show (0 : Int) ≤ _ ∧ -4611686018427387904 ≤ pq (rowOf m 1) v ∧ pq (rowOf m 1) v ≤ 4611686018427387904
   omega
  ·have := pq_le hm hv 2 (by omega)
   show (0 : Int) ≤ _ ∧ -4611686018427387904 ≤ pq (rowOf m 2) v ∧ pq (rowOf m 2) v ≤ 4611686018427387904
   omega
  ·have := pq_le hm hv 3 (by omega)
   show (0 : Int) ≤ _ ∧ -4611686018427387904 ≤ pq (rowOf m 3) v ∧ pq (rowOf m 3) v ≤ 4611686018427387904
   omega
theorem BM.of_wB {m : List Int} (hl : m.length = 16) {z : Int} (hz : z ≤ 67108864) (h : wB z m 16 = true) : BM 16 m := ⟨hl, fun p hp => by
 have := wB_iff.1 h p hp
 omega⟩
theorem mul_is {a b : List Int} (la : a.length = 16) (lb : b.length = 16) (ha : wB 16777216 a 16 = true) (hb : wB 16777216 b 16 = true) : ∃ m, mulO a b = some m ∧ m.length = 16 := by
 have hA := BM.of_wB la (by omega) ha
 have key : ∀ r, r < 4 → (colO a b r).isSome = true := by
  intro r hr
  unfold colO
  have hv : BV 4 (rowOf (tr b) r) := by
   refine ⟨rfl, fun p hp => ?_⟩
   have e : (rowOf (tr b) r).getD p 0 = (tr b).getD (r * 4 + p) 0 := by
    obtain rfl | rfl | rfl | rfl : p = 0 ∨ p = 1 ∨ p = 2 ∨ p = 3 := by omega
    all_goals rfl
   have e2 : (tr b).getD (r * 4 + p) 0 = b.getD ((r * 4 + p) % 4 * 4 + (r * 4 + p) / 4) 0 := by
    unfold tr
    rw [List.getD_eq_getElem?_getD, List.getElem?_map, List.getElem?_range (by omega)]
    rfl
   have := wB_iff.1 hb ((r * 4 + p) % 4 * 4 + (r * 4 + p) / 4) (by omega)
   rw [e, e2]
   omega
  rw [ap_small hA hv]
  rfl
 have hm : mulO a b = some (tr (csA a b)) := by
  unfold mulO
  rw [if_pos ⟨key 0 (by omega), key 1 (by omega), key 2 (by omega), key 3 (by omega)⟩]
 exact ⟨_, hm, mulO_len hm⟩
theorem bothO_at {s : ScR} {k : Nat} {x : ObjR} (hx : s.os[k]? = some x) : bothO s (k : Int) = mulO s.cam x.m := by
 unfold bothO
 rw [if_pos (by have := (List.getElem?_eq_some_iff.1 hx).1; omega)]
 simp [hx]
theorem keep6_is {s : ScR} {x : ObjR} {k : Nat} (hs : ScWf s) (hw : ObjWf x) (hx : s.os[k]? = some x) (hc : wB 16777216 s.cam 16 = true) (h5 : keep5 s x k = true) : keep6p s k = keep6 s x k := by
 obtain ⟨m, hm, _⟩ := mul_is hs.len hw.len hc h5
 unfold keep6p keep6
 rw [bothO_at hx, hm]
 rfl
end Go.Proofs.YtbbhmhihpdmoiaaGreat.Fx
set_option linter.unusedVariables false
set_option linter.unusedSimpArgs false
namespace Go.Proofs.YtbbhmhihpdmoiaaGreat.Fx
open Go Go.RowKit Go.Shelf
theorem Kept.refl (B : Nat) (W : World) : Kept B W W := ⟨rfl, rfl, rfl, Nat.le_refl _, fun _ _ h _ => h⟩
theorem Kept.trans {B : Nat} {X Y Z : World} (h : Kept B X Y) (k : Kept B Y Z) : Kept B X Z :=
 ⟨k.os.trans h.os, k.tape.trans h.tape, k.output.trans h.output, Nat.le_trans h.size k.size, fun i o hi hc => k.block i o (h.block i o hi hc) hc⟩
structure DefOk (B hi : Nat) (ds : List Deferred) (W : World) : Prop where
 each : ∀ d ∈ ds, ∃ D, d = { target := .collected D, args := #[] } ∧ B ≤ D ∧ D < hi ∧ W.heap[D]? = some (.deferred (some []))
 apart : ds.Pairwise fun a b => a.target ≠ b.target
theorem DefOk.nil (B hi : Nat) (W : World) : DefOk B hi [] W := ⟨fun d h => (List.not_mem_nil h).elim, List.Pairwise.nil⟩
theorem DefOk.cons {B hi D : Nat} {ds : List Deferred} {W : World} (h : DefOk B hi ds W) (hB : B ≤ D) (hD : hi ≤ D) (hd : W.heap[D]? = some (.deferred (some []))) : DefOk B (D + 1) ({ target := .collected D, args := #[] } :: ds) W := by
 refine ⟨fun d hm => ?_, List.pairwise_cons.2 ⟨fun d hm => ?_, h.apart⟩⟩
 ·rcases List.mem_cons.1 hm with rfl | hm
  ·exact ⟨D, rfl, hB, by omega, hd⟩
  ·obtain ⟨E, e, h1, h2, h3⟩ := h.each d hm
   exact ⟨E, e, h1, by omega, h3⟩
 ·obtain ⟨E, rfl, h1, h2, h3⟩ := h.each d hm
  intro e
  have : D = E := by simpa using e
  omega
theorem DefOk.keeps {B hi : Nat} {ds : List Deferred} {W X : World} (h : DefOk B hi ds W) (k : KeepsFrom B W X) : DefOk B hi ds X :=
 ⟨fun d hm => by
  obtain ⟨E, e, h1, h2, h3⟩ := h.each d hm
  exact ⟨E, e, h1, h2, k.same _ _ h1 h3 rfl⟩, h.apart⟩
theorem DefOk.kept {B hi C : Nat} {ds : List Deferred} {W X : World} (h : DefOk B hi ds W) (hc : hi ≤ C) (k : Kept C W X) : DefOk B hi ds X :=
 ⟨fun d hm => by
  obtain ⟨E, e, h1, h2, h3⟩ := h.each d hm
  exact ⟨E, e, h1, h2, k.block _ _ h3 (.inl (by omega))⟩, h.apart⟩
theorem DefOk.wide {B hi hj : Nat} {ds : List Deferred} {W : World} (h : DefOk B hi ds W) (hc : hi ≤ hj) : DefOk B hj ds W :=
 ⟨fun d hm => by
  obtain ⟨E, e, h1, h2, h3⟩ := h.each d hm
  exact ⟨E, e, h1, by omega, h3⟩, h.apart⟩
theorem leaves_all {n : Nat} {P : Program} {fn : Func} {tmps : Array Value} {R : Ending → World → Prop} {B : Nat} : ∀ (ds : List Deferred) (hi : Nat) (W : World), DefOk B hi ds W →
  (∀ X, Kept B W X → LeavesInM Fence.wide n P fn tmps R [] .returning X) → LeavesInM Fence.wide n P fn tmps R ds .returning W
 | [], hi, W, _, h => h W (Kept.refl _ _)
 | d :: ds, hi, W, hd, h => by
  obtain ⟨D, rfl, h1, h2, h3⟩ := hd.each d (by simp)
  have hk : Kept B W (W.putObj D (.deferred none)) := Kept.putObj _ h1 h3 rfl
  refine ⟨by simp, .inl ⟨_, _, rfl, run_takeDeferred h3, ?_⟩⟩
  refine leaves_all ds hi _ ⟨fun d hm => ?_, (List.pairwise_cons.1 hd.apart).2⟩ (fun X k => h X (hk.trans k))
  obtain ⟨E, rfl, e1, e2, e3⟩ := hd.each d (by simp [hm])
  refine ⟨E, rfl, e1, e2, (World.putObj_heap_other (fun e => ?_)).trans e3⟩
  have := (List.pairwise_cons.1 hd.apart).1 _ hm
  exact this (by rw [e])
def dutyZ (s : ScR) (r : Nat) (x : ObjR) (k : Nat) : Bool := if r = 0 then keep4 s x k else if r = 1 then keep5 s x k else if r = 2 then keep6p s k else if r = 3 then keep7 s x k else keep8 s x k
def dutyF (r : Nat) : Nat := if r = 0 then 118 else if r = 1 then 120 else if r = 2 then 121 else if r = 3 then 123 else 126
def dutyL (A r : Nat) : Array Value := if r = 0 ∨ r = 2 then #[.pointer (some ⟨A, 0, none⟩)] else #[]
def dutyV (A r : Nat) : Value := .func (.func (dutyF r)) #[] (dutyL A r)
def dutyC (A : Nat) : Array Value := #[dutyV A 0, dutyV A 1, dutyV A 2, dutyV A 3, dutyV A 4]
theorem duty_enter {r : Nat} (hr : r < 5) : ∀ args w, (callFunc (dutyF r) args).run Tryz.prog w = .ok (.enter (dutyF r) args) w := by
 obtain rfl | rfl | rfl | rfl | rfl : r = 0 ∨ r = 1 ∨ r = 2 ∨ r = 3 ∨ r = 4 := by omega
 ·exact enters_of Tryz.func118 (by kernel_rfl) rfl
 ·exact enters_of Tryz.func120 (by kernel_rfl) rfl
 ·exact enters_of Tryz.func121 (by kernel_rfl) rfl
 ·exact enters_of Tryz.func123 (by kernel_rfl) rfl
 ·exact enters_of Tryz.func126 (by kernel_rfl) rfl
theorem duty_any (s : ScR) (x : ObjR) (k r A : Nat) (w : World) (hr : r < 5) (hs : ScWf s) (ha : ScAt A s w) (h : ObjsAt w s.oo s.os) (hx : s.os[k]? = some x) :
  Calls Tryz.prog (dutyF r) (#[.int .i64 (k : Int), .agg (objL x).toArray] ++ dutyL A r) w (RetBool (dutyZ s r x k) w) := by
 obtain ⟨hw, hv, ht⟩ := h.wf hx
 obtain rfl | rfl | rfl | rfl | rfl : r = 0 ∨ r = 1 ∨ r = 2 ∨ r = 3 ∨ r = 4 := by omega
 ·exact duty1 s x k A w hs ha h hx
 ·exact duty2 s x k w hw
 ·exact duty3 s x k A w hs ha h hx
 ·exact duty4 s x k w hw hv
 ·exact duty5 s x k w hw ht
theorem duty_bad {s : ScR} {x : ObjR} {k r : Nat} (hr : r < 5) (hs : ScWf s) (hw : ObjWf x) (hx : s.os[k]? = some x) (hc : wB 16777216 s.cam 16 = true) (hn : ∀ q, 4 ≤ q → q < 4 + r → badIn s q = none) : badAt s (4 + r) k = !dutyZ s r x k := by
 have hb : badAt s (4 + r) k = !keepZ s x k (4 + r) := by unfold badAt; rw [hx]
 rw [hb]
 obtain rfl | rfl | rfl | rfl | rfl : r = 0 ∨ r = 1 ∨ r = 2 ∨ r = 3 ∨ r = 4 := by omega
 ·rfl
 ·rfl
 ·have h5 : keep5 s x k = true := by
   have := hn 5 (by omega) (by omega)
   unfold badIn at this
   rw [List.find?_eq_none] at this
   have h1 := this k (by simpa using (List.getElem?_eq_some_iff.1 hx).1)
   unfold badAt at h1
   rw [hx] at h1
   have e : keepZ s x k 5 = keep5 s x k := rfl
   dsimp only at h1
   rw [e] at h1
   simpa using h1
  have : dutyZ s 2 x k = keep6p s k := rfl
  rw [this, keep6_is hs hw hx hc h5]
  rfl
 ·rfl
 ·rfl
def DutyAt (D A : Nat) (W : World) : Prop := W.heap[D]? = some (.cells (dutyC A) 151 (0, 0))
theorem DutyAt.cell {D A r : Nat} {W : World} (h : DutyAt D A W) (hr : r < 5) : W.cell? ⟨D, r, none⟩ = some (dutyV A r) := by
 rw [cell_of_row _ _ _ _ _ _ h]
 obtain rfl | rfl | rfl | rfl | rfl : r = 0 ∨ r = 1 ∨ r = 2 ∨ r = 3 ∨ r = 4 := by omega
 all_goals rfl
theorem duties_w (s : ScR) (w : World) : Calls Tryz.prog 100 #[.agg (scC s)] w fun e w' =>
  e = .returned (.slice (some ⟨w.heap.size + 1, 0, none⟩) 5 5) ∧ w' = (w.alloc (.cells (scC s) 28)).alloc (.cells (dutyC w.heap.size) 151) := by
 go_enter Tryz.func100, Tryz.ntmps100
 go_wp2_with fail
 go_ret
 exact ⟨rfl, rfl⟩
theorem side_any (n : Int) (w : World) : Calls Tryz.prog 98 #[.int .i64 n] w fun e w' => e = .returned (.bool (decide (1 ≤ n) && decide (n ≤ 64))) ∧ w' = w := by
 by_cases h1 : 1 ≤ n
 ·by_cases h2 : n ≤ 64
  ·go_enter Tryz.func98, Tryz.ntmps98
   go_wp2_with fail
   go_ret
   exact ⟨by (first | (simp [*]; done) | (simp; omega) | (simp [*]; omega)), rfl⟩
  ·go_enter Tryz.func98, Tryz.ntmps98
   go_wp2_with fail
   go_ret
   exact ⟨by (first | (simp [*]; done) | (simp; omega) | (simp [*]; omega)), rfl⟩
 ·go_enter Tryz.func98, Tryz.ntmps98
  go_wp2_with fail
  go_ret
  exact ⟨by (first | (simp [*]; done) | (simp; omega) | (simp [*]; omega)), rfl⟩
end Go.Proofs.YtbbhmhihpdmoiaaGreat.Fx

set_option linter.unusedVariables false
set_option linter.unusedSimpArgs false
namespace Go.Proofs.YtbbhmhihpdmoiaaGreat.Fx
open Go Go.RowKit Go.Shelf
attribute [local go_sem] Oper.semAt_some
def Rows (t : TypeId) (W X : World) : Prop := ∀ (g : Nat) (cur : Array Value), W.heap[g]? = some (.cells cur t (0, 0)) → X.heap[g]? = some (.cells cur t (0, 0))
theorem Rows.refl (t : TypeId) (W : World) : Rows t W W := fun _ _ h => h
theorem Rows.trans {t : TypeId} {W X Y : World} (h : Rows t W X) (k : Rows t X Y) : Rows t W Y := fun g cur hg => k g cur (h g cur hg)
theorem Rows.of_below {t : TypeId} {W X : World} (h : Below W.heap.size W X) : Rows t W X := fun g cur hg => keep_row h hg
theorem Rows.of_kept {t : TypeId} {B : Nat} {W X : World} (h : Kept B W X) : Rows t W X := fun g cur hg => h.cells hg
theorem Rows.of_set {t u : TypeId} {m j : Nat} {c : Array Value} {v : Value} {W : World} (hm : W.heap[m]? = some (.cells c u (0, 0))) (hne : t ≠ u) : Rows t W (W.setCell ⟨m, j, none⟩ v) := fun g cur hg => by
 rw [heap_setCell_other _ _ _ _ (by
  show g ≠ m
  intro e
  subst e
  rw [hg] at hm
  cases hm
  exact hne rfl)]
 exact hg
theorem Rows.of_grown {t u : TypeId} {row : Option Nat} {W X : World} (h : W.grownBy X row) (hr : ∀ k, row = some k → ∃ c, W.heap[k]? = some (.cells c u (0, 0))) (hne : t ≠ u) : Rows t W X := fun g cur hg => by
 rw [h.block g (Array.getElem?_eq_some_iff.1 hg).1 (fun e => by
  obtain ⟨c, hc⟩ := hr g e.symm
  rw [hg] at hc
  cases hc
  exact hne rfl)]
 exact hg
theorem LiesG.rows {α : Type} {t : TypeId} {n : Nat} {f : α → List Value} {W X : World} {B : Nat} {o : Option Addr} {l : List α} (s : LiesG t n f W B o l) (h : Rows t W X) : LiesG t n f X B o l :=
 ⟨fun k z hk => by
  obtain ⟨g, cur, e, hb, hg, hs, hr⟩ := s.at_ k z hk
  refine ⟨g, cur, e, hb, h g cur hg, hs, fun j u hj => ?_⟩
  have := hr j u hj
  rw [cell_of_row _ _ _ _ _ _ hg] at this
  rw [cell_of_row _ _ _ _ _ _ (h g cur hg)]
  exact this⟩
theorem LiesG.base {α : Type} {t : TypeId} {n : Nat} {f : α → List Value} {W : World} {B C : Nat} {o : Option Addr} {l : List α} (hc : C ≤ B) (s : LiesG t n f W B o l) : LiesG t n f W C o l :=
 ⟨fun k z hk => by
  obtain ⟨g, cur, e, hb, h⟩ := s.at_ k z hk
  exact ⟨g, cur, e, Nat.le_trans hc hb, h⟩⟩
structure FreshO (B : Nat) (x : ObjR) (W : World) : Prop where
 wf : ObjWf x
 v : LiesG 85 3 (fun z => z.map encI) W B x.vo x.vs
 t : LiesG 87 4 triL W B x.tq x.ts
 vw : ∀ z ∈ x.vs, VertWf z
 tw : ∀ z ∈ x.ts, TriWf z
theorem FreshO.rows {B : Nat} {x : ObjR} {W X : World} (s : FreshO B x W) (h3 : Rows 85 W X) (h4 : Rows 87 W X) : FreshO B x X := ⟨s.wf, s.v.rows h3, s.t.rows h4, s.vw, s.tw⟩
theorem FreshO.base {B C : Nat} {x : ObjR} {W : World} (hc : C ≤ B) (s : FreshO B x W) : FreshO C x W := ⟨s.wf, s.v.base hc, s.t.base hc, s.vw, s.tw⟩
structure FreshS (B : Nat) (c : ScR) (W : World) : Prop where
 wf : ScWf c
 objs : LiesG 73 19 objL W B c.oo c.os
 each : ∀ x ∈ c.os, FreshO B x W
theorem FreshS.at {B : Nat} {c : ScR} {W : World} (s : FreshS B c W) : ObjsAt W c.oo c.os := fun k z hk => by
 obtain ⟨g, cur, e, _, _, _, h⟩ := s.objs.at_ k z hk
 have hz := s.each z (List.mem_of_getElem? hk)
 exact ⟨g, 0, e, h, hz.v.verts hz.vw, hz.t.tris hz.tw, hz.wf⟩
def twL (s : ScR) (v : Value) : List Value := .int .i64 s.w :: .int .i64 s.h :: (s.cam.map encI ++ [v])
theorem twL_len {s : ScR} (h : ScWf s) (v : Value) : (twL s v).toArray.size = 19 := by simp [twL, h.len]
theorem twL_one (s : ScR) (v : Value) (hv : v.oneCell' = true) : (twL s v).toArray.all (·.oneCell') = true := by
 rw [Array.all_eq_true_iff_forall_mem]
 intro u hu
 simp only [twL, List.mem_toArray, List.mem_cons, List.mem_append, List.mem_map, List.not_mem_nil, or_false] at hu
 rcases hu with rfl | rfl | ⟨z, _, rfl⟩ | rfl
 ·rfl
 ·rfl
 ·rfl
 ·exact hv
theorem twL_set {s : ScR} (h : ScWf s) (v u : Value) : (twL s v).toArray.setIfInBounds 18 u = (twL s u).toArray := by
 simp [twL, List.set_append, h.len]
structure CpS (s : ScR) (v : Value) (l : List ObjR) (w W : World) : Prop where
 box : ScAt w.heap.size s W
 res : W.heap[w.heap.size + 1]? = some (.cells #[.int .i64 0, .int .i64 0, .int .i64 0, .int .i64 0, .int .i64 0, .int .i64 0, .int .i64 0, .int .i64 0, .int .i64 0, .int .i64 0, .int .i64 0, .int .i64 0, .int .i64 0, .int .i64 0, .int .i64 0, .int .i64 0, .int .i64 0, .int .i64 0, .slice none 0 0] 28 (0, 0))
 twin : W.heap[w.heap.size + 1 + 1]? = some (.cells (twL s v).toArray 28 (0, 0))
 it : ScAt (w.heap.size + 1 + 1 + 1) s W
 own : OwnG 73 19 objL W (w.heap.size + 1 + 1 + 1 + 1) v l
 each : ∀ x ∈ l, FreshO (w.heap.size + 1 + 1 + 1 + 1) x W
 below : Below w.heap.size w W
theorem CpS.kept {s : ScR} {v : Value} {l : List ObjR} {B : Nat} {w W X : World} (hB : w.heap.size ≤ B) (h : Kept B W X) (i : CpS s v l w W) : CpS s v l w X :=
 ⟨i.box.kept h, h.cells i.res, h.cells i.twin, i.it.kept h, i.own.kept h, fun x hx => (i.each x hx).rows (Rows.of_kept h) (Rows.of_kept h), h.below hB i.below⟩
theorem CpS.up {s : ScR} {v : Value} {l : List ObjR} {w W X : World} (h : Below W.heap.size W X) (i : CpS s v l w W) : CpS s v l w X :=
 ⟨i.box.below h, keep_row h i.res, keep_row h i.twin, i.it.below h, i.own.below h, fun x hx => (i.each x hx).rows (Rows.of_below h) (Rows.of_below h), bnext i.below h⟩
theorem CpS.put {s : ScR} {v u : Value} {l : List ObjR} {w W : World} {b j : Nat} {c : Array Value} (i : CpS s v l w W) (hb : w.heap.size + 1 + 1 + 1 < b) (ho : v.ownBlock ≠ some b) (hr : W.heap[b]? = some (.cells c 73 (0, 0))) : CpS s v l w (W.setCell ⟨b, j, none⟩ u) := by
 have keep : ∀ {g : Nat} {o : Obj}, g < b → W.heap[g]? = some o → (W.setCell ⟨b, j, none⟩ u).heap[g]? = some o := fun hlt h => by
  rw [heap_setCell_other _ _ _ _ (by show _ ≠ b; omega)]
  exact h
 exact ⟨keep (by omega) i.box, keep (by omega) i.res, keep (by omega) i.twin, keep (by omega) i.it, i.own.cellset ho,
  fun x hx => (i.each x hx).rows (Rows.of_set hr (by decide)) (Rows.of_set hr (by decide)), i.below.setCell (p := ⟨b, j, none⟩) (by show _ ≤ b; omega) _⟩
theorem CpS.step {s : ScR} {v v' : Value} {l l' : List ObjR} {w W X : World} (hs : ScWf s) (i : CpS s v l w W) (ho : OwnG 73 19 objL X (w.heap.size + 1 + 1 + 1 + 1) v' l') (hg : W.grownBy X v.ownBlock) (he : ∀ x ∈ l', FreshO (w.heap.size + 1 + 1 + 1 + 1) x W) :
  CpS s v' l' w (X.setCell ⟨w.heap.size + 1 + 1, 18, none⟩ v') := by
 have hb := i.own.blk
 have keep : ∀ {g : Nat} {o : Obj}, g < w.heap.size + 1 + 1 + 1 + 1 → W.heap[g]? = some o → X.heap[g]? = some o := fun hlt h => by
  rw [hg.block _ (Array.getElem?_eq_some_iff.1 h).1 (fun e => by have := hb _ e.symm; omega)]
  exact h
 have k2 : ∀ {g : Nat} {o : Obj}, g ≠ w.heap.size + 1 + 1 → g < w.heap.size + 1 + 1 + 1 + 1 → W.heap[g]? = some o → (X.setCell ⟨w.heap.size + 1 + 1, 18, none⟩ v').heap[g]? = some o := fun hne hlt h => by
  rw [heap_setCell_other _ _ _ _ hne]
  exact keep hlt h
 have ht := keep (by omega) i.twin
 refine ⟨k2 (by omega) (by omega) i.box, k2 (by omega) (by omega) i.res, ?_, k2 (by omega) (by omega) i.it, ho.cellset (fun e => by have := ho.blk _ e; omega), fun x hx => ?_, ?_⟩
 ·rw [heap_setCell_same _ _ 18 _ _ v' ht, twL_set hs]
 ·have h1 : ∀ {t : TypeId}, t ≠ 73 → t ≠ 28 → Rows t W (X.setCell ⟨w.heap.size + 1 + 1, 18, none⟩ v') := fun n1 n2 => (Rows.of_grown hg (fun k hk => i.own.row k hk) n1).trans (Rows.of_set ht n2)
  exact (he x hx).rows (h1 (by decide) (by decide)) (h1 (by decide) (by decide))
 ·exact (below_grown2 (Nat.le_refl _) i.below hg (fun k hk => by have := hb k hk; omega)).setCell (p := ⟨w.heap.size + 1 + 1, 18, none⟩) (by show _ ≤ w.heap.size + 1 + 1; omega) _
theorem below_none {W X : World} (hg : W.grownBy X none) : Below W.heap.size W X := below_grown2 (Nat.le_refl _) (Below.refl _ _) hg (fun k hk => by cases hk)
theorem sizeZ (s : ScR) (h : ScWf s) (v : Value) : (Tryz.prog.info? 28).map (·.size) = some (twL s v).toArray.size := by rw [twL_len h]; kernel_rfl
end Go.Proofs.YtbbhmhihpdmoiaaGreat.Fx

set_option linter.unusedVariables false
set_option linter.unusedSimpArgs false
namespace Go.Proofs.YtbbhmhihpdmoiaaGreat.Fx
open Go Go.RowKit Go.Shelf
open Go.Proofs.YtbbhmhihpdmoiaaGreat.Pk (PW PCall Turn form fold By)
attribute [local go_sem] Oper.semAt_some
structure WFr (p : Nat) (W X : World) : Prop where
 os : X.os = W.os
 tape : X.tape = W.tape
 output : X.output = W.output
 size : W.heap.size ≤ X.heap.size
 low : ∀ k, k < p → X.heap[k]? = W.heap[k]?
 block : ∀ (k : Nat) (o : Obj), W.heap[k]? = some o → k ≠ p → (∀ c f, o ≠ .cells c 5 f) → X.heap[k]? = some o
theorem WFr.refl (p : Nat) (W : World) : WFr p W W := ⟨rfl, rfl, rfl, Nat.le_refl _, fun _ _ => rfl, fun _ _ h _ _ => h⟩
theorem WFr.trans {p : Nat} {W X Y : World} (h : WFr p W X) (k : WFr p X Y) : WFr p W Y :=
 ⟨k.os.trans h.os, k.tape.trans h.tape, k.output.trans h.output, Nat.le_trans h.size k.size, fun i hi => (k.low i hi).trans (h.low i hi), fun i o hi h1 h2 => k.block i o (h.block i o hi h1 h2) h1 h2⟩
theorem WFr.of_below {p : Nat} {W X : World} (h : Below W.heap.size W X) (hp : p ≤ W.heap.size) : WFr p W X :=
 ⟨h.os, h.tape, h.output, h.size, fun k hk => h.block k (by omega), fun k o hk _ _ => by rw [h.block k (Array.getElem?_eq_some_iff.1 hk).1]; exact hk⟩
theorem WFr.below {p : Nat} {W X : World} (h : WFr p W X) : Below p W X := ⟨h.os, h.tape, h.output, h.size, h.low⟩
theorem WFr.rows {p : Nat} {W X : World} (h : WFr p W X) {t : TypeId} (ht : t ≠ 5) {pw : Array Value} {u : TypeId} (hp : W.heap[p]? = some (.cells pw u (0, 0))) (hu : t ≠ u) : Rows t W X := fun g cur hg => h.block g _ hg (fun e => by
 subst e
 rw [hp] at hg
 cases hg
 exact hu rfl) (fun c f e => by cases e; exact ht rfl)
theorem WFr.keeps {p : Nat} {W X : World} (h : WFr p W X) {pw : Array Value} {u : TypeId} (hp : W.heap[p]? = some (.cells pw u (0, 0))) : KeepsOthers W X :=
 ⟨h.size, fun k o hk ho => h.block k o hk (fun e => by
  subst e
  rw [hp] at hk
  cases hk
  cases ho) (fun c f e => by subst e; cases ho)⟩
theorem WFr.kept {p B : Nat} {w W X : World} (hB : w.heap.size ≤ B) (hp : p ≤ w.heap.size) (h : WFr p w W) (k : Kept B W X) : WFr p w X := by
 refine ⟨k.os.trans h.os, k.tape.trans h.tape, k.output.trans h.output, Nat.le_trans h.size k.size, fun i hi => ?_, fun i o hi h1 h2 => k.block i o (h.block i o hi h1 h2) (.inl (by have := (Array.getElem?_eq_some_iff.1 hi).1; omega))⟩
 have hlt : i < w.heap.size := by omega
 have h1 := h.low i hi
 rw [Array.getElem?_eq_getElem hlt] at h1 ⊢
 exact k.block i _ h1 (.inl (by omega))
def WSt (p : Nat) (l : List Nat) (W : World) : Prop := ∃ v, PW (p + 1) p v l false W
theorem WSt.row {p : Nat} {l : List Nat} {W : World} (h : WSt p l W) : ∃ cs, W.heap[p]? = some (.cells cs 120 (0, 0)) := by
 obtain ⟨v, h⟩ := h
 exact ⟨_, h.row⟩
theorem WSt.lt {p : Nat} {l : List Nat} {W : World} (h : WSt p l W) : p < W.heap.size := by
 obtain ⟨v, h⟩ := h
 exact h.lt
theorem WSt.below {p : Nat} {l : List Nat} {W X : World} (h : WSt p l W) (hb : Below W.heap.size W X) : WSt p l X := by
 obtain ⟨v, h⟩ := h
 exact ⟨v, h.below hb⟩
theorem WSt.kept {p B : Nat} {l : List Nat} {W X : World} (h : WSt p l W) (k : Kept B W X) : WSt p l X := by
 obtain ⟨v, h⟩ := h
 exact ⟨v, ⟨k.cells h.row, h.own.kept k⟩⟩
theorem WSt.set {p m j : Nat} {l : List Nat} {W : World} {c : Array Value} {t : TypeId} {u : Value} (h : WSt p l W) (hm : W.heap[m]? = some (.cells c t (0, 0))) (h1 : t ≠ 120) (h2 : t ≠ 5) : WSt p l (W.setCell ⟨m, j, none⟩ u) := by
 obtain ⟨v, h⟩ := h
 have hn : p ≠ m := fun e => by
  subst e
  have := h.row
  rw [hm] at this
  cases this
  exact h1 rfl
 refine ⟨v, ⟨by rw [heap_setCell_other _ _ _ _ hn]; exact h.row, ?_⟩⟩
 obtain ⟨o1, o2⟩ := h.own
 refine ⟨o1, ?_⟩
 rcases o2 with o2 | ⟨g, cap, cur, e, hb, hg, h3⟩
 ·exact Or.inl o2
 ·refine Or.inr ⟨g, cap, cur, e, hb, ?_, h3⟩
  rw [heap_setCell_other _ _ _ _ (by
   show g ≠ m
   intro e
   subst e
   rw [hm] at hg
   cases hg
   exact h2 rfl)]
  exact hg
theorem own_row {W : World} {B : Nat} {v : Value} {l : List Nat} (s : Pk.Own W B v l) : ∀ k, v.ownBlock = some k → B ≤ k ∧ ∃ cur, W.heap[k]? = some (.cells cur 5 (0, 0)) := by
 intro k hk
 obtain ⟨h1, h2⟩ := s
 rcases h2 with ⟨rfl, _⟩ | ⟨g, cap, cur, rfl, hb, hg, _⟩
 ·cases hk
 ·cases hk
  exact ⟨hb, cur, hg⟩
theorem WFr.of_turn {p : Nat} {v v' : Value} {l : List Nat} {W X : World} (h : PW (p + 1) p v l false W) (t : Turn p v v' W X) : WFr p W X := by
 have hp := h.lt
 refine ⟨t.os, t.tape, t.output, t.size, fun k hk => t.block k (by omega) (by omega) (fun e => by have := (own_row h.own k e).1; omega), fun k o hk h1 h2 => ?_⟩
 rw [t.block k (Array.getElem?_eq_some_iff.1 hk).1 h1 (fun e => by
  obtain ⟨_, cur, hc⟩ := own_row h.own k e
  rw [hk] at hc
  cases hc
  exact h2 _ _ rfl)]
 exact hk
def WPost (p : Nat) (l : List Nat) (w : World) (e : Ending) (w' : World) : Prop := e = .returned undef ∧ WSt p l w' ∧ WFr p w w'
theorem WPost.of {p : Nat} {v : Value} {l l' : List Nat} {w w' : World} {e : Ending} (h : PW (p + 1) p v l false w) (hc : PCall (p + 1) p v l' false w e w') : WPost p l' w e w' := by
 obtain ⟨he, v', h1, h2⟩ := hc
 exact ⟨he, ⟨v', h1⟩, WFr.of_turn h h2⟩
theorem wint_any (p : Nat) (z : Int) (l : List Nat) (w : World) (hz : Num z) (hl : l.length ≤ 100000000) (h : WSt p l w) : Calls Tryz.prog 103 #[.pointer (some ⟨p, 0, none⟩), .int .i64 z] w (WPost p (l ++ fI z) w) := by
 obtain ⟨v, h⟩ := h
 exact (Pk.pint_any (p + 1) p z v l false w h.lt hz.1 hz.2 hl h).mono fun e w' hc => WPost.of h hc
theorem wuint_any (p n : Nat) (l : List Nat) (w : World) (hz : n < 18446744073709551616) (hl : l.length ≤ 100000000) (h : WSt p l w) : Calls Tryz.prog 93 #[.pointer (some ⟨p, 0, none⟩), .int .u64 (n : Int)] w (WPost p (l ++ form n) w) := by
 obtain ⟨v, h⟩ := h
 exact (Pk.puint_any (p + 1) p n v l false w h.lt hz hl h).mono fun e w' hc => WPost.of h hc
theorem wsmall_any (p : Nat) (n most : Int) (l : List Nat) (w : World) (h0 : 0 ≤ n) (h1 : n ≤ most) (hm : most ≤ 9223372036854775807) (hl : l.length ≤ 100000000) (h : WSt p l w) : Calls Tryz.prog 52 #[.pointer (some ⟨p, 0, none⟩), .int .i64 n, .int .i64 most] w (WPost p (l ++ fU n) w) := by
 obtain ⟨v, h⟩ := h
 have := Pk.psmall_any (p + 1) p n most v l false w h.lt (by omega) (by omega) hl h
 have e : Pk.mayB n most = true := decide_eq_true ⟨h0, h1⟩
 rw [e] at this
 exact this.mono fun e w' hc => WPost.of h hc
theorem nums_w (a : Addr) (w : World) : Calls Tryz.prog 102 #[.pointer (some a)] w fun e w' =>
  e = .returned (.func (.func 131) #[] #[.pointer (some ⟨w.heap.size, 0, none⟩)]) ∧ w' = w.alloc (.cells #[.pointer (some a)] 158) := by
 go_enter Tryz.func102, Tryz.ntmps102
 go_wp2
 go_ret
 exact ⟨rfl, rfl⟩
def nElem (M k : Nat) : Array Value := #[.pointer (some ⟨M, k, none⟩)]
def NuM (A M : Nat) (X : World) : Prop := X.cell? ⟨A, 0, none⟩ = some (.pointer (some ⟨M, 0, none⟩))
set_option maxRecDepth 100000 in
set_option maxHeartbeats 1000000 in
theorem nums_hands (A M : Nat) :
  Hands Fence.wide 4 Tryz.prog 131 #[.pointer (some ⟨A, 0, none⟩)] (nElem M) 16 (NuM A M) := by
 intro l J Jx W hJ1 hJ2 hJB hJxB hY h0
 have HY := Lib.hid hY; clear hY
 have HJ1 := Lib.hid hJ1; clear hJ1
 have HJ2 := Lib.hid hJ2; clear hJ2
 have HJB := Lib.hid hJB; clear hJB
 have HJxB := Lib.hid hJxB; clear hJxB
 refine callsIn_of_wp Tryz.func131 rfl trivial ?_ rfl
 simp only [Tryz.ntmps131, List.size_toArray, List.length_cons, List.length_nil, Nat.reduceAdd, Nat.reduceSub, Array.replicate_succ, Array.replicate_zero, List.push_toArray, List.append_toArray, List.nil_append, List.cons_append]
 gi_wp2
 gi_loopw [5] (fun v9 wr => ∃ r : Nat, v9 = .int .i64 (r : Int) ∧ r ≤ 4 ∧ J (r * 4) wr) (fun v9 _ => 4 - (intOf v9).toNat)
 case atStart => exact ⟨0, rfl, by omega, h0⟩
 case round =>
  obtain ⟨r, rfl, hrn, hJ⟩ := hrel
  by_cases hr : r < 4
  ·have r0 : (0 : Int) ≤ (r : Int) := by omega
   have r1 : (r : Int) < 4 := by omega
   gi_wp2
   gi_loopw [8] (fun v15 wx => ∃ c : Nat, v15 = .int .i64 (c : Int) ∧ c ≤ 4 ∧ J (r * 4 + c) wx) (fun v15 _ => 4 - (intOf v15).toNat)
   case atStart => exact ⟨0, rfl, by omega, hJ⟩
   case round =>
    obtain ⟨c, rfl, hc4, hJc⟩ := hrel
    by_cases hc : c < 4
    ·have cA := HJB.out _ wr hJc
     unfold NuM at cA
     obtain ⟨fn, tmps, assign, body, hy, hR⟩ := HY.out (r * 4 + c) _ (by omega) hJc
     simp only [nElem] at hy
     have c0 : (0 : Int) ≤ (c : Int) := by omega
     have c1 : (c : Int) < 4 := by omega
     gi_wp2
     refine hR.mono ?_
     rintro e W3 (⟨rfl, hJ3⟩ | ⟨rfl, hJx3⟩)
     ·gi_wp2
      go_roundw
      case rel => exact ⟨c + 1, by go_num, by omega, hJ3⟩
      case measure => simp [intOf]; omega
     ·gi_wp2
      refine bodyPost_ret (results_none rfl _ _ _) rfl ?_
      exact ⟨⟨_, rfl⟩, .inr hJx3⟩
    ·have hce : c = 4 := by omega
     subst hce
     have hJ4 : J ((r + 1) * 4) wr := by rw [show (r + 1) * 4 = r * 4 + 4 from by omega]; exact hJc
     have HJ4 := Lib.hid hJ4
     clear hJ4
     gi_wp2
     go_roundw
     case rel => exact ⟨r + 1, by go_num, by omega, HJ4.out⟩
     case measure => simp [intOf]; omega
  ·have hrm : r = 4 := by omega
   subst hrm
   have HJN : Hid (J 16 wr) := Lib.hid hJ
   gi_wp2
   go_end0
   exact ⟨⟨_, rfl⟩, .inl HJN.out⟩
end Go.Proofs.YtbbhmhihpdmoiaaGreat.Fx
