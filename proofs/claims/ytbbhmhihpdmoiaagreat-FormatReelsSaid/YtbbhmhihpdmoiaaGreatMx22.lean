import Derived.Laws.Rows
import Derived.Test.YtbbhmhihpdmoiaaGreatProg
import Derived.Laws.AppendOwn
import Derived.ProofKit
import Derived.Test.YtbbhmhihpdmoiaaGreatMx02
import Derived.Test.YtbbhmhihpdmoiaaGreatMx19
import Derived.Test.YtbbhmhihpdmoiaaGreatMx20
import Derived.Test.YtbbhmhihpdmoiaaGreatMx21
/- Rows by their block, and two that may come up in a region that draws its order. 
  The document's Within, walked. 
  The document's Sum of products, walked. -/
set_option linter.unusedVariables false
namespace Go.Proofs.YtbbhmhihpdmoiaaGreat.Fx
open Go Go.RowKit Wm
section
variable {n : Nat} {P : Program} {ops : Array Oper} {Q : Exit → Act → World → Prop} {md : Region.Mode} {S : World → Prop} {Z : List Nat}
def RowAt (t : TypeId) (g : Nat) (cs : Array Value) (W : World) : Prop := W.heap[g]? = some (.cells cs t (0, 0))
theorem RowAt.below {t : TypeId} {g : Nat} {cs : Array Value} {W X : World} (hb : Below W.heap.size W X) (h : RowAt t g cs W) : RowAt t g cs X := keep_row hb h
theorem RowAt.row {t : TypeId} {g : Nat} {cs : Array Value} {W : World} (h : RowAt t g cs W) (c : Array Value) : RowAt t g c (W.setRow g c) := setRow_heap _ _ _ _ _ _ h
theorem RowAt.other {t : TypeId} {g k : Nat} {cs : Array Value} {W : World} (h : RowAt t g cs W) (hk : g ≠ k) (c : Array Value) : RowAt t g cs (W.setRow k c) := by unfold RowAt; rw [setRow_other _ _ _ _ hk]; exact h
theorem RowAt.lt {t : TypeId} {g : Nat} {cs : Array Value} {W : World} (h : RowAt t g cs W) : g < W.heap.size := (Array.getElem?_eq_some_iff.1 h).1
theorem RowAt.new (W : World) (t : TypeId) (cs : Array Value) : RowAt t W.heap.size cs (W.alloc (.cells cs t)) := heap_alloc_new _ _
theorem RowAt.alloc {t : TypeId} {g : Nat} {cs : Array Value} {W : World} (h : RowAt t g cs W) (o : Obj) : RowAt t g cs (W.alloc o) := step_row h
theorem RowAt.cell {t : TypeId} {g j : Nat} {cs : Array Value} {W : World} (h : RowAt t g cs W) : W.cell? ⟨g, j, none⟩ = cs[j]? := cell_of_row _ _ _ _ _ _ h
theorem RowAt.free {t : TypeId} {g j : Nat} {cs : Array Value} {W : World} (h : RowAt t g cs W) : W.frozen? ⟨g, j, none⟩ = false := frozen_row h
/-- as give_take, and nothing that was is touched -/
theorem grow_take (D : List Nat) (i : Nat) (v : Value) (s : Sound P ops Q S) {oi : Oper} {fuel : Nat} {listed : Array Bool} {a : Act} {w : World} (hi : ops[i]? = some oi)
    (hk : okTake md ops Z listed i D = true) (hS : S w) (hy : Gives P ops S oi v a)
    (h : ∀ w3, S w3 → Below w.heap.size w w3 → HeldG n P md ops Q S Z fuel (listed.setIfInBounds i true) (a.put oi.dst v) w3) : HeldG n P md ops Q S Z (fuel + 1) listed a w := by
  unfold okTake at hk
  simp only [Bool.and_eq_true] at hk
  obtain ⟨⟨⟨hf, hr⟩, hz⟩, hc⟩ := hk
  refine give_first s.calm hi (Region.noSelect_spec s.nosel) (fun c a w => s.pan _ _ _ _ _) D (fun z hz' => ?_) s.mono fuel listed a w (Region.free_spec hi hf) (by simpa using hr) (chain_spec hc) hy hS fun w3 hb => h w3 (s.mono _ _ hS hb) hb
  have := List.all_eq_true.1 hz z hz'
  exact List.contains_iff_mem.1 this
theorem grow_pure (D : List Nat) (i : Nat) (v : Value) (s : Sound P ops Q S) {oi : Oper} {fuel : Nat} {listed : Array Bool} {a : Act} {w : World} (hi : ops[i]? = some oi)
    (hk : okTake md ops Z listed i D = true) (hS : S w) (hw : Region.wanted oi (yielded ops a.tmps) = true) (hv : ∀ w, S w → (execOp a.eval oi).run P w = .ok (.value v) w)
    (h : ∀ w3, S w3 → Below w.heap.size w w3 → HeldG n P md ops Q S Z fuel (listed.setIfInBounds i true) (a.put oi.dst v) w3) : HeldG n P md ops Q S Z (fuel + 1) listed a w :=
  grow_take D i v s hi hk hS (Or.inl ⟨hw, fun w hS => Or.inl (hv w hS)⟩) h
theorem grow_call (D : List Nat) (i : Nat) (f : FuncId) (args : Array Value) (v : Value) (s : Sound P ops Q S) {oi : Oper} {fuel : Nat} {listed : Array Bool} {a : Act} {w : World} (hi : ops[i]? = some oi)
    (hk : okTake md ops Z listed i D = true) (hS : S w) (hw : Region.wanted oi (yielded ops a.tmps) = true) (hv : ∀ w, (execOp a.eval oi).run P w = .ok (.enter f args) w)
    (hc : ∀ w, Calls P f args w fun e w' => e = .returned v ∧ Below w.heap.size w w')
    (h : ∀ w3, S w3 → Below w.heap.size w w3 → HeldG n P md ops Q S Z fuel (listed.setIfInBounds i true) (a.put oi.dst v) w3) : HeldG n P md ops Q S Z (fuel + 1) listed a w :=
  grow_take D i v s hi hk hS (Or.inl ⟨hw, fun w _ => Or.inr ⟨f, args, hv w, hc w⟩⟩) h
end
end Go.Proofs.YtbbhmhihpdmoiaaGreat.Fx
set_option linter.unusedVariables false
set_option linter.unusedSimpArgs false
namespace Go.Proofs.YtbbhmhihpdmoiaaGreat.Fx
open Go Go.RowKit Wm
end Go.Proofs.YtbbhmhihpdmoiaaGreat.Fx
set_option linter.unusedVariables false
set_option linter.unusedSimpArgs false
namespace Go.Proofs.YtbbhmhihpdmoiaaGreat.Fx
open Go Go.RowKit Wm
def dsum (a v : List Int) : Nat → Int
  | 0 => 0
  | k + 1 => dsum a v k + a.getD k 0 * v.getD k 0
structure SuI (a v : List Int) (B k : Nat) (w W : World) : Prop where
  ra : RowAt 23 w.heap.size (mC a) W
  rv : RowAt 23 (w.heap.size + 1) (mC v) W
  rs : RowAt 214 B (bv (dsum a v k)) W
  below : Below w.heap.size w W
  lt : w.heap.size + 1 < B
theorem SuI.up {a v : List Int} {B k : Nat} {w W V : World} (i : SuI a v B k w W) (hb : Below W.heap.size W V) : SuI a v B k w V := ⟨i.ra.below hb, i.rv.below hb, i.rs.below hb, bnext i.below hb, i.lt⟩
theorem SuI.put {a v : List Int} {B k : Nat} {w W : World} (i : SuI a v B k w W) : SuI a v B (k + 1) w (W.setRow B (bv (dsum a v (k + 1)))) :=
  ⟨i.ra.other (by have := i.lt; omega) _, i.rv.other (by have := i.lt; omega) _, i.rs.row _, Below.row i.below (by have := i.lt; omega) _, i.lt⟩
end Go.Proofs.YtbbhmhihpdmoiaaGreat.Fx


/- The document's Apply, walked. 
  The document's product of matrices, walked. -/
set_option linter.unusedVariables false
set_option linter.unusedSimpArgs false
namespace Go.Proofs.YtbbhmhihpdmoiaaGreat.Fx
open Go Go.RowKit Wm
theorem size4 : (Tryz.prog.info? 23).map (·.size) = some 4 := by kernel_rfl
end Go.Proofs.YtbbhmhihpdmoiaaGreat.Fx
set_option linter.unusedVariables false
set_option linter.unusedSimpArgs false
namespace Go.Proofs.YtbbhmhihpdmoiaaGreat.Fx
open Go Go.RowKit Wm
def colX (a b : List Int) (c r : Nat) : Int := ((colO a b c).getD []).getD r 0
def outL (a b : List Int) (c r : Nat) : List Int := (List.range 16).map fun p => if p % 4 < c ∨ (p % 4 = c ∧ p / 4 < r) then colX a b (p % 4) (p / 4) else 0
theorem outL_step (a b : List Int) (c r : Nat) (hc : c < 4) (hr : r < 4) : (outL a b c r).set (r * 4 + c) (colX a b c r) = outL a b c (r + 1) := by
  have hd : c = 0 ∨ c = 1 ∨ c = 2 ∨ c = 3 := by omega
  have he : r = 0 ∨ r = 1 ∨ r = 2 ∨ r = 3 := by omega
  rcases hd with rfl | rfl | rfl | rfl <;> rcases he with rfl | rfl | rfl | rfl <;> rfl
structure MzI (a b : List Int) (B c r : Nat) (w W : World) : Prop where
  ra : RowAt 25 w.heap.size (mC a) W
  rb : RowAt 25 (w.heap.size + 1) (mC b) W
  rr : RowAt 25 (w.heap.size + 1 + 1) (mC zero16) W
  ro : RowAt 25 B (mC (outL a b c r)) W
  below : Below w.heap.size w W
  lt : w.heap.size + 1 + 1 < B
theorem MzI.up {a b : List Int} {B c r : Nat} {w W V : World} (i : MzI a b B c r w W) (hb : Below W.heap.size W V) : MzI a b B c r w V := ⟨i.ra.below hb, i.rb.below hb, i.rr.below hb, i.ro.below hb, bnext i.below hb, i.lt⟩
theorem RowAt.otherC {t : TypeId} {g k j : Nat} {cs : Array Value} {W : World} (h : RowAt t g cs W) (hk : g ≠ k) (v : Value) : RowAt t g cs (W.setCell ⟨k, j, none⟩ v) := by unfold RowAt; rw [heap_setCell_other _ _ _ _ (by show g ≠ k; exact hk)]; exact h
theorem MzI.next {a b : List Int} {B c r : Nat} {w W : World} (i : MzI a b B c r w W) (hc : c < 4) (hr : r < 4) : MzI a b B c (r + 1) w (W.setCell ⟨B, r * 4 + c, none⟩ (.int .i64 (colX a b c r))) := by
  have hB := i.lt
  refine ⟨i.ra.otherC (by omega) _, i.rb.otherC (by omega) _, i.rr.otherC (by omega) _, ?_, i.below.setCell (p := ⟨B, r * 4 + c, none⟩) (by show _ ≤ B; omega) _, hB⟩
  have := heap_setCell_same _ _ (r * 4 + c) _ _ (.int .i64 (colX a b c r)) i.ro
  unfold RowAt
  rw [this, mC_put, outL_step _ _ _ _ hc hr]
end Go.Proofs.YtbbhmhihpdmoiaaGreat.Fx


/- Rules of matrices of the document's holds, walked; holds for each rule. 
  The first rule that a scene breaks, and by which object: the document's Wrong, Check, walked. -/
set_option linter.unusedVariables false
set_option linter.unusedSimpArgs false
namespace Go.Proofs.YtbbhmhihpdmoiaaGreat.Fx
open Go Go.RowKit
def keep5 (s : ScR) (x : ObjR) (k : Nat) : Bool := wB 16777216 x.m 16
def mayB (o : Option (List Int)) : Bool := match o with
  | none => false
  | some m => wB 67108864 m 16
def keep6 (s : ScR) (x : ObjR) (k : Nat) : Bool := mayB (mulO s.cam x.m)
theorem sizeM {m : List Int} (h : m.length = 16) : (Tryz.prog.info? 25).map (·.size) = some (m.map encI).length := by rw [size16, List.length_map, h]
theorem range_mC {V : World} {b : Nat} {m : List Int} {t : TypeId} {fr : Nat × Nat} (h : V.heap[b]? = some (.cells (mC m) t fr)) : V.rangeAt b 0 (m.map encI) := fun j v hj => by
  rw [cell_of_row _ _ _ _ _ _ h, Nat.zero_add]
  simpa [mC] using hj
theorem mulO_len {a b m : List Int} (h : mulO a b = some m) : m.length = 16 := by
  unfold mulO at h
  split at h
  · cases h; rfl
  · cases h
/-- does an object keep a rule? -/
def keepZ (s : ScR) (x : ObjR) (k r : Nat) : Bool := if r = 4 then keep4 s x k else if r = 5 then keep5 s x k else if r = 6 then keep6 s x k else if r = 7 then keep7 s x k else keep8 s x k
end Go.Proofs.YtbbhmhihpdmoiaaGreat.Fx
set_option linter.unusedVariables false
set_option linter.unusedSimpArgs false
namespace Go.Proofs.YtbbhmhihpdmoiaaGreat.Fx
open Go Go.RowKit
/-- does the object at a place break a rule? -/
def badAt (s : ScR) (r k : Nat) : Bool := match s.os[k]? with
  | some x => !keepZ s x k r
  | none => false
def badIn (s : ScR) (r : Nat) : Option Nat := (List.range s.os.length).find? (badAt s r)
def sizeB (s : ScR) : Bool := decide (s.w < 1) || decide (64 < s.w) || decide (s.h < 1) || decide (64 < s.h)
def wrongZ (s : ScR) : Int × Int :=
  if sizeB s = true then (1, -1) else if wB 16777216 s.cam 16 = false then (2, -1) else if 16 < s.os.length then (3, -1) else
  (([4, 5, 6, 7, 8] : List Nat).findSome? fun r => (badIn s r).map fun k => ((r : Int), (k : Int))).getD (0, -1)
theorem badIn_none {s : ScR} {r : Nat} (h : ∀ k, k < s.os.length → badAt s r k = false) : badIn s r = none := by
  unfold badIn
  rw [List.find?_eq_none]
  intro k hk
  rw [h k (by simpa using hk)]
  simp
theorem badIn_some {s : ScR} {r k : Nat} (hk : k < s.os.length) (h : ∀ j, j < k → badAt s r j = false) (hb : badAt s r k = true) : badIn s r = some k := by
  unfold badIn
  rw [List.find?_eq_some_iff_append]
  refine ⟨hb, List.range k, (List.range (s.os.length - k - 1)).map (· + (k + 1)), ?_, ?_⟩
  · rw [show s.os.length = k + (1 + (s.os.length - k - 1)) by omega, List.range_add, List.range_add]
    simp
    intro a ha
    omega
  · intro j hj
    rw [h j (by simpa using hj)]
    rfl
theorem wrong_at {s : ScR} {r k : Nat} (h1 : sizeB s = false) (h2 : wB 16777216 s.cam 16 = true) (h3 : s.os.length ≤ 16) (h4 : 4 ≤ r) (h8 : r ≤ 8) (hn : ∀ q, 4 ≤ q → q < r → badIn s q = none) (hb : badIn s r = some k) : wrongZ s = ((r : Int), (k : Int)) := by
  unfold wrongZ
  rw [if_neg (by simp [h1]), if_neg (by simp [h2]), if_neg (by omega)]
  obtain rfl | rfl | rfl | rfl | rfl : r = 4 ∨ r = 5 ∨ r = 6 ∨ r = 7 ∨ r = 8 := by omega
  · simp [List.findSome?, hb]
  · simp [List.findSome?, hb, hn 4 (by omega) (by omega)]
  · simp [List.findSome?, hb, hn 4 (by omega) (by omega), hn 5 (by omega) (by omega)]
  · simp [List.findSome?, hb, hn 4 (by omega) (by omega), hn 5 (by omega) (by omega), hn 6 (by omega) (by omega)]
  · simp [List.findSome?, hb, hn 4 (by omega) (by omega), hn 5 (by omega) (by omega), hn 6 (by omega) (by omega), hn 7 (by omega) (by omega)]
theorem wrong_not {s : ScR} (h1 : sizeB s = false) (h2 : wB 16777216 s.cam 16 = true) (h3 : s.os.length ≤ 16) (hn : ∀ q, 4 ≤ q → q < 9 → badIn s q = none) : wrongZ s = (0, -1) := by
  unfold wrongZ
  rw [if_neg (by simp [h1]), if_neg (by simp [h2]), if_neg (by omega)]
  simp [List.findSome?, hn 4 (by omega) (by omega), hn 5 (by omega) (by omega), hn 6 (by omega) (by omega), hn 7 (by omega) (by omega), hn 8 (by omega) (by omega)]
/-- a scene in its row -/
structure WrI (s : ScR) (w V : World) : Prop where
  sc : ScAt w.heap.size s V
  ob : ObjsAt V s.oo s.os
  bel : Below w.heap.size w V
theorem WrI.up {s : ScR} {w V X : World} (i : WrI s w V) (hb : Below V.heap.size V X) : WrI s w X := ⟨i.sc.below hb, i.ob.below hb, bnext i.bel hb⟩
theorem WrI.new {s : ScR} {w : World} (h : ObjsAt w s.oo s.os) : WrI s w (w.alloc (.cells (scC s) 28)) :=
  ⟨ScAt.new w s, h.below (by go_grown), by go_grown⟩
theorem WrI.all {s : ScR} {w V : World} (i : WrI s w V) : V.rangeAt w.heap.size 0 (scL s) := fun j v hj => by
  rw [Nat.zero_add]
  exact i.sc.at.trans hj
def RetWrong (p : Int × Int) (w : World) (e : Ending) (w' : World) : Prop := e = .returned (.tuple #[.int .i64 p.1, .int .i64 p.2]) ∧ Below w.heap.size w w'
def okZ (s : ScR) : Bool := decide ((wrongZ s).1 = 0)
end Go.Proofs.YtbbhmhihpdmoiaaGreat.Fx


/- Lists of numbers that a call made itself; all IDs, rising: the document's IDs; two lists of numbers: Ints; walked. -/
set_option linter.unusedVariables false
set_option linter.unusedSimpArgs false
namespace Go.Proofs.YtbbhmhihpdmoiaaGreat.Fx
open Go Go.RowKit
def OwnN (W : World) (B : Nat) (v : Value) (l : List Int) : Prop := W.ownsRow B 3 1 v l.length (l.map encI)
theorem OwnN.below {w W : World} {B : Nat} {v : Value} {l : List Int} (h : Below w.heap.size w W) (s : OwnN w B v l) : OwnN W B v l := by
  obtain ⟨h1, h2⟩ := s
  refine ⟨h1, ?_⟩
  rcases h2 with h2 | ⟨g, cap, cur, e, hb, hg, h3⟩
  · exact Or.inl h2
  · exact Or.inr ⟨g, cap, cur, e, hb, keep_row h hg, h3⟩
theorem OwnN.alloc {w : World} {B : Nat} {v : Value} {l : List Int} (s : OwnN w B v l) (o : Obj) : OwnN (w.alloc o) B v l := by
  obtain ⟨h1, h2⟩ := s
  refine ⟨h1, ?_⟩
  rcases h2 with h2 | ⟨g, cap, cur, e, hb, hg, h3⟩
  · exact Or.inl h2
  · exact Or.inr ⟨g, cap, cur, e, hb, step_row hg, h3⟩
theorem OwnN.blk {w : World} {B : Nat} {v : Value} {l : List Int} (s : OwnN w B v l) : ∀ k, v.ownBlock = some k → B ≤ k := by
  intro k hk
  obtain ⟨h1, h2⟩ := s
  rcases h2 with ⟨rfl, _⟩ | ⟨g, cap, cur, rfl, hb, _⟩
  · cases hk
  · cases hk
    exact hb
theorem OwnN.base {w : World} {B C : Nat} {v : Value} {l : List Int} (hc : C ≤ B) (s : OwnN w B v l) : OwnN w C v l := by
  obtain ⟨h1, h2⟩ := s
  refine ⟨h1, ?_⟩
  rcases h2 with h2 | ⟨g, cap, cur, e, hb, hg, h3⟩
  · exact Or.inl h2
  · exact Or.inr ⟨g, cap, cur, e, Nat.le_trans hc hb, hg, h3⟩
/-- numbers behind a slice -/
def IntsAt (W : World) (o : Option Addr) (l : List Int) : Prop := ∀ i, i < l.length → ∃ b off, o = some ⟨b, off, none⟩ ∧ W.cell? ⟨b, off + i, none⟩ = some (.int .i64 (l.getD i 0))
theorem IntsAt.below {w W : World} {o : Option Addr} {l : List Int} (hb : Below w.heap.size w W) (h : IntsAt w o l) : IntsAt W o l := fun i hi => by
  obtain ⟨b, off, e, hc⟩ := h i hi
  exact ⟨b, off, e, keep_cell hb hc⟩
theorem OwnN.form {W : World} {B : Nat} {v : Value} {l : List Int} (s : OwnN W B v l) : ∃ o cap, v = .slice o l.length cap ∧ IntsAt W o l ∧ l.length ≤ maxLen := by
  obtain ⟨h1, h2⟩ := s
  rcases h2 with ⟨rfl, h0⟩ | ⟨g, cap, cur, rfl, hb, hg, hle, hm, hsz, htk⟩
  · exact ⟨none, 0, by rw [h0], fun i hi => by omega, by omega⟩
  · refine ⟨some ⟨g, 0, none⟩, cap, rfl, fun i hi => ⟨g, 0, rfl, ?_⟩, Nat.le_trans hle hm⟩
    rw [cell_of_row _ _ _ _ _ _ hg, Nat.zero_add]
    have h3 : (l.map encI)[i]? = some (.int .i64 (l.getD i 0)) := by
      rw [List.getElem?_map, List.getElem?_eq_getElem hi]
      simp [encI, List.getD, List.getElem?_eq_getElem hi]
    rw [← htk, List.getElem?_take, if_pos (by omega)] at h3
    simpa using h3
theorem below_grown2 {B : Nat} {W X Y : World} {row : Option Nat} (hB : B ≤ W.heap.size) (hb : Below B W X) (hg : X.grownBy Y row) (hr : ∀ k, row = some k → B ≤ k) : Below B W Y :=
  ⟨hg.os.trans hb.os, hg.tape.trans hb.tape, hg.output.trans hb.output, Nat.le_trans hb.size hg.size, fun k hk => (hg.block k (Nat.lt_of_lt_of_le hk (Nat.le_trans hB hb.size)) (fun e => by have := hr k e.symm; omega)).trans (hb.block k hk)⟩
end Go.Proofs.YtbbhmhihpdmoiaaGreat.Fx


/- Both matrices of an object: the document's Both, walked; two lists of numbers. -/
set_option linter.unusedVariables false
set_option linter.unusedSimpArgs false
namespace Go.Proofs.YtbbhmhihpdmoiaaGreat.Fx
open Go Go.RowKit
theorem exec_load_mid {P : Program} {o : Oper} {a : Act} {w : World} (ty : TypeId) (x : Operand) (ho : o.op = .load ty x)
    (b off : Nat) (hx : a.eval x = .pointer (some ⟨b, off, none⟩)) (cs : List Value) (d : TypeDesc) (hc : w.rangeAt b off cs)
    (hu : P.underlying ty = some d) (hd : d.isRow = true) (hi : (P.info? ty).map (·.size) = some cs.length) :
    (execOp a.eval o).run P w = .ok (.value (.agg cs.toArray)) w := by
  unfold execOp
  simp only [ho, hx, Instr.loadAt, Instr.sureAddr, Sem.run_bind, Sem.run_pure, Result.andThen_ok, run_loadVar_mid w b off ty cs d hc hu hd hi]
def bothO (s : ScR) (k : Int) : Option (List Int) := if 0 ≤ k ∧ k < (s.os.length : Int) then (s.os[k.toNat]?).bind fun x => mulO s.cam x.m else none
def RetBoth (o : Option (List Int)) (w : World) (e : Ending) (w' : World) : Prop := e = .returned (.tuple #[.agg (mC (o.getD zero16)), .int .i64 (if o.isSome then 0 else 60)]) ∧ Below w.heap.size w w'
structure BoI (s : ScR) (w V : World) : Prop where
  sc : ScAt w.heap.size s V
  rr : RowAt 25 (w.heap.size + 1) (mC zero16) V
  ob : ObjsAt V s.oo s.os
  bel : Below w.heap.size w V
theorem BoI.up {s : ScR} {w V X : World} (i : BoI s w V) (hb : Below V.heap.size V X) : BoI s w X := ⟨i.sc.below hb, i.rr.below hb, i.ob.below hb, bnext i.bel hb⟩
theorem BoI.new {s : ScR} {w : World} (h : ObjsAt w s.oo s.os) : BoI s w ((w.alloc (.cells (scC s) 28)).alloc (.cells #[.int .i64 0, .int .i64 0, .int .i64 0, .int .i64 0, .int .i64 0, .int .i64 0, .int .i64 0, .int .i64 0, .int .i64 0, .int .i64 0, .int .i64 0, .int .i64 0, .int .i64 0, .int .i64 0, .int .i64 0, .int .i64 0] 25)) := by
  have hB : Below w.heap.size w ((w.alloc (.cells (scC s) 28)).alloc (.cells #[.int .i64 0, .int .i64 0, .int .i64 0, .int .i64 0, .int .i64 0, .int .i64 0, .int .i64 0, .int .i64 0, .int .i64 0, .int .i64 0, .int .i64 0, .int .i64 0, .int .i64 0, .int .i64 0, .int .i64 0, .int .i64 0] 25)) := by go_grown
  refine ⟨step_row (ScAt.new w s), ?_, h.below hB, hB⟩
  have := heap_alloc_new (w.alloc (.cells (scC s) 28)) (.cells #[.int .i64 0, .int .i64 0, .int .i64 0, .int .i64 0, .int .i64 0, .int .i64 0, .int .i64 0, .int .i64 0, .int .i64 0, .int .i64 0, .int .i64 0, .int .i64 0, .int .i64 0, .int .i64 0, .int .i64 0, .int .i64 0] 25)
  rw [World.size_alloc] at this
  exact this
end Go.Proofs.YtbbhmhihpdmoiaaGreat.Fx


/- The library's Equal at vertices and at triangles, walked. -/
set_option linter.unusedVariables false
set_option linter.unusedSimpArgs false
namespace Go.Proofs.YtbbhmhihpdmoiaaGreat.Fx
open Go Go.RowKit
theorem takeq {α : Type} {a b : List α} {k : Nat} {x y : α} (hx : a[k]? = some x) (hy : b[k]? = some y) (h : a.take k = b.take k) (e : x = y) : a.take (k + 1) = b.take (k + 1) := by
  rw [List.take_add_one, List.take_add_one, h, hx, hy, e]
theorem takne {α : Type} [DecidableEq α] {a b : List α} {k : Nat} {x y : α} (hx : a[k]? = some x) (hy : b[k]? = some y) (e : x ≠ y) : decide (a = b) = false :=
  decide_eq_false fun h => e (by rw [h] at hx; exact Option.some.inj (hx.symm.trans hy))
theorem takall {α : Type} [DecidableEq α] {a b : List α} {n : Nat} (ha : a.length = n) (hb : b.length = n) (h : a.take n = b.take n) : decide (a = b) = true :=
  decide_eq_true (by rw [List.take_of_length_le (by omega), List.take_of_length_le (by omega)] at h; exact h)
end Go.Proofs.YtbbhmhihpdmoiaaGreat.Fx

