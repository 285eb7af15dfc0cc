import Derived.Laws.Rows
import Derived.Test.YtbbhmhihpdmoiaaGreatProg
import Derived.OwnWalkIn
import Derived.Laws.OwnMore
import Derived.Laws.AppendOwn
import Derived.Great.BuildSlice
import Derived.Test.YtbbhmhihpdmoiaaGreatMv01
import Derived.Test.YtbbhmhihpdmoiaaGreatMv06
import Derived.Test.YtbbhmhihpdmoiaaGreatMv22
import Derived.Test.YtbbhmhihpdmoiaaGreatMv25
set_option linter.unusedVariables false
set_option linter.unusedSimpArgs false
namespace Go.Proofs.YtbbhmhihpdmoiaaGreat.Fx
open Go Go.RowKit
section
variable {α : Type} {t : TypeId} {n : Nat} {f : α → List Value}
def OwnG (t : TypeId) (n : Nat) (f : α → List Value) (W : World) (B : Nat) (v : Value) (l : List α) : Prop := W.ownsRow B t n v l.length (l.flatMap f)
theorem OwnG.below {w W : World} {B : Nat} {v : Value} {l : List α} (h : Below w.heap.size w W) (s : OwnG t n f w B v l) : OwnG t n f W B v l := by
 obtain ⟨h1, h2⟩ := s
 refine ⟨h1, ?_⟩
 rcases h2 with h2 | ⟨g, cap, cur, e, hb, hg, h3⟩
 ·exact Or.inl h2
 ·exact Or.inr ⟨g, cap, cur, e, hb, keep_row h hg, h3⟩
theorem OwnG.kept {B C : Nat} {v : Value} {l : List α} {W X : World} (s : OwnG t n f W C v l) (k : Kept B W X) : OwnG t n f X C v l := by
 obtain ⟨h1, h2⟩ := s
 refine ⟨h1, ?_⟩
 rcases h2 with h2 | ⟨g, cap, cur, e, hb, hg, h3⟩
 ·exact .inl h2
 ·exact .inr ⟨g, cap, cur, e, hb, k.cells hg, h3⟩
theorem OwnG.blk {w : World} {B : Nat} {v : Value} {l : List α} (s : OwnG t n f w B v l) : ∀ k, v.ownBlock = some k → B ≤ k := by
 intro k hk
 obtain ⟨h1, h2⟩ := s
 rcases h2 with ⟨rfl, _⟩ | ⟨g, cap, cur, rfl, hb, _⟩
 ·cases hk
 ·cases hk
  exact hb
theorem OwnG.lt {w : World} {B : Nat} {v : Value} {l : List α} (s : OwnG t n f w B v l) : ∀ k, v.ownBlock = some k → k < w.heap.size := by
 intro k hk
 obtain ⟨h1, h2⟩ := s
 rcases h2 with ⟨rfl, _⟩ | ⟨g, cap, cur, rfl, hb, hg, _⟩
 ·cases hk
 ·cases hk
  exact (Array.getElem?_eq_some_iff.1 hg).1
theorem OwnG.row {w : World} {B : Nat} {v : Value} {l : List α} (s : OwnG t n f w B v l) : ∀ k, v.ownBlock = some k → ∃ cur, w.heap[k]? = some (.cells cur t (0, 0)) := by
 intro k hk
 obtain ⟨h1, h2⟩ := s
 rcases h2 with ⟨rfl, _⟩ | ⟨g, cap, cur, rfl, hb, hg, _⟩
 ·cases hk
 ·cases hk
  exact ⟨cur, hg⟩
theorem OwnG.base {w : World} {B C : Nat} {v : Value} {l : List α} (hc : C ≤ B) (s : OwnG t n f w B v l) : OwnG t n f w C v l := by
 obtain ⟨h1, h2⟩ := s
 refine ⟨h1, ?_⟩
 rcases h2 with h2 | ⟨g, cap, cur, e, hb, hg, h3⟩
 ·exact Or.inl h2
 ·exact Or.inr ⟨g, cap, cur, e, Nat.le_trans hc hb, hg, h3⟩
theorem OwnG.cellset {B m j : Nat} {v u : Value} {l : List α} {W : World} (s : OwnG t n f W B v l) (hm : v.ownBlock ≠ some m) : OwnG t n f (W.setCell ⟨m, j, none⟩ u) B v l := by
 obtain ⟨h1, h2⟩ := s
 refine ⟨h1, ?_⟩
 rcases h2 with h2 | ⟨g, cap, cur, e, hb, hg, h3⟩
 ·exact .inl h2
 ·subst e
  exact .inr ⟨g, cap, cur, rfl, hb, by rw [heap_setCell_other _ _ _ _ (by intro e; exact hm (by show some g = some m; rw [show g = m from e]))]; exact hg, h3⟩
theorem OwnG.grown {B : Nat} {v : Value} {l : List α} {W X : World} {row : Option Nat} (s : OwnG t n f W B v l) (hg : W.grownBy X row) (hr : ∀ k, row = some k → v.ownBlock ≠ some k) : OwnG t n f X B v l := by
 obtain ⟨h1, h2⟩ := s
 refine ⟨h1, ?_⟩
 rcases h2 with h2 | ⟨g, cap, cur, e, hb, hgg, h3⟩
 ·exact .inl h2
 ·subst e
  exact .inr ⟨g, cap, cur, rfl, hb, by rw [hg.block g (Array.getElem?_eq_some_iff.1 hgg).1 (fun e => hr g e.symm rfl)]; exact hgg, h3⟩
theorem OwnG.nil (t : TypeId) (n : Nat) (f : α → List Value) (W : World) (B : Nat) : OwnG t n f W B (.slice none 0 0) [] := ⟨by simp, .inl ⟨rfl, rfl⟩⟩
theorem flatG_at {l : List α} (hl : ∀ x ∈ l, (f x).length = n) : ∀ {k : Nat} {x : α}, l[k]? = some x → ∀ j v, (f x)[j]? = some v → (l.flatMap f)[k * n + j]? = some v := by
 induction l with
 | nil => intro k x h; simp at h
 | cons y tl ih =>
  intro k x h j v hv
  have hy := hl y (by simp)
  rw [List.flatMap_cons]
  cases k with
  | zero =>
   simp at h
   subst h
   rw [Nat.zero_mul, Nat.zero_add, List.getElem?_append_left (List.getElem?_eq_some_iff.1 hv).1]
   exact hv
  | succ k =>
   have hk : (k + 1) * n + j - n = k * n + j := by rw [Nat.add_mul]; omega
   rw [List.getElem?_append_right (by rw [hy, Nat.add_mul]; omega), hy, hk]
   exact ih (fun z hz => hl z (by simp [hz])) (by simpa using h) j v hv
theorem flatG_len {l : List α} (hl : ∀ x ∈ l, (f x).length = n) : (l.flatMap f).length = l.length * n := by
 induction l with
 | nil => simp
 | cons y tl ih =>
  rw [List.flatMap_cons, List.length_append, hl y (by simp), ih (fun z hz => hl z (by simp [hz])), List.length_cons, Nat.add_mul]
  omega
structure LiesG (t : TypeId) (n : Nat) (f : α → List Value) (W : World) (B : Nat) (o : Option Addr) (l : List α) : Prop where
 at_ : ∀ k z, l[k]? = some z → ∃ g cur, o = some ⟨g, 0, none⟩ ∧ B ≤ g ∧ W.heap[g]? = some (.cells cur t (0, 0)) ∧ l.length * n ≤ cur.size ∧ W.rangeAt g (0 + k * n) (f z)
theorem OwnG.form {W : World} {B : Nat} {v : Value} {l : List α} (s : OwnG t n f W B v l) (hl : ∀ x ∈ l, (f x).length = n) : ∃ o cap, v = .slice o l.length cap ∧ CapOk o l.length cap ∧ LiesG t n f W B o l := by
 obtain ⟨h1, h2⟩ := s
 rcases h2 with ⟨rfl, h0⟩ | ⟨g, cap, cur, rfl, hb, hg, hle, hm, hsz, htk⟩
 ·refine ⟨none, 0, by rw [h0], ⟨⟨by omega, by omega⟩, fun _ => rfl⟩, ⟨fun k z hk => ?_⟩⟩
  have := (List.getElem?_eq_some_iff.1 hk).1
  omega
 ·unfold maxLen at hm
  refine ⟨some ⟨g, 0, none⟩, cap, rfl, ⟨⟨hle, by omega⟩, fun h => by cases h⟩, ⟨fun k z hk => ⟨g, cur, rfl, hb, hg, by rw [hsz]; exact Nat.mul_le_mul_right n hle, ?_⟩⟩⟩
  intro j u hj
  have hf := flatG_at hl hk j u hj
  rw [cell_of_row _ _ _ _ _ _ hg, Nat.zero_add]
  rw [← htk, List.getElem?_take] at hf
  split at hf
  ·simpa using hf
  ·cases hf
theorem LiesG.list {W : World} {B : Nat} {o : Option Addr} {l : List α} (s : LiesG t n f W B o l) : ListAt (fun b j z => W.rangeAt b j (f z)) n o l := fun k z hk => by
 obtain ⟨g, cur, e, _, _, _, h⟩ := s.at_ k z hk
 exact ⟨g, 0, e, h⟩
theorem src_at {W : World} {ad : Addr} {l : List α} (hn : 0 < n) (hs : ListAt (fun b j z => W.rangeAt b j (f z)) n (some ad) l) (hl : ∀ x ∈ l, (f x).length = n) : ∀ j u, (l.flatMap f)[j]? = some u → W.cell? (ad.add j) = some u := by
 intro j u hj
 have hjl : j < l.length * n := by
  rw [← flatG_len hl]
  exact (List.getElem?_eq_some_iff.1 hj).1
 have hk : j / n < l.length := (Nat.div_lt_iff_lt_mul hn).2 hjl
 obtain ⟨z, hz⟩ : ∃ z, l[j / n]? = some z := ⟨_, List.getElem?_eq_getElem hk⟩
 obtain ⟨b, off, e, hr⟩ := hs _ z hz
 cases e
 have hzl := hl z (List.mem_of_getElem? hz)
 have hm : j % n < (f z).length := by rw [hzl]; exact Nat.mod_lt _ hn
 have h1 := flatG_at hl hz (j % n) _ (List.getElem?_eq_getElem hm)
 have hjj : j / n * n + j % n = j := by rw [Nat.mul_comm]; exact Nat.div_add_mod j n
 rw [hjj, hj] at h1
 have h2 := hr (j % n) _ (List.getElem?_eq_getElem hm)
 rw [Nat.add_assoc, hjj, ← h1] at h2
 rw [Addr.add_lit]
 exact h2
structure InfoG (t : TypeId) (n bytes : Nat) : Prop where
 pos : 0 < n
 few : bytes ≤ 1000
 get : ∃ i z, Tryz.prog.info? t = some i ∧ i.zero = some z ∧ i.size = n ∧ i.bytes = bytes ∧ z.cells.size = n
theorem InfoG.of {t : TypeId} {n bytes : Nat} (hp : 0 < n) (hf : bytes ≤ 1000) (hm : (Tryz.prog.info? t).map (fun i => (i.zero.map (fun z => z.cells.size), i.size, i.bytes)) = some (some n, n, bytes)) : InfoG t n bytes := by
 refine ⟨hp, hf, ?_⟩
 cases hi : Tryz.prog.info? t with
 | none => rw [hi] at hm; cases hm
 | some i =>
  rw [hi] at hm
  simp only [Option.map_some, Option.some.injEq, Prod.mk.injEq] at hm
  obtain ⟨hz, hs, hb⟩ := hm
  cases hzz : i.zero with
  | none => rw [hzz] at hz; cases hz
  | some z =>
   rw [hzz] at hz
   exact ⟨i, z, rfl, hzz, hs, hb, by simpa using hz⟩
theorem run_appG {bytes : Nat} (hi : InfoG t n bytes) (ts ty : TypeId) (hu : Tryz.prog.underlying ts = some (.slice t)) (W : World) (B : Nat) (v : Value) (L M : List α) (hB : B ≤ W.heap.size) (hown : OwnG t n f W B v L) (ox : Option Addr) (c : Nat)
  (hc : ox = none → c = 0) (hsrc : ListAt (fun b j z => W.rangeAt b j (f z)) n ox M) (hlen : ∀ z ∈ M, (f z).length = n) (hone : ∀ z ∈ M, ∀ u ∈ f z, u.oneCell' = true) (hL : L.length + M.length ≤ 1000000) :
  ∃ v' X, (Builtin.append_ #[ts, ts] ty #[v, .slice ox M.length c]).run Tryz.prog W = .ok v' X ∧ OwnG t n f X B v' (L ++ M) ∧ W.grownBy X v.ownBlock := by
 obtain ⟨i, z, h2, h3, h4, h5, h6⟩ := hi.get
 cases ox with
 | none =>
  have hM : M = [] := by
   cases M with
   | nil => rfl
   | cons y tl =>
    obtain ⟨b, off, e, _⟩ := hsrc 0 y rfl
    cases e
  subst hM
  rw [hc rfl]
  refine ⟨v, W, run_append_owned_none (P := Tryz.prog) (w := W) B ts ty t i n hu h2 v L.length (L.flatMap f) hown, by rw [List.append_nil]; exact hown, ⟨rfl, rfl, rfl, Nat.le_refl _, fun _ _ _ => rfl⟩⟩
 | some ad =>
  have hb : (L.length + M.length) * bytes ≤ 1000000 * 1000 := Nat.mul_le_mul hL hi.few
  obtain ⟨v', X, hrun, r1, r2, r3⟩ := run_append_own (P := Tryz.prog) W B ts ty t i z n bytes hu h2 h3 h4 h5 h6 hi.pos v L.length (L.flatMap f) hown ad M.length c (M.flatMap f) (flatG_len hlen) (src_at hi.pos hsrc hlen)
   (fun u hu => by obtain ⟨z, hz, hzu⟩ := List.mem_flatMap.1 hu; exact hone z hz u hzu) (by unfold maxLen; omega) (by omega) hB
  exact ⟨v', X, hrun, by unfold OwnG; rw [List.length_append, List.flatMap_append]; exact r1, r2⟩
theorem app_G {bytes : Nat} (hi : InfoG t n bytes) {ops : Array Oper} {rest : List Oper} {o : Oper} {a : Act} {Q : Exit → Act → World → Prop} {W : World} (hgd : o.guard = none) (sx x : Operand) (ts : TypeId)
  (ho : o.op = .call { callee := .builtin .append, args := #[sx, x], argTypes := #[ts, ts] }) (hu : Tryz.prog.underlying ts = some (.slice t)) (B : Nat) (v : Value) (L M : List α) (hs : a.eval sx = v) (hB : B ≤ W.heap.size) (hown : OwnG t n f W B v L)
  (ox : Option Addr) (c : Nat) (hx : a.eval x = .slice ox M.length c) (hc : ox = none → c = 0) (hsrc : ListAt (fun b j z => W.rangeAt b j (f z)) n ox M) (hlen : ∀ z ∈ M, (f z).length = n) (hone : ∀ z ∈ M, ∀ u ∈ f z, u.oneCell' = true) (hL : L.length + M.length ≤ 1000000)
  (h : ∀ v' X, OwnG t n f X B v' (L ++ M) → W.grownBy X v.ownBlock → Hid (wpList Tryz.prog ops Q rest (a.put o.dst v') X)) :
  wpList Tryz.prog ops Q (o :: rest) a W := by
 obtain ⟨v', X, hrun, r1, r2⟩ := run_appG hi ts o.type hu W B v L M hB hown ox c hc hsrc hlen hone hL
 refine wpList_plain hgd fun K hK' => ?_
 unfold Oper.wp
 simp [execOp, ho, resolve, invoke, builtin, hs, hx, hrun, Result.andThen]
 exact hK' _ _ (h v' X r1 r2).out
theorem one_src {W : World} {g : Nat} {z : α} (h : W.heap[g]? = some (.cells (f z).toArray t (0, 0))) : ListAt (fun b j z => W.rangeAt b j (f z)) n (some ⟨g, 0, none⟩) [z] := fun k y hk => by
 have h0 : k = 0 := by have := (List.getElem?_eq_some_iff.1 hk).1; simp at this; omega
 subst h0
 simp at hk
 subst hk
 refine ⟨g, 0, rfl, fun j u hj => ?_⟩
 rw [cell_of_row _ _ _ _ _ _ h]
 simpa using hj
theorem run_buildOne {bytes : Nat} (hi : InfoG t n bytes) (hm : n ≤ 1000) (ts : TypeId) (hu : Tryz.prog.underlying ts = some (.slice t)) (W : World) (cs : Array Value) (hc : cs.size = n) :
  (Instr.buildSlice ts 1 #[(0, .agg cs)]).run Tryz.prog W = .ok (.slice (some ⟨W.heap.size, 0, none⟩) 1 1) (W.alloc (.cells cs t)) := by
 obtain ⟨i, z, h2, h3, h4, h5, h6⟩ := hi.get
 refine run_buildSlice W ts t 1 _ cs i z hu h2 h3 (by rw [h4]; omega) (by rw [h4]; have := hi.pos; omega) ?_
 rw [h4]
 have := Great.fill_whole hi.pos [.agg cs] ((Array.range (1 * n)).map (z.cells[· % z.cells.size]!)) (fun v hv => by simp at hv; subst hv; exact hc) (by simp)
 simpa [Value.cells] using this
theorem build_one {bytes : Nat} (hi : InfoG t n bytes) (hm : n ≤ 1000) {ops : Array Oper} {rest : List Oper} {o : Oper} {a : Act} {Q : Exit → Act → World → Prop} {W : World} (hgd : o.guard = none) (x : Operand) (ts : TypeId)
  (ho : o.op = .buildSlice ts 1 #[(0, x)]) (hu : Tryz.prog.underlying ts = some (.slice t)) (cs : Array Value) (hx : a.eval x = .agg cs) (hc : cs.size = n)
  (h : wpList Tryz.prog ops Q rest (a.put o.dst (.slice (some ⟨W.heap.size, 0, none⟩) 1 1)) (W.alloc (.cells cs t))) :
  wpList Tryz.prog ops Q (o :: rest) a W := by
 have hrun := run_buildOne hi hm ts hu W cs hc
 refine wpList_plain hgd fun K hK' => ?_
 unfold Oper.wp
 simp [execOp, ho, hx, hrun, Result.andThen]
 exact hK' _ _ h
end
theorem vert_len {l : List (List Int)} (h : ∀ x ∈ l, VertWf x) : ∀ x ∈ l, (x.map encI).length = 3 := fun x hx => by rw [List.length_map]; exact (h x hx).len
theorem enc_one (x : List Int) : ∀ u ∈ x.map encI, u.oneCell' = true := fun u hu => by
 obtain ⟨z, _, rfl⟩ := List.mem_map.1 hu
 rfl
theorem tri_one (x : TriR) : ∀ u ∈ triL x, u.oneCell' = true := fun u hu => by
 simp only [triL, List.mem_cons, List.not_mem_nil, or_false] at hu
 rcases hu with rfl | rfl | rfl | rfl <;> rfl
theorem obj_one1 (x : ObjR) : ∀ u ∈ objL x, u.oneCell' = true := fun v hv => by
 simp only [objL, List.mem_cons, List.mem_append, List.mem_map, List.not_mem_nil, or_false] at hv
 rcases hv with rfl | ⟨z, _, rfl⟩ | rfl | rfl <;> rfl
theorem infoGv : InfoG 85 3 24 := InfoG.of (by omega) (by omega) (by kernel_rfl)
theorem infoGt : InfoG 87 4 32 := InfoG.of (by omega) (by omega) (by kernel_rfl)
theorem infoGo : InfoG 73 19 184 := InfoG.of (by omega) (by omega) (by kernel_rfl)
theorem VertsAt.src {W : World} {o : Option Addr} {l : List (List Int)} (h : VertsAt W o l) : ListAt (fun b j z => W.rangeAt b j (z.map encI)) 3 o l := fun k z hk => by
 obtain ⟨b, off, e, h1, _⟩ := h k z hk
 exact ⟨b, off, e, h1⟩
theorem TrisAt.src {W : World} {o : Option Addr} {l : List TriR} (h : TrisAt W o l) : ListAt (fun b j z => W.rangeAt b j (triL z)) 4 o l := fun k z hk => by
 obtain ⟨b, off, e, h1, _⟩ := h k z hk
 exact ⟨b, off, e, h1⟩
theorem VertsAt.wf {W : World} {o : Option Addr} {l : List (List Int)} (h : VertsAt W o l) : ∀ x ∈ l, VertWf x := fun x hx => by
 obtain ⟨k, hk⟩ := List.getElem?_of_mem hx
 obtain ⟨_, _, _, _, hw⟩ := h k x hk
 exact hw
theorem TrisAt.wf {W : World} {o : Option Addr} {l : List TriR} (h : TrisAt W o l) : ∀ x ∈ l, TriWf x := fun x hx => by
 obtain ⟨k, hk⟩ := List.getElem?_of_mem hx
 obtain ⟨_, _, _, _, hw⟩ := h k x hk
 exact hw
theorem LiesG.verts {W : World} {B : Nat} {o : Option Addr} {l : List (List Int)} (s : LiesG 85 3 (fun x => x.map encI) W B o l) (hw : ∀ x ∈ l, VertWf x) : VertsAt W o l := fun k z hk => by
 obtain ⟨g, cur, e, _, _, _, h⟩ := s.at_ k z hk
 exact ⟨g, 0, e, h, hw z (List.mem_of_getElem? hk)⟩
theorem LiesG.tris {W : World} {B : Nat} {o : Option Addr} {l : List TriR} (s : LiesG 87 4 triL W B o l) (hw : ∀ x ∈ l, TriWf x) : TrisAt W o l := fun k z hk => by
 obtain ⟨g, cur, e, _, _, _, h⟩ := s.at_ k z hk
 exact ⟨g, 0, e, h, hw z (List.mem_of_getElem? hk)⟩
end Go.Proofs.YtbbhmhihpdmoiaaGreat.Fx

set_option linter.unusedVariables false
set_option linter.unusedSimpArgs false
namespace Go.Proofs.YtbbhmhihpdmoiaaGreat.Fx
open Go Go.RowKit Wm
def BM (k : Nat) (m : List Int) : Prop := m.length = 16 ∧ ∀ p, p < k → -67108864 ≤ m.getD p 0 ∧ m.getD p 0 ≤ 67108864
def BV (k : Nat) (v : List Int) : Prop := v.length = 4 ∧ ∀ p, p < k → -1073741824 ≤ v.getD p 0 ∧ v.getD p 0 ≤ 1073741824
theorem prod_le2 {a b : Int} (a0 : -67108864 ≤ a ∧ a ≤ 67108864) (b0 : -1073741824 ≤ b ∧ b ≤ 1073741824) : -72057594037927936 ≤ a * b ∧ a * b ≤ 72057594037927936 := by
 have h : a.natAbs * b.natAbs ≤ 67108864 * 1073741824 := Nat.mul_le_mul (by omega) (by omega)
 have e := Int.natAbs_mul a b
 omega
theorem pq_le {m v : List Int} (hm : BM 16 m) (hv : BV 4 v) (r : Nat) (hr : r < 4) : -4398046511105 ≤ pq (rowOf m r) v ∧ pq (rowOf m r) v ≤ 4398046511104 := by
 have h0 := prod_le2 (hm.2 (r * 4) (by omega)) (hv.2 0 (by omega))
 have h1 := prod_le2 (hm.2 (r * 4 + 1) (by omega)) (hv.2 1 (by omega))
 have h2 := prod_le2 (hm.2 (r * 4 + 2) (by omega)) (hv.2 2 (by omega))
 have h3 := prod_le2 (hm.2 (r * 4 + 3) (by omega)) (hv.2 3 (by omega))
 have e : dot (rowOf m r) v = m.getD (r * 4) 0 * v.getD 0 0 + m.getD (r * 4 + 1) 0 * v.getD 1 0 + m.getD (r * 4 + 2) 0 * v.getD 2 0 + m.getD (r * 4 + 3) 0 * v.getD 3 0 := rfl
 unfold pq
 rw [e]
 omega
theorem ap_small {m v : List Int} (hm : BM 16 m) (hv : BV 4 v) : apO m v = some (apRows m v) := by
 unfold apO
 rw [if_pos]
 refine ⟨wB_iff.2 fun j hj => ?_, wB_iff.2 fun j hj => ?_, wB_iff.2 fun j hj => ?_⟩
 ·have := hm.2 j hj; omega
 ·have := hv.2 j hj; omega
 ·have hd : j = 0 ∨ j = 1 ∨ j = 2 ∨ j = 3 := by omega
  rcases hd with rfl | rfl | rfl | rfl
  ·have := pq_le hm hv 0 (by omega)
   show (0 : Int) ≤ _ ∧ -4611686018427387904 ≤ pq (rowOf m 0) v ∧ pq (rowOf m 0) v ≤ 4611686018427387904
   omega
  ·have := pq_le hm hv 1 (by omega)
   show (0 : Int) ≤ _ ∧ -4611686018427387904 ≤ pq (rowOf m 1) v ∧ pq (rowOf m 1) v ≤ 4611686018427387904
   omega
  ·have := pq_le hm hv 2 (by omega)
   show (0 : Int) ≤ _ ∧ -4611686018427387904 ≤ pq (rowOf m 2) v ∧ pq (rowOf m 2) v ≤ 4611686018427387904
   omega
  ·have := pq_le hm hv 3 (by omega)
   show (0 : Int) ≤ _ ∧ -4611686018427387904 ≤ pq (rowOf m 3) v ∧ pq (rowOf m 3) v ≤ 4611686018427387904
   omega
theorem BM.of_wB {m : List Int} (hl : m.length = 16) {z : Int} (hz : z ≤ 67108864) (h : wB z m 16 = true) : BM 16 m := ⟨hl, fun p hp => by
 have := wB_iff.1 h p hp
 omega⟩
theorem mul_is {a b : List Int} (la : a.length = 16) (lb : b.length = 16) (ha : wB 16777216 a 16 = true) (hb : wB 16777216 b 16 = true) : ∃ m, mulO a b = some m ∧ m.length = 16 := by
 have hA := BM.of_wB la (by omega) ha
 have key : ∀ r, r < 4 → (colO a b r).isSome = true := by
  intro r hr
  unfold colO
  have hv : BV 4 (rowOf (tr b) r) := by
   refine ⟨rfl, fun p hp => ?_⟩
   have e : (rowOf (tr b) r).getD p 0 = (tr b).getD (r * 4 + p) 0 := by
    obtain rfl | rfl | rfl | rfl : p = 0 ∨ p = 1 ∨ p = 2 ∨ p = 3 := by omega
    all_goals rfl
   have e2 : (tr b).getD (r * 4 + p) 0 = b.getD ((r * 4 + p) % 4 * 4 + (r * 4 + p) / 4) 0 := by
    unfold tr
    rw [List.getD_eq_getElem?_getD, List.getElem?_map, List.getElem?_range (by omega)]
    rfl
   have := wB_iff.1 hb ((r * 4 + p) % 4 * 4 + (r * 4 + p) / 4) (by omega)
   rw [e, e2]
   omega
  rw [ap_small hA hv]
  rfl
 have hm : mulO a b = some (tr (csA a b)) := by
  unfold mulO
  rw [if_pos ⟨key 0 (by omega), key 1 (by omega), key 2 (by omega), key 3 (by omega)⟩]
 exact ⟨_, hm, mulO_len hm⟩
theorem bothO_at {s : ScR} {k : Nat} {x : ObjR} (hx : s.os[k]? = some x) : bothO s (k : Int) = mulO s.cam x.m := by
 unfold bothO
 rw [if_pos (by have := (List.getElem?_eq_some_iff.1 hx).1; omega)]
 simp [hx]
theorem keep6_is {s : ScR} {x : ObjR} {k : Nat} (hs : ScWf s) (hw : ObjWf x) (hx : s.os[k]? = some x) (hc : wB 16777216 s.cam 16 = true) (h5 : keep5 s x k = true) : keep6p s k = keep6 s x k := by
 obtain ⟨m, hm, _⟩ := mul_is hs.len hw.len hc h5
 unfold keep6p keep6
 rw [bothO_at hx, hm]
 rfl
end Go.Proofs.YtbbhmhihpdmoiaaGreat.Fx
set_option linter.unusedVariables false
set_option linter.unusedSimpArgs false
namespace Go.Proofs.YtbbhmhihpdmoiaaGreat.Fx
open Go Go.RowKit Go.Shelf
theorem Kept.refl (B : Nat) (W : World) : Kept B W W := ⟨rfl, rfl, rfl, Nat.le_refl _, fun _ _ h _ => h⟩
theorem Kept.trans {B : Nat} {X Y Z : World} (h : Kept B X Y) (k : Kept B Y Z) : Kept B X Z :=
 ⟨k.os.trans h.os, k.tape.trans h.tape, k.output.trans h.output, Nat.le_trans h.size k.size, fun i o hi hc => k.block i o (h.block i o hi hc) hc⟩
structure DefOk (B hi : Nat) (ds : List Deferred) (W : World) : Prop where
 each : ∀ d ∈ ds, ∃ D, d = { target := .collected D, args := #[] } ∧ B ≤ D ∧ D < hi ∧ W.heap[D]? = some (.deferred (some []))
 apart : ds.Pairwise fun a b => a.target ≠ b.target
theorem DefOk.nil (B hi : Nat) (W : World) : DefOk B hi [] W := ⟨fun d h => (List.not_mem_nil h).elim, List.Pairwise.nil⟩
theorem DefOk.cons {B hi D : Nat} {ds : List Deferred} {W : World} (h : DefOk B hi ds W) (hB : B ≤ D) (hD : hi ≤ D) (hd : W.heap[D]? = some (.deferred (some []))) : DefOk B (D + 1) ({ target := .collected D, args := #[] } :: ds) W := by
 refine ⟨fun d hm => ?_, List.pairwise_cons.2 ⟨fun d hm => ?_, h.apart⟩⟩
 ·rcases List.mem_cons.1 hm with rfl | hm
  ·exact ⟨D, rfl, hB, by omega, hd⟩
  ·obtain ⟨E, e, h1, h2, h3⟩ := h.each d hm
   exact ⟨E, e, h1, by omega, h3⟩
 ·obtain ⟨E, rfl, h1, h2, h3⟩ := h.each d hm
  intro e
  have : D = E := by simpa using e
  omega
theorem DefOk.keeps {B hi : Nat} {ds : List Deferred} {W X : World} (h : DefOk B hi ds W) (k : KeepsFrom B W X) : DefOk B hi ds X :=
 ⟨fun d hm => by
  obtain ⟨E, e, h1, h2, h3⟩ := h.each d hm
  exact ⟨E, e, h1, h2, k.same _ _ h1 h3 rfl⟩, h.apart⟩
theorem DefOk.kept {B hi C : Nat} {ds : List Deferred} {W X : World} (h : DefOk B hi ds W) (hc : hi ≤ C) (k : Kept C W X) : DefOk B hi ds X :=
 ⟨fun d hm => by
  obtain ⟨E, e, h1, h2, h3⟩ := h.each d hm
  exact ⟨E, e, h1, h2, k.block _ _ h3 (.inl (by omega))⟩, h.apart⟩
theorem DefOk.wide {B hi hj : Nat} {ds : List Deferred} {W : World} (h : DefOk B hi ds W) (hc : hi ≤ hj) : DefOk B hj ds W :=
 ⟨fun d hm => by
  obtain ⟨E, e, h1, h2, h3⟩ := h.each d hm
  exact ⟨E, e, h1, by omega, h3⟩, h.apart⟩
theorem leaves_all {n : Nat} {P : Program} {fn : Func} {tmps : Array Value} {R : Ending → World → Prop} {B : Nat} : ∀ (ds : List Deferred) (hi : Nat) (W : World), DefOk B hi ds W →
  (∀ X, Kept B W X → LeavesInM Fence.wide n P fn tmps R [] .returning X) → LeavesInM Fence.wide n P fn tmps R ds .returning W
 | [], hi, W, _, h => h W (Kept.refl _ _)
 | d :: ds, hi, W, hd, h => by
  obtain ⟨D, rfl, h1, h2, h3⟩ := hd.each d (by simp)
  have hk : Kept B W (W.putObj D (.deferred none)) := Kept.putObj _ h1 h3 rfl
  refine ⟨by simp, .inl ⟨_, _, rfl, run_takeDeferred h3, ?_⟩⟩
  refine leaves_all ds hi _ ⟨fun d hm => ?_, (List.pairwise_cons.1 hd.apart).2⟩ (fun X k => h X (hk.trans k))
  obtain ⟨E, rfl, e1, e2, e3⟩ := hd.each d (by simp [hm])
  refine ⟨E, rfl, e1, e2, (World.putObj_heap_other (fun e => ?_)).trans e3⟩
  have := (List.pairwise_cons.1 hd.apart).1 _ hm
  exact this (by rw [e])
def dutyZ (s : ScR) (r : Nat) (x : ObjR) (k : Nat) : Bool := if r = 0 then keep4 s x k else if r = 1 then keep5 s x k else if r = 2 then keep6p s k else if r = 3 then keep7 s x k else keep8 s x k
def dutyF (r : Nat) : Nat := if r = 0 then 118 else if r = 1 then 120 else if r = 2 then 121 else if r = 3 then 123 else 126
def dutyL (A r : Nat) : Array Value := if r = 0 ∨ r = 2 then #[.pointer (some ⟨A, 0, none⟩)] else #[]
def dutyV (A r : Nat) : Value := .func (.func (dutyF r)) #[] (dutyL A r)
def dutyC (A : Nat) : Array Value := #[dutyV A 0, dutyV A 1, dutyV A 2, dutyV A 3, dutyV A 4]
theorem duty_enter {r : Nat} (hr : r < 5) : ∀ args w, (callFunc (dutyF r) args).run Tryz.prog w = .ok (.enter (dutyF r) args) w := by
 obtain rfl | rfl | rfl | rfl | rfl : r = 0 ∨ r = 1 ∨ r = 2 ∨ r = 3 ∨ r = 4 := by omega
 ·exact enters_of Tryz.func118 (by kernel_rfl) rfl
 ·exact enters_of Tryz.func120 (by kernel_rfl) rfl
 ·exact enters_of Tryz.func121 (by kernel_rfl) rfl
 ·exact enters_of Tryz.func123 (by kernel_rfl) rfl
 ·exact enters_of Tryz.func126 (by kernel_rfl) rfl
theorem duty_any (s : ScR) (x : ObjR) (k r A : Nat) (w : World) (hr : r < 5) (hs : ScWf s) (ha : ScAt A s w) (h : ObjsAt w s.oo s.os) (hx : s.os[k]? = some x) :
  Calls Tryz.prog (dutyF r) (#[.int .i64 (k : Int), .agg (objL x).toArray] ++ dutyL A r) w (RetBool (dutyZ s r x k) w) := by
 obtain ⟨hw, hv, ht⟩ := h.wf hx
 obtain rfl | rfl | rfl | rfl | rfl : r = 0 ∨ r = 1 ∨ r = 2 ∨ r = 3 ∨ r = 4 := by omega
 ·exact duty1 s x k A w hs ha h hx
 ·exact duty2 s x k w hw
 ·exact duty3 s x k A w hs ha h hx
 ·exact duty4 s x k w hw hv
 ·exact duty5 s x k w hw ht
theorem duty_bad {s : ScR} {x : ObjR} {k r : Nat} (hr : r < 5) (hs : ScWf s) (hw : ObjWf x) (hx : s.os[k]? = some x) (hc : wB 16777216 s.cam 16 = true) (hn : ∀ q, 4 ≤ q → q < 4 + r → badIn s q = none) : badAt s (4 + r) k = !dutyZ s r x k := by
 have hb : badAt s (4 + r) k = !keepZ s x k (4 + r) := by unfold badAt; rw [hx]
 rw [hb]
 obtain rfl | rfl | rfl | rfl | rfl : r = 0 ∨ r = 1 ∨ r = 2 ∨ r = 3 ∨ r = 4 := by omega
 ·rfl
 ·rfl
 ·have h5 : keep5 s x k = true := by
   have := hn 5 (by omega) (by omega)
   unfold badIn at this
   rw [List.find?_eq_none] at this
   have h1 := this k (by simpa using (List.getElem?_eq_some_iff.1 hx).1)
   unfold badAt at h1
   rw [hx] at h1
   have e : keepZ s x k 5 = keep5 s x k := rfl
   dsimp only at h1
   rw [e] at h1
   simpa using h1
  have : dutyZ s 2 x k = keep6p s k := rfl
  rw [this, keep6_is hs hw hx hc h5]
  rfl
 ·rfl
 ·rfl
def DutyAt (D A : Nat) (W : World) : Prop := W.heap[D]? = some (.cells (dutyC A) 151 (0, 0))
theorem DutyAt.cell {D A r : Nat} {W : World} (h : DutyAt D A W) (hr : r < 5) : W.cell? ⟨D, r, none⟩ = some (dutyV A r) := by
 rw [cell_of_row _ _ _ _ _ _ h]
 obtain rfl | rfl | rfl | rfl | rfl : r = 0 ∨ r = 1 ∨ r = 2 ∨ r = 3 ∨ r = 4 := by omega
 all_goals rfl
theorem duties_w (s : ScR) (w : World) : Calls Tryz.prog 100 #[.agg (scC s)] w fun e w' =>
  e = .returned (.slice (some ⟨w.heap.size + 1, 0, none⟩) 5 5) ∧ w' = (w.alloc (.cells (scC s) 28)).alloc (.cells (dutyC w.heap.size) 151) := by
 go_enter Tryz.func100, Tryz.ntmps100
 go_wp2_with fail
 go_ret
 exact ⟨rfl, rfl⟩
theorem side_any (n : Int) (w : World) : Calls Tryz.prog 98 #[.int .i64 n] w fun e w' => e = .returned (.bool (decide (1 ≤ n) && decide (n ≤ 64))) ∧ w' = w := by
 by_cases h1 : 1 ≤ n
 ·by_cases h2 : n ≤ 64
  ·go_enter Tryz.func98, Tryz.ntmps98
   go_wp2_with fail
   go_ret
   exact ⟨by (first | (simp [*]; done) | (simp; omega) | (simp [*]; omega)), rfl⟩
  ·go_enter Tryz.func98, Tryz.ntmps98
   go_wp2_with fail
   go_ret
   exact ⟨by (first | (simp [*]; done) | (simp; omega) | (simp [*]; omega)), rfl⟩
 ·go_enter Tryz.func98, Tryz.ntmps98
  go_wp2_with fail
  go_ret
  exact ⟨by (first | (simp [*]; done) | (simp; omega) | (simp [*]; omega)), rfl⟩
end Go.Proofs.YtbbhmhihpdmoiaaGreat.Fx
