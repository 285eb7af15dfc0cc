/- Lists of one's own whose members are some cells each: appended to, and read. 
  A copy of a scene: the program's Copy, walked. 
  A scene whose lists are rows of one's own, in a box: numbers are written over, the lists stay where they are. -/
import Derived.Test.YtbbhmhihpdmoiaaProg
import Derived.Test.YtbbhmhihpdmoiaaSa
import Derived.Test.YtbbhmhihpdmoiaaIt
import Derived.OwnWalkIn
import Derived.Laws.OwnMore
import Derived.Laws.AppendOwn
import Derived.Great.BuildSlice
import Derived.Test.YtbbhmhihpdmoiaaVa
import Derived.Test.YtbbhmhihpdmoiaaXa
import Derived.Test.YtbbhmhihpdmoiaaVm
set_option linter.unusedVariables false
set_option linter.unusedSimpArgs false
namespace Go.Proofs.Ytbbhmhihpdmoiaa.Fx
open Go Go.RowKit
section
variable {α : Type} {t : TypeId} {n : Nat} {f : α → List Value}
def OwnG (t : TypeId) (n : Nat) (f : α → List Value) (W : World) (B : Nat) (v : Value) (l : List α) : Prop := W.ownsRow B t n v l.length (l.flatMap f)
theorem OwnG.below {w W : World} {B : Nat} {v : Value} {l : List α} (h : Below w.heap.size w W) (s : OwnG t n f w B v l) : OwnG t n f W B v l := by
  obtain ⟨h1, h2⟩ := s
  refine ⟨h1, ?_⟩
  rcases h2 with h2 | ⟨g, cap, cur, e, hb, hg, h3⟩
  · exact Or.inl h2
  · exact Or.inr ⟨g, cap, cur, e, hb, keep_row h hg, h3⟩
theorem OwnG.kept {B C : Nat} {v : Value} {l : List α} {W X : World} (s : OwnG t n f W C v l) (k : Kept B W X) : OwnG t n f X C v l := by
  obtain ⟨h1, h2⟩ := s
  refine ⟨h1, ?_⟩
  rcases h2 with h2 | ⟨g, cap, cur, e, hb, hg, h3⟩
  · exact .inl h2
  · exact .inr ⟨g, cap, cur, e, hb, k.cells hg, h3⟩
theorem OwnG.blk {w : World} {B : Nat} {v : Value} {l : List α} (s : OwnG t n f w B v l) : ∀ k, v.ownBlock = some k → B ≤ k := by
  intro k hk
  obtain ⟨h1, h2⟩ := s
  rcases h2 with ⟨rfl, _⟩ | ⟨g, cap, cur, rfl, hb, _⟩
  · cases hk
  · cases hk
    exact hb
theorem OwnG.lt {w : World} {B : Nat} {v : Value} {l : List α} (s : OwnG t n f w B v l) : ∀ k, v.ownBlock = some k → k < w.heap.size := by
  intro k hk
  obtain ⟨h1, h2⟩ := s
  rcases h2 with ⟨rfl, _⟩ | ⟨g, cap, cur, rfl, hb, hg, _⟩
  · cases hk
  · cases hk
    exact (Array.getElem?_eq_some_iff.1 hg).1
theorem OwnG.row {w : World} {B : Nat} {v : Value} {l : List α} (s : OwnG t n f w B v l) : ∀ k, v.ownBlock = some k → ∃ cur, w.heap[k]? = some (.cells cur t (0, 0)) := by
  intro k hk
  obtain ⟨h1, h2⟩ := s
  rcases h2 with ⟨rfl, _⟩ | ⟨g, cap, cur, rfl, hb, hg, _⟩
  · cases hk
  · cases hk
    exact ⟨cur, hg⟩
theorem OwnG.base {w : World} {B C : Nat} {v : Value} {l : List α} (hc : C ≤ B) (s : OwnG t n f w B v l) : OwnG t n f w C v l := by
  obtain ⟨h1, h2⟩ := s
  refine ⟨h1, ?_⟩
  rcases h2 with h2 | ⟨g, cap, cur, e, hb, hg, h3⟩
  · exact Or.inl h2
  · exact Or.inr ⟨g, cap, cur, e, Nat.le_trans hc hb, hg, h3⟩
theorem OwnG.cellset {B m j : Nat} {v u : Value} {l : List α} {W : World} (s : OwnG t n f W B v l) (hm : v.ownBlock ≠ some m) : OwnG t n f (W.setCell ⟨m, j, none⟩ u) B v l := by
  obtain ⟨h1, h2⟩ := s
  refine ⟨h1, ?_⟩
  rcases h2 with h2 | ⟨g, cap, cur, e, hb, hg, h3⟩
  · exact .inl h2
  · subst e
    exact .inr ⟨g, cap, cur, rfl, hb, by rw [heap_setCell_other _ _ _ _ (by intro e; exact hm (by show some g = some m; rw [show g = m from e]))]; exact hg, h3⟩
theorem OwnG.grown {B : Nat} {v : Value} {l : List α} {W X : World} {row : Option Nat} (s : OwnG t n f W B v l) (hg : W.grownBy X row) (hr : ∀ k, row = some k → v.ownBlock ≠ some k) : OwnG t n f X B v l := by
  obtain ⟨h1, h2⟩ := s
  refine ⟨h1, ?_⟩
  rcases h2 with h2 | ⟨g, cap, cur, e, hb, hgg, h3⟩
  · exact .inl h2
  · subst e
    exact .inr ⟨g, cap, cur, rfl, hb, by rw [hg.block g (Array.getElem?_eq_some_iff.1 hgg).1 (fun e => hr g e.symm rfl)]; exact hgg, h3⟩
theorem OwnG.nil (t : TypeId) (n : Nat) (f : α → List Value) (W : World) (B : Nat) : OwnG t n f W B (.slice none 0 0) [] := ⟨by simp, .inl ⟨rfl, rfl⟩⟩
theorem flatG_at {l : List α} (hl : ∀ x ∈ l, (f x).length = n) : ∀ {k : Nat} {x : α}, l[k]? = some x → ∀ j v, (f x)[j]? = some v → (l.flatMap f)[k * n + j]? = some v := by
  induction l with
  | nil => intro k x h; simp at h
  | cons y tl ih =>
    intro k x h j v hv
    have hy := hl y (by simp)
    rw [List.flatMap_cons]
    cases k with
    | zero =>
      simp at h
      subst h
      rw [Nat.zero_mul, Nat.zero_add, List.getElem?_append_left (List.getElem?_eq_some_iff.1 hv).1]
      exact hv
    | succ k =>
      have hk : (k + 1) * n + j - n = k * n + j := by rw [Nat.add_mul]; omega
      rw [List.getElem?_append_right (by rw [hy, Nat.add_mul]; omega), hy, hk]
      exact ih (fun z hz => hl z (by simp [hz])) (by simpa using h) j v hv
theorem flatG_len {l : List α} (hl : ∀ x ∈ l, (f x).length = n) : (l.flatMap f).length = l.length * n := by
  induction l with
  | nil => simp
  | cons y tl ih =>
    rw [List.flatMap_cons, List.length_append, hl y (by simp), ih (fun z hz => hl z (by simp [hz])), List.length_cons, Nat.add_mul]
    omega
/-- where the members of a list of one's own lie -/
structure LiesG (t : TypeId) (n : Nat) (f : α → List Value) (W : World) (B : Nat) (o : Option Addr) (l : List α) : Prop where
  at_ : ∀ k z, l[k]? = some z → ∃ g cur, o = some ⟨g, 0, none⟩ ∧ B ≤ g ∧ W.heap[g]? = some (.cells cur t (0, 0)) ∧ l.length * n ≤ cur.size ∧ W.rangeAt g (0 + k * n) (f z)
theorem OwnG.form {W : World} {B : Nat} {v : Value} {l : List α} (s : OwnG t n f W B v l) (hl : ∀ x ∈ l, (f x).length = n) : ∃ o cap, v = .slice o l.length cap ∧ CapOk o l.length cap ∧ LiesG t n f W B o l := by
  obtain ⟨h1, h2⟩ := s
  rcases h2 with ⟨rfl, h0⟩ | ⟨g, cap, cur, rfl, hb, hg, hle, hm, hsz, htk⟩
  · refine ⟨none, 0, by rw [h0], ⟨⟨by omega, by omega⟩, fun _ => rfl⟩, ⟨fun k z hk => ?_⟩⟩
    have := (List.getElem?_eq_some_iff.1 hk).1
    omega
  · unfold maxLen at hm
    refine ⟨some ⟨g, 0, none⟩, cap, rfl, ⟨⟨hle, by omega⟩, fun h => by cases h⟩, ⟨fun k z hk => ⟨g, cur, rfl, hb, hg, by rw [hsz]; exact Nat.mul_le_mul_right n hle, ?_⟩⟩⟩
    intro j u hj
    have hf := flatG_at hl hk j u hj
    rw [cell_of_row _ _ _ _ _ _ hg, Nat.zero_add]
    rw [← htk, List.getElem?_take] at hf
    split at hf
    · simpa using hf
    · cases hf
theorem LiesG.list {W : World} {B : Nat} {o : Option Addr} {l : List α} (s : LiesG t n f W B o l) : ListAt (fun b j z => W.rangeAt b j (f z)) n o l := fun k z hk => by
  obtain ⟨g, cur, e, _, _, _, h⟩ := s.at_ k z hk
  exact ⟨g, 0, e, h⟩
/-- what is behind a slice, cell by cell -/
theorem src_at {W : World} {ad : Addr} {l : List α} (hn : 0 < n) (hs : ListAt (fun b j z => W.rangeAt b j (f z)) n (some ad) l) (hl : ∀ x ∈ l, (f x).length = n) : ∀ j u, (l.flatMap f)[j]? = some u → W.cell? (ad.add j) = some u := by
  intro j u hj
  have hjl : j < l.length * n := by
    rw [← flatG_len hl]
    exact (List.getElem?_eq_some_iff.1 hj).1
  have hk : j / n < l.length := (Nat.div_lt_iff_lt_mul hn).2 hjl
  obtain ⟨z, hz⟩ : ∃ z, l[j / n]? = some z := ⟨_, List.getElem?_eq_getElem hk⟩
  obtain ⟨b, off, e, hr⟩ := hs _ z hz
  cases e
  have hzl := hl z (List.mem_of_getElem? hz)
  have hm : j % n < (f z).length := by rw [hzl]; exact Nat.mod_lt _ hn
  have h1 := flatG_at hl hz (j % n) _ (List.getElem?_eq_getElem hm)
  have hjj : j / n * n + j % n = j := by rw [Nat.mul_comm]; exact Nat.div_add_mod j n
  rw [hjj, hj] at h1
  have h2 := hr (j % n) _ (List.getElem?_eq_getElem hm)
  rw [Nat.add_assoc, hjj, ← h1] at h2
  rw [Addr.add_lit]
  exact h2
/-- a type's size and its zero value -/
structure InfoG (t : TypeId) (n bytes : Nat) : Prop where
  pos : 0 < n
  few : bytes ≤ 1000
  get : ∃ i z, Try.prog.info? t = some i ∧ i.zero = some z ∧ i.size = n ∧ i.bytes = bytes ∧ z.cells.size = n
theorem InfoG.of {t : TypeId} {n bytes : Nat} (hp : 0 < n) (hf : bytes ≤ 1000) (hm : (Try.prog.info? t).map (fun i => (i.zero.map (fun z => z.cells.size), i.size, i.bytes)) = some (some n, n, bytes)) : InfoG t n bytes := by
  refine ⟨hp, hf, ?_⟩
  cases hi : Try.prog.info? t with
  | none => rw [hi] at hm; cases hm
  | some i =>
    rw [hi] at hm
    simp only [Option.map_some, Option.some.injEq, Prod.mk.injEq] at hm
    obtain ⟨hz, hs, hb⟩ := hm
    cases hzz : i.zero with
    | none => rw [hzz] at hz; cases hz
    | some z =>
      rw [hzz] at hz
      exact ⟨i, z, rfl, hzz, hs, hb, by simpa using hz⟩
theorem run_appG {bytes : Nat} (hi : InfoG t n bytes) (ts ty : TypeId) (hu : Try.prog.underlying ts = some (.slice t)) (W : World) (B : Nat) (v : Value) (L M : List α) (hB : B ≤ W.heap.size) (hown : OwnG t n f W B v L) (ox : Option Addr) (c : Nat)
    (hc : ox = none → c = 0) (hsrc : ListAt (fun b j z => W.rangeAt b j (f z)) n ox M) (hlen : ∀ z ∈ M, (f z).length = n) (hone : ∀ z ∈ M, ∀ u ∈ f z, u.oneCell' = true) (hL : L.length + M.length ≤ 1000000) :
    ∃ v' X, (Builtin.append_ #[ts, ts] ty #[v, .slice ox M.length c]).run Try.prog W = .ok v' X ∧ OwnG t n f X B v' (L ++ M) ∧ W.grownBy X v.ownBlock := by
  obtain ⟨i, z, h2, h3, h4, h5, h6⟩ := hi.get
  cases ox with
  | none =>
    have hM : M = [] := by
      cases M with
      | nil => rfl
      | cons y tl =>
        obtain ⟨b, off, e, _⟩ := hsrc 0 y rfl
        cases e
    subst hM
    rw [hc rfl]
    refine ⟨v, W, run_append_owned_none (P := Try.prog) (w := W) B ts ty t i n hu h2 v L.length (L.flatMap f) hown, by rw [List.append_nil]; exact hown, ⟨rfl, rfl, rfl, Nat.le_refl _, fun _ _ _ => rfl⟩⟩
  | some ad =>
    have hb : (L.length + M.length) * bytes ≤ 1000000 * 1000 := Nat.mul_le_mul hL hi.few
    obtain ⟨v', X, hrun, r1, r2, r3⟩ := run_append_own (P := Try.prog) W B ts ty t i z n bytes hu h2 h3 h4 h5 h6 hi.pos v L.length (L.flatMap f) hown ad M.length c (M.flatMap f) (flatG_len hlen) (src_at hi.pos hsrc hlen)
      (fun u hu => by obtain ⟨z, hz, hzu⟩ := List.mem_flatMap.1 hu; exact hone z hz u hzu) (by unfold maxLen; omega) (by omega) hB
    exact ⟨v', X, hrun, by unfold OwnG; rw [List.length_append, List.flatMap_append]; exact r1, r2⟩
/-- an append at a walk within a fence -/
theorem appIn_G {bytes : Nat} (hi : InfoG t n bytes) {F : Fence} {m : Nat} {ops : Array Oper} {rest : List Oper} {o : Oper} {a : Act} {Q : Exit → Act → World → Prop} {W : World} (hF : ∀ f, F.fn f) (hgd : o.guard = none) (sx x : Operand) (ts : TypeId)
    (ho : o.op = .call { callee := .builtin .append, args := #[sx, x], argTypes := #[ts, ts] }) (hu : Try.prog.underlying ts = some (.slice t)) (B : Nat) (v : Value) (L M : List α) (hs : a.eval sx = v) (hB : B ≤ W.heap.size) (hown : OwnG t n f W B v L)
    (ox : Option Addr) (c : Nat) (hx : a.eval x = .slice ox M.length c) (hc : ox = none → c = 0) (hsrc : ListAt (fun b j z => W.rangeAt b j (f z)) n ox M) (hlen : ∀ z ∈ M, (f z).length = n) (hone : ∀ z ∈ M, ∀ u ∈ f z, u.oneCell' = true) (hL : L.length + M.length ≤ 1000000)
    (h : ∀ v' X, OwnG t n f X B v' (L ++ M) → W.grownBy X v.ownBlock → Hid (wpListIn F m Try.prog ops Q rest (a.put o.dst v') X)) :
    wpListIn F m Try.prog ops Q (o :: rest) a W := by
  obtain ⟨v', X, hrun, r1, r2⟩ := run_appG hi ts o.type hu W B v L M hB hown ox c hc hsrc hlen hone hL
  refine wpListIn_plain hgd fun K hK' => ?_
  unfold Oper.wpIn
  refine ⟨?_, ?_⟩
  · simp [Oper.about, ho, resolve, Target.leads, Sem.run_pure]
  · rw [Oper.semAt_plain F _ _ (by rw [ho]; intro c hc'; cases hc')]
    simp [execOp, ho, resolve, invoke, builtin, hs, hx, hrun, Result.andThen]
    exact hK' _ _ (h v' X r1 r2).out
/-- an append at a walk -/
theorem app_G {bytes : Nat} (hi : InfoG t n bytes) {ops : Array Oper} {rest : List Oper} {o : Oper} {a : Act} {Q : Exit → Act → World → Prop} {W : World} (hgd : o.guard = none) (sx x : Operand) (ts : TypeId)
    (ho : o.op = .call { callee := .builtin .append, args := #[sx, x], argTypes := #[ts, ts] }) (hu : Try.prog.underlying ts = some (.slice t)) (B : Nat) (v : Value) (L M : List α) (hs : a.eval sx = v) (hB : B ≤ W.heap.size) (hown : OwnG t n f W B v L)
    (ox : Option Addr) (c : Nat) (hx : a.eval x = .slice ox M.length c) (hc : ox = none → c = 0) (hsrc : ListAt (fun b j z => W.rangeAt b j (f z)) n ox M) (hlen : ∀ z ∈ M, (f z).length = n) (hone : ∀ z ∈ M, ∀ u ∈ f z, u.oneCell' = true) (hL : L.length + M.length ≤ 1000000)
    (h : ∀ v' X, OwnG t n f X B v' (L ++ M) → W.grownBy X v.ownBlock → Hid (wpList Try.prog ops Q rest (a.put o.dst v') X)) :
    wpList Try.prog ops Q (o :: rest) a W := by
  obtain ⟨v', X, hrun, r1, r2⟩ := run_appG hi ts o.type hu W B v L M hB hown ox c hc hsrc hlen hone hL
  refine wpList_plain hgd fun K hK' => ?_
  unfold Oper.wp
  simp [execOp, ho, resolve, invoke, builtin, hs, hx, hrun, Result.andThen]
  exact hK' _ _ (h v' X r1 r2).out
/-- an append in a region that draws its order -/
theorem wpIn_app_G {bytes : Nat} (hi : InfoG t n bytes) {F : Fence} {m : Nat} {o : Oper} {a : Act} {K : Act → World → Prop} {Q : Exit → Act → World → Prop} {W : World} (hF : ∀ f, F.fn f) (sx x : Operand) (ts : TypeId)
    (ho : o.op = .call { callee := .builtin .append, args := #[sx, x], argTypes := #[ts, ts] }) (hu : Try.prog.underlying ts = some (.slice t)) (B : Nat) (v : Value) (L M : List α) (hs : a.eval sx = v) (hB : B ≤ W.heap.size) (hown : OwnG t n f W B v L)
    (ox : Option Addr) (c : Nat) (hx : a.eval x = .slice ox M.length c) (hc : ox = none → c = 0) (hsrc : ListAt (fun b j z => W.rangeAt b j (f z)) n ox M) (hlen : ∀ z ∈ M, (f z).length = n) (hone : ∀ z ∈ M, ∀ u ∈ f z, u.oneCell' = true) (hL : L.length + M.length ≤ 1000000)
    (h : ∀ v' X, OwnG t n f X B v' (L ++ M) → W.grownBy X v.ownBlock → K (a.put o.dst v') X) :
    Oper.wpIn F m Try.prog o a W K Q := by
  obtain ⟨v', X, hrun, r1, r2⟩ := run_appG hi ts o.type hu W B v L M hB hown ox c hc hsrc hlen hone hL
  unfold Oper.wpIn
  refine ⟨fun f _ => hF f, ?_⟩
  rw [Oper.semAt_plain F _ _ (by rw [ho]; intro c hc'; cases hc')]
  simp [execOp, ho, resolve, invoke, builtin, hs, hx, hrun, Result.andThen]
  exact h v' X r1 r2
theorem one_src {W : World} {g : Nat} {z : α} (h : W.heap[g]? = some (.cells (f z).toArray t (0, 0))) : ListAt (fun b j z => W.rangeAt b j (f z)) n (some ⟨g, 0, none⟩) [z] := fun k y hk => by
  have h0 : k = 0 := by have := (List.getElem?_eq_some_iff.1 hk).1; simp at this; omega
  subst h0
  simp at hk
  subst hk
  refine ⟨g, 0, rfl, fun j u hj => ?_⟩
  rw [cell_of_row _ _ _ _ _ _ h]
  simpa using hj
theorem run_buildOne {bytes : Nat} (hi : InfoG t n bytes) (hm : n ≤ 1000) (ts : TypeId) (hu : Try.prog.underlying ts = some (.slice t)) (W : World) (cs : Array Value) (hc : cs.size = n) :
    (Instr.buildSlice ts 1 #[(0, .agg cs)]).run Try.prog W = .ok (.slice (some ⟨W.heap.size, 0, none⟩) 1 1) (W.alloc (.cells cs t)) := by
  obtain ⟨i, z, h2, h3, h4, h5, h6⟩ := hi.get
  refine run_buildSlice W ts t 1 _ cs i z hu h2 h3 (by rw [h4]; omega) (by rw [h4]; have := hi.pos; omega) ?_
  rw [h4]
  have := Great.fill_whole hi.pos [.agg cs] ((Array.range (1 * n)).map (z.cells[· % z.cells.size]!)) (fun v hv => by simp at hv; subst hv; exact hc) (by simp)
  simpa [Value.cells] using this
theorem buildIn_one {bytes : Nat} (hi : InfoG t n bytes) (hm : n ≤ 1000) {F : Fence} {m : Nat} {ops : Array Oper} {rest : List Oper} {o : Oper} {a : Act} {Q : Exit → Act → World → Prop} {W : World} (hF : ∀ f, F.fn f) (hgd : o.guard = none) (x : Operand) (ts : TypeId)
    (ho : o.op = .buildSlice ts 1 #[(0, x)]) (hu : Try.prog.underlying ts = some (.slice t)) (cs : Array Value) (hx : a.eval x = .agg cs) (hc : cs.size = n)
    (h : wpListIn F m Try.prog ops Q rest (a.put o.dst (.slice (some ⟨W.heap.size, 0, none⟩) 1 1)) (W.alloc (.cells cs t))) :
    wpListIn F m Try.prog ops Q (o :: rest) a W := by
  have hrun := run_buildOne hi hm ts hu W cs hc
  refine wpListIn_plain hgd fun K hK' => ?_
  unfold Oper.wpIn
  refine ⟨?_, ?_⟩
  · simp [Oper.about, ho, resolve, Target.leads, Sem.run_pure]
  · rw [Oper.semAt_plain F _ _ (by rw [ho]; intro c hc'; cases hc')]
    simp [execOp, ho, hx, hrun, Result.andThen]
    exact hK' _ _ h
theorem build_one {bytes : Nat} (hi : InfoG t n bytes) (hm : n ≤ 1000) {ops : Array Oper} {rest : List Oper} {o : Oper} {a : Act} {Q : Exit → Act → World → Prop} {W : World} (hgd : o.guard = none) (x : Operand) (ts : TypeId)
    (ho : o.op = .buildSlice ts 1 #[(0, x)]) (hu : Try.prog.underlying ts = some (.slice t)) (cs : Array Value) (hx : a.eval x = .agg cs) (hc : cs.size = n)
    (h : wpList Try.prog ops Q rest (a.put o.dst (.slice (some ⟨W.heap.size, 0, none⟩) 1 1)) (W.alloc (.cells cs t))) :
    wpList Try.prog ops Q (o :: rest) a W := by
  have hrun := run_buildOne hi hm ts hu W cs hc
  refine wpList_plain hgd fun K hK' => ?_
  unfold Oper.wp
  simp [execOp, ho, hx, hrun, Result.andThen]
  exact hK' _ _ h
end
theorem vert_len {l : List (List Int)} (h : ∀ x ∈ l, VertWf x) : ∀ x ∈ l, (x.map encI).length = 3 := fun x hx => by rw [List.length_map]; exact (h x hx).len
theorem enc_one (x : List Int) : ∀ u ∈ x.map encI, u.oneCell' = true := fun u hu => by
  obtain ⟨z, _, rfl⟩ := List.mem_map.1 hu
  rfl
theorem tri_one (x : TriR) : ∀ u ∈ triL x, u.oneCell' = true := fun u hu => by
  simp only [triL, List.mem_cons, List.not_mem_nil, or_false] at hu
  rcases hu with rfl | rfl | rfl | rfl <;> rfl
theorem obj_one1 (x : ObjR) : ∀ u ∈ objL x, u.oneCell' = true := fun v hv => by
  simp only [objL, List.mem_cons, List.mem_append, List.mem_map, List.not_mem_nil, or_false] at hv
  rcases hv with rfl | ⟨z, _, rfl⟩ | rfl | rfl <;> rfl
theorem infoGv : InfoG 47 3 24 := InfoG.of (by omega) (by omega) (by kernel_rfl)
theorem infoGt : InfoG 58 4 32 := InfoG.of (by omega) (by omega) (by kernel_rfl)
theorem infoGo : InfoG 44 19 184 := InfoG.of (by omega) (by omega) (by kernel_rfl)
theorem VertsAt.src {W : World} {o : Option Addr} {l : List (List Int)} (h : VertsAt W o l) : ListAt (fun b j z => W.rangeAt b j (z.map encI)) 3 o l := fun k z hk => by
  obtain ⟨b, off, e, h1, _⟩ := h k z hk
  exact ⟨b, off, e, h1⟩
theorem TrisAt.src {W : World} {o : Option Addr} {l : List TriR} (h : TrisAt W o l) : ListAt (fun b j z => W.rangeAt b j (triL z)) 4 o l := fun k z hk => by
  obtain ⟨b, off, e, h1, _⟩ := h k z hk
  exact ⟨b, off, e, h1⟩
theorem VertsAt.wf {W : World} {o : Option Addr} {l : List (List Int)} (h : VertsAt W o l) : ∀ x ∈ l, VertWf x := fun x hx => by
  obtain ⟨k, hk⟩ := List.getElem?_of_mem hx
  obtain ⟨_, _, _, _, hw⟩ := h k x hk
  exact hw
theorem TrisAt.wf {W : World} {o : Option Addr} {l : List TriR} (h : TrisAt W o l) : ∀ x ∈ l, TriWf x := fun x hx => by
  obtain ⟨k, hk⟩ := List.getElem?_of_mem hx
  obtain ⟨_, _, _, _, hw⟩ := h k x hk
  exact hw
theorem LiesG.verts {W : World} {B : Nat} {o : Option Addr} {l : List (List Int)} (s : LiesG 47 3 (fun x => x.map encI) W B o l) (hw : ∀ x ∈ l, VertWf x) : VertsAt W o l := fun k z hk => by
  obtain ⟨g, cur, e, _, _, _, h⟩ := s.at_ k z hk
  exact ⟨g, 0, e, h, hw z (List.mem_of_getElem? hk)⟩
theorem LiesG.tris {W : World} {B : Nat} {o : Option Addr} {l : List TriR} (s : LiesG 58 4 triL W B o l) (hw : ∀ x ∈ l, TriWf x) : TrisAt W o l := fun k z hk => by
  obtain ⟨g, cur, e, _, _, _, h⟩ := s.at_ k z hk
  exact ⟨g, 0, e, h, hw z (List.mem_of_getElem? hk)⟩
end Go.Proofs.Ytbbhmhihpdmoiaa.Fx
set_option linter.unusedVariables false
set_option linter.unusedSimpArgs false
namespace Go.Proofs.Ytbbhmhihpdmoiaa.Fx
open Go Go.RowKit Go.Shelf
attribute [local go_sem] Oper.semAt_some
/-- rows of a type stay -/
def Rows (t : TypeId) (W X : World) : Prop := ∀ (g : Nat) (cur : Array Value), W.heap[g]? = some (.cells cur t (0, 0)) → X.heap[g]? = some (.cells cur t (0, 0))
theorem Rows.refl (t : TypeId) (W : World) : Rows t W W := fun _ _ h => h
theorem Rows.trans {t : TypeId} {W X Y : World} (h : Rows t W X) (k : Rows t X Y) : Rows t W Y := fun g cur hg => k g cur (h g cur hg)
theorem Rows.of_below {t : TypeId} {W X : World} (h : Below W.heap.size W X) : Rows t W X := fun g cur hg => keep_row h hg
theorem Rows.of_kept {t : TypeId} {B : Nat} {W X : World} (h : Kept B W X) : Rows t W X := fun g cur hg => h.cells hg
theorem Rows.of_set {t u : TypeId} {m j : Nat} {c : Array Value} {v : Value} {W : World} (hm : W.heap[m]? = some (.cells c u (0, 0))) (hne : t ≠ u) : Rows t W (W.setCell ⟨m, j, none⟩ v) := fun g cur hg => by
  rw [heap_setCell_other _ _ _ _ (by
    show g ≠ m
    intro e
    subst e
    rw [hg] at hm
    cases hm
    exact hne rfl)]
  exact hg
theorem Rows.of_grown {t u : TypeId} {row : Option Nat} {W X : World} (h : W.grownBy X row) (hr : ∀ k, row = some k → ∃ c, W.heap[k]? = some (.cells c u (0, 0))) (hne : t ≠ u) : Rows t W X := fun g cur hg => by
  rw [h.block g (Array.getElem?_eq_some_iff.1 hg).1 (fun e => by
    obtain ⟨c, hc⟩ := hr g e.symm
    rw [hg] at hc
    cases hc
    exact hne rfl)]
  exact hg
theorem LiesG.rows {α : Type} {t : TypeId} {n : Nat} {f : α → List Value} {W X : World} {B : Nat} {o : Option Addr} {l : List α} (s : LiesG t n f W B o l) (h : Rows t W X) : LiesG t n f X B o l :=
  ⟨fun k z hk => by
    obtain ⟨g, cur, e, hb, hg, hs, hr⟩ := s.at_ k z hk
    refine ⟨g, cur, e, hb, h g cur hg, hs, fun j u hj => ?_⟩
    have := hr j u hj
    rw [cell_of_row _ _ _ _ _ _ hg] at this
    rw [cell_of_row _ _ _ _ _ _ (h g cur hg)]
    exact this⟩
theorem LiesG.base {α : Type} {t : TypeId} {n : Nat} {f : α → List Value} {W : World} {B C : Nat} {o : Option Addr} {l : List α} (hc : C ≤ B) (s : LiesG t n f W B o l) : LiesG t n f W C o l :=
  ⟨fun k z hk => by
    obtain ⟨g, cur, e, hb, h⟩ := s.at_ k z hk
    exact ⟨g, cur, e, Nat.le_trans hc hb, h⟩⟩
/-- an object whose lists are rows of one's own -/
structure FreshO (B : Nat) (x : ObjR) (W : World) : Prop where
  wf : ObjWf x
  v : LiesG 47 3 (fun z => z.map encI) W B x.vo x.vs
  t : LiesG 58 4 triL W B x.tq x.ts
  vw : ∀ z ∈ x.vs, VertWf z
  tw : ∀ z ∈ x.ts, TriWf z
theorem FreshO.rows {B : Nat} {x : ObjR} {W X : World} (s : FreshO B x W) (h3 : Rows 47 W X) (h4 : Rows 58 W X) : FreshO B x X := ⟨s.wf, s.v.rows h3, s.t.rows h4, s.vw, s.tw⟩
theorem FreshO.base {B C : Nat} {x : ObjR} {W : World} (hc : C ≤ B) (s : FreshO B x W) : FreshO C x W := ⟨s.wf, s.v.base hc, s.t.base hc, s.vw, s.tw⟩
/-- a scene whose lists are rows of one's own -/
structure FreshS (B : Nat) (c : ScR) (W : World) : Prop where
  wf : ScWf c
  objs : LiesG 44 19 objL W B c.oo c.os
  each : ∀ x ∈ c.os, FreshO B x W
theorem FreshS.at {B : Nat} {c : ScR} {W : World} (s : FreshS B c W) : ObjsAt W c.oo c.os := fun k z hk => by
  obtain ⟨g, cur, e, _, _, _, h⟩ := s.objs.at_ k z hk
  have hz := s.each z (List.mem_of_getElem? hk)
  exact ⟨g, 0, e, h, hz.v.verts hz.vw, hz.t.tris hz.tw, hz.wf⟩
def twL (s : ScR) (v : Value) : List Value := .int .i64 s.w :: .int .i64 s.h :: (s.cam.map encI ++ [v])
theorem twL_len {s : ScR} (h : ScWf s) (v : Value) : (twL s v).toArray.size = 19 := by simp [twL, h.len]
theorem twL_one (s : ScR) (v : Value) (hv : v.oneCell' = true) : (twL s v).toArray.all (·.oneCell') = true := by
  rw [Array.all_eq_true_iff_forall_mem]
  intro u hu
  simp only [twL, List.mem_toArray, List.mem_cons, List.mem_append, List.mem_map, List.not_mem_nil, or_false] at hu
  rcases hu with rfl | rfl | ⟨z, _, rfl⟩ | rfl
  · rfl
  · rfl
  · rfl
  · exact hv
theorem twL_set {s : ScR} (h : ScWf s) (v u : Value) : (twL s v).toArray.setIfInBounds 18 u = (twL s u).toArray := by
  simp [twL, List.set_append, h.len]
theorem twL_at {s : ScR} (h : ScWf s) (v : Value) : (twL s v).toArray[18]? = some v := by
  simp [twL, h.len]
theorem objL_set17 {x : ObjR} (h : x.m.length = 16) (o : Option Addr) (c : Nat) : (objL x).toArray.setIfInBounds 17 (.slice o x.vs.length c) = (objL { x with vo := o, vc := c }).toArray := by
  simp [objL, List.set_append, h]
theorem objL_set18 {x : ObjR} (h : x.m.length = 16) (o : Option Addr) (c : Nat) : (objL x).toArray.setIfInBounds 18 (.slice o x.ts.length c) = (objL { x with tq := o, tc := c }).toArray := by
  simp [objL, List.set_append, h]
/-- Copy's boxes: the scene, the answer, the twin, the iterator's scene -/
structure CpS (s : ScR) (v : Value) (l : List ObjR) (w W : World) : Prop where
  box : ScAt w.heap.size s W
  res : W.heap[w.heap.size + 1]? = some (.cells #[.int .i64 0, .int .i64 0, .int .i64 0, .int .i64 0, .int .i64 0, .int .i64 0, .int .i64 0, .int .i64 0, .int .i64 0, .int .i64 0, .int .i64 0, .int .i64 0, .int .i64 0, .int .i64 0, .int .i64 0, .int .i64 0, .int .i64 0, .int .i64 0, .slice none 0 0] 28 (0, 0))
  twin : W.heap[w.heap.size + 1 + 1]? = some (.cells (twL s v).toArray 28 (0, 0))
  it : ScAt (w.heap.size + 1 + 1 + 1) s W
  own : OwnG 44 19 objL W (w.heap.size + 1 + 1 + 1 + 1) v l
  each : ∀ x ∈ l, FreshO (w.heap.size + 1 + 1 + 1 + 1) x W
  below : Below w.heap.size w W
theorem CpS.kept {s : ScR} {v : Value} {l : List ObjR} {B : Nat} {w W X : World} (hB : w.heap.size ≤ B) (h : Kept B W X) (i : CpS s v l w W) : CpS s v l w X :=
  ⟨i.box.kept h, h.cells i.res, h.cells i.twin, i.it.kept h, i.own.kept h, fun x hx => (i.each x hx).rows (Rows.of_kept h) (Rows.of_kept h), h.below hB i.below⟩
theorem CpS.up {s : ScR} {v : Value} {l : List ObjR} {w W X : World} (h : Below W.heap.size W X) (i : CpS s v l w W) : CpS s v l w X :=
  ⟨i.box.below h, keep_row h i.res, keep_row h i.twin, i.it.below h, i.own.below h, fun x hx => (i.each x hx).rows (Rows.of_below h) (Rows.of_below h), bnext i.below h⟩
/-- a store into an object's box behind all -/
theorem CpS.put {s : ScR} {v u : Value} {l : List ObjR} {w W : World} {b j : Nat} {c : Array Value} (i : CpS s v l w W) (hb : w.heap.size + 1 + 1 + 1 < b) (ho : v.ownBlock ≠ some b) (hr : W.heap[b]? = some (.cells c 44 (0, 0))) : CpS s v l w (W.setCell ⟨b, j, none⟩ u) := by
  have keep : ∀ {g : Nat} {o : Obj}, g < b → W.heap[g]? = some o → (W.setCell ⟨b, j, none⟩ u).heap[g]? = some o := fun hlt h => by
    rw [heap_setCell_other _ _ _ _ (by show _ ≠ b; omega)]
    exact h
  exact ⟨keep (by omega) i.box, keep (by omega) i.res, keep (by omega) i.twin, keep (by omega) i.it, i.own.cellset ho,
    fun x hx => (i.each x hx).rows (Rows.of_set hr (by decide)) (Rows.of_set hr (by decide)), i.below.setCell (p := ⟨b, j, none⟩) (by show _ ≤ b; omega) _⟩
theorem CpS.step {s : ScR} {v v' : Value} {l l' : List ObjR} {w W X : World} (hs : ScWf s) (i : CpS s v l w W) (ho : OwnG 44 19 objL X (w.heap.size + 1 + 1 + 1 + 1) v' l') (hg : W.grownBy X v.ownBlock) (he : ∀ x ∈ l', FreshO (w.heap.size + 1 + 1 + 1 + 1) x W) :
    CpS s v' l' w (X.setCell ⟨w.heap.size + 1 + 1, 18, none⟩ v') := by
  have hb := i.own.blk
  have keep : ∀ {g : Nat} {o : Obj}, g < w.heap.size + 1 + 1 + 1 + 1 → W.heap[g]? = some o → X.heap[g]? = some o := fun hlt h => by
    rw [hg.block _ (Array.getElem?_eq_some_iff.1 h).1 (fun e => by have := hb _ e.symm; omega)]
    exact h
  have k2 : ∀ {g : Nat} {o : Obj}, g ≠ w.heap.size + 1 + 1 → g < w.heap.size + 1 + 1 + 1 + 1 → W.heap[g]? = some o → (X.setCell ⟨w.heap.size + 1 + 1, 18, none⟩ v').heap[g]? = some o := fun hne hlt h => by
    rw [heap_setCell_other _ _ _ _ hne]
    exact keep hlt h
  have ht := keep (by omega) i.twin
  refine ⟨k2 (by omega) (by omega) i.box, k2 (by omega) (by omega) i.res, ?_, k2 (by omega) (by omega) i.it, ho.cellset (fun e => by have := ho.blk _ e; omega), fun x hx => ?_, ?_⟩
  · rw [heap_setCell_same _ _ 18 _ _ v' ht, twL_set hs]
  · have h1 : ∀ {t : TypeId}, t ≠ 44 → t ≠ 28 → Rows t W (X.setCell ⟨w.heap.size + 1 + 1, 18, none⟩ v') := fun n1 n2 => (Rows.of_grown hg (fun k hk => i.own.row k hk) n1).trans (Rows.of_set ht n2)
    exact (he x hx).rows (h1 (by decide) (by decide)) (h1 (by decide) (by decide))
  · exact (below_grown2 (Nat.le_refl _) i.below hg (fun k hk => by have := hb k hk; omega)).setCell (p := ⟨w.heap.size + 1 + 1, 18, none⟩) (by show _ ≤ w.heap.size + 1 + 1; omega) _
def CpI (s : ScR) (w : World) (k : Nat) (W : World) : Prop := ∃ v l, CpS s v l w W ∧ l.map keyO = (s.os.take k).map keyO
def CpA (s : ScR) (w : World) (k : Nat) (a : Act) (W : World) : Prop :=
  ∃ b5 v l, CpS s v l w W ∧ l.map keyO = (s.os.take k).map keyO ∧ w.heap.size + 1 + 1 + 1 < b5 ∧ v.ownBlock ≠ some b5 ∧ W.heap[b5]? = some (.cells (objL (s.os.getD k default)).toArray 44 (0, 0)) ∧
  a = { tmps := #[.agg (scC s), .pointer (some ⟨w.heap.size, 0, none⟩), .pointer (some ⟨w.heap.size + 1, 0, none⟩), .pointer (some ⟨w.heap.size + 1 + 1, 0, none⟩), undef, .pointer (some ⟨b5, 0, none⟩), .agg (scC s), .pointer (some ⟨w.heap.size + 1 + 1, 18, none⟩), .agg (scC s), .func (.func 25) #[] #[.pointer (some ⟨w.heap.size + 1 + 1 + 1, 0, none⟩)], .int .i64 (k : Int), .agg (objL (s.os.getD k default)).toArray, undef, undef, undef, undef, undef, undef, undef, undef, undef, undef, undef, undef, undef, undef, undef], defers := [] }
def RetCopy (s : ScR) (w : World) (e : Ending) (w' : World) : Prop := ∃ c : ScR, e = .returned (.agg (scC c)) ∧ sameS c s ∧ FreshS w.heap.size c w' ∧ Below w.heap.size w w'
theorem keeps_grownG {α : Type} {t : TypeId} {n : Nat} {f : α → List Value} {W X : World} {B D : Nat} {v : Value} {l : List α} (s : OwnG t n f W B v l) (hg : W.grownBy X v.ownBlock) : KeepsFrom D W X :=
  ⟨hg.size, fun k o _ hk ho => by
    rw [hg.block k (Array.getElem?_eq_some_iff.1 hk).1 (fun e => by
      obtain ⟨cur, hc⟩ := s.row k e.symm
      rw [hk] at hc
      cases hc
      cases ho)]
    exact hk⟩
theorem below_none {W X : World} (hg : W.grownBy X none) : Below W.heap.size W X := below_grown2 (Nat.le_refl _) (Below.refl _ _) hg (fun k hk => by cases hk)
theorem keyO_lists (x : ObjR) (o p : Option Addr) (c d : Nat) : keyO { x with vo := o, vc := c, tq := p, tc := d } = keyO x := rfl
theorem sizeZ (s : ScR) (h : ScWf s) (v : Value) : (Try.prog.info? 28).map (·.size) = some (twL s v).toArray.size := by rw [twL_len h]; kernel_rfl
set_option maxRecDepth 100000 in
set_option maxHeartbeats 8000000 in
theorem pcopy_any (s : ScR) (w : World) (hs : ScWf s) (h : ObjsAt w s.oo s.os) (hf : s.os.length ≤ 1000) (hfe : ∀ x ∈ s.os, x.vs.length ≤ 1000 ∧ x.ts.length ≤ 1000) :
    Calls Try.prog 11 #[.agg (scC s)] w (RetCopy s w) := by
  obtain ⟨A1, hA1⟩ : ∃ V, (w.alloc (.cells (scC s) 28)).alloc (.cells #[.int .i64 0, .int .i64 0, .int .i64 0, .int .i64 0, .int .i64 0, .int .i64 0, .int .i64 0, .int .i64 0, .int .i64 0, .int .i64 0, .int .i64 0, .int .i64 0, .int .i64 0, .int .i64 0, .int .i64 0, .int .i64 0, .int .i64 0, .int .i64 0, .slice none 0 0] 28) = V := ⟨_, rfl⟩
  obtain ⟨A2, hA2⟩ : ∃ V, A1.alloc (.cells #[.int .i64 0, .int .i64 0, .int .i64 0, .int .i64 0, .int .i64 0, .int .i64 0, .int .i64 0, .int .i64 0, .int .i64 0, .int .i64 0, .int .i64 0, .int .i64 0, .int .i64 0, .int .i64 0, .int .i64 0, .int .i64 0, .int .i64 0, .int .i64 0, .slice none 0 0] 28) = V := ⟨_, rfl⟩
  obtain ⟨A3, hA3⟩ : ∃ V, A2.setRow (w.heap.size + 1 + 1) (scC s) = V := ⟨_, rfl⟩
  obtain ⟨A4, hA4⟩ : ∃ V, A3.setCell ⟨w.heap.size + 1 + 1, 18, none⟩ (.slice none 0 0) = V := ⟨_, rfl⟩
  obtain ⟨W0, hW0⟩ : ∃ V, A4.alloc (.cells (scC s) 28) = V := ⟨_, rfl⟩
  have z1 : A1.heap.size = w.heap.size + 1 + 1 := by rw [← hA1]; simp
  have z2 : A2.heap.size = w.heap.size + 1 + 1 + 1 := by rw [← hA2, World.size_alloc, z1]
  have b1 : Below w.heap.size w A1 := by rw [← hA1]; exact ((Below.refl _ w).alloc (Nat.le_refl _) _).alloc (by simp) _
  have r1 : ScAt w.heap.size s A1 := by rw [← hA1]; exact step_row (ScAt.new w s)
  have r2 : RowAt 28 (w.heap.size + 1) #[.int .i64 0, .int .i64 0, .int .i64 0, .int .i64 0, .int .i64 0, .int .i64 0, .int .i64 0, .int .i64 0, .int .i64 0, .int .i64 0, .int .i64 0, .int .i64 0, .int .i64 0, .int .i64 0, .int .i64 0, .int .i64 0, .int .i64 0, .int .i64 0, .slice none 0 0] A1 := by
    rw [← hA1]
    have := RowAt.new (w.alloc (.cells (scC s) 28)) 28 #[.int .i64 0, .int .i64 0, .int .i64 0, .int .i64 0, .int .i64 0, .int .i64 0, .int .i64 0, .int .i64 0, .int .i64 0, .int .i64 0, .int .i64 0, .int .i64 0, .int .i64 0, .int .i64 0, .int .i64 0, .int .i64 0, .int .i64 0, .int .i64 0, .slice none 0 0]
    rw [World.size_alloc] at this
    exact this
  have b2 : Below A1.heap.size A1 A2 := by rw [← hA2]; exact (Below.refl _ A1).alloc (Nat.le_refl _) _
  have r3 : RowAt 28 (w.heap.size + 1 + 1) #[.int .i64 0, .int .i64 0, .int .i64 0, .int .i64 0, .int .i64 0, .int .i64 0, .int .i64 0, .int .i64 0, .int .i64 0, .int .i64 0, .int .i64 0, .int .i64 0, .int .i64 0, .int .i64 0, .int .i64 0, .int .i64 0, .int .i64 0, .int .i64 0, .slice none 0 0] A2 := by
    rw [← hA2, ← z1]
    exact RowAt.new A1 _ _
  have b3 : Below A1.heap.size A1 A3 := by rw [← hA3]; exact Below.row b2 (by omega) _
  have r4 : RowAt 28 (w.heap.size + 1 + 1) (twL s (.slice s.oo s.os.length s.oc)).toArray A3 := by rw [← hA3]; exact r3.row _
  have b4 : Below A1.heap.size A1 A4 := by rw [← hA4]; exact b3.setCell (p := ⟨w.heap.size + 1 + 1, 18, none⟩) (by show _ ≤ w.heap.size + 1 + 1; omega) _
  have r5 : A4.heap[w.heap.size + 1 + 1]? = some (.cells (twL s (.slice none 0 0)).toArray 28 (0, 0)) := by
    rw [← hA4, heap_setCell_same _ _ 18 _ _ (.slice none 0 0) r4, twL_set hs]
  have z4 : A4.heap.size = w.heap.size + 1 + 1 + 1 := by
    rw [← hA4, ← hA3]
    simp [z2]
  have b5 : Below A4.heap.size A4 W0 := by rw [← hW0]; exact (Below.refl _ A4).alloc (Nat.le_refl _) _
  have q18 : A3.cell? ⟨w.heap.size + 1 + 1, 18, none⟩ = some (.slice s.oo s.os.length s.oc) := by rw [cell_of_row _ _ _ _ _ _ r4]; exact twL_at hs _
  have f18 : A3.frozen? ⟨w.heap.size + 1 + 1, 18, none⟩ = false := frozen_row r4
  have F0 : CpS s (.slice none 0 0) [] w W0 := by
    refine ⟨(r1.below b4).below b5, keep_row b5 (r2.below b4), keep_row b5 r5, ?_, OwnG.nil _ _ _ _ _, fun x hx => by simp at hx, bnext (bnext b1 b4) b5⟩
    rw [← hW0, ← z4]
    exact ScAt.new A4 s
  have HF0 : Hid (CpI s w 0 W0) := Lib.hid ⟨_, _, F0, rfl⟩
  have HS0 : Hid (W0.heap.size = w.heap.size + 1 + 1 + 1 + 1) := Lib.hid (by rw [← hW0, World.size_alloc, z4])
  have HZ4 := Lib.hid z4
  have HZ1 := Lib.hid z1
  have HA1 := Lib.hid hA1
  have HA2 := Lib.hid hA2
  have HA3 := Lib.hid hA3
  have HA4 := Lib.hid hA4
  have HW0 := Lib.hid hW0
  have HOB := Lib.hid h
  have HSW := Lib.hid hs
  have HLN := Lib.hid hf
  have HFE := Lib.hid hfe
  have HAL1 := Lib.hid r1.all
  have HAL4 := Lib.hid (r1.below b4).all
  have HR3 := Lib.hid r3
  have hall := Lib.hid (sizeS hs)
  have hsz := Lib.hid (sizeZ s hs (.slice s.oo s.os.length s.oc))
  have hl19 := Lib.hid (show 19 = (scC s).size from (twL_len hs (.slice s.oo s.os.length s.oc)).symm)
  have hone := Lib.hid (twL_one s (.slice s.oo s.os.length s.oc) rfl)
  clear F0 b5 b4 b3 b2 b1 r1 r2 r3 r4 r5 z1 z2 z4 hA1 hA2 hA3 hA4 hW0 h hs hf hfe
  refine (callsIn_wide (n := 5)).1 ?_
  refine callsIn_of_wp_marks Try.func11 rfl trivial ?_ rfl
  simp only [Try.ntmps11, List.size_toArray, List.length_cons, List.length_nil, Nat.reduceAdd, Nat.reduceSub, Array.replicate_succ, Array.replicate_zero, List.push_toArray, List.append_toArray, List.nil_append, List.cons_append]
  refine wpIn_wide.2 ?_
  go_wp2_with (first | (rw [HA1.out]) | (rw [HA2.out]) | (rw [HZ1.out]) | (rw [HA3.out]) | (rw [HA4.out]) | (refine wpList_load_mid rfl 28 (.tmp 1) rfl w.heap.size 0 rfl (scL s) _ HAL1.out Try.underlying28 rfl hall.out ?_) | (refine wpList_load_mid rfl 28 (.tmp 1) rfl w.heap.size 0 rfl (scL s) _ HAL4.out Try.underlying28 rfl hall.out ?_) | (refine wpList_store_big rfl 28 (.tmp 3) (.tmp 6) rfl (w.heap.size + 1 + 1) _ _ (scC s) rfl rfl HR3.out hsz.out hl19.out hone.out ?_))
  refine (objects_w s _).mono ?_
  rintro e w' ⟨rfl, rfl⟩
  rw [HZ4.out, HW0.out]
  clear q18 f18 HA1 HA2 HA3 HA4 HAL1 HAL4 HR3
  go_wp2_with fail
  refine wpIn_wide.1 (wpIn_range_jump (F := Fence.wide) (n := 5) rfl (by omega) (gf := 25) (lb := #[.pointer (some ⟨w.heap.size + 1 + 1 + 1, 0, none⟩)]) rfl trivial (enters_of Try.func25 (by kernel_rfl) rfl)
    (obj_hands s (w.heap.size + 1 + 1 + 1) HSW.out) (fun _ => rfl) .ret (CpI s w) (fun _ => False) (fun j a' W => CpA s w j a' W)
    ?i1 ?i2 ?i3 ?i4 ?i5 HF0.out ?assign ?body ?done ?stop)
  case i1 => rintro j W X ⟨v, l, h1, h2⟩ hk; exact ⟨v, l, h1.kept (by have := HS0.out; omega) hk, h2⟩
  case i2 => rintro W X h; exact h.elim
  case i3 => rintro j a W X ⟨b5, v, l, h1, h2, h3, h4, h5, ha⟩ hk; exact ⟨b5, v, l, h1.kept (by have := HS0.out; omega) hk, h2, h3, h4, hk.cells h5, ha⟩
  case i4 => rintro j W ⟨v, l, h1, _⟩; exact ⟨h1.it, HOB.out.below h1.below⟩
  case i5 => rintro W h; exact h.elim
  case assign =>
    intro l1 j W C hk hI hC
    have hx : s.os[j]? = some (s.os.getD j default) := by rw [List.getD_eq_getElem?_getD, List.getElem?_eq_getElem hk]; rfl
    obtain ⟨b, off, e, hat⟩ := HOB.out j _ hx
    simp only [objElem]
    have HA : Hid (∀ (X : World) (b5 : Nat), X.heap[b5]? = some (.cells (objL (s.os.getD j default)).toArray 44 (0, 0)) → w.heap.size + 1 + 1 + 1 < b5 → (∃ v l, CpS s v l w X ∧ l.map keyO = (s.os.take j).map keyO ∧ v.ownBlock ≠ some b5) → CpA s w j _ X) := Lib.hid (fun X b5 h hlt hv => by
      obtain ⟨v, l, h1, h2, h3⟩ := hv
      exact ⟨b5, v, l, h1, h2, hlt, h3, h, rfl⟩)
    obtain ⟨v, l, hcp, hkl⟩ := hI
    obtain ⟨x, hxx⟩ : ∃ x, s.os.getD j default = x := ⟨_, rfl⟩
    rw [hxx] at hat hx HA ⊢
    have hinfA := Lib.hid (show (Try.prog.info? 44).map (·.size) = some (objL x).toArray.size by rw [List.size_toArray, objL_len hat.wf]; kernel_rfl)
    have HL := Lib.hid (show 19 = (objL x).toArray.size by rw [List.size_toArray, objL_len hat.wf])
    have HONE := Lib.hid (objL_one x)
    have HB : Hid (Below W.heap.size W (W.alloc (.cells (objL x).toArray 44))) := Lib.hid ((Below.refl _ W).alloc (Nat.le_refl _) _)
    have HRN := Lib.hid (heap_alloc_new W (.cells (objL x).toArray 44))
    have HLT : Hid (w.heap.size + 1 + 1 + 1 < W.heap.size) := Lib.hid (Array.getElem?_eq_some_iff.1 hcp.it).1
    have HEX : Hid (∃ v l, CpS s v l w (W.alloc (.cells (objL x).toArray 44)) ∧ l.map keyO = (s.os.take j).map keyO ∧ v.ownBlock ≠ some W.heap.size) := Lib.hid ⟨v, l, hcp.up HB.out, hkl, fun e => by have := hcp.own.lt _ e; omega⟩
    clear hat hx hxx e hcp hkl
    gi_wp2_with (refine wpListIn_store_new (fun _ => trivial) rfl 44 (.tmp 5) (.tmp 11) rfl W.heap.size _ _ (objL x).toArray rfl rfl rfl hinfA.out HL.out HONE.out ?_)
    exact hC _ _ (below_keeps HB.out _) (HA.out _ _ HRN.out HLT.out HEX.out)
  case body =>
    rintro l1 j a' W hk ⟨b5, v, l, fs, hkl, hlt5, hne5, h5, ha⟩
    subst ha
    have hx : s.os[j]? = some (s.os.getD j default) := by rw [List.getD_eq_getElem?_getD, List.getElem?_eq_getElem hk]; rfl
    have HTK : Hid ((s.os.take (j + 1)).map keyO = l.map keyO ++ [keyO (s.os.getD j default)]) := Lib.hid (by rw [List.take_add_one, hx, List.map_append, hkl]; rfl)
    have HLLE : Hid (l.length ≤ 1000) := Lib.hid (by
      have := congrArg List.length hkl
      simp only [List.length_map, List.length_take] at this
      have := HLN.out
      omega)
    obtain ⟨_, _, _, hat⟩ := (HOB.out.below fs.below) j _ hx
    have hfx := HFE.out _ (List.mem_of_getElem? hx)
    obtain ⟨x, hxx⟩ : ∃ x, s.os.getD j default = x := ⟨_, rfl⟩
    rw [hxx] at h5 HTK hat hfx hx ⊢
    have HTA : Hid (∀ X, Below w.heap.size w X → TrisAt X x.tq x.ts) := Lib.hid (fun X hb => by
      obtain ⟨_, _, _, h⟩ := (HOB.out.below hb) j _ hx
      exact h.tris)
    have HX := Lib.hid hat.wf
    have HVS := Lib.hid hat.verts
    have HTS := Lib.hid hat.tris
    have HFX := Lib.hid hfx
    have HS := Lib.hid fs
    have H5 := Lib.hid h5
    have HLT5 := Lib.hid hlt5
    have HNE5 := Lib.hid hne5
    have d17 : W.cell? ⟨b5, 17, none⟩ = some (.slice x.vo x.vs.length x.vc) := by
      rw [cell_of_row _ _ _ _ _ _ h5]
      exact (by simpa using objL_vs hat.wf)
    clear h5 hx hxx fs hk hkl hlt5 hne5 hat hfx
    gi_wp2_with (refine appIn_G infoGv (fun _ => trivial) rfl (.const (.slice none 0 0)) (.tmp 13) 41 rfl Try.underlying41 W.heap.size (.slice none 0 0) [] x.vs rfl (Nat.le_refl _) (OwnG.nil _ _ _ _ _) x.vo x.vc rfl HX.out.vcap.2 HVS.out.src (vert_len HVS.out.wf) (fun z _ => enc_one z) (by have := HFX.out.1; simp; omega) ?_)
    intro v2 X1 ho1 hg1
    try rw [List.nil_append] at ho1
    obtain ⟨o2, c2, rfl, hcap2, hl2⟩ := ho1.form (vert_len HVS.out.wf)
    refine Lib.hid ?_
    have hb1 := below_none hg1
    have h51 := keep_row hb1 H5.out
    have e17 : X1.cell? ⟨b5, 17, none⟩ = some (.slice x.vo x.vs.length x.vc) := keep_cell hb1 d17
    have g17 : X1.frozen? ⟨b5, 17, none⟩ = false := frozen_row h51
    obtain ⟨Y1, hY1⟩ : ∃ V, X1.setCell ⟨b5, 17, none⟩ (.slice o2 x.vs.length c2) = V := ⟨_, rfl⟩
    have h5y : Y1.heap[b5]? = some (.cells (objL { x with vo := o2, vc := c2 }).toArray 44 (0, 0)) := by
      rw [← hY1, heap_setCell_same _ _ 17 _ _ _ h51, objL_set17 HX.out.len]
    have hsy : CpS s v l w Y1 := by rw [← hY1]; exact (HS.out.up hb1).put HLT5.out HNE5.out h51
    have hvy : LiesG 47 3 (fun z => z.map encI) Y1 W.heap.size o2 x.vs := by rw [← hY1]; exact hl2.rows (Rows.of_set h51 (by decide))
    have htsy : TrisAt Y1 x.tq x.ts := HTA.out Y1 hsy.below
    have d18 : Y1.cell? ⟨b5, 18, none⟩ = some (.slice x.tq x.ts.length x.tc) := by
      rw [cell_of_row _ _ _ _ _ _ h5y]
      exact (by simpa using objL_ts (x := { x with vo := o2, vc := c2 }) ⟨HX.out.id, HX.out.len, HX.out.num, hcap2, HX.out.tcap⟩)
    have hkf1 : KeepsFrom W0.heap.size W Y1 := by rw [← hY1]; exact (below_keeps hb1 _).trans ((KeepsOthers.setCell _ _ _).from _)
    have HSY := Lib.hid hsy
    have H5Y := Lib.hid h5y
    have HVY := Lib.hid hvy
    have HTY := Lib.hid htsy
    have HKF1 := Lib.hid hkf1
    have HC2 := Lib.hid hcap2
    have HY1 := Lib.hid hY1
    have HWY : Hid (W.heap.size ≤ Y1.heap.size) := Lib.hid (by rw [← hY1]; simpa using hb1.size)
    clear ho1 hg1 hl2 hb1 h51 hsy h5y hvy htsy hkf1 hcap2 hY1 d17
    gi_wp2_with (first | (rw [HY1.out]) | (refine appIn_G infoGt (fun _ => trivial) rfl (.const (.slice none 0 0)) (.tmp 17) 42 rfl Try.underlying42 Y1.heap.size (.slice none 0 0) [] x.ts rfl (Nat.le_refl _) (OwnG.nil _ _ _ _ _) x.tq x.tc rfl HX.out.tcap.2 HTY.out.src (fun z _ => rfl) (fun z _ => tri_one z) (by have := HFX.out.2; simp; omega) ?_))
    intro v3 X2 ho2 hg2
    try rw [List.nil_append] at ho2
    obtain ⟨o3, c3, rfl, hcap3, hl3⟩ := ho2.form (fun z _ => rfl)
    refine Lib.hid ?_
    have hb2 := below_none hg2
    have h52 := keep_row hb2 H5Y.out
    have e18 : X2.cell? ⟨b5, 18, none⟩ = some (.slice x.tq x.ts.length x.tc) := keep_cell hb2 d18
    have g18 : X2.frozen? ⟨b5, 18, none⟩ = false := frozen_row h52
    obtain ⟨Y2, hY2⟩ : ∃ V, X2.setCell ⟨b5, 18, none⟩ (.slice o3 x.ts.length c3) = V := ⟨_, rfl⟩
    obtain ⟨x2, hx2⟩ : ∃ x2 : ObjR, { x with vo := o2, vc := c2, tq := o3, tc := c3 } = x2 := ⟨_, rfl⟩
    have h5z : Y2.heap[b5]? = some (.cells (objL x2).toArray 44 (0, 0)) := by
      rw [← hY2, heap_setCell_same _ _ 18 _ _ _ h52, ← hx2]
      congr 2
      exact objL_set18 (x := { x with vo := o2, vc := c2 }) HX.out.len o3 c3
    have hsz2 : CpS s v l w Y2 := by rw [← hY2]; exact (HSY.out.up hb2).put HLT5.out HNE5.out h52
    have hB4 : w.heap.size + 1 + 1 + 1 + 1 ≤ W.heap.size := by have := (Array.getElem?_eq_some_iff.1 HS.out.it).1; omega
    have hf2 : FreshO (w.heap.size + 1 + 1 + 1 + 1) x2 Y2 := by
      rw [← hx2]
      refine ⟨⟨HX.out.id, HX.out.len, HX.out.num, HC2.out, hcap3⟩, ?_, ?_, HVS.out.wf, HTS.out.wf⟩
      · rw [← hY2]
        exact ((HVY.out.rows (Rows.of_below hb2)).rows (Rows.of_set h52 (by decide))).base hB4
      · rw [← hY2]
        exact (hl3.rows (Rows.of_set h52 (by decide))).base (by have := HWY.out; omega)
    have HKY : Hid (keyO x = keyO x2) := Lib.hid (by rw [← hx2]; rfl)
    have hkf2 : KeepsFrom W0.heap.size W Y2 := by rw [← hY2]; exact HKF1.out.trans ((below_keeps hb2 _).trans ((KeepsOthers.setCell _ _ _).from _))
    have hT : Y2.cell? ⟨w.heap.size + 1 + 1, 18, none⟩ = some v := by rw [cell_of_row _ _ _ _ _ _ hsz2.twin]; exact twL_at HSW.out v
    have HR5 := Lib.hid (show Y2.rangeAt b5 0 (objL x2) from fun i u hi => by rw [cell_of_row _ _ _ _ _ _ h5z, Nat.zero_add]; simpa using hi)
    have hi2 := Lib.hid (sizeOx hf2.wf)
    have hs2 := Lib.hid (show (objL x2).toArray.size = 19 by rw [List.size_toArray]; exact objL_len hf2.wf)
    have HSZ := Lib.hid hsz2
    have HF2 := Lib.hid hf2
    have HKF2 := Lib.hid hkf2
    have HY2 := Lib.hid hY2
    have HRN := Lib.hid (RowAt.new Y2 44 (objL x2).toArray)
    have HBN : Hid (Below Y2.heap.size Y2 (Y2.alloc (.cells (objL x2).toArray 44))) := Lib.hid ((Below.refl _ Y2).alloc (Nat.le_refl _) _)
    have HSN := Lib.hid (hsz2.up HBN.out)
    have HBB : Hid (w.heap.size + 1 + 1 + 1 + 1 ≤ (Y2.alloc (.cells (objL x2).toArray 44)).heap.size) := Lib.hid (by
      have h1 := HBN.out.size
      have h2 : X2.heap.size = Y2.heap.size := by rw [← hY2]; simp
      have h3 := hb2.size
      have h4 := HWY.out
      omega)
    clear ho2 hg2 hl3 hb2 h52 hsz2 h5z hf2 hkf2 hcap3 hY2 hx2 e17 g17 d18 hB4 HSY H5Y HVY HTY HKF1 HC2 HVS HTS HX HFX
    gi_wp2_with (first | (rw [HY2.out]) | (refine wpListIn_load_mid (fun _ => trivial) rfl 44 (.tmp 5) rfl b5 0 rfl (objL x2) _ HR5.out Try.underlying44 rfl hi2.out ?_) | (refine buildIn_one infoGo (by omega) (fun _ => trivial) rfl (.tmp 22) 26 rfl Try.underlying26 (objL x2).toArray rfl hs2.out ?_) | (refine appIn_G infoGo (fun _ => trivial) rfl (.tmp 21) (.tmp 23) 26 rfl Try.underlying26 (w.heap.size + 1 + 1 + 1 + 1) v l [x2] rfl HBB.out HSN.out.own (some ⟨Y2.heap.size, 0, none⟩) 1 rfl (fun h => by cases h) (one_src HRN.out) (fun z hz => by simp at hz; subst hz; exact (by simpa using hs2.out)) (fun z _ => obj_one1 z) (by have := HLLE.out; simp; omega) ?_))
    intro v4 X3 ho3 hg3
    refine Lib.hid ?_
    obtain ⟨o4, c4, rfl, _, _⟩ := ho3.form (fun z hz => by
      rcases List.mem_append.1 hz with hz | hz
      · exact objL_len (HSN.out.each z hz).wf
      · simp at hz
        subst hz
        exact (by simpa using hs2.out))
    have hT3 : X3.heap[w.heap.size + 1 + 1]? = some (.cells (twL s v).toArray 28 (0, 0)) := by
      rw [hg3.block _ (Array.getElem?_eq_some_iff.1 HSN.out.twin).1 (fun e => by have := HSN.out.own.blk _ e.symm; omega)]
      exact HSN.out.twin
    have t18 : X3.cell? ⟨w.heap.size + 1 + 1, 18, none⟩ = some v := by rw [cell_of_row _ _ _ _ _ _ hT3]; exact twL_at HSW.out v
    have u18 : X3.frozen? ⟨w.heap.size + 1 + 1, 18, none⟩ = false := frozen_row hT3
    have HN := Lib.hid (HSN.out.step HSW.out ho3 hg3 (fun z hz => by
      rcases List.mem_append.1 hz with hz | hz
      · exact HSN.out.each z hz
      · simp at hz
        subst hz
        exact HF2.out.rows (Rows.of_below HBN.out) (Rows.of_below HBN.out)))
    have HKF : Hid (∀ u, KeepsFrom W0.heap.size W (X3.setCell ⟨w.heap.size + 1 + 1, 18, none⟩ u)) := Lib.hid (fun u => HKF2.out.trans ((below_keeps HBN.out _).trans ((keeps_grownG HSN.out.own hg3).trans ((KeepsOthers.setCell _ _ _).from _))))
    obtain ⟨ml, hml⟩ : ∃ ml, (l ++ [x2]).length = ml := ⟨_, rfl⟩
    rw [hml] at HN ⊢
    clear ho3 hg3 hT3 hT HSZ HSN HS hml
    gi_wp2
    exact ⟨HKF.out _, _, _, HN.out, by rw [HTK.out, List.map_append, HKY.out]; rfl⟩
  case done =>
    rintro D W hD ⟨v, l, fs, hkl⟩ hdef
    rw [List.take_length] at hkl
    have HS := Lib.hid fs
    have HTW := Lib.hid (show W.rangeAt (w.heap.size + 1 + 1) 0 (twL s v) from fun i u hi => by rw [cell_of_row _ _ _ _ _ _ fs.twin, Nat.zero_add]; simpa using hi)
    have hi := Lib.hid (show (Try.prog.info? 28).map (·.size) = some (twL s v).length by have := sizeZ s HSW.out v; simpa using this)
    have hi2 := Lib.hid (sizeZ s HSW.out v)
    have h19 := Lib.hid (show 19 = (twL s v).toArray.size from (twL_len HSW.out v).symm)
    obtain ⟨o4, c4, hv4, hcap4, hl4⟩ := fs.own.form (fun z hz => objL_len (fs.each z hz).wf)
    have h1 := Lib.hid (twL_one s v (by rw [hv4]; rfl))
    have HRS := Lib.hid fs.res
    have HDD : Hid (w.heap.size + 1 + 1 + 1 + 1 ≤ D) := Lib.hid (by have := HS0.out; omega)
    have HDF := Lib.hid hdef
    have HRET : Hid (∀ X, Rows 44 W X → Rows 47 W X → Rows 58 W X → Below w.heap.size w X → RetCopy s w (.returned (.agg (twL s v).toArray)) X) := Lib.hid (fun X hO h3 h4 hb => by
      refine ⟨⟨s.w, s.h, s.cam, o4, l, c4⟩, by rw [hv4]; rfl, ⟨rfl, rfl, rfl, hkl⟩, ⟨⟨HSW.out.w, HSW.out.h, HSW.out.len, HSW.out.num, hcap4⟩, (hl4.rows hO).base (by omega), fun x hx => ((fs.each x hx).rows h3 h4).base (by omega)⟩, hb⟩)
    clear fs hD hdef hkl hv4 hcap4 hl4
    go_wp2_with (first | (refine wpList_load_mid rfl 28 (.tmp 3) rfl (w.heap.size + 1 + 1) 0 rfl (twL s v) _ HTW.out Try.underlying28 rfl hi.out ?_) | (refine wpList_store_big rfl 28 (.tmp 2) (.tmp 26) rfl (w.heap.size + 1) _ _ (twL s v).toArray rfl rfl HRS.out hi2.out h19.out h1.out ?_))
    have hdf : (W.setRow (w.heap.size + 1) (twL s v).toArray).heap[D]? = some (.deferred (some [])) := by rw [setRow_other _ _ _ _ (by have := HDD.out; omega)]; exact HDF.out
    refine ⟨by simp, .inl ⟨_, _, rfl, run_takeDeferred hdf, ?_⟩⟩
    refine ⟨_, results_cell_row rfl _ _ (w.heap.size + 1) _ _ _ _ rfl ((World.putObj_heap_other (by have := HDD.out; omega)).trans (setRow_heap _ _ _ _ _ _ HRS.out)) Try.underlying28 rfl hi2.out, ?_⟩
    have hR : ∀ {t : TypeId}, t ≠ 28 → Rows t W (W.setRow (w.heap.size + 1) (twL s v).toArray) := fun hne g cur hg => by
      rw [setRow_other _ _ _ _ (fun e => by
        subst e
        rw [HRS.out] at hg
        cases hg
        exact hne rfl)]
      exact hg
    have hk : Kept w.heap.size (W.setRow (w.heap.size + 1) (twL s v).toArray) ((W.setRow (w.heap.size + 1) (twL s v).toArray).putObj D (.deferred none)) := Kept.putObj _ (by have := HDD.out; omega) hdf rfl
    exact HRET.out _ ((hR (by decide)).trans (Rows.of_kept hk)) ((hR (by decide)).trans (Rows.of_kept hk)) ((hR (by decide)).trans (Rows.of_kept hk)) (hk.below (Nat.le_refl _) (Below.row HS.out.below (by omega) _))
  case stop =>
    rintro D W hD h hdef
    exact h.elim
end Go.Proofs.Ytbbhmhihpdmoiaa.Fx
set_option linter.unusedVariables false
set_option linter.unusedSimpArgs false
namespace Go.Proofs.Ytbbhmhihpdmoiaa.Fx
open Go Go.RowKit
/-- a number that may be written over -/
def IntAt (k : IntKind) (W : World) (b j : Nat) : Prop := ((∃ z, W.cell? ⟨b, j, none⟩ = some (.int k z)) ∧ b < W.heap.size) ∧ W.frozen? ⟨b, j, none⟩ = false
theorem IntAt.below {k : IntKind} {W X : World} {b j : Nat} (hb : Below W.heap.size W X) (h : IntAt k W b j) : IntAt k X b j := by
  obtain ⟨⟨⟨z, hz⟩, hl⟩, hf⟩ := h
  exact ⟨⟨⟨z, keep_cell hb hz⟩, Nat.lt_of_lt_of_le hl hb.size⟩, keep_free hb hl hf⟩
theorem IntAt.put {k q : IntKind} {W : World} {b j b2 j2 : Nat} (h : IntAt k W b j) (h2 : IntAt q W b2 j2) (z : Int) : IntAt k (W.setCell ⟨b2, j2, none⟩ (.int q z)) b j := by
  obtain ⟨⟨⟨y, hy⟩, hl⟩, hf⟩ := h
  obtain ⟨⟨⟨y2, hy2⟩, hl2⟩, hf2⟩ := h2
  refine ⟨⟨?_, by simpa using hl⟩, by rw [World.frozen?_setCell]; exact hf⟩
  by_cases e : (⟨b2, j2, none⟩ : Addr) = ⟨b, j, none⟩
  · cases e
    rw [hy2] at hy
    cases hy
    exact ⟨z, World.cell?_setCell_same _ _ _ hy2⟩
  · exact ⟨y, by rw [World.cell?_setCell_other _ _ _ _ e]; exact hy⟩
theorem slice_put {q : IntKind} {W : World} {a : Addr} {b2 j2 n c : Nat} {o : Option Addr} (h : W.cell? a = some (.slice o n c)) (h2 : IntAt q W b2 j2) (z : Int) : (W.setCell ⟨b2, j2, none⟩ (.int q z)).cell? a = some (.slice o n c) := by
  obtain ⟨⟨⟨y2, hy2⟩, hl2⟩, hf2⟩ := h2
  by_cases e : (⟨b2, j2, none⟩ : Addr) = a
  · subst e
    rw [hy2] at h
    cases h
  · rw [World.cell?_setCell_other _ _ _ _ e]
    exact h
structure SpI (B bc : Nat) (c : ScR) (V W : World) : Prop where
  below : Below B V W
  le : B ≤ bc
  box : W.heap[bc]? = some (.cells (scC c) 28 (0, 0))
  id : ∀ k x, c.os[k]? = some x → ∃ g off, c.oo = some ⟨g, off, none⟩ ∧ B ≤ g ∧ g ≠ bc ∧ IntAt .i64 W g (off + k * 19) ∧ W.cell? ⟨g, off + k * 19 + 17, none⟩ = some (.slice x.vo x.vs.length x.vc) ∧ W.cell? ⟨g, off + k * 19 + 18, none⟩ = some (.slice x.tq x.ts.length x.tc)
  vs : ∀ x ∈ c.os, ∀ j, j < x.vs.length → ∃ g off, x.vo = some ⟨g, off, none⟩ ∧ B ≤ g ∧ g ≠ bc ∧ IntAt .i64 W g (off + j * 3)
  ts : ∀ x ∈ c.os, ∀ j, j < x.ts.length → ∃ g off, x.tq = some ⟨g, off, none⟩ ∧ B ≤ g ∧ g ≠ bc ∧ IntAt .i64 W g (off + j * 4)
theorem SpI.up {B bc : Nat} {c : ScR} {V W X : World} (hb : Below W.heap.size W X) (hB : B ≤ W.heap.size) (i : SpI B bc c V W) : SpI B bc c V X := by
  refine ⟨i.below.trans (hb.mono hB), i.le, keep_row hb i.box, fun k x hk => ?_, fun x hx j hj => ?_, fun x hx j hj => ?_⟩
  · obtain ⟨g, off, e, h1, h2, h3, h4, h5⟩ := i.id k x hk
    exact ⟨g, off, e, h1, h2, h3.below hb, keep_cell hb h4, keep_cell hb h5⟩
  · obtain ⟨g, off, e, h1, h2, h3⟩ := i.vs x hx j hj
    exact ⟨g, off, e, h1, h2, h3.below hb⟩
  · obtain ⟨g, off, e, h1, h2, h3⟩ := i.ts x hx j hj
    exact ⟨g, off, e, h1, h2, h3.below hb⟩
theorem SpI.lt {B bc : Nat} {c : ScR} {V W : World} (i : SpI B bc c V W) : B ≤ W.heap.size := by
  have := (Array.getElem?_eq_some_iff.1 i.box).1
  have := i.le
  omega
theorem SpI.up' {B bc : Nat} {c : ScR} {V W X : World} (i : SpI B bc c V W) (hb : Below W.heap.size W X) : SpI B bc c V X := i.up hb i.lt
theorem SpI.put {B bc : Nat} {c : ScR} {V W : World} (i : SpI B bc c V W) {g j : Nat} (hg : B ≤ g) (hn : g ≠ bc) (h : IntAt .i64 W g j) (z : Int) : SpI B bc c V (W.setCell ⟨g, j, none⟩ (.int .i64 z)) := by
  refine ⟨i.below.setCell (p := ⟨g, j, none⟩) hg _, i.le, ?_, fun k x hk => ?_, fun x hx j hj => ?_, fun x hx j hj => ?_⟩
  · rw [heap_setCell_other _ _ _ _ (by exact fun e => hn e.symm)]
    exact i.box
  · obtain ⟨g, off, e, h1, h2, h3, h4, h5⟩ := i.id k x hk
    exact ⟨g, off, e, h1, h2, h3.put h z, slice_put h4 h z, slice_put h5 h z⟩
  · obtain ⟨g, off, e, h1, h2, h3⟩ := i.vs x hx j hj
    exact ⟨g, off, e, h1, h2, h3.put h z⟩
  · obtain ⟨g, off, e, h1, h2, h3⟩ := i.ts x hx j hj
    exact ⟨g, off, e, h1, h2, h3.put h z⟩
theorem int_row {t : TypeId} {W : World} {g j : Nat} {cur : Array Value} {k : IntKind} {z : Int} (h : W.heap[g]? = some (.cells cur t (0, 0))) (hc : W.cell? ⟨g, j, none⟩ = some (.int k z)) : IntAt k W g j := ⟨⟨⟨z, hc⟩, (Array.getElem?_eq_some_iff.1 h).1⟩, frozen_row h⟩
theorem SpI.new {B C bc : Nat} {c : ScR} {V W : World} (hC : B ≤ C) (s : FreshS C c W) (hb : Below B V W) (hle : B ≤ bc) (hbc : W.heap[bc]? = some (.cells (scC c) 28 (0, 0))) : SpI B bc c V W := by
  have hne : ∀ {t : TypeId} {g : Nat} {cur : Array Value}, W.heap[g]? = some (.cells cur t (0, 0)) → t ≠ 28 → g ≠ bc := fun h ht e => by
    subst e
    rw [hbc] at h
    cases h
    exact ht rfl
  refine ⟨hb, hle, hbc, fun k x hk => ?_, fun x hx j hj => ?_, fun x hx j hj => ?_⟩
  · obtain ⟨g, cur, e, h1, h2, _, h3⟩ := s.objs.at_ k x hk
    have hw := (s.each x (List.mem_of_getElem? hk)).wf
    refine ⟨g, 0, e, by omega, hne h2 (by decide), int_row h2 (z := x.id) ?_, ?_, ?_⟩
    · exact h3 0 _ (objL_id x)
    · exact h3 17 _ (objL_vs hw)
    · exact h3 18 _ (objL_ts hw)
  · have hw := s.each x hx
    obtain ⟨v, hv⟩ : ∃ v, x.vs[j]? = some v := ⟨_, List.getElem?_eq_getElem hj⟩
    obtain ⟨g, cur, e, h1, h2, _, h3⟩ := hw.v.at_ j v hv
    have hvl := (hw.vw v (List.mem_of_getElem? hv)).len
    obtain ⟨z, hz⟩ : ∃ z, v[0]? = some z := ⟨_, List.getElem?_eq_getElem (by omega)⟩
    refine ⟨g, 0, e, by omega, hne h2 (by decide), int_row h2 (z := z) ?_⟩
    exact h3 0 _ (by rw [List.getElem?_map, hz]; rfl)
  · have hw := s.each x hx
    obtain ⟨v, hv⟩ : ∃ v, x.ts[j]? = some v := ⟨_, List.getElem?_eq_getElem hj⟩
    obtain ⟨g, cur, e, h1, h2, _, h3⟩ := hw.t.at_ j v hv
    refine ⟨g, 0, e, by omega, hne h2 (by decide), int_row h2 (z := v.a) ?_⟩
    exact h3 0 _ rfl
/-- a call in a region that draws its order, whose answer is not known ahead -/
theorem wpIn_call_any {n : Nat} {P : Program} {o : Oper} {a : Act} {w : World} {K : Act → World → Prop} {Q : Exit → Act → World → Prop} (f : FuncId) (args : Array Value) (hrun : (execOp a.eval o).run P w = .ok (.enter f args) w) (c : Callee) (ps : Array Operand) (ts : Array TypeId) (ho : o.op = .call { callee := c, args := ps, argTypes := ts })
    {post : Ending → World → Prop} (hc : Calls P f args w post) (h : ∀ e w', post e w' → ∃ v, e = .returned v ∧ K (a.put o.dst v) w') : Oper.wpIn Fence.wide n P o a w K Q := by
  unfold Oper.wpIn
  refine ⟨fun f _ => trivial, ?_⟩
  rw [Oper.semAt_plain _ _ _ (by rw [ho]; intro c hc'; cases hc'), hrun]
  refine ⟨fun h => (by cases h), callsIn_wide.2 (hc.mono ?_)⟩
  intro e w' hp
  obtain ⟨v, rfl, hk⟩ := h e w' hp
  exact hk
end Go.Proofs.Ytbbhmhihpdmoiaa.Fx
