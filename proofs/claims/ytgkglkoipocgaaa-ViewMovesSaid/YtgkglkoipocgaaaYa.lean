/- Lists of one's own whose members are some cells each: appended to, and read. -/
import Derived.Test.YtgkglkoipocgaaaProg
import Derived.Test.YtgkglkoipocgaaaSa
import Derived.Test.YtgkglkoipocgaaaIt
import Derived.OwnWalkIn
import Derived.Laws.OwnMore
import Derived.Laws.AppendOwn
import Derived.Great.BuildSlice
set_option linter.unusedVariables false
set_option linter.unusedSimpArgs false
namespace Go.Proofs.Ytgkglkoipocgaaa.Fx
open Go Go.RowKit
section
variable {α : Type} {t : TypeId} {n : Nat} {f : α → List Value}
def OwnG (t : TypeId) (n : Nat) (f : α → List Value) (W : World) (B : Nat) (v : Value) (l : List α) : Prop := W.ownsRow B t n v l.length (l.flatMap f)
theorem OwnG.below {w W : World} {B : Nat} {v : Value} {l : List α} (h : Below w.heap.size w W) (s : OwnG t n f w B v l) : OwnG t n f W B v l := by
  obtain ⟨h1, h2⟩ := s
  refine ⟨h1, ?_⟩
  rcases h2 with h2 | ⟨g, cap, cur, e, hb, hg, h3⟩
  · exact Or.inl h2
  · exact Or.inr ⟨g, cap, cur, e, hb, keep_row h hg, h3⟩
theorem OwnG.kept {B C : Nat} {v : Value} {l : List α} {W X : World} (s : OwnG t n f W C v l) (k : Kept B W X) : OwnG t n f X C v l := by
  obtain ⟨h1, h2⟩ := s
  refine ⟨h1, ?_⟩
  rcases h2 with h2 | ⟨g, cap, cur, e, hb, hg, h3⟩
  · exact .inl h2
  · exact .inr ⟨g, cap, cur, e, hb, k.cells hg, h3⟩
theorem OwnG.blk {w : World} {B : Nat} {v : Value} {l : List α} (s : OwnG t n f w B v l) : ∀ k, v.ownBlock = some k → B ≤ k := by
  intro k hk
  obtain ⟨h1, h2⟩ := s
  rcases h2 with ⟨rfl, _⟩ | ⟨g, cap, cur, rfl, hb, _⟩
  · cases hk
  · cases hk
    exact hb
theorem OwnG.lt {w : World} {B : Nat} {v : Value} {l : List α} (s : OwnG t n f w B v l) : ∀ k, v.ownBlock = some k → k < w.heap.size := by
  intro k hk
  obtain ⟨h1, h2⟩ := s
  rcases h2 with ⟨rfl, _⟩ | ⟨g, cap, cur, rfl, hb, hg, _⟩
  · cases hk
  · cases hk
    exact (Array.getElem?_eq_some_iff.1 hg).1
theorem OwnG.row {w : World} {B : Nat} {v : Value} {l : List α} (s : OwnG t n f w B v l) : ∀ k, v.ownBlock = some k → ∃ cur, w.heap[k]? = some (.cells cur t (0, 0)) := by
  intro k hk
  obtain ⟨h1, h2⟩ := s
  rcases h2 with ⟨rfl, _⟩ | ⟨g, cap, cur, rfl, hb, hg, _⟩
  · cases hk
  · cases hk
    exact ⟨cur, hg⟩
theorem OwnG.base {w : World} {B C : Nat} {v : Value} {l : List α} (hc : C ≤ B) (s : OwnG t n f w B v l) : OwnG t n f w C v l := by
  obtain ⟨h1, h2⟩ := s
  refine ⟨h1, ?_⟩
  rcases h2 with h2 | ⟨g, cap, cur, e, hb, hg, h3⟩
  · exact Or.inl h2
  · exact Or.inr ⟨g, cap, cur, e, Nat.le_trans hc hb, hg, h3⟩
theorem OwnG.cellset {B m j : Nat} {v u : Value} {l : List α} {W : World} (s : OwnG t n f W B v l) (hm : v.ownBlock ≠ some m) : OwnG t n f (W.setCell ⟨m, j, none⟩ u) B v l := by
  obtain ⟨h1, h2⟩ := s
  refine ⟨h1, ?_⟩
  rcases h2 with h2 | ⟨g, cap, cur, e, hb, hg, h3⟩
  · exact .inl h2
  · subst e
    exact .inr ⟨g, cap, cur, rfl, hb, by rw [heap_setCell_other _ _ _ _ (by intro e; exact hm (by show some g = some m; rw [show g = m from e]))]; exact hg, h3⟩
theorem OwnG.grown {B : Nat} {v : Value} {l : List α} {W X : World} {row : Option Nat} (s : OwnG t n f W B v l) (hg : W.grownBy X row) (hr : ∀ k, row = some k → v.ownBlock ≠ some k) : OwnG t n f X B v l := by
  obtain ⟨h1, h2⟩ := s
  refine ⟨h1, ?_⟩
  rcases h2 with h2 | ⟨g, cap, cur, e, hb, hgg, h3⟩
  · exact .inl h2
  · subst e
    exact .inr ⟨g, cap, cur, rfl, hb, by rw [hg.block g (Array.getElem?_eq_some_iff.1 hgg).1 (fun e => hr g e.symm rfl)]; exact hgg, h3⟩
theorem OwnG.nil (t : TypeId) (n : Nat) (f : α → List Value) (W : World) (B : Nat) : OwnG t n f W B (.slice none 0 0) [] := ⟨by simp, .inl ⟨rfl, rfl⟩⟩
theorem flatG_at {l : List α} (hl : ∀ x ∈ l, (f x).length = n) : ∀ {k : Nat} {x : α}, l[k]? = some x → ∀ j v, (f x)[j]? = some v → (l.flatMap f)[k * n + j]? = some v := by
  induction l with
  | nil => intro k x h; simp at h
  | cons y tl ih =>
    intro k x h j v hv
    have hy := hl y (by simp)
    rw [List.flatMap_cons]
    cases k with
    | zero =>
      simp at h
      subst h
      rw [Nat.zero_mul, Nat.zero_add, List.getElem?_append_left (List.getElem?_eq_some_iff.1 hv).1]
      exact hv
    | succ k =>
      have hk : (k + 1) * n + j - n = k * n + j := by rw [Nat.add_mul]; omega
      rw [List.getElem?_append_right (by rw [hy, Nat.add_mul]; omega), hy, hk]
      exact ih (fun z hz => hl z (by simp [hz])) (by simpa using h) j v hv
theorem flatG_len {l : List α} (hl : ∀ x ∈ l, (f x).length = n) : (l.flatMap f).length = l.length * n := by
  induction l with
  | nil => simp
  | cons y tl ih =>
    rw [List.flatMap_cons, List.length_append, hl y (by simp), ih (fun z hz => hl z (by simp [hz])), List.length_cons, Nat.add_mul]
    omega
/-- where the members of a list of one's own lie -/
structure LiesG (t : TypeId) (n : Nat) (f : α → List Value) (W : World) (B : Nat) (o : Option Addr) (l : List α) : Prop where
  at_ : ∀ k z, l[k]? = some z → ∃ g cur, o = some ⟨g, 0, none⟩ ∧ B ≤ g ∧ W.heap[g]? = some (.cells cur t (0, 0)) ∧ l.length * n ≤ cur.size ∧ W.rangeAt g (0 + k * n) (f z)
theorem OwnG.form {W : World} {B : Nat} {v : Value} {l : List α} (s : OwnG t n f W B v l) (hl : ∀ x ∈ l, (f x).length = n) : ∃ o cap, v = .slice o l.length cap ∧ CapOk o l.length cap ∧ LiesG t n f W B o l := by
  obtain ⟨h1, h2⟩ := s
  rcases h2 with ⟨rfl, h0⟩ | ⟨g, cap, cur, rfl, hb, hg, hle, hm, hsz, htk⟩
  · refine ⟨none, 0, by rw [h0], ⟨⟨by omega, by omega⟩, fun _ => rfl⟩, ⟨fun k z hk => ?_⟩⟩
    have := (List.getElem?_eq_some_iff.1 hk).1
    omega
  · unfold maxLen at hm
    refine ⟨some ⟨g, 0, none⟩, cap, rfl, ⟨⟨hle, by omega⟩, fun h => by cases h⟩, ⟨fun k z hk => ⟨g, cur, rfl, hb, hg, by rw [hsz]; exact Nat.mul_le_mul_right n hle, ?_⟩⟩⟩
    intro j u hj
    have hf := flatG_at hl hk j u hj
    rw [cell_of_row _ _ _ _ _ _ hg, Nat.zero_add]
    rw [← htk, List.getElem?_take] at hf
    split at hf
    · simpa using hf
    · cases hf
theorem LiesG.list {W : World} {B : Nat} {o : Option Addr} {l : List α} (s : LiesG t n f W B o l) : ListAt (fun b j z => W.rangeAt b j (f z)) n o l := fun k z hk => by
  obtain ⟨g, cur, e, _, _, _, h⟩ := s.at_ k z hk
  exact ⟨g, 0, e, h⟩
/-- what is behind a slice, cell by cell -/
theorem src_at {W : World} {ad : Addr} {l : List α} (hn : 0 < n) (hs : ListAt (fun b j z => W.rangeAt b j (f z)) n (some ad) l) (hl : ∀ x ∈ l, (f x).length = n) : ∀ j u, (l.flatMap f)[j]? = some u → W.cell? (ad.add j) = some u := by
  intro j u hj
  have hjl : j < l.length * n := by
    rw [← flatG_len hl]
    exact (List.getElem?_eq_some_iff.1 hj).1
  have hk : j / n < l.length := (Nat.div_lt_iff_lt_mul hn).2 hjl
  obtain ⟨z, hz⟩ : ∃ z, l[j / n]? = some z := ⟨_, List.getElem?_eq_getElem hk⟩
  obtain ⟨b, off, e, hr⟩ := hs _ z hz
  cases e
  have hzl := hl z (List.mem_of_getElem? hz)
  have hm : j % n < (f z).length := by rw [hzl]; exact Nat.mod_lt _ hn
  have h1 := flatG_at hl hz (j % n) _ (List.getElem?_eq_getElem hm)
  have hjj : j / n * n + j % n = j := by rw [Nat.mul_comm]; exact Nat.div_add_mod j n
  rw [hjj, hj] at h1
  have h2 := hr (j % n) _ (List.getElem?_eq_getElem hm)
  rw [Nat.add_assoc, hjj, ← h1] at h2
  rw [Addr.add_lit]
  exact h2
/-- a type's size and its zero value -/
structure InfoG (t : TypeId) (n bytes : Nat) : Prop where
  pos : 0 < n
  few : bytes ≤ 1000
  get : ∃ i z, Try.prog.info? t = some i ∧ i.zero = some z ∧ i.size = n ∧ i.bytes = bytes ∧ z.cells.size = n
theorem InfoG.of {t : TypeId} {n bytes : Nat} (hp : 0 < n) (hf : bytes ≤ 1000) (hm : (Try.prog.info? t).map (fun i => (i.zero.map (fun z => z.cells.size), i.size, i.bytes)) = some (some n, n, bytes)) : InfoG t n bytes := by
  refine ⟨hp, hf, ?_⟩
  cases hi : Try.prog.info? t with
  | none => rw [hi] at hm; cases hm
  | some i =>
    rw [hi] at hm
    simp only [Option.map_some, Option.some.injEq, Prod.mk.injEq] at hm
    obtain ⟨hz, hs, hb⟩ := hm
    cases hzz : i.zero with
    | none => rw [hzz] at hz; cases hz
    | some z =>
      rw [hzz] at hz
      exact ⟨i, z, rfl, hzz, hs, hb, by simpa using hz⟩
theorem run_appG {bytes : Nat} (hi : InfoG t n bytes) (ts ty : TypeId) (hu : Try.prog.underlying ts = some (.slice t)) (W : World) (B : Nat) (v : Value) (L M : List α) (hB : B ≤ W.heap.size) (hown : OwnG t n f W B v L) (ox : Option Addr) (c : Nat)
    (hc : ox = none → c = 0) (hsrc : ListAt (fun b j z => W.rangeAt b j (f z)) n ox M) (hlen : ∀ z ∈ M, (f z).length = n) (hone : ∀ z ∈ M, ∀ u ∈ f z, u.oneCell' = true) (hL : L.length + M.length ≤ 1000000) :
    ∃ v' X, (Builtin.append_ #[ts, ts] ty #[v, .slice ox M.length c]).run Try.prog W = .ok v' X ∧ OwnG t n f X B v' (L ++ M) ∧ W.grownBy X v.ownBlock := by
  obtain ⟨i, z, h2, h3, h4, h5, h6⟩ := hi.get
  cases ox with
  | none =>
    have hM : M = [] := by
      cases M with
      | nil => rfl
      | cons y tl =>
        obtain ⟨b, off, e, _⟩ := hsrc 0 y rfl
        cases e
    subst hM
    rw [hc rfl]
    refine ⟨v, W, run_append_owned_none (P := Try.prog) (w := W) B ts ty t i n hu h2 v L.length (L.flatMap f) hown, by rw [List.append_nil]; exact hown, ⟨rfl, rfl, rfl, Nat.le_refl _, fun _ _ _ => rfl⟩⟩
  | some ad =>
    have hb : (L.length + M.length) * bytes ≤ 1000000 * 1000 := Nat.mul_le_mul hL hi.few
    obtain ⟨v', X, hrun, r1, r2, r3⟩ := run_append_own (P := Try.prog) W B ts ty t i z n bytes hu h2 h3 h4 h5 h6 hi.pos v L.length (L.flatMap f) hown ad M.length c (M.flatMap f) (flatG_len hlen) (src_at hi.pos hsrc hlen)
      (fun u hu => by obtain ⟨z, hz, hzu⟩ := List.mem_flatMap.1 hu; exact hone z hz u hzu) (by unfold maxLen; omega) (by omega) hB
    exact ⟨v', X, hrun, by unfold OwnG; rw [List.length_append, List.flatMap_append]; exact r1, r2⟩
/-- an append at a walk within a fence -/
theorem appIn_G {bytes : Nat} (hi : InfoG t n bytes) {F : Fence} {m : Nat} {ops : Array Oper} {rest : List Oper} {o : Oper} {a : Act} {Q : Exit → Act → World → Prop} {W : World} (hF : ∀ f, F.fn f) (hgd : o.guard = none) (sx x : Operand) (ts : TypeId)
    (ho : o.op = .call { callee := .builtin .append, args := #[sx, x], argTypes := #[ts, ts] }) (hu : Try.prog.underlying ts = some (.slice t)) (B : Nat) (v : Value) (L M : List α) (hs : a.eval sx = v) (hB : B ≤ W.heap.size) (hown : OwnG t n f W B v L)
    (ox : Option Addr) (c : Nat) (hx : a.eval x = .slice ox M.length c) (hc : ox = none → c = 0) (hsrc : ListAt (fun b j z => W.rangeAt b j (f z)) n ox M) (hlen : ∀ z ∈ M, (f z).length = n) (hone : ∀ z ∈ M, ∀ u ∈ f z, u.oneCell' = true) (hL : L.length + M.length ≤ 1000000)
    (h : ∀ v' X, OwnG t n f X B v' (L ++ M) → W.grownBy X v.ownBlock → Hid (wpListIn F m Try.prog ops Q rest (a.put o.dst v') X)) :
    wpListIn F m Try.prog ops Q (o :: rest) a W := by
  obtain ⟨v', X, hrun, r1, r2⟩ := run_appG hi ts o.type hu W B v L M hB hown ox c hc hsrc hlen hone hL
  refine wpListIn_plain hgd fun K hK' => ?_
  unfold Oper.wpIn
  refine ⟨?_, ?_⟩
  · simp [Oper.about, ho, resolve, Target.leads, Sem.run_pure]
  · rw [Oper.semAt_plain F _ _ (by rw [ho]; intro c hc'; cases hc')]
    simp [execOp, ho, resolve, invoke, builtin, hs, hx, hrun, Result.andThen]
    exact hK' _ _ (h v' X r1 r2).out
/-- an append at a walk -/
theorem app_G {bytes : Nat} (hi : InfoG t n bytes) {ops : Array Oper} {rest : List Oper} {o : Oper} {a : Act} {Q : Exit → Act → World → Prop} {W : World} (hgd : o.guard = none) (sx x : Operand) (ts : TypeId)
    (ho : o.op = .call { callee := .builtin .append, args := #[sx, x], argTypes := #[ts, ts] }) (hu : Try.prog.underlying ts = some (.slice t)) (B : Nat) (v : Value) (L M : List α) (hs : a.eval sx = v) (hB : B ≤ W.heap.size) (hown : OwnG t n f W B v L)
    (ox : Option Addr) (c : Nat) (hx : a.eval x = .slice ox M.length c) (hc : ox = none → c = 0) (hsrc : ListAt (fun b j z => W.rangeAt b j (f z)) n ox M) (hlen : ∀ z ∈ M, (f z).length = n) (hone : ∀ z ∈ M, ∀ u ∈ f z, u.oneCell' = true) (hL : L.length + M.length ≤ 1000000)
    (h : ∀ v' X, OwnG t n f X B v' (L ++ M) → W.grownBy X v.ownBlock → Hid (wpList Try.prog ops Q rest (a.put o.dst v') X)) :
    wpList Try.prog ops Q (o :: rest) a W := by
  obtain ⟨v', X, hrun, r1, r2⟩ := run_appG hi ts o.type hu W B v L M hB hown ox c hc hsrc hlen hone hL
  refine wpList_plain hgd fun K hK' => ?_
  unfold Oper.wp
  simp [execOp, ho, resolve, invoke, builtin, hs, hx, hrun, Result.andThen]
  exact hK' _ _ (h v' X r1 r2).out
/-- an append in a region that draws its order -/
theorem wpIn_app_G {bytes : Nat} (hi : InfoG t n bytes) {F : Fence} {m : Nat} {o : Oper} {a : Act} {K : Act → World → Prop} {Q : Exit → Act → World → Prop} {W : World} (hF : ∀ f, F.fn f) (sx x : Operand) (ts : TypeId)
    (ho : o.op = .call { callee := .builtin .append, args := #[sx, x], argTypes := #[ts, ts] }) (hu : Try.prog.underlying ts = some (.slice t)) (B : Nat) (v : Value) (L M : List α) (hs : a.eval sx = v) (hB : B ≤ W.heap.size) (hown : OwnG t n f W B v L)
    (ox : Option Addr) (c : Nat) (hx : a.eval x = .slice ox M.length c) (hc : ox = none → c = 0) (hsrc : ListAt (fun b j z => W.rangeAt b j (f z)) n ox M) (hlen : ∀ z ∈ M, (f z).length = n) (hone : ∀ z ∈ M, ∀ u ∈ f z, u.oneCell' = true) (hL : L.length + M.length ≤ 1000000)
    (h : ∀ v' X, OwnG t n f X B v' (L ++ M) → W.grownBy X v.ownBlock → K (a.put o.dst v') X) :
    Oper.wpIn F m Try.prog o a W K Q := by
  obtain ⟨v', X, hrun, r1, r2⟩ := run_appG hi ts o.type hu W B v L M hB hown ox c hc hsrc hlen hone hL
  unfold Oper.wpIn
  refine ⟨fun f _ => hF f, ?_⟩
  rw [Oper.semAt_plain F _ _ (by rw [ho]; intro c hc'; cases hc')]
  simp [execOp, ho, resolve, invoke, builtin, hs, hx, hrun, Result.andThen]
  exact h v' X r1 r2
theorem one_src {W : World} {g : Nat} {z : α} (h : W.heap[g]? = some (.cells (f z).toArray t (0, 0))) : ListAt (fun b j z => W.rangeAt b j (f z)) n (some ⟨g, 0, none⟩) [z] := fun k y hk => by
  have h0 : k = 0 := by have := (List.getElem?_eq_some_iff.1 hk).1; simp at this; omega
  subst h0
  simp at hk
  subst hk
  refine ⟨g, 0, rfl, fun j u hj => ?_⟩
  rw [cell_of_row _ _ _ _ _ _ h]
  simpa using hj
theorem run_buildOne {bytes : Nat} (hi : InfoG t n bytes) (hm : n ≤ 1000) (ts : TypeId) (hu : Try.prog.underlying ts = some (.slice t)) (W : World) (cs : Array Value) (hc : cs.size = n) :
    (Instr.buildSlice ts 1 #[(0, .agg cs)]).run Try.prog W = .ok (.slice (some ⟨W.heap.size, 0, none⟩) 1 1) (W.alloc (.cells cs t)) := by
  obtain ⟨i, z, h2, h3, h4, h5, h6⟩ := hi.get
  refine run_buildSlice W ts t 1 _ cs i z hu h2 h3 (by rw [h4]; omega) (by rw [h4]; have := hi.pos; omega) ?_
  rw [h4]
  have := Great.fill_whole hi.pos [.agg cs] ((Array.range (1 * n)).map (z.cells[· % z.cells.size]!)) (fun v hv => by simp at hv; subst hv; exact hc) (by simp)
  simpa [Value.cells] using this
theorem buildIn_one {bytes : Nat} (hi : InfoG t n bytes) (hm : n ≤ 1000) {F : Fence} {m : Nat} {ops : Array Oper} {rest : List Oper} {o : Oper} {a : Act} {Q : Exit → Act → World → Prop} {W : World} (hF : ∀ f, F.fn f) (hgd : o.guard = none) (x : Operand) (ts : TypeId)
    (ho : o.op = .buildSlice ts 1 #[(0, x)]) (hu : Try.prog.underlying ts = some (.slice t)) (cs : Array Value) (hx : a.eval x = .agg cs) (hc : cs.size = n)
    (h : wpListIn F m Try.prog ops Q rest (a.put o.dst (.slice (some ⟨W.heap.size, 0, none⟩) 1 1)) (W.alloc (.cells cs t))) :
    wpListIn F m Try.prog ops Q (o :: rest) a W := by
  have hrun := run_buildOne hi hm ts hu W cs hc
  refine wpListIn_plain hgd fun K hK' => ?_
  unfold Oper.wpIn
  refine ⟨?_, ?_⟩
  · simp [Oper.about, ho, resolve, Target.leads, Sem.run_pure]
  · rw [Oper.semAt_plain F _ _ (by rw [ho]; intro c hc'; cases hc')]
    simp [execOp, ho, hx, hrun, Result.andThen]
    exact hK' _ _ h
theorem build_one {bytes : Nat} (hi : InfoG t n bytes) (hm : n ≤ 1000) {ops : Array Oper} {rest : List Oper} {o : Oper} {a : Act} {Q : Exit → Act → World → Prop} {W : World} (hgd : o.guard = none) (x : Operand) (ts : TypeId)
    (ho : o.op = .buildSlice ts 1 #[(0, x)]) (hu : Try.prog.underlying ts = some (.slice t)) (cs : Array Value) (hx : a.eval x = .agg cs) (hc : cs.size = n)
    (h : wpList Try.prog ops Q rest (a.put o.dst (.slice (some ⟨W.heap.size, 0, none⟩) 1 1)) (W.alloc (.cells cs t))) :
    wpList Try.prog ops Q (o :: rest) a W := by
  have hrun := run_buildOne hi hm ts hu W cs hc
  refine wpList_plain hgd fun K hK' => ?_
  unfold Oper.wp
  simp [execOp, ho, hx, hrun, Result.andThen]
  exact hK' _ _ h
end
theorem vert_len {l : List (List Int)} (h : ∀ x ∈ l, VertWf x) : ∀ x ∈ l, (x.map encI).length = 3 := fun x hx => by rw [List.length_map]; exact (h x hx).len
theorem enc_one (x : List Int) : ∀ u ∈ x.map encI, u.oneCell' = true := fun u hu => by
  obtain ⟨z, _, rfl⟩ := List.mem_map.1 hu
  rfl
theorem tri_one (x : TriR) : ∀ u ∈ triL x, u.oneCell' = true := fun u hu => by
  simp only [triL, List.mem_cons, List.not_mem_nil, or_false] at hu
  rcases hu with rfl | rfl | rfl | rfl <;> rfl
theorem obj_one1 (x : ObjR) : ∀ u ∈ objL x, u.oneCell' = true := fun v hv => by
  simp only [objL, List.mem_cons, List.mem_append, List.mem_map, List.not_mem_nil, or_false] at hv
  rcases hv with rfl | ⟨z, _, rfl⟩ | rfl | rfl <;> rfl
theorem infoGv : InfoG 50 3 24 := InfoG.of (by omega) (by omega) (by kernel_rfl)
theorem VertsAt.src {W : World} {o : Option Addr} {l : List (List Int)} (h : VertsAt W o l) : ListAt (fun b j z => W.rangeAt b j (z.map encI)) 3 o l := fun k z hk => by
  obtain ⟨b, off, e, h1, _⟩ := h k z hk
  exact ⟨b, off, e, h1⟩
theorem TrisAt.src {W : World} {o : Option Addr} {l : List TriR} (h : TrisAt W o l) : ListAt (fun b j z => W.rangeAt b j (triL z)) 4 o l := fun k z hk => by
  obtain ⟨b, off, e, h1, _⟩ := h k z hk
  exact ⟨b, off, e, h1⟩
theorem VertsAt.wf {W : World} {o : Option Addr} {l : List (List Int)} (h : VertsAt W o l) : ∀ x ∈ l, VertWf x := fun x hx => by
  obtain ⟨k, hk⟩ := List.getElem?_of_mem hx
  obtain ⟨_, _, _, _, hw⟩ := h k x hk
  exact hw
theorem TrisAt.wf {W : World} {o : Option Addr} {l : List TriR} (h : TrisAt W o l) : ∀ x ∈ l, TriWf x := fun x hx => by
  obtain ⟨k, hk⟩ := List.getElem?_of_mem hx
  obtain ⟨_, _, _, _, hw⟩ := h k x hk
  exact hw
theorem LiesG.verts {W : World} {B : Nat} {o : Option Addr} {l : List (List Int)} (s : LiesG 50 3 (fun x => x.map encI) W B o l) (hw : ∀ x ∈ l, VertWf x) : VertsAt W o l := fun k z hk => by
  obtain ⟨g, cur, e, _, _, _, h⟩ := s.at_ k z hk
  exact ⟨g, 0, e, h, hw z (List.mem_of_getElem? hk)⟩
end Go.Proofs.Ytgkglkoipocgaaa.Fx
