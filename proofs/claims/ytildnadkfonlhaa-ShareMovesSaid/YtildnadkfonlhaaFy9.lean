/- A map of IDs that were met, each once: what it tells, and how it grows. IDs of a scene that may be: they rise, and are numbers; what stands where in a list. -/
import Derived.Test.YtildnadkfonlhaaFz
import Derived.Maps.OwnSet
import Derived.Maps.OwnOps
set_option linter.unusedVariables false
set_option linter.unusedSimpArgs false
namespace Go.Proofs.Ytildnadkfonlhaa.Fx
open Go Go.RowKit Go.Maps
def one1 : DataW Unit := .lit (.int .i64 1)
def litI (l : List Int) : List Lit := l.map (Lit.int .i64)
def mapD (l : List Int) : DataW Unit := setOf one1 (litI l)
theorem litI_key (l : List Int) : ∀ x ∈ litI l, WideAt.IsKeyLit x := fun x hx => by
  obtain ⟨z, _, rfl⟩ := List.mem_map.1 hx
  exact trivial
theorem mapD_snoc (l : List Int) (x : Int) : mapD (l ++ [x]) = (mapD l).put (.int .i64 x) one1 := by
  unfold mapD litI
  rw [List.map_append, List.map_cons, List.map_nil, setOf_snoc]
theorem litI_ne {x y : Int} (h : x ≠ y) : Lit.int .i64 x ≠ Lit.int .i64 y := fun e => by cases e; exact h rfl
theorem mapD_tidy (l : List Int) : Tidy (mapD l) := tidy_setOf _ _ (litI_key l)
theorem mapD_out : ∀ (n : Nat) (l : List Int), l.length = n → ∀ (x : Int), x ∉ l → ∀ z, (mapD l).atKey (.int .i64 x) z = z
  | 0, l, hn, x, h, z => by
    obtain rfl := List.length_eq_zero_iff.1 hn
    rfl
  | n + 1, l, hn, x, h, z => by
    obtain ⟨m, y, rfl⟩ : ∃ m y, l = m ++ [y] := ⟨l.dropLast, l.getLast (by intro e; rw [e] at hn; simp at hn), (List.dropLast_concat_getLast _).symm⟩
    rw [List.length_append, List.length_singleton] at hn
    rw [List.mem_append, List.mem_singleton] at h
    rw [mapD_snoc, atKey_put_other (litI_ne (fun e => h (.inr e)))]
    exact mapD_out n m (by omega) x (fun e => h (.inl e)) z
theorem mapD_in : ∀ (n : Nat) (l : List Int), l.length = n → ∀ (x : Int), x ∈ l → ∀ z, (mapD l).atKey (.int .i64 x) z = one1
  | 0, l, hn, x, h, z => by
    obtain rfl := List.length_eq_zero_iff.1 hn
    simp at h
  | n + 1, l, hn, x, h, z => by
    obtain ⟨m, y, rfl⟩ : ∃ m y, l = m ++ [y] := ⟨l.dropLast, l.getLast (by intro e; rw [e] at hn; simp at hn), (List.dropLast_concat_getLast _).symm⟩
    rw [List.length_append, List.length_singleton] at hn
    rw [mapD_snoc]
    by_cases e : x = y
    · subst e
      exact atKey_put_same (mapD_tidy m).isMap (show WideAt.IsKeyLit (Lit.int .i64 x) from trivial) _ _
    · rw [atKey_put_other (litI_ne e)]
      rw [List.mem_append, List.mem_singleton] at h
      exact mapD_in n m (by omega) x (h.resolve_right e) z
theorem mapD_size : ∀ (n : Nat) (l : List Int), l.length = n → l.Nodup → Maps.size (mapD l) = l.length
  | 0, l, hn, _ => by
    obtain rfl := List.length_eq_zero_iff.1 hn
    rfl
  | n + 1, l, hn, hd => by
    obtain ⟨m, y, rfl⟩ : ∃ m y, l = m ++ [y] := ⟨l.dropLast, l.getLast (by intro e; rw [e] at hn; simp at hn), (List.dropLast_concat_getLast _).symm⟩
    rw [List.length_append, List.length_singleton] at hn ⊢
    rw [List.nodup_append] at hd
    have hy : y ∉ m := fun h => hd.2.2 y h y (by simp) rfl
    rw [mapD_snoc, size_put (mapD_tidy m), if_neg, mapD_size n m (by omega) hd.1]
    rw [Bool.not_eq_true]
    exact has_false_of_atKey (mapD_out m.length m rfl y hy)
theorem keyedI : Keyed Try.prog 3 := int_keyed Try.underlying3
theorem zeroI (w : World) : (zeroValue 3).run Try.prog w = .ok (.int .i64 0) w := by kernel_rfl
/-- block B is a map that tells 1 of just the IDs of l -/
def MapS (W : World) (B : Nat) (l : List Int) : Prop := W.ownsMap Try.prog 3 (plainElem (H := Unit) Try.prog 3) B l.length (mapD l)
theorem MapS.new (w : World) : MapS (w.alloc (.map #[] 0)) w.heap.size [] := World.ownsMap_made _ _ _ _
theorem MapS.below {W X : World} {B : Nat} {l : List Int} (h : Below W.heap.size W X) (s : MapS W B l) : MapS X B l := by
  have hlt := s.lt
  obtain ⟨es, clock, hb, F, hs, hD⟩ := s
  exact ⟨es, clock, (h.block B hlt).trans hb, F, hs, hD⟩
theorem idKey {x : Int} (h : Num x) : keyOf Try.prog 3 (.int .i64 x) = some (.int .i64 x) := keyOf_int_mk Try.underlying3 (WalkArith.wf_i64 (by obtain ⟨a, b⟩ := h; omega))
theorem MapS.look {W : World} {B : Nat} {l : List Int} {x : Int} (s : MapS W B l) (h : Num x) : (Instr.lookup 44 (.map (some B)) (.int .i64 x) false).run Try.prog W = .ok (.int .i64 (if x ∈ l then 1 else 0)) W := by
  obtain ⟨c, hrun, hat, _⟩ := World.ownsMap.lookup_int s keyedI Try.underlying44 Try.underlying3 (zeroI W) (idKey h)
  rw [hrun]
  by_cases e : x ∈ l
  · rw [mapD_in _ l rfl x e] at hat
    unfold one1 at hat
    cases hat
    rw [if_pos e]
  · rw [mapD_out _ l rfl x e] at hat
    cases hat
    rw [if_neg e]
theorem MapS.put {W : World} {B : Nat} {l : List Int} {x : Int} (s : MapS W B l) (h : Num x) (hl : l.length ≤ 100000) : ∃ W', (Instr.mapUpdate 44 (.map (some B)) (.int .i64 x) (.int .i64 1)).run Try.prog W = .ok () W' ∧ MapS W' B (l ++ [x]) ∧ W.grownBy W' (some B) := by
  obtain ⟨W', hrun, h1, h2⟩ := World.ownsMap.update s keyedI Try.underlying44 (by unfold maxLen; omega) (idKey h) (plainElem_int (a := 1) Try.underlying3 (by decide))
  refine ⟨W', hrun, ?_, h2⟩
  unfold MapS
  rw [mapD_snoc, List.length_append]
  exact h1
theorem MapS.len {W : World} {B : Nat} {l : List Int} (s : MapS W B l) (hd : l.Nodup) (ty : TypeId) : (Builtin.len_ #[44] ty #[.map (some B)]).run Try.prog W = .ok (.int .i64 (l.length : Int)) W := by
  have := World.ownsMap.len s Try.underlying44 ty
  rw [mapD_size _ l rfl hd] at this
  exact this
theorem MapS.grown {V W X : World} {B : Nat} {l : List Int} (hB : V.heap.size ≤ B) (hb : Below V.heap.size V W) (hg : W.grownBy X (some B)) : Below V.heap.size V X := below_grown2 (Nat.le_refl _) hb hg (fun k hk => by cases hk; exact hB)
end Go.Proofs.Ytildnadkfonlhaa.Fx
namespace Go.Proofs.Ytildnadkfonlhaa.Fx
open Go Go.RowKit
theorem sort_rise {l : List ObjR} (h : (rawIds l).Nodup) : Rise (sortedIds l) := by
  have h1 := sort_rises (rawIds l)
  have h2 : (sortedIds l).Nodup := (List.mergeSort_perm (rawIds l) _).nodup_iff.2 h
  unfold Rise
  unfold sortedIds at h2 ⊢
  exact (List.pairwise_iff_getElem.2 fun i j hi hj hij => by
    have a := of_decide_eq_true (List.pairwise_iff_getElem.1 h1 i j hi hj hij)
    have b := List.pairwise_iff_getElem.1 h2 i j hi hj hij
    omega)
theorem ids_rise {s : ScR} (h : okZ s = true) : Rise (sortedIds s.os) := sort_rise (ok_iff.1 h).apart
theorem sort_mem {l : List ObjR} {x : Int} : x ∈ sortedIds l ↔ x ∈ rawIds l := (List.mergeSort_perm (rawIds l) _).mem_iff
theorem id_num {s : ScR} (h : okZ s = true) {x : Int} (hx : x ∈ sortedIds s.os) : Num x := by
  rw [sort_mem] at hx
  unfold rawIds at hx
  obtain ⟨y, hy, rfl⟩ := List.mem_map.1 hx
  obtain ⟨⟨h1, h2⟩, _⟩ := (ok_iff.1 h).each y hy
  exact ⟨by omega, by omega⟩
theorem getD_mem {l : List Int} {k : Nat} (h : k < l.length) : l.getD k 0 ∈ l := List.mem_of_getElem? (ints_get h)
theorem chosen_sub {p : Int → Int → Bool} {ids l : List Int} {n : Nat} (hn : n ≤ ids.length) {x : Int} (h : x ∈ chosenK p ids l n) : x ∈ ids := by
  obtain ⟨i, h1, _, rfl⟩ := mem_chosen.1 h
  exact getD_mem (by omega)
theorem held_sub {ids l : List Int} {m x : Int} (h : x ∈ heldZ ids l m) : x ∈ ids := by
  unfold heldZ chosenZ at h
  exact chosen_sub (Nat.le_refl _) h
theorem moved_sub {ids a b : List Int} {x : Int} (h : x ∈ movedZ ids a b) : x ∈ ids := by
  unfold movedZ chosenZ at h
  exact chosen_sub (Nat.le_refl _) h
/-- in a list without repeats, one is not among those ahead of it -/
theorem not_ahead {l : List Int} (h : l.Nodup) {k : Nat} (hk : k < l.length) : l.getD k 0 ∉ l.take k := fun hm => by
  obtain ⟨i, hi, e⟩ := List.mem_iff_getElem.1 hm
  rw [List.length_take] at hi
  rw [List.getElem_take] at e
  have := List.pairwise_iff_getElem.1 h i k (by omega) hk (by omega)
  rw [List.getD_eq_getElem?_getD, List.getElem?_eq_getElem hk] at e
  exact this e
theorem any_at {x : Int} {l : List Int} {k : Nat} (hk : k < l.length) : (l.take (k + 1)).any (eqP x) = ((l.take k).any (eqP x) || decide (x = l.getD k 0)) := by
  rw [take_snoc hk, List.any_append]
  simp [eqP]
theorem any_mem {x : Int} {l : List Int} : l.any (eqP x) = true ↔ x ∈ l := by
  rw [List.any_eq_true]
  constructor
  · rintro ⟨y, hy, e⟩
    rw [of_decide_eq_true e]
    exact hy
  · intro h
    exact ⟨x, h, decide_eq_true rfl⟩
theorem of_all {s : ScR} {a : List Int} {p : Nat} (hd : dealB s a = true) (hp : p < a.length) : ofZ s a (a.getD p 0) = heldZ (sortedIds s.os) a (a.getD p 0) := by
  unfold ofZ ofB
  rw [hd, Bool.true_and, if_pos (any_mem.2 (getD_mem hp))]
theorem eqI_same (l : List Int) : eqI l l = true := decide_eq_true rfl
end Go.Proofs.Ytildnadkfonlhaa.Fx
