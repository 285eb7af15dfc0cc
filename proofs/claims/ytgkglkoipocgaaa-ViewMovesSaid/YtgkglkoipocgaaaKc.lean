/- What is left: how many vertices, between which numbers, inside which planes; the same from any vertex on. -/
import Derived.Test.YtgkglkoipocgaaaKb
set_option linter.unusedVariables false
set_option linter.unusedSimpArgs false
namespace Go.Proofs.Ytgkglkoipocgaaa.Fx

/-! ### an edge -/
theorem edge_ii {k : Nat} {a b : List Int} (h : 0 ≤ distK k a) (g : 0 ≤ distK k b) : edgeK k a b = [a] := by unfold edgeK; rw [if_pos h, if_pos g]
theorem edge_io {k : Nat} {a b : List Int} (h : 0 ≤ distK k a) (g : distK k b < 0) : edgeK k a b = [a, crossK k a b] := by unfold edgeK; rw [if_pos h, if_neg (by omega)]
theorem edge_oi {k : Nat} {a b : List Int} (h : distK k a < 0) (g : 0 ≤ distK k b) : edgeK k a b = [crossK k b a] := by unfold edgeK; rw [if_neg (by omega), if_pos g]
theorem edge_oo {k : Nat} {a b : List Int} (h : distK k a < 0) (g : distK k b < 0) : edgeK k a b = [] := by unfold edgeK; rw [if_neg (by omega), if_neg (by omega)]
theorem turn_mem {l : List (List Int)} (h : 0 < l.length) (i : Nat) : turnK l i ∈ l := by
  unfold turnK
  have := Nat.mod_lt i h
  rw [List.getD_eq_getElem?_getD, List.getElem?_eq_getElem this]
  exact List.getElem_mem this
theorem turn_at {l : List (List Int)} {i : Nat} (h : i < l.length) : turnK l i = l.getD i [] := by unfold turnK; rw [Nat.mod_eq_of_lt h]
theorem turn_end (l : List (List Int)) : turnK l l.length = turnK l 0 := by unfold turnK; rw [Nat.mod_self, Nat.zero_mod]
theorem turn_next {l : List (List Int)} {i : Nat} (h : i < l.length) : turnK l (i + 1) = if i + 1 < l.length then l.getD (i + 1) [] else l.getD 0 [] := by
  by_cases e : i + 1 < l.length
  · rw [turn_at e, if_pos e]
  · have : i + 1 = l.length := by omega
    rw [if_neg e, this, turn_end, turn_at (by omega)]
/-- who is left: a vertex inside, or a crossing of two -/
theorem cut_mem {k : Nat} {l : List (List Int)} {v : List Int} (h : v ∈ cutK k l) : (v ∈ l ∧ 0 ≤ distK k v) ∨ ∃ a b, a ∈ l ∧ b ∈ l ∧ 0 ≤ distK k a ∧ distK k b < 0 ∧ v = crossK k a b := by
  unfold cutK cutN at h
  obtain ⟨i, hi, hv⟩ := List.mem_flatMap.1 h
  have hi := List.mem_range.1 hi
  have ma := turn_mem (l := l) (by omega) i
  have mb := turn_mem (l := l) (by omega) (i + 1)
  generalize turnK l i = a at hv ma
  generalize turnK l (i + 1) = b at hv mb
  by_cases ha : 0 ≤ distK k a <;> by_cases hb : 0 ≤ distK k b
  · rw [edge_ii ha hb] at hv
    rw [List.mem_singleton.1 hv]
    exact .inl ⟨ma, ha⟩
  · rw [edge_io ha (by omega)] at hv
    rcases List.mem_cons.1 hv with e | e
    · rw [e]; exact .inl ⟨ma, ha⟩
    · exact .inr ⟨a, b, ma, mb, ha, by omega, List.mem_singleton.1 e⟩
  · rw [edge_oi (by omega) hb] at hv
    exact .inr ⟨b, a, mb, ma, hb, by omega, List.mem_singleton.1 hv⟩
  · rw [edge_oo (by omega) (by omega)] at hv
    cases hv

/-! ### how many -/
theorem cut_count (k : Nat) (l : List (List Int)) (m : Nat) : ∃ I O c d : Nat, I + O = m ∧ (cutN k l m).length = I + c + d ∧ c ≤ I ∧ d ≤ O ∧
    (c : Int) - d = (if 0 ≤ distK k (turnK l 0) then 1 else 0) - (if 0 ≤ distK k (turnK l m) then 1 else 0) := by
  induction m with
  | zero => exact ⟨0, 0, 0, 0, rfl, rfl, by omega, by omega, by omega⟩
  | succ m ih =>
    obtain ⟨I, O, c, d, h1, h2, h3, h4, h5⟩ := ih
    rw [cutN_succ]
    generalize turnK l m = a at *
    generalize turnK l (m + 1) = b at *
    generalize cutN k l m = x at *
    rw [List.length_append]
    by_cases ha : 0 ≤ distK k a <;> by_cases hb : 0 ≤ distK k b
    · rw [edge_ii ha hb]
      exact ⟨I + 1, O, c, d, by omega, by simp; omega, by omega, by omega, by rw [if_pos ha] at h5; rw [h5, if_pos hb]⟩
    · rw [edge_io ha (by omega)]
      exact ⟨I + 1, O, c + 1, d, by omega, by simp; omega, by omega, by omega, by rw [if_pos ha] at h5; rw [if_neg hb]; push_cast; omega⟩
    · rw [edge_oi (by omega) hb]
      exact ⟨I, O + 1, c, d + 1, by omega, by simp; omega, by omega, by omega, by rw [if_neg ha] at h5; rw [if_pos hb]; push_cast; omega⟩
    · rw [edge_oo (by omega) (by omega)]
      exact ⟨I, O + 1, c, d, by omega, by simp; omega, by omega, by omega, by rw [if_neg ha] at h5; rw [h5, if_neg hb]⟩
theorem cut_len (k : Nat) (l : List (List Int)) : (cutK k l).length ≤ l.length + l.length / 2 := by
  obtain ⟨I, O, c, d, h1, h2, h3, h4, h5⟩ := cut_count k l l.length
  rw [turn_end] at h5
  unfold cutK
  omega
def mostK : Nat → Nat
  | 0 => 3
  | n + 1 => mostK n + mostK n / 2
theorem clip_len (l : List (List Int)) (h : l.length = 3) (n : Nat) : (clipN l n).length ≤ mostK n := by
  induction n with
  | zero => unfold clipN mostK; omega
  | succ n ih =>
    have := cut_len n (clipN l n)
    unfold clipN mostK
    omega
theorem most_le : ∀ n, n ≤ 7 → mostK n ≤ 42 := by decide
theorem clip_le (l : List (List Int)) (h : l.length = 3) {n : Nat} (hn : n ≤ 7) : (clipN l n).length ≤ 42 := Nat.le_trans (clip_len l h n) (most_le n hn)

/-! ### what is kept -/
/-- what holds for a, b, c, and goes over to crossings, holds for all that is left -/
theorem clip_all {l : List (List Int)} (P : List Int → Prop) (h0 : ∀ v ∈ l, P v) (hc : ∀ j a b, 0 ≤ distK j a → distK j b < 0 → P a → P b → P (crossK j a b)) : ∀ n, ∀ v ∈ clipN l n, P v
  | 0, v, h => h0 v h
  | n + 1, v, h => by
    rcases cut_mem h with ⟨g, _⟩ | ⟨a, b, ma, mb, ha, hb, e⟩
    · exact clip_all P h0 hc n v g
    · rw [e]
      exact hc n a b ha hb (clip_all P h0 hc n a ma) (clip_all P h0 hc n b mb)
theorem clip_between {l : List (List Int)} {i : Nat} {lo hi : Int} (hi4 : i < 4) (h : ∀ v ∈ l, lo ≤ nv v i ∧ nv v i ≤ hi) (n : Nat) : ∀ v ∈ clipN l n, lo ≤ nv v i ∧ nv v i ≤ hi := by
  refine clip_all _ h ?_ n
  intro j a b ha hb pa pb
  have := cross_between j a b ha hb hi4
  omega
theorem clip_four {l : List (List Int)} (h : ∀ v ∈ l, v.length = 4) (n : Nat) : ∀ v ∈ clipN l n, v.length = 4 :=
  clip_all _ h (fun _ _ _ _ _ _ _ => rfl) n
theorem clip_in (l : List (List Int)) : ∀ n k, k < n → ∀ v ∈ clipN l n, -(slackK k * ((n - k : Nat) : Int)) ≤ distK k v
  | 0, k, h => by omega
  | n + 1, k, h => by
    intro v hv
    have sp := slack_pos k
    rcases Nat.lt_or_ge k n with g | g
    · have ih := clip_in l n k g
      have e : slackK k * ((n + 1 - k : Nat) : Int) = slackK k * ((n - k : Nat) : Int) + slackK k := by
        rw [show n + 1 - k = (n - k) + 1 by omega, Int.natCast_add, Int.mul_add]
        simp
      rw [e]
      rcases cut_mem hv with ⟨m, _⟩ | ⟨a, b, ma, mb, ha, hb, e2⟩
      · have := ih v m
        omega
      · rw [e2]
        have := cross_lo n k a b ha hb (ih a ma) (ih b mb)
        omega
    · have ek : k = n := by omega
      subst ek
      rw [show k + 1 - k = 1 by omega]
      rcases cut_mem hv with ⟨m, d⟩ | ⟨a, b, ma, mb, ha, hb, e2⟩
      · simp; omega
      · rw [e2]
        have := (cross_own k a b ha hb).1
        simp; omega
theorem cut_inside {k : Nat} {l : List (List Int)} (h : ∀ v ∈ l, 0 ≤ distK k v) : ∀ n, n ≤ l.length → cutN k l n = l.take n
  | 0, _ => by simp [cutN_zero]
  | n + 1, hn => by
    rw [cutN_succ, cut_inside h n (by omega), edge_ii (h _ (turn_mem (by omega) _)) (h _ (turn_mem (by omega) _)), turn_at (by omega), List.take_add_one, List.getD_eq_getElem?_getD, List.getElem?_eq_getElem (by omega)]
    rfl
theorem clip_inside {l : List (List Int)} (h : ∀ k, k < 7 → ∀ v ∈ l, 0 ≤ distK k v) : ∀ n, n ≤ 7 → clipN l n = l
  | 0, _ => rfl
  | n + 1, hn => by
    unfold clipN
    rw [clip_inside h n (by omega)]
    unfold cutK
    rw [cut_inside (h n (by omega)) _ (Nat.le_refl _), List.take_length]
theorem clip_outside {l : List (List Int)} {k : Nat} (h : ∀ v ∈ l, distK k v < 0) : ∀ n, k < n → clipN l n = [] := by
  have all := clip_all (l := l) (fun v => distK k v < 0) h (fun j a b ha hb pa pb => cross_hi j k a b ha hb pa pb)
  have at1 : clipN l (k + 1) = [] := by
    rw [List.eq_nil_iff_forall_not_mem]
    intro v hv
    rcases cut_mem hv with ⟨m, d⟩ | ⟨a, b, ma, mb, ha, hb, e⟩
    · have := all k v m; omega
    · have := all k a ma; omega
  intro n hn
  induction n with
  | zero => omega
  | succ n ih =>
    rcases Nat.lt_or_ge k n with g | g
    · unfold clipN; rw [ih g]; rfl
    · rw [show n = k by omega]; exact at1

/-! ### from any vertex on -/
def RotK (l m : List (List Int)) : Prop := ∃ x y, l = x ++ y ∧ m = y ++ x
theorem turn_wrap (l : List (List Int)) (i : Nat) : turnK l (l.length + i) = turnK l i := by unfold turnK; rw [Nat.add_mod_left]
theorem turn_rot (x y : List (List Int)) (i : Nat) : turnK (y ++ x) i = turnK (x ++ y) (x.length + i) := by
  unfold turnK
  rw [List.length_append, List.length_append, Nat.add_comm y.length x.length]
  by_cases h0 : x.length + y.length = 0
  · have a : x = [] := List.length_eq_zero_iff.1 (by omega)
    have b : y = [] := List.length_eq_zero_iff.1 (by omega)
    rw [a, b]; rfl
  · have hr := Nat.mod_lt i (show 0 < x.length + y.length by omega)
    rw [show (x.length + i) % (x.length + y.length) = (x.length + i % (x.length + y.length)) % (x.length + y.length) by rw [Nat.add_mod_mod]]
    generalize i % (x.length + y.length) = r at hr
    simp only [List.getD_eq_getElem?_getD]
    rcases Nat.lt_or_ge r y.length with g | g
    · rw [Nat.mod_eq_of_lt (by omega), List.getElem?_append_left g, List.getElem?_append_right (by omega), show x.length + r - x.length = r by omega]
    · rw [show x.length + r = (x.length + y.length) + (r - y.length) by omega, Nat.add_mod_left, Nat.mod_eq_of_lt (by omega), List.getElem?_append_right g, List.getElem?_append_left (by omega)]
def partK (k : Nat) (l : List (List Int)) (j n : Nat) : List (List Int) := (List.range n).flatMap fun i => edgeK k (turnK l (j + i)) (turnK l (j + i + 1))
theorem cut_parts (k : Nat) (l : List (List Int)) (j n : Nat) : partK k l 0 (j + n) = partK k l 0 j ++ partK k l j n := by
  unfold partK
  rw [List.range_add, List.flatMap_append, List.flatMap_map]
  simp only [Nat.zero_add]
theorem cut_rot {k : Nat} {l m : List (List Int)} (h : RotK l m) : RotK (cutK k l) (cutK k m) := by
  obtain ⟨x, y, rfl, rfl⟩ := h
  have c : ∀ l : List (List Int), cutK k l = partK k l 0 l.length := by
    intro l
    unfold cutK cutN partK
    simp only [Nat.zero_add]
  have e1 : ∀ j n, partK k (y ++ x) j n = partK k (x ++ y) (x.length + j) n := by
    intro j n
    unfold partK
    simp only [turn_rot x y, Nat.add_assoc]
  have e2 : partK k (x ++ y) (x.length + y.length) x.length = partK k (x ++ y) 0 x.length := by
    unfold partK
    have tw : ∀ i, turnK (x ++ y) (x.length + (y.length + i)) = turnK (x ++ y) i := by
      intro i
      have := turn_wrap (x ++ y) i
      rwa [List.length_append, Nat.add_assoc] at this
    simp only [Nat.add_assoc, Nat.zero_add, tw]
  refine ⟨partK k (x ++ y) 0 x.length, partK k (x ++ y) x.length y.length, ?_, ?_⟩
  · rw [c, List.length_append, cut_parts]
  · rw [c, List.length_append, cut_parts, e1, e1, Nat.add_zero, e2]
theorem clip_rot {l m : List (List Int)} (h : RotK l m) : ∀ n, RotK (clipN l n) (clipN m n)
  | 0 => h
  | n + 1 => cut_rot (clip_rot h n)
/-- the statement's way to say it: begun k places on -/
theorem rot_at {l m : List (List Int)} (h : RotK l m) (hl : 0 < l.length) : m.length = l.length ∧ ∃ k, k < l.length ∧ ∀ i, i < m.length → m.getD i [] = l.getD ((i + k) % l.length) [] := by
  obtain ⟨x, y, rfl, rfl⟩ := h
  have e : (y ++ x).length = (x ++ y).length := by simp [Nat.add_comm]
  refine ⟨e, x.length % (x ++ y).length, Nat.mod_lt _ hl, ?_⟩
  intro i hi
  have t := turn_rot x y i
  rw [turn_at hi] at t
  rw [t]
  unfold turnK
  rw [Nat.add_mod_mod, Nat.add_comm i]
