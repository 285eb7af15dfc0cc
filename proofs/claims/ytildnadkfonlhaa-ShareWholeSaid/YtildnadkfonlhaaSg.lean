/- Lists of numbers that a call made itself; all IDs, rising: the document's IDs; two lists of numbers: Ints; walked. -/
import Derived.Test.YtildnadkfonlhaaProg
import Derived.Test.YtildnadkfonlhaaSd
import Derived.Laws.AppendOwn
import Derived.ProofKit
set_option linter.unusedVariables false
set_option linter.unusedSimpArgs false
namespace Go.Proofs.Ytildnadkfonlhaa.Fx
open Go Go.RowKit
def OwnN (W : World) (B : Nat) (v : Value) (l : List Int) : Prop := W.ownsRow B 3 1 v l.length (l.map encI)
theorem OwnN.below {w W : World} {B : Nat} {v : Value} {l : List Int} (h : Below w.heap.size w W) (s : OwnN w B v l) : OwnN W B v l := by
  obtain ⟨h1, h2⟩ := s
  refine ⟨h1, ?_⟩
  rcases h2 with h2 | ⟨g, cap, cur, e, hb, hg, h3⟩
  · exact Or.inl h2
  · exact Or.inr ⟨g, cap, cur, e, hb, keep_row h hg, h3⟩
theorem OwnN.alloc {w : World} {B : Nat} {v : Value} {l : List Int} (s : OwnN w B v l) (o : Obj) : OwnN (w.alloc o) B v l := by
  obtain ⟨h1, h2⟩ := s
  refine ⟨h1, ?_⟩
  rcases h2 with h2 | ⟨g, cap, cur, e, hb, hg, h3⟩
  · exact Or.inl h2
  · exact Or.inr ⟨g, cap, cur, e, hb, step_row hg, h3⟩
theorem OwnN.blk {w : World} {B : Nat} {v : Value} {l : List Int} (s : OwnN w B v l) : ∀ k, v.ownBlock = some k → B ≤ k := by
  intro k hk
  obtain ⟨h1, h2⟩ := s
  rcases h2 with ⟨rfl, _⟩ | ⟨g, cap, cur, rfl, hb, _⟩
  · cases hk
  · cases hk
    exact hb
theorem OwnN.base {w : World} {B C : Nat} {v : Value} {l : List Int} (hc : C ≤ B) (s : OwnN w B v l) : OwnN w C v l := by
  obtain ⟨h1, h2⟩ := s
  refine ⟨h1, ?_⟩
  rcases h2 with h2 | ⟨g, cap, cur, e, hb, hg, h3⟩
  · exact Or.inl h2
  · exact Or.inr ⟨g, cap, cur, e, Nat.le_trans hc hb, hg, h3⟩
/-- numbers behind a slice -/
def IntsAt (W : World) (o : Option Addr) (l : List Int) : Prop := ∀ i, i < l.length → ∃ b off, o = some ⟨b, off, none⟩ ∧ W.cell? ⟨b, off + i, none⟩ = some (.int .i64 (l.getD i 0))
theorem IntsAt.below {w W : World} {o : Option Addr} {l : List Int} (hb : Below w.heap.size w W) (h : IntsAt w o l) : IntsAt W o l := fun i hi => by
  obtain ⟨b, off, e, hc⟩ := h i hi
  exact ⟨b, off, e, keep_cell hb hc⟩
theorem OwnN.form {W : World} {B : Nat} {v : Value} {l : List Int} (s : OwnN W B v l) : ∃ o cap, v = .slice o l.length cap ∧ IntsAt W o l ∧ l.length ≤ maxLen := by
  obtain ⟨h1, h2⟩ := s
  rcases h2 with ⟨rfl, h0⟩ | ⟨g, cap, cur, rfl, hb, hg, hle, hm, hsz, htk⟩
  · exact ⟨none, 0, by rw [h0], fun i hi => by omega, by omega⟩
  · refine ⟨some ⟨g, 0, none⟩, cap, rfl, fun i hi => ⟨g, 0, rfl, ?_⟩, Nat.le_trans hle hm⟩
    rw [cell_of_row _ _ _ _ _ _ hg, Nat.zero_add]
    have h3 : (l.map encI)[i]? = some (.int .i64 (l.getD i 0)) := by
      rw [List.getElem?_map, List.getElem?_eq_getElem hi]
      simp [encI, List.getD, List.getElem?_eq_getElem hi]
    rw [← htk, List.getElem?_take, if_pos (by omega)] at h3
    simpa using h3
theorem below_grown2 {B : Nat} {W X Y : World} {row : Option Nat} (hB : B ≤ W.heap.size) (hb : Below B W X) (hg : X.grownBy Y row) (hr : ∀ k, row = some k → B ≤ k) : Below B W Y :=
  ⟨hg.os.trans hb.os, hg.tape.trans hb.tape, hg.output.trans hb.output, Nat.le_trans hb.size hg.size, fun k hk => (hg.block k (Nat.lt_of_lt_of_le hk (Nat.le_trans hB hb.size)) (fun e => by have := hr k e.symm; omega)).trans (hb.block k hk)⟩
theorem infoN : (Try.prog.info? 3).map (fun i => (i.zero, i.size, i.bytes)) = some (some (.int .i64 0), 1, 8) := by kernel_rfl
theorem cell_one_newN (w : World) (v : Value) (t : TypeId) : ∀ j u, [v][j]? = some u → (w.alloc (.cells #[v] t)).cell? ((⟨w.heap.size, 0, none⟩ : Addr).add j) = some u := by
  intro j u h
  match j with
  | 0 =>
    rw [Addr.add_lit, cell_of_row _ _ _ _ _ _ (heap_alloc_new _ _)]
    simpa using h
  | j + 1 => simp at h
def eqI (a b : List Int) : Bool := decide (a = b)
theorem eqI_len {a b : List Int} (h : a.length ≠ b.length) : eqI a b = false := decide_eq_false (fun e => h (by rw [e]))
theorem take_eq_snoc {a b : List Int} {i : Nat} (ha : i < a.length) (hb : i < b.length) (h : a.take i = b.take i) (he : a.getD i 0 = b.getD i 0) : a.take (i + 1) = b.take (i + 1) := by
  rw [List.take_add_one, List.take_add_one, h]
  rw [List.getD_eq_getElem?_getD, List.getD_eq_getElem?_getD, List.getElem?_eq_getElem ha, List.getElem?_eq_getElem hb] at he
  rw [List.getElem?_eq_getElem ha, List.getElem?_eq_getElem hb]
  simp at he
  rw [he]
def TiRel (w : World) (a b : List Int) (n : Nat) (g : Nat) (u : Value) (W : World) : Prop :=
  ∃ i, g = n - i ∧ u = .int .i64 (i : Int) ∧ i ≤ n ∧ a.take i = b.take i ∧ Below w.heap.size w W
set_option maxRecDepth 100000 in
set_option maxHeartbeats 4000000 in
theorem zints_any (a b : List Int) (oa ob : Option Addr) (ca cb : Nat) (w : World) (ha : IntsAt w oa a) (hb : IntsAt w ob b) (la : a.length ≤ maxLen) (lb : b.length ≤ maxLen) :
    Calls Try.prog 12 #[.slice oa a.length ca, .slice ob b.length cb] w (RetBool (eqI a b) w) := by
  unfold maxLen at la lb
  by_cases hl : a.length = b.length
  · obtain ⟨n, hn⟩ : ∃ n, a.length = n := ⟨_, rfl⟩
    have hn2 : b.length = n := by omega
    have HN := Lib.hid hn
    have HN2 := Lib.hid hn2
    have HA := Lib.hid ha
    have HBb := Lib.hid hb
    rw [hn, hn2]
    have n0 : (0 : Int) ≤ (n : Int) := by omega
    have n1 : (n : Int) ≤ 9223372036854775807 := by omega
    clear hl hn hn2 ha hb la lb
    go_enter Try.func12, Try.ntmps12
    go_wp2_with fail
    go_loopg [5] n (TiRel w a b n)
    case atStart => exact ⟨0, rfl, rfl, by omega, rfl, Below.refl _ _⟩
    case round =>
      obtain ⟨i, hg, rfl, hi, ht, hbl⟩ := hrel
      have HT := Lib.hid ht
      have HL := Lib.hid hbl
      subst hg
      clear ht hbl
      have i0 : (0 : Int) ≤ (i : Int) := by omega
      by_cases hin : i < n
      · have t2 : (i : Int) < (n : Int) := by omega
        obtain ⟨ba, fa, ea, da⟩ := HA.out.below HL.out i (by rw [HN.out]; exact hin)
        obtain ⟨bb, fb, eb, db⟩ := HBb.out.below HL.out i (by rw [HN2.out]; exact hin)
        have HS : Hid (a.getD i 0 = b.getD i 0 → a.take (i + 1) = b.take (i + 1)) := Lib.hid (take_eq_snoc (by rw [HN.out]; exact hin) (by rw [HN2.out]; exact hin) HT.out)
        have HD : Hid (a.getD i 0 ≠ b.getD i 0 → eqI a b = false) := Lib.hid (fun h => decide_eq_false (fun e => h (by rw [e])))
        subst ea eb
        generalize a.getD i 0 = x at da HS HD
        generalize b.getD i 0 = y at db HS HD
        by_cases hxy : x = y
        · have HY := Lib.hid (HS.out hxy)
          subst hxy
          clear HS HD
          go_wp2_with fail
          go_quiet (fail)
          go_wp2_with fail
          go_roundg (n - (i + 1))
          case measure => omega
          case rel => exact ⟨i + 1, rfl, by go_num, by omega, HY.out, bdrewN _ HL.out⟩
        · have HR := Lib.hid (HD.out hxy)
          clear HS HD
          go_wp2_with fail
          go_quiet (fail)
          go_wp2_with fail
          go_ret
          exact ⟨by rw [HR.out]; rfl, bdrewN _ HL.out⟩
      · obtain rfl : i = n := by omega
        have t2 : ¬ (i : Int) < (i : Int) := by omega
        have HE : Hid (eqI a b = true) := Lib.hid (decide_eq_true (by have := HT.out; rw [List.take_of_length_le (by rw [HN.out]; omega), List.take_of_length_le (by rw [HN2.out]; omega)] at this; exact this))
        go_wp2_with fail
        go_ret
        exact ⟨by rw [HE.out]; rfl, HL.out⟩
  · have HE := Lib.hid (eqI_len hl)
    have t1 : ¬ (a.length : Int) = (b.length : Int) := by omega
    rw [HE.out]
    clear hl ha hb
    go_enter Try.func12, Try.ntmps12
    go_wp2_with fail
    go_ret
    exact ⟨rfl, Below.refl _ _⟩
/-- into its place, behind what is as great -/
def ins (a : Int) : List Int → List Int
  | [] => [a]
  | x :: t => if a < x then a :: x :: t else x :: ins a t
theorem ins_cons (a x : Int) (t : List Int) : ins a (x :: t) = if a < x then a :: x :: t else x :: ins a t := rfl
theorem ins_len (a : Int) : ∀ l, (ins a l).length = l.length + 1
  | [] => rfl
  | x :: t => by
    unfold ins
    split
    · simp
    · simp [ins_len a t]
theorem ins_le {a : Int} : ∀ {l : List Int}, (∀ z ∈ l, z ≤ a) → ins a l = l ++ [a]
  | [], _ => rfl
  | x :: t, h => by
    unfold ins
    rw [if_neg (by have := h x (by simp); omega), ins_le fun z hz => h z (by simp [hz])]
    rfl
theorem ins_snoc_le {a y : Int} : ∀ {l : List Int}, (∀ z ∈ l, z ≤ a) → a < y → ins a (l ++ [y]) = l ++ [a] ++ [y]
  | [], _, hy => by simp [ins, hy]
  | x :: t, h, hy => by
    have := h x (by simp)
    rw [List.cons_append, ins_cons, if_neg (by omega), ins_snoc_le (fun z hz => h z (by simp [hz])) hy]
    rfl
theorem ins_snoc_gt {a y : Int} : ∀ {l : List Int}, (∃ z ∈ l, a < z) → ins a (l ++ [y]) = ins a l ++ [y]
  | [], h => by simp at h
  | x :: t, h => by
    rw [List.cons_append, ins_cons, ins_cons]
    by_cases hx : a < x
    · rw [if_pos hx, if_pos hx]
      rfl
    · rw [if_neg hx, if_neg hx]
      have : ∃ z ∈ t, a < z := by
        obtain ⟨z, hz, h1⟩ := h
        rcases List.mem_cons.1 hz with rfl | hz
        · exact absurd h1 hx
        · exact ⟨z, hz, h1⟩
      rw [ins_snoc_gt this]
      rfl
def idsZ (l : List ObjR) : List Int := l.foldl (fun acc x => ins x.id acc) []
theorem idsZ_snoc (l : List ObjR) (x : ObjR) : idsZ (l ++ [x]) = ins x.id (idsZ l) := by simp [idsZ]
theorem idsZ_len (l : List ObjR) : (idsZ l).length = l.length := by
  have : ∀ (l : List ObjR) (acc : List Int), (l.foldl (fun acc x => ins x.id acc) acc).length = acc.length + l.length := by
    intro l
    induction l with
    | nil => intro acc; rfl
    | cons x t ih => intro acc; rw [List.foldl_cons, ih, ins_len, List.length_cons]; omega
  rw [idsZ, this]
  simp
end Go.Proofs.Ytildnadkfonlhaa.Fx
