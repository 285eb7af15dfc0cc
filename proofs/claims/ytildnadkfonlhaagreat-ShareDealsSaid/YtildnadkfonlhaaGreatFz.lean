/- A list of members: the program's Members, Index and Contains; whether a scene may be dealt: walked. Dealing, in plain words: whose an object is, what each member has, what changes hands. A loop over an iterator that has memory of its own, which no round writes. A scene's objects with their owners: the program's iterator, walked. A call with a contract, as an operation of a region that draws its order. Whose an object is: the program's whose, walked. Objects that are what is asked for: the program's chosen and held, walked. Each node's objects, whose one is, what changes hands: the program's held, Owner, Of, Moved, walked. All members' objects, and how many the one has that has most: the program's All and Most, walked. The document's Members and Owner, walked. The document's Owner, walked. The document's Of and Moved, walked. The document's Moved, walked. ShareDeals, walked. -/
import Derived.Test.YtildnadkfonlhaaGreatProg
import Derived.Test.YtildnadkfonlhaaGreatVd
import Derived.Test.YtildnadkfonlhaaGreatVh
import Derived.Test.YtildnadkfonlhaaGreatVq
import Derived.Test.YtildnadkfonlhaaGreatVp
import Derived.Test.YtildnadkfonlhaaGreatIt
import Derived.Test.YtildnadkfonlhaaGreatHg
import Derived.Test.YtildnadkfonlhaaGreatVg
import Derived.Test.YtildnadkfonlhaaGreatXe
import Derived.Test.YtildnadkfonlhaaGreatSb
import Derived.Test.YtildnadkfonlhaaGreatSd
set_option linter.unusedVariables false
set_option linter.unusedSimpArgs false
namespace Go.Proofs.YtildnadkfonlhaaGreat.Fx
open Go Go.RowKit Go.Shelf
def memP (l : List Int) (i : Nat) : Bool := decide (0 ≤ l.getD i 0 ∧ l.getD i 0 ≤ 63 ∧ (0 < i → l.getD (i - 1) 0 < l.getD i 0))
def memU (l : List Int) (k : Nat) : Bool := (List.range k).all (memP l)
/-- whether numbers are members -/
def memB (l : List Int) : Bool := decide (0 < l.length) && memU l l.length
theorem memU_step (l : List Int) (k : Nat) : memU l (k + 1) = (memU l k && memP l k) := by
  unfold memU
  rw [List.range_succ, List.all_append]
  simp
theorem memU_at {l : List Int} {k j : Nat} (h : memU l k = true) (hj : j < k) : 0 ≤ l.getD j 0 ∧ l.getD j 0 ≤ 63 ∧ (0 < j → l.getD (j - 1) 0 < l.getD j 0) := by
  unfold memU at h
  exact of_decide_eq_true (List.all_eq_true.1 h j (List.mem_range.2 hj))
theorem memU_bad {l : List Int} {k : Nat} (hk : k < l.length) (h : memP l k = false) : memB l = false := by
  unfold memB memU
  rw [Bool.and_eq_false_iff]
  right
  rw [List.all_eq_false]
  exact ⟨k, List.mem_range.2 hk, by rw [h]; simp⟩
theorem memB_full {l : List Int} (h0 : 0 < l.length) (h : memU l l.length = true) : memB l = true := by
  unfold memB
  rw [h, decide_eq_true h0]
  rfl
def lo (l : List Int) (k : Nat) : Int := if k = 0 then 0 else l.getD (k - 1) 0 + 1
theorem lo_num {l : List Int} {k : Nat} (h : memU l k = true) : 0 ≤ lo l k ∧ lo l k ≤ 64 := by
  unfold lo
  split
  · omega
  · have := memU_at h (show k - 1 < k by omega)
    omega
theorem mem_next {l : List Int} {k : Nat} (h : memU l k = true) (h1 : ¬ l.getD k 0 < lo l k) (h2 : ¬ 64 ≤ l.getD k 0) : memU l (k + 1) = true ∧ l.getD k 0 + 1 = lo l (k + 1) := by
  refine ⟨?_, by simp [lo]⟩
  rw [memU_step, h, Bool.true_and]
  have hl := lo_num h
  unfold lo at h1 hl
  unfold memP
  refine decide_eq_true ⟨by omega, by omega, fun hk => ?_⟩
  rw [if_neg (by omega)] at h1
  omega
theorem mem_stop {l : List Int} {k : Nat} (hk : k < l.length) (h : memU l k = true) (h1 : l.getD k 0 < lo l k ∨ 64 ≤ l.getD k 0) : memB l = false := by
  refine memU_bad hk ?_
  unfold memP
  refine decide_eq_false fun ⟨a, b, c⟩ => ?_
  rcases h1 with h1 | h1
  · unfold lo at h1
    split at h1
    · omega
    · have := c (by omega)
      omega
  · omega
def MeRel (l : List Int) (w : World) (n g : Nat) (s3 s5 s8 : Value) (W : World) : Prop :=
  ∃ (k : Nat) (m : Int), g = n - k ∧ s3 = .int .i64 m ∧ s8 = .int .i64 (k : Int) ∧ k ≤ n ∧ Below w.heap.size w W ∧ memU l k = true ∧ m = lo l k
set_option maxRecDepth 100000 in
set_option maxHeartbeats 2000000 in
theorem pmembers_any (l : List Int) (o : Option Addr) (c : Nat) (w : World) (h : IntsAt w o l) (hl : l.length ≤ 9223372036854775807) :
    Calls Tryz.prog 13 #[.slice o l.length c] w (RetBool (memB l) w) := by
  obtain ⟨n, hn⟩ : ∃ n, l.length = n := ⟨_, rfl⟩
  have HN := Lib.hid hn
  have HL := Lib.hid h
  rw [hn] at hl ⊢
  have n0 : (0 : Int) ≤ (n : Int) := by omega
  have n1 : (n : Int) ≤ 9223372036854775807 := by omega
  clear hn h hl
  go_enter Tryz.func13, Tryz.ntmps13
  go_wp2_with fail
  go_loopg [3, 5, 8] n (MeRel l w n)
  case atStart => exact ⟨0, 0, rfl, rfl, rfl, by omega, Below.refl _ _, rfl, rfl⟩
  case round =>
    obtain ⟨k, m, hg, rfl, rfl, hk, hbl, ha, hm⟩ := hrel
    subst hg
    have HB := Lib.hid hbl
    have HA := Lib.hid ha
    have HM := Lib.hid hm
    have hm2 := lo_num ha
    rw [← hm] at hm2
    obtain ⟨m0, m1⟩ := hm2
    clear ha hm
    have k0 : (0 : Int) ≤ (k : Int) := by omega
    by_cases hkn : k < n
    · have t1 : (k : Int) < (n : Int) := by omega
      obtain ⟨b, off, e, hr⟩ := (HL.out.below hbl) k (by rw [HN.out]; exact hkn)
      subst e
      have HS : Hid (l.getD k 0 < m ∨ 64 ≤ l.getD k 0 → memB l = false) := Lib.hid (fun h => mem_stop (by rw [HN.out]; exact hkn) HA.out (by rw [← HM.out]; exact h))
      have HX : Hid (¬ l.getD k 0 < m → ¬ 64 ≤ l.getD k 0 → memU l (k + 1) = true ∧ l.getD k 0 + 1 = lo l (k + 1)) := Lib.hid (fun h1 h2 => mem_next HA.out (by rw [← HM.out]; exact h1) h2)
      generalize l.getD k 0 = x at hr HS HX
      clear hbl
      by_cases h1 : x < m
      · have HR := Lib.hid (HS.out (.inl h1))
        clear HS HX
        go_wp2_with fail
        go_ret
        exact ⟨by rw [HR.out]; rfl, HB.out⟩
      · by_cases h2 : (64 : Int) ≤ x
        · have HR := Lib.hid (HS.out (.inr h2))
          clear HS HX
          go_wp2_with fail
          go_ret
          exact ⟨by rw [HR.out]; rfl, HB.out⟩
        · obtain ⟨h3, h4⟩ := HX.out h1 h2
          have H3 := Lib.hid h3
          have H4 := Lib.hid h4
          have x0 : (-9223372036854775808 : Int) ≤ x + 1 := by omega
          have x1 : x + 1 ≤ 9223372036854775807 := by omega
          clear HS HX h3 h4
          go_wp2_with fail
          go_roundg (n - (k + 1))
          case measure => omega
          case rel => exact ⟨k + 1, x + 1, rfl, by go_num, by go_num, by omega, HB.out, H3.out, H4.out⟩
    · obtain rfl : k = n := by omega
      have t1 : ¬ (k : Int) < (k : Int) := by omega
      clear hbl
      by_cases h0 : 0 < k
      · have t2 : (0 : Int) < (k : Int) := by omega
        have HR : Hid (memB l = true) := Lib.hid (memB_full (by rw [HN.out]; exact h0) (by rw [HN.out]; exact HA.out))
        go_wp2_with fail
        go_ret
        exact ⟨by rw [HR.out]; rfl, HB.out⟩
      · have t2 : ¬ (0 : Int) < (k : Int) := by omega
        have HR : Hid (memB l = false) := Lib.hid (by unfold memB; rw [HN.out, decide_eq_false h0]; rfl)
        go_wp2_with fail
        go_ret
        exact ⟨by rw [HR.out]; rfl, HB.out⟩
def eqP (x : Int) : Int → Bool := fun y => decide (x = y)
theorem ints_get {l : List Int} {k : Nat} (h : k < l.length) : l[k]? = some (l.getD k 0) := by
  rw [List.getD_eq_getElem?_getD, List.getElem?_eq_getElem h]
  rfl
set_option maxRecDepth 100000 in
set_option maxHeartbeats 2000000 in
theorem pindex_any (l : List Int) (x : Int) (o : Option Addr) (c : Nat) (w : World) (h : IntsAt w o l) (hl : l.length ≤ 9223372036854775807) :
    Calls Tryz.prog 28 #[.slice o l.length c, .int .i64 x] w (RetIdx (idxZ (eqP x) l) w) := by
  obtain ⟨n, hn⟩ : ∃ n, l.length = n := ⟨_, rfl⟩
  have HN := Lib.hid hn
  have HL := Lib.hid h
  rw [hn] at hl ⊢
  have n0 : (0 : Int) ≤ (n : Int) := by omega
  have n1 : (n : Int) ≤ 9223372036854775807 := by omega
  clear hn h hl
  go_enter Tryz.func28, Tryz.ntmps28
  go_wp2_with fail
  go_loopg [5, 8] n (IxRel (eqP x) l w n)
  case atStart => exact ⟨0, rfl, rfl, by omega, Below.refl _ _, rfl⟩
  case round =>
    obtain ⟨k, hg, rfl, hk, hbl, ha⟩ := hrel
    subst hg
    have HB := Lib.hid hbl
    have HA := Lib.hid ha
    clear ha
    have k0 : (0 : Int) ≤ (k : Int) := by omega
    by_cases hkn : k < n
    · have t1 : (k : Int) < (n : Int) := by omega
      obtain ⟨b, off, e, hr⟩ := (HL.out.below hbl) k (by rw [HN.out]; exact hkn)
      subst e
      have HX := Lib.hid (ints_get (l := l) (k := k) (by rw [HN.out]; exact hkn))
      generalize l.getD k 0 = y at hr HX
      clear hbl
      by_cases hq : x = y
      · have HR2 := Lib.hid (idx_hit (p := eqP x) HX.out HA.out (decide_eq_true hq))
        go_wp2_with fail
        go_ret
        exact ⟨by rw [HR2.out]; rfl, HB.out⟩
      · have HR2 := Lib.hid (any_snoc (p := eqP x) HX.out HA.out (decide_eq_false hq))
        go_wp2_with fail
        go_roundg (n - (k + 1))
        case measure => omega
        case rel => exact ⟨k + 1, rfl, by go_num, by omega, HB.out, HR2.out⟩
    · obtain rfl : k = n := by omega
      have t1 : ¬ (k : Int) < (k : Int) := by omega
      have HR2 := Lib.hid (idx_none (p := eqP x) (by rw [HN.out]; omega) HA.out)
      clear hbl
      go_wp2_with fail
      go_ret
      exact ⟨by rw [HR2.out]; rfl, HB.out⟩
set_option maxRecDepth 100000 in
theorem pcontains_any (l : List Int) (x : Int) (o : Option Addr) (c : Nat) (w : World) (h : IntsAt w o l) (hl : l.length ≤ 9223372036854775807) :
    Calls Tryz.prog 20 #[.slice o l.length c, .int .i64 x] w (RetBool (l.any (eqP x)) w) := by
  have HC := Lib.hid (pindex_any l x o c w h hl)
  have HZ := Lib.hid (idx_any (eqP x) l)
  clear h
  generalize idxZ (eqP x) l = z at HC HZ
  generalize l.any (eqP x) = b at HZ ⊢
  generalize l.length = n at HC hl ⊢
  go_enter Tryz.func20, Tryz.ntmps20
  rcases HZ.out with ⟨rfl, hz⟩ | ⟨rfl, hz⟩
  · go_wp2_with fail
    refine HC.out.mono ?_
    rintro e w' ⟨rfl, hb⟩
    go_wp2_with fail
    go_ret
    exact ⟨rfl, hb⟩
  · have hz2 : ¬ (0 : Int) ≤ z := by omega
    go_wp2_with fail
    refine HC.out.mono ?_
    rintro e w' ⟨rfl, hb⟩
    go_wp2_with fail
    go_ret
    exact ⟨by rw [decide_eq_false (show ¬ (0 : Int) ≤ z by omega)]; rfl, hb⟩
/-- whether a scene may be dealt to members -/
def dealB (s : ScR) (l : List Int) : Bool := memB l && okZ s
set_option maxRecDepth 100000 in
theorem pmay_any (s : ScR) (l : List Int) (o : Option Addr) (c : Nat) (w : World) (hs : ScWf s) (h : ObjsAt w s.oo s.os) (hi : IntsAt w o l) (hl : l.length ≤ 9223372036854775807) :
    Calls Tryz.prog 17 #[.agg (scC s), .slice o l.length c] w (RetBool (dealB s l) w) := by
  obtain ⟨W1, hW1⟩ : ∃ W1, w.alloc (.cells (scC s) 28) = W1 := ⟨_, rfl⟩
  have b1 : Below w.heap.size w W1 := by rw [← hW1]; exact (Below.refl _ w).alloc (Nat.le_refl _) _
  have HALL := Lib.hid (show ScAt w.heap.size s W1 by rw [← hW1]; exact ScAt.new w s)
  have hall := Lib.hid (sizeS hs)
  have HM := Lib.hid (pmembers_any l o c W1 (hi.below b1) hl)
  have HC := Lib.hid (fun (W : World) (hW : Below w.heap.size w W) => pcheck_any s W hs (h.below hW))
  have HB1 := Lib.hid b1
  have HW1 := Lib.hid hW1
  unfold dealB
  clear b1 hW1 hs h hi hl
  generalize memB l = b at HM ⊢
  generalize okZ s = ok at HC ⊢
  generalize l.length = n at HM ⊢
  go_enter Tryz.func17, Tryz.ntmps17
  cases b with
  | false =>
    go_wp2_with (rw [HW1.out])
    refine HM.out.mono ?_
    rintro e w' ⟨rfl, hb⟩
    have HB := Lib.hid (bnext HB1.out hb)
    clear hb
    go_wp2_with fail
    go_ret
    exact ⟨rfl, HB.out⟩
  | true =>
    go_wp2_with (rw [HW1.out])
    refine HM.out.mono ?_
    rintro e w' ⟨rfl, hb⟩
    have HB := Lib.hid (bnext HB1.out hb)
    have HAL := Lib.hid ((HALL.out.below hb).all)
    have HCC := Lib.hid (HC.out _ HB.out)
    clear hb
    go_wp2_with (refine wpList_load_mid_g (by rfl) 28 (.tmp 2) rfl w.heap.size 0 rfl (scL s) _ HAL.out Tryz.underlying28 rfl hall.out ?_)
    refine HCC.out.mono ?_
    rintro e w2 ⟨rfl, hb2⟩
    have HB2 := Lib.hid (bnext HB.out hb2)
    clear hb2
    cases ok with
    | false =>
      go_wp2_with fail
      go_ret
      exact ⟨rfl, HB2.out⟩
    | true =>
      go_wp2_with fail
      go_ret
      exact ⟨rfl, HB2.out⟩
end Go.Proofs.YtildnadkfonlhaaGreat.Fx
namespace Go.Proofs.YtildnadkfonlhaaGreat.Fx
open Go
/-- the owner at place k -/
def ownK (l : List Int) (k : Nat) : Int := l.getD (k % l.length) 0
def chosenK (p : Int → Int → Bool) (ids l : List Int) (k : Nat) : List Int := ((List.range k).filter fun i => p (ids.getD i 0) (ownK l i)).map fun i => ids.getD i 0
def chosenZ (p : Int → Int → Bool) (ids l : List Int) : List Int := chosenK p ids l ids.length
theorem chosenK_yes {p : Int → Int → Bool} {ids l : List Int} {k : Nat} (h : p (ids.getD k 0) (ownK l k) = true) : chosenK p ids l (k + 1) = chosenK p ids l k ++ [ids.getD k 0] := by
  unfold chosenK
  rw [List.range_succ, List.filter_append, List.map_append, List.filter_cons_of_pos (p := fun i => p (ids.getD i 0) (ownK l i)) h, List.filter_nil]
  rfl
theorem chosenK_no {p : Int → Int → Bool} {ids l : List Int} {k : Nat} (h : p (ids.getD k 0) (ownK l k) = false) : chosenK p ids l (k + 1) = chosenK p ids l k := by
  unfold chosenK
  rw [List.range_succ, List.filter_append, List.map_append, List.filter_cons_of_neg (by rw [h]; simp), List.filter_nil]
  simp
theorem chosenK_len (p : Int → Int → Bool) (ids l : List Int) (k : Nat) : (chosenK p ids l k).length ≤ k := by
  unfold chosenK
  rw [List.length_map]
  exact Nat.le_trans (List.length_filter_le _ _) (by simp)
def whoseZ (ids l : List Int) (id : Int) : Option Int := (ids.findIdx? fun x => decide (x = id)).map (ownK l)
def heldZ (ids l : List Int) (m : Int) : List Int := chosenZ (fun _ o => decide (o = m)) ids l
def movedZ (ids a b : List Int) : List Int := chosenZ (fun id o => decide (o ≠ (whoseZ ids a id).getD 0)) ids b
theorem whose_step {ids : List Int} {id : Int} {k : Nat} (hk : k < ids.length) (ha : (ids.take k).findIdx? (fun x => decide (x = id)) = none) (h : ids.getD k 0 ≠ id) : (ids.take (k + 1)).findIdx? (fun x => decide (x = id)) = none := by
  rw [List.take_add_one, ints_get hk, List.findIdx?_append, ha]
  generalize ids.getD k 0 = x at h
  simp [h]
theorem whose_hit {ids l : List Int} {id : Int} {k : Nat} (hk : k < ids.length) (ha : (ids.take k).findIdx? (fun x => decide (x = id)) = none) (h : ids.getD k 0 = id) : whoseZ ids l id = some (ownK l k) := by
  unfold whoseZ
  have hx := ints_get hk
  rw [h] at hx
  obtain ⟨hkl, hx'⟩ := List.getElem?_eq_some_iff.1 hx
  have e : ids.findIdx? (fun x => decide (x = id)) = some k := by
    rw [← List.take_append_drop k ids, List.findIdx?_append, ha, List.drop_eq_getElem_cons hkl]
    simp [List.findIdx?_cons, hx', h]
    omega
  rw [e]
  rfl
theorem whose_none {ids l : List Int} {id : Int} {n : Nat} (hn : ids.length ≤ n) (h : (ids.take n).findIdx? (fun x => decide (x = id)) = none) : whoseZ ids l id = none := by
  rw [List.take_of_length_le hn] at h
  unfold whoseZ
  rw [h]
  rfl
/-- IDs that rise, each once -/
def Rise (ids : List Int) : Prop := ids.Pairwise fun x y => x < y
theorem Rise.lt {ids : List Int} (h : Rise ids) {i j : Nat} (hij : i < j) (hj : j < ids.length) : ids.getD i 0 < ids.getD j 0 := by
  have := List.pairwise_iff_getElem.1 h i j (by omega) hj hij
  rw [List.getD_eq_getElem?_getD, List.getD_eq_getElem?_getD, List.getElem?_eq_getElem hj, List.getElem?_eq_getElem (by omega)]
  exact this
theorem Rise.inj {ids : List Int} (h : Rise ids) {i j : Nat} (hi : i < ids.length) (hj : j < ids.length) (e : ids.getD i 0 = ids.getD j 0) : i = j := by
  rcases Nat.lt_trichotomy i j with c | c | c
  · have := h.lt c hj; omega
  · exact c
  · have := h.lt c hi; omega
theorem whose_at {ids l : List Int} (h : Rise ids) {k : Nat} (hk : k < ids.length) : whoseZ ids l (ids.getD k 0) = some (ownK l k) := by
  refine whose_hit hk ?_ rfl
  rw [List.findIdx?_eq_none_iff]
  intro x hx
  obtain ⟨i, hi, e⟩ := List.mem_iff_getElem.1 hx
  rw [List.length_take] at hi
  rw [List.getElem_take] at e
  have := h.lt (show i < k by omega) hk
  rw [List.getD_eq_getElem?_getD, List.getElem?_eq_getElem (by omega)] at this
  simp at this ⊢
  omega
theorem ownK_mem {l : List Int} (h : 0 < l.length) (k : Nat) : ownK l k ∈ l := by
  unfold ownK
  rw [List.getD_eq_getElem?_getD, List.getElem?_eq_getElem (Nat.mod_lt _ h)]
  exact List.getElem_mem _
theorem mem_chosen {p : Int → Int → Bool} {ids l : List Int} {n : Nat} {x : Int} : x ∈ chosenK p ids l n ↔ ∃ i, i < n ∧ p (ids.getD i 0) (ownK l i) = true ∧ ids.getD i 0 = x := by
  unfold chosenK
  rw [List.mem_map]
  constructor
  · rintro ⟨i, hi, e⟩
    rw [List.mem_filter, List.mem_range] at hi
    exact ⟨i, hi.1, hi.2, e⟩
  · rintro ⟨i, h1, h2, e⟩
    exact ⟨i, by rw [List.mem_filter, List.mem_range]; exact ⟨h1, h2⟩, e⟩
/-- what one has is his -/
theorem held_whose {ids l : List Int} {m x : Int} (hr : Rise ids) (h : x ∈ heldZ ids l m) : whoseZ ids l x = some m := by
  unfold heldZ chosenZ at h
  obtain ⟨i, h1, h2, rfl⟩ := mem_chosen.1 h
  rw [whose_at hr h1, of_decide_eq_true h2]
/-- what was chosen rises -/
theorem chosen_rise {p : Int → Int → Bool} {ids l : List Int} (hr : Rise ids) : ∀ n, n ≤ ids.length → Rise (chosenK p ids l n)
  | 0, _ => List.Pairwise.nil
  | n + 1, hn => by
    have ih := chosen_rise (p := p) (l := l) hr n (by omega)
    cases hp : p (ids.getD n 0) (ownK l n) with
    | false => rw [chosenK_no hp]; exact ih
    | true =>
      rw [chosenK_yes hp]
      unfold Rise
      rw [List.pairwise_append]
      refine ⟨ih, List.pairwise_singleton _ _, fun x hx y hy => ?_⟩
      obtain ⟨i, hi, _, rfl⟩ := mem_chosen.1 hx
      obtain rfl := List.mem_singleton.1 hy
      exact hr.lt hi (by omega)
/-- members: each once -/
theorem mem_lt {l : List Int} (h : memB l = true) {i j : Nat} (hij : i < j) (hj : j < l.length) : l.getD i 0 < l.getD j 0 := by
  unfold memB at h
  rw [Bool.and_eq_true] at h
  induction j with
  | zero => omega
  | succ j ih =>
    have h1 := (memU_at h.2 hj).2.2 (by omega)
    rw [Nat.add_sub_cancel] at h1
    by_cases e : i = j
    · subst e; exact h1
    · have := ih (by omega) (by omega)
      omega
theorem mem_pos {l : List Int} (h : memB l = true) : 0 < l.length := by
  unfold memB at h
  rw [Bool.and_eq_true] at h
  exact of_decide_eq_true h.1
theorem mem_num {l : List Int} (h : memB l = true) {i : Nat} (hi : i < l.length) : 0 ≤ l.getD i 0 ∧ l.getD i 0 ≤ 63 := by
  unfold memB at h
  rw [Bool.and_eq_true] at h
  have := memU_at h.2 hi
  omega
theorem mem_many {l : List Int} (h : memB l = true) : l.length ≤ 64 := by
  have : ∀ i, i < l.length → (i : Int) ≤ l.getD i 0 := by
    intro i
    induction i with
    | zero => intro hi; have := mem_num h hi; omega
    | succ i ih =>
      intro hi
      have := ih (by omega)
      have := mem_lt h (show i < i + 1 by omega) hi
      omega
  by_cases e : l.length = 0
  · omega
  · have h1 := this (l.length - 1) (by omega)
    have h2 := mem_num h (show l.length - 1 < l.length by omega)
    omega
theorem mem_inj {l : List Int} (h : memB l = true) {i j : Nat} (hi : i < l.length) (hj : j < l.length) (e : l.getD i 0 = l.getD j 0) : i = j := by
  rcases Nat.lt_trichotomy i j with c | c | c
  · have := mem_lt h c hj; omega
  · exact c
  · have := mem_lt h c hi; omega
theorem own_is {l : List Int} (h : memB l = true) (k : Nat) {p : Nat} (hp : p < l.length) : ownK l k = l.getD p 0 ↔ k % l.length = p := by
  have hm := Nat.mod_lt k (mem_pos h)
  unfold ownK
  constructor
  · intro e; exact mem_inj h hm hp e
  · intro e; rw [e]
theorem own_num {l : List Int} (h : memB l = true) (k : Nat) : 0 ≤ ownK l k ∧ ownK l k ≤ 63 := mem_num h (Nat.mod_lt k (mem_pos h))
/-- how many are at places that are p by the modulus -/
theorem held_count {ids l : List Int} (h : memB l = true) {p : Nat} (hp : p < l.length) (n : Nat) : (chosenK (fun _ o => decide (o = l.getD p 0)) ids l n).length = (n + (l.length - 1 - p)) / l.length := by
  have hm := mem_pos h
  induction n with
  | zero =>
    rw [Nat.div_eq_of_lt (by omega)]
    rfl
  | succ n ih =>
    have hd : (n + 1 + (l.length - 1 - p)) / l.length = (n + (l.length - 1 - p)) / l.length + if n % l.length = p then 1 else 0 := by
      have e1 := Nat.div_add_mod n l.length
      obtain ⟨q, hq⟩ : ∃ q, n / l.length = q := ⟨_, rfl⟩
      obtain ⟨r, hr⟩ : ∃ r, n % l.length = r := ⟨_, rfl⟩
      have hrl : r < l.length := by rw [← hr]; exact Nat.mod_lt _ hm
      rw [hq, hr] at e1
      rw [hr, ← e1]
      generalize l.length = m at *
      have ex : ∀ x, (m * q + r + x) / m = q + (r + x) / m := fun x => by rw [Nat.add_assoc, Nat.add_comm (m * q), Nat.add_mul_div_left _ _ hm, Nat.add_comm]
      rw [show m * q + r + 1 + (m - 1 - p) = m * q + r + (1 + (m - 1 - p)) by omega, ex, ex]
      by_cases c : r = p
      · rw [if_pos c, show r + (1 + (m - 1 - p)) = m by omega, Nat.div_self hm, Nat.div_eq_of_lt (show r + (m - 1 - p) < m by omega)]
      · rw [if_neg c]
        by_cases c2 : r < p
        · rw [Nat.div_eq_of_lt (show r + (1 + (m - 1 - p)) < m by omega), Nat.div_eq_of_lt (show r + (m - 1 - p) < m by omega)]
        · rw [show r + (1 + (m - 1 - p)) = m + (r - p) by omega, show r + (m - 1 - p) = m + (r - p - 1) by omega, Nat.add_div_left _ hm, Nat.add_div_left _ hm, Nat.div_eq_of_lt (show r - p < m by omega), Nat.div_eq_of_lt (show r - p - 1 < m by omega)]
    rw [hd, ← ih]
    by_cases c : n % l.length = p
    · rw [chosenK_yes (decide_eq_true ((own_is h n hp).2 c)), if_pos c]
      simp
    · rw [chosenK_no (decide_eq_false (fun e => c ((own_is h n hp).1 e))), if_neg c]
      simp
/-- no two are unlike by more than 1 -/
theorem held_near {ids l : List Int} (h : memB l = true) {p : Nat} (hp : p < l.length) : ids.length / l.length ≤ (heldZ ids l (l.getD p 0)).length ∧ (heldZ ids l (l.getD p 0)).length ≤ ids.length / l.length + 1 := by
  have hm := mem_pos h
  unfold heldZ chosenZ
  rw [held_count h hp]
  have e1 := Nat.div_add_mod ids.length l.length
  have e2 := Nat.mod_lt ids.length hm
  constructor
  · exact Nat.div_le_div_right (by omega)
  · rw [← Nat.add_div_right _ hm]
    exact Nat.div_le_div_right (by omega)
theorem flat_snoc {f : Int → List Int} {m0 x : Int} : ∀ {l : List Int}, l.Nodup → m0 ∈ l → (l.flatMap fun m => f m ++ if m = m0 then [x] else []).Perm (l.flatMap f ++ [x])
  | [], _, h => by simp at h
  | m :: t, hn, h => by
    rw [List.nodup_cons] at hn
    rw [List.flatMap_cons, List.flatMap_cons]
    by_cases e : m = m0
    · subst e
      rw [if_pos rfl]
      have : (t.flatMap fun m' => f m' ++ if m' = m then [x] else []) = t.flatMap f := by
        have h1 := hn.1
        clear h hn
        induction t with
        | nil => rfl
        | cons b t ih =>
          rw [List.flatMap_cons, List.flatMap_cons, if_neg (by intro e; exact h1 (by rw [e]; simp)), List.append_nil, ih (fun h => h1 (by simp [h]))]
      rw [this, List.append_assoc, List.append_assoc]
      exact List.Perm.append_left _ List.perm_append_comm
    · rw [if_neg e, List.append_nil, List.append_assoc]
      exact List.Perm.append_left _ (flat_snoc hn.2 ((List.mem_cons.1 h).resolve_left (fun h => e h.symm)))
theorem mem_nodup {l : List Int} (h : memB l = true) : l.Nodup := by
  unfold List.Nodup
  rw [List.pairwise_iff_getElem]
  intro i j hi hj hij
  have := mem_lt h hij hj
  rw [List.getD_eq_getElem?_getD, List.getD_eq_getElem?_getD, List.getElem?_eq_getElem hj, List.getElem?_eq_getElem hi] at this
  simp at this
  omega
/-- all members' objects are all objects -/
theorem deal_perm {ids l : List Int} (h : memB l = true) : ∀ n, n ≤ ids.length → (l.flatMap fun m => chosenK (fun _ o => decide (o = m)) ids l n).Perm (ids.take n)
  | 0, _ => by
    have : (l.flatMap fun m => chosenK (fun _ o => decide (o = m)) ids l 0) = [] := by
      rw [List.flatMap_eq_nil_iff]
      intro x _
      rfl
    rw [this]
    simp
  | n + 1, hn => by
    have ih := deal_perm (ids := ids) h n (by omega)
    have e : (l.flatMap fun m => chosenK (fun _ o => decide (o = m)) ids l (n + 1)) = l.flatMap fun m => chosenK (fun _ o => decide (o = m)) ids l n ++ if m = ownK l n then [ids.getD n 0] else [] := by
      congr 1
      funext m
      by_cases c : ownK l n = m
      · rw [chosenK_yes (decide_eq_true c), if_pos c.symm]
      · rw [chosenK_no (decide_eq_false c), if_neg (fun e => c e.symm), List.append_nil]
    rw [e, take_snoc (by omega)]
    exact (flat_snoc (mem_nodup h) (ownK_mem (mem_pos h) n)).trans (ih.append_right _)
theorem deal_all {ids l : List Int} (h : memB l = true) : (l.flatMap (heldZ ids l)).Perm ids := by
  have := deal_perm (ids := ids) h ids.length (Nat.le_refl _)
  rw [List.take_length] at this
  exact this
theorem rise_nodup {ids : List Int} (h : Rise ids) : ids.Nodup := List.Pairwise.imp (fun h => by omega) h
/-- where both owners are unlike -/
theorem moved_is {ids a b : List Int} (hr : Rise ids) (n : Nat) (hn : n ≤ ids.length) : chosenK (fun id o => decide (o ≠ (whoseZ ids a id).getD 0)) ids b n = ((List.range n).filter fun i => decide (ownK b i ≠ ownK a i)).map fun i => ids.getD i 0 := by
  unfold chosenK
  congr 1
  refine List.filter_congr fun i hi => ?_
  rw [List.mem_range] at hi
  show decide (ownK b i ≠ (whoseZ ids a (ids.getD i 0)).getD 0) = _
  rw [whose_at hr (by omega)]
  rfl
theorem moved_back {ids a b : List Int} (hr : Rise ids) : movedZ ids a b = movedZ ids b a := by
  unfold movedZ chosenZ
  rw [moved_is hr _ (Nat.le_refl _), moved_is hr _ (Nat.le_refl _)]
  congr 1
  refine List.filter_congr fun i _ => ?_
  rw [decide_eq_decide]
  exact ⟨Ne.symm, Ne.symm⟩
theorem moved_none {ids a : List Int} (hr : Rise ids) : movedZ ids a a = [] := by
  unfold movedZ chosenZ
  rw [moved_is hr _ (Nat.le_refl _)]
  rw [List.map_eq_nil_iff, List.filter_eq_nil_iff]
  intro i _
  simp
/-- whoever goes gives all that it had -/
theorem moved_gone {ids a b : List Int} {m x : Int} (hr : Rise ids) (hb : memB b = true) (hm : m ∉ b) (hx : x ∈ heldZ ids a m) : x ∈ movedZ ids a b := by
  unfold heldZ chosenZ at hx
  unfold movedZ chosenZ
  obtain ⟨i, h1, h2, rfl⟩ := mem_chosen.1 hx
  refine mem_chosen.2 ⟨i, h1, ?_, rfl⟩
  rw [whose_at hr h1]
  refine decide_eq_true fun e => hm ?_
  rw [Option.getD_some, of_decide_eq_true h2] at e
  rw [← e]
  exact ownK_mem (mem_pos hb) i
theorem moved_rise {ids a b : List Int} (hr : Rise ids) : Rise (movedZ ids a b) := by
  unfold movedZ chosenZ
  exact chosen_rise hr _ (Nat.le_refl _)
end Go.Proofs.YtildnadkfonlhaaGreat.Fx
namespace Go.Proofs.YtildnadkfonlhaaGreat.Fx
open Go Go.RowKit
variable {F : Fence} {n : Nat} {P : Program}
/-- as Hands; p is a block that the iterator made, which stays -/
def HandsP (F : Fence) (n : Nat) (P : Program) (gf : Nat) (lb : Array Value) (elem : Nat → Array Value) (N : Nat) (M : World → Prop) : Prop :=
  ∀ (l : Nat) (J : Option (Nat × Obj) → Nat → World → Prop) (Jx : World → Prop) (W : World),
    (∀ p k W W', J p k W → Below W.heap.size W W' → J p k W') → (∀ W W', Jx W → Below W.heap.size W W' → Jx W') →
    (∀ p k W, J p k W → M W ∧ ∀ r o, p = some (r, o) → W.heap[r]? = some o) →
    (∀ p k W1, k < N → J p k W1 → YieldAt F (n - 1) P l (elem k) W1 fun e W' => (e = .returned (.bool true) ∧ J p (k + 1) W') ∨ (e = .returned (.bool false) ∧ Jx W')) →
    M W → (∀ p W', Below W.heap.size W W' → (∀ r o, p = some (r, o) → W.heap.size ≤ r ∧ W'.heap[r]? = some o ∧ o.isCells = true) → J p 0 W') →
    CallsIn F n P gf (#[.func (.yield l) #[] #[]] ++ lb) W fun e W' => (∃ v, e = .returned v) ∧ ((∃ p, J p N W') ∨ Jx W')
theorem wpIn_range_priv {g : Operand} {ps : Array Tmp} {assign body : Code} {Q : Exit → Act → World → Prop} {a : Act} {w : World}
    (hro : F.round = none) (h1 : 1 ≤ n) {gf : Nat} {lb : Array Value} (hg : a.eval g = .func (.func gf) #[] lb) (hFg : F.fn gf) (eg : ∀ args w, (callFunc gf args).run P w = .ok (.enter gf args) w)
    {elem : Nat → Array Value} {N : Nat} {M : World → Prop} (hseq : HandsP F (n - 1) P gf lb elem N M) (hps : ∀ k, (elem k).size = ps.size)
    (cj : Code) (I : Option (Nat × Obj) → Nat → World → Prop) (Ix : World → Prop) (Ax : Option (Nat × Obj) → Nat → Act → World → Prop)
    (hI : ∀ p k W W', I p k W → Kept w.heap.size W W' → I p k W') (hIx : ∀ W W', Ix W → Kept w.heap.size W W' → Ix W') (hAx : ∀ p k a W W', Ax p k a W → Kept w.heap.size W W' → Ax p k a W')
    (hIM : ∀ p k W, I p k W → M W ∧ ∀ r o, p = some (r, o) → W.heap[r]? = some o) (hM : ∀ W', Below w.heap.size w W' → M W')
    (h0 : ∀ p W', Below w.heap.size w W' → (∀ r o, p = some (r, o) → w.heap.size ≤ r ∧ W'.heap[r]? = some o ∧ o.isCells = true) → I p 0 W')
    (hassign : ∀ (l : Nat) (p : Option (Nat × Obj)) (k : Nat) (W : World) (C : Act → World → Prop), k < N → I p k W → (∀ a' W', KeepsFrom w.heap.size W W' → Ax p k a' W' → C a' W') →
      assign.wpIn (F.inRound l) (n - 1 - 1) P (Exit.then C (fun _ _ _ => False)) { tmps := (ps.zip (elem k)).foldl (fun t (p, v) => t.setIfInBounds p v) a.tmps, defers := [] } W)
    (hbody : ∀ (l : Nat) (p : Option (Nat × Obj)) (k : Nat) (a' : Act) (W : World), k < N → Ax p k a' W → body.wpIn (F.inRound l) (n - 1 - 1) P (upPostJ w.heap.size cj (I p (k + 1)) Ix W) a' W)
    (hdone : ∀ (D : Nat) (p : Option (Nat × Obj)) (W : World), w.heap.size ≤ D → I p N W → W.heap[D]? = some (.deferred (some [])) → Q .normal { a with defers := { target := .collected D, args := #[] } :: a.defers } W)
    (hstop : ∀ (D : Nat) (W : World), w.heap.size ≤ D → Ix W → W.heap[D]? = some (.deferred (some [])) → cj.wpIn F n P Q { a with defers := { target := .collected D, args := #[] } :: a.defers } W) :
    (Code.rangeFunc g ps assign body).wpIn F n P Q a w := by
  refine wpIn_rangeFunc fun fn hfn => ?_
  rw [hro]
  obtain ⟨rc, hrc⟩ : ∃ rc : LoopState → Option Code → Loop, rc = fun st pe => { state := st, pending := pe, fn, tmps := a.tmps, params := ps, assign, body, defers := w.heap.size } := ⟨_, rfl⟩
  obtain ⟨V, hV⟩ : ∃ V, (w.alloc (.deferred (some []))).alloc (.loop (rc .ready none)) = V := ⟨_, rfl⟩
  have vL : V.heap[w.heap.size + 1]? = some (.loop (rc .ready none)) := by
    have := World.alloc_heap_new (w.alloc (.deferred (some []))) (.loop (rc .ready none))
    rw [World.size_alloc, hV] at this
    exact this
  have vD : V.heap[w.heap.size]? = some (.deferred (some [])) := by
    rw [← hV]
    exact (Below.heap_alloc _ _ _ (by simp)).trans (World.alloc_heap_new w _)
  have vB : Below w.heap.size w V := by rw [← hV]; exact ((Below.refl _ w).alloc (Nat.le_refl _) _).alloc (by simp) _
  refine ⟨w.heap.size + 1, [{ target := .collected w.heap.size, args := #[] }], V, { target := .fn (.func gf) lb, args := #[.func (.yield (w.heap.size + 1)) #[] #[]] }, V, gf, #[.func (.yield (w.heap.size + 1)) #[] #[]] ++ lb, V, ?_, ?_, ?_, ?_, fun _ => h1, ?_⟩
  · rw [← hV, hrc]; exact run_enterLoop_outer _ _ _ _ _
  · simp only [resolve, hg]
    simp [go_sem]
  · intro f' hf'
    simp [Target.leads] at hf'
    subst hf'
    exact hFg
  · simp [invoke, go_sem, eg]
  have stay : ∀ {X : World} {W W' : World} {k : Nat} {o : Obj}, W.heap[k]? = some o → Below W.heap.size W W' → W'.heap[k]? = some o := fun hk hb => by
    rw [hb.block _ (Array.getElem?_eq_some_iff.1 hk).1]; exact hk
  refine (hseq (w.heap.size + 1)
    (fun p k W => I p k W ∧ W.heap[w.heap.size + 1]? = some (.loop (rc .ready none)) ∧ W.heap[w.heap.size]? = some (.deferred (some [])))
    (fun W => Ix W ∧ W.heap[w.heap.size + 1]? = some (.loop (rc .done (some cj))) ∧ W.heap[w.heap.size]? = some (.deferred (some [])))
    V (fun p k W W' h hb => ⟨hI _ _ _ _ h.1 (Kept.of_below hb), stay (X := W) h.2.1 hb, stay (X := W) h.2.2 hb⟩) (fun W W' h hb => ⟨hIx _ _ h.1 (Kept.of_below hb), stay (X := W) h.2.1 hb, stay (X := W) h.2.2 hb⟩)
    (fun p k W h => hIM p k W h.1) ?round (hM V vB)
    (fun p W' hb hp => ⟨h0 p W' (bnext vB hb) (fun r o e => by obtain ⟨q1, q2, q3⟩ := hp r o e; exact ⟨Nat.le_trans vB.size q1, q2, q3⟩), stay (X := V) vL hb, stay (X := V) vD hb⟩)).mono ?behind
  case round =>
    rintro p k W hkN ⟨hi, hl, hd⟩
    have hlt : w.heap.size + 1 < W.heap.size := (Array.getElem?_eq_some_iff.1 hl).1
    have hy := run_yield (P := P) (args := elem k) hl (by rw [hrc]; exact hps k)
    rw [hrc] at hy
    refine ⟨fn, _, assign, body, hy, roundIn_of_wpIn hfn (hassign _ p k W _ hkN hi ?_)⟩
    intro a' W' hkf hax
    have wL := hkf.same _ _ (by omega) hl rfl
    have wD := hkf.same _ _ (Nat.le_refl _) hd rfl
    refine ⟨_, run_beginRound wL (by rw [hrc]), ?_⟩
    obtain ⟨U, hU⟩ : ∃ U, W'.putObj (w.heap.size + 1) (.loop { rc .ready none with state := .busy }) = U := ⟨_, rfl⟩
    have hlt' : w.heap.size + 1 < W'.heap.size := (Array.getElem?_eq_some_iff.1 wL).1
    have uL : U.heap[w.heap.size + 1]? = some (.loop { rc .ready none with state := .busy }) := by rw [← hU]; exact World.putObj_heap_same hlt'
    have uD : U.heap[w.heap.size]? = some (.deferred (some [])) := by rw [← hU]; exact (World.putObj_heap_other (by omega)).trans wD
    have uA : Ax p k a' U := by rw [← hU]; exact hAx _ _ _ _ _ hax (Kept.putObj _ (by omega) wL rfl)
    rw [hU]
    refine wpIn_mono (hbody _ p k a' U hkN uA) ?_
    have ends : ∀ (jump : Option Code) (X : World), KeepsFrom w.heap.size U X → X.heap[w.heap.size + 1]? = some (.loop { rc .ready none with state := .busy }) ∧
        (Instr.endRound (w.heap.size + 1) jump).run P X = .ok (.bool jump.isNone) (X.putObj (w.heap.size + 1) (.loop (rc (if jump.isNone then .ready else .done) jump))) ∧
        (X.putObj (w.heap.size + 1) (.loop (rc (if jump.isNone then .ready else .done) jump))).heap[w.heap.size + 1]? = some (.loop (rc (if jump.isNone then .ready else .done) jump)) ∧
        (X.putObj (w.heap.size + 1) (.loop (rc (if jump.isNone then .ready else .done) jump))).heap[w.heap.size]? = some (.deferred (some [])) := by
      intro jump X hX
      have xL := hX.same _ _ (by omega) uL rfl
      have xr := run_endRound (P := P) jump xL
      have xs := World.putObj_heap_same (o := .loop (rc (if jump.isNone then .ready else .done) jump)) (Array.getElem?_eq_some_iff.1 xL).1
      have xd := (World.putObj_heap_other (o := .loop (rc (if jump.isNone then .ready else .done) jump)) (show w.heap.size ≠ w.heap.size + 1 by omega)).trans (hX.same _ _ (Nat.le_refl _) uD rfl)
      refine ⟨xL, ?_, xs, xd⟩
      rw [hrc] at xr ⊢
      exact xr
    intro e b X hp
    match e, hp with
    | .normal, hp =>
      obtain ⟨hk, hi2⟩ := hp
      obtain ⟨xL, r, s, d⟩ := ends none X hk
      exact ⟨_, _, r, .inl ⟨rfl, hI _ _ _ _ hi2 (Kept.putObj _ (by omega) xL rfl), s, d⟩⟩
    | .exit c, hp =>
      obtain ⟨rfl, hk, hx⟩ := hp
      obtain ⟨xL, r, s, d⟩ := ends (some (.exit c)) X hk
      exact ⟨_, _, r, .inr ⟨rfl, hIx _ _ hx (Kept.putObj _ (by omega) xL rfl), s, d⟩⟩
    | .ret, hp =>
      obtain ⟨rfl, hk, hx⟩ := hp
      obtain ⟨xL, r, s, d⟩ := ends (some .ret) X hk
      exact ⟨_, _, r, .inr ⟨rfl, hIx _ _ hx (Kept.putObj _ (by omega) xL rfl), s, d⟩⟩
  case behind =>
    rintro e X ⟨⟨v, rfl⟩, ⟨p, hi, hl, hd⟩ | ⟨hx, hl, hd⟩⟩
    · have h := run_endLoop (P := P) hl (by rw [hrc]; simp)
      rw [hrc] at h
      exact ⟨none, _, h, hdone _ p _ (Nat.le_refl _) (hI _ _ _ _ hi (Kept.putObj _ (by omega) hl rfl)) ((World.putObj_heap_other (by omega)).trans hd)⟩
    · have h := run_endLoop (P := P) hl (by rw [hrc]; simp)
      rw [hrc] at h
      exact ⟨some cj, _, h, hstop _ _ (Nat.le_refl _) (hIx _ _ hx (Kept.putObj _ (by omega) hl rfl)) ((World.putObj_heap_other (by omega)).trans hd)⟩
end Go.Proofs.YtildnadkfonlhaaGreat.Fx
namespace Go.Proofs.YtildnadkfonlhaaGreat.Fx
open Go Go.RowKit Go.Shelf
def dealElem (ids l : List Int) (k : Nat) : Array Value := #[.int .i64 (ids.getD k 0), .int .i64 (ownK l k)]
/-- what the iterator reads -/
structure DeM (s : ScR) (l : List Int) (o : Option Addr) (c A : Nat) (X : World) : Prop where
  sc : ScAt A s X
  ms : X.heap[A + 1]? = some (.cells #[.slice o l.length c] 29 (0, 0))
  ob : ObjsAt X s.oo s.os
  me : IntsAt X o l
theorem DeM.up {s : ScR} {l : List Int} {o : Option Addr} {c A : Nat} {W X : World} (h : Below W.heap.size W X) (i : DeM s l o c A W) : DeM s l o c A X :=
  ⟨i.sc.below h, keep_row h i.ms, i.ob.below h, i.me.below h⟩
theorem IntsAt.kept {B : Nat} {W W' : World} {o : Option Addr} {l : List Int} (kp : Kept B W W') (h : IntsAt W o l) : IntsAt W' o l := fun i hi => by
  obtain ⟨b, off, e, hc⟩ := h i hi
  exact ⟨b, off, e, kp.cell hc⟩
theorem DeM.kept {s : ScR} {l : List Int} {o : Option Addr} {c A B : Nat} {W X : World} (h : Kept B W X) (i : DeM s l o c A W) : DeM s l o c A X :=
  ⟨i.sc.kept h, h.cells i.ms, i.ob.kept h, i.me.kept h⟩
theorem dealt_w (s : ScR) (n : Nat) (o : Option Addr) (c : Nat) (w : World) : Calls Tryz.prog 27 #[.agg (scC s), .slice o n c] w fun e w' =>
    e = .returned (.func (.func 33) #[] #[.pointer (some ⟨w.heap.size, 0, none⟩), .pointer (some ⟨w.heap.size + 1, 0, none⟩)]) ∧ w' = (w.alloc (.cells (scC s) 28)).alloc (.cells #[.slice o n c] 29) := by
  go_enter Tryz.func27, Tryz.ntmps27
  go_wp2_with fail
  go_ret
  exact ⟨rfl, rfl⟩
theorem OwnN.priv {W : World} {B : Nat} {v : Value} {l : List Int} (s : OwnN W B v l) : ∃ (o : Option Addr) (cap : Nat) (p : Option (Nat × Obj)), v = .slice o l.length cap ∧
    (∀ r ob, p = some (r, ob) → B ≤ r ∧ W.heap[r]? = some ob ∧ ob.isCells = true) ∧ ∀ X : World, (∀ r ob, p = some (r, ob) → X.heap[r]? = some ob) → IntsAt X o l := by
  obtain ⟨h1, h2⟩ := s
  rcases h2 with ⟨rfl, h0⟩ | ⟨g, cap, cur, rfl, hb, hg, h3⟩
  · exact ⟨none, 0, none, by rw [h0], fun r ob e => absurd e (by simp), fun X _ i hi => absurd hi (by omega)⟩
  · refine ⟨some ⟨g, 0, none⟩, cap, some (g, .cells cur 3 (0, 0)), rfl, fun r ob e => by cases e; exact ⟨hb, hg, rfl⟩, fun X hX => ?_⟩
    have s2 : OwnN X B (.slice (some ⟨g, 0, none⟩) l.length cap) l := ⟨h1, .inr ⟨g, cap, cur, rfl, hb, hX _ _ rfl, h3⟩⟩
    obtain ⟨o, cap2, e, ha, _⟩ := s2.form
    cases e
    exact ha
theorem wpIn_yield_any {n : Nat} {P : Program} {o : Oper} {a : Act} {w : World} {K : Act → World → Prop} {Q : Exit → Act → World → Prop} (l : Nat) {fn : FuncId} {tmps : Array Value} {assign body : Code}
    (hrun : (execOp a.eval o).run P w = .ok (.round l fn tmps assign body) w) (c : Callee) (ps : Array Operand) (ts : Array TypeId) (ho : o.op = .call { callee := c, args := ps, argTypes := ts })
    {R : Ending → World → Prop} (hR : RoundIn Fence.wide (n - 1) P l fn tmps assign body w R) (h : ∀ e w', R e w' → ∃ v, e = .returned v ∧ K (a.put o.dst v) w') : Oper.wpIn Fence.wide n P o a w K Q := by
  unfold Oper.wpIn
  refine ⟨fun f _ => trivial, ?_⟩
  rw [Oper.semAt_plain _ _ _ (by rw [ho]; intro c hc'; cases hc'), hrun]
  refine ⟨fun h => (by cases h), hR.mono fun e w' hp => ?_⟩
  obtain ⟨v, rfl, hk⟩ := h e w' hp
  exact hk
set_option maxRecDepth 100000 in
set_option maxHeartbeats 2000000 in
theorem deal_hands (s : ScR) (l : List Int) (o : Option Addr) (c A : Nat) (hs : ScWf s) (hlen : s.os.length ≤ 1000) (hl0 : 0 < l.length) (hl : l.length ≤ 1000) :
    HandsP Fence.wide 4 Tryz.prog 33 #[.pointer (some ⟨A, 0, none⟩), .pointer (some ⟨A + 1, 0, none⟩)] (dealElem (sortedIds s.os) l) (sortedIds s.os).length (DeM s l o c A) := by
  intro lp J Jx W hJ1 hJ2 hJM hY hM hAd
  have HALL := Lib.hid hM.sc.all
  have hall := Lib.hid (sizeS hs)
  have hid := pids_any s W hs hM.ob hlen
  have hle : (sortedIds s.os).length ≤ 1000 := by unfold sortedIds rawIds; simpa using hlen
  generalize sortedIds s.os = ids at hid hle hY ⊢
  obtain ⟨n, hn⟩ : ∃ n, ids.length = n := ⟨_, rfl⟩
  have HN := Lib.hid hn
  rw [hn] at hY hle ⊢
  have n0 : (0 : Int) ≤ (n : Int) := by omega
  have n1 : (n : Int) ≤ 1000 := by omega
  have HID := Lib.hid hid
  have HY := Lib.hid hY
  have HJ1 := Lib.hid hJ1
  have HJ2 := Lib.hid hJ2
  have HJM := Lib.hid hJM
  have HAd := Lib.hid hAd
  have HLP := Lib.hid hl0
  obtain ⟨m, hm⟩ : ∃ m, l.length = m := ⟨_, rfl⟩
  have HMM := Lib.hid hm
  rw [hm] at hl0 hl
  have m0 : (0 : Int) ≤ (m : Int) := by omega
  have m1 : (m : Int) ≤ 1000 := by omega
  have m2 : ¬ m = 0 := by omega
  clear hY hJ1 hJ2 hJM hAd hM hs hm hlen hid hn hle
  refine callsIn_of_wp Tryz.func33 rfl trivial ?_ rfl
  simp only [Tryz.ntmps33, List.size_toArray, List.length_cons, List.length_nil, Nat.reduceAdd, Nat.reduceSub, Array.replicate_succ, Array.replicate_zero, List.push_toArray, List.append_toArray, List.nil_append, List.cons_append]
  gi_wp2_with (refine wpListIn_load_mid (fun _ => trivial) rfl 28 (.tmp 1) rfl A 0 rfl (scL s) _ HALL.out Tryz.underlying28 rfl hall.out ?_)
  refine ⟨trivial, CallsIn.mono (callsIn_wide.2 HID.out) ?_⟩
  rintro e W1 ⟨v, rfl, ho, hb⟩
  obtain ⟨oi, ci, p, rfl, hp, hat⟩ := ho.priv
  have HAT := Lib.hid hat
  have HJ0 := Lib.hid (HAd.out p W1 hb hp)
  clear HAd HID ho hp hat hb HALL
  rw [HN.out]
  gi_wp2_with fail
  gi_loopw [4, 5, 9] (fun v4 v5 v9 wr => ∃ k : Nat, v9 = .int .i64 (k : Int) ∧ k ≤ n ∧ J p k wr) (fun _ _ v9 _ => n - (intOf v9).toNat)
  case atStart => exact ⟨0, rfl, by omega, HJ0.out⟩
  case round =>
    clear HJ0
    obtain ⟨k, rfl, hk, hJ⟩ := hrel
    have k0 : (0 : Int) ≤ (k : Int) := by omega
    by_cases hkn : k < n
    · have t1 : (k : Int) < (n : Int) := by omega
      obtain ⟨hM, hpr⟩ := HJM.out _ _ _ hJ
      obtain ⟨bi, fi, e, d1⟩ := HAT.out _ hpr k (by rw [HN.out]; exact hkn)
      subst e
      obtain ⟨fn, tmps, assign, body, hy, hR⟩ := HY.out p k _ hkn (HJ1.out p k _ _ hJ (bdrew0 _ wr 1))
      obtain ⟨bm, om, e, c2⟩ := hM.me (k % l.length) (Nat.mod_lt _ HLP.out)
      subst e
      have c1 : wr.cell? ⟨A + 1, 0, none⟩ = some (.slice (some ⟨bm, om, none⟩) m c) := by rw [cell_of_row _ _ _ _ _ _ hM.ms, HMM.out]; rfl
      unfold dealElem at hy
      unfold ownK at hy
      obtain ⟨j, hj⟩ : ∃ j, k % l.length = j := ⟨_, rfl⟩
      have HTM : Hid ((k : Int).tmod (m : Int) = (j : Int)) := Lib.hid (by rw [Int.tmod_eq_emod_of_nonneg (by omega), ← hj, HMM.out]; rfl)
      have hjm : (j : Int) < (m : Int) := by have := Nat.mod_lt k HLP.out; rw [hj, HMM.out] at this; omega
      have j0 : (0 : Int) ≤ (j : Int) := by omega
      rw [hj] at c2 hy
      generalize l.getD j 0 = z at c2 hy
      generalize ids.getD k 0 = x at d1 hy
      have HR := Lib.hid hR
      clear hM hpr hJ hj hR
      gi_wp2_with fail
      refine heldz_region (S := fun X => X.cell? ⟨A + 1, 0, none⟩ = some (.slice (some ⟨bm, om, none⟩) m c) ∧ X.cell? ⟨bm, om + j, none⟩ = some (.int .i64 z)) (Z := [9, 10]) (by kernel_rfl) ?_
      refine heldz_take (fun _ => trivial) [9, 10] 0 (?_) (by kernel_rfl) rfl (by kernel_rfl) (fun _ _ _ h => h) ⟨c1, c2⟩ (by kernel_rfl) ?_ ?_
      rotate_left
      · intro wz hSw; obtain ⟨q1, q2⟩ := hSw; (first | (go_simp; done) | (go_simp; with_reducible rfl))
      (try simp only [Act.put, List.getElem_toArray, List.getElem_cons_zero, List.getElem_cons_succ, List.setIfInBounds_toArray, List.set_cons_zero, List.set_cons_succ])
      refine heldz_take (fun _ => trivial) [9, 10] 1 (?_) (by kernel_rfl) rfl (by kernel_rfl) (fun _ _ _ h => h) ⟨c1, c2⟩ (by kernel_rfl) ?_ ?_
      rotate_left
      · intro wz hSw; obtain ⟨q1, q2⟩ := hSw; (first | (go_simp; done) | (go_simp; with_reducible rfl))
      (try simp only [Act.put, List.getElem_toArray, List.getElem_cons_zero, List.getElem_cons_succ, List.setIfInBounds_toArray, List.set_cons_zero, List.set_cons_succ])
      refine heldz_take (fun _ => trivial) [7, 8, 9, 10] 2 (?_) (by kernel_rfl) rfl (by kernel_rfl) (fun _ _ _ h => h) ⟨c1, c2⟩ (by kernel_rfl) ?_ ?_
      rotate_left
      · intro wz hSw; obtain ⟨q1, q2⟩ := hSw; (first | (go_simp; done) | (go_simp; with_reducible rfl))
      (try simp only [Act.put, List.getElem_toArray, List.getElem_cons_zero, List.getElem_cons_succ, List.setIfInBounds_toArray, List.set_cons_zero, List.set_cons_succ])
      refine heldz_take (fun _ => trivial) [6, 7, 8, 9, 10] 3 (?_) (by kernel_rfl) rfl (by kernel_rfl) (fun _ _ _ h => h) ⟨c1, c2⟩ (by kernel_rfl) ?_ ?_
      rotate_left
      · intro wz hSw; obtain ⟨q1, q2⟩ := hSw; (first | (go_simp; done) | (go_simp; with_reducible rfl))
      (try simp only [Act.put, List.getElem_toArray, List.getElem_cons_zero, List.getElem_cons_succ, List.setIfInBounds_toArray, List.set_cons_zero, List.set_cons_succ])
      refine heldz_take (fun _ => trivial) [5, 6, 7, 8, 9, 10] 4 (?_) (by kernel_rfl) rfl (by kernel_rfl) (fun _ _ _ h => h) ⟨c1, c2⟩ (by kernel_rfl) ?_ ?_
      rotate_left
      · intro wz hSw; obtain ⟨q1, q2⟩ := hSw; (first | (go_simp; done) | (go_simp; with_reducible rfl))
      (try simp only [Act.put, List.getElem_toArray, List.getElem_cons_zero, List.getElem_cons_succ, List.setIfInBounds_toArray, List.set_cons_zero, List.set_cons_succ])
      refine heldz_take (fun _ => trivial) [6, 7, 8, 9, 10] 5 (?_) (by kernel_rfl) rfl (by kernel_rfl) (fun _ _ _ h => h) ⟨c1, c2⟩ (by kernel_rfl) ?_ ?_
      rotate_left
      · intro wz hSw; obtain ⟨q1, q2⟩ := hSw; (first | (go_simp; done) | (go_simp; with_reducible rfl))
      (try simp only [Act.put, List.getElem_toArray, List.getElem_cons_zero, List.getElem_cons_succ, List.setIfInBounds_toArray, List.set_cons_zero, List.set_cons_succ])
      refine heldz_take (fun _ => trivial) [7, 8, 9, 10] 6 (.int .i64 (j : Int)) (by kernel_rfl) rfl (by kernel_rfl) (fun _ _ _ h => h) ⟨c1, c2⟩ (by kernel_rfl) ?_ ?_
      · intro wz hSw; obtain ⟨q1, q2⟩ := hSw; (go_simp; exact HTM.out)
      (try simp only [Act.put, List.getElem_toArray, List.getElem_cons_zero, List.getElem_cons_succ, List.setIfInBounds_toArray, List.set_cons_zero, List.set_cons_succ])
      refine heldz_take (fun _ => trivial) [8, 9, 10] 7 (.pointer (some ⟨bm, om + j, none⟩)) (by kernel_rfl) rfl (by kernel_rfl) (fun _ _ _ h => h) ⟨c1, c2⟩ (by kernel_rfl) ?_ ?_
      · intro wz hSw; obtain ⟨q1, q2⟩ := hSw; (go_simp; (try first | rfl | simp))
      (try simp only [Act.put, List.getElem_toArray, List.getElem_cons_zero, List.getElem_cons_succ, List.setIfInBounds_toArray, List.set_cons_zero, List.set_cons_succ])
      refine heldz_take (fun _ => trivial) [9, 10] 8 (?_) (by kernel_rfl) rfl (by kernel_rfl) (fun _ _ _ h => h) ⟨c1, c2⟩ (by kernel_rfl) ?_ ?_
      rotate_left
      · intro wz hSw; obtain ⟨q1, q2⟩ := hSw; (first | (go_simp; done) | (go_simp; with_reducible rfl))
      (try simp only [Act.put, List.getElem_toArray, List.getElem_cons_zero, List.getElem_cons_succ, List.setIfInBounds_toArray, List.set_cons_zero, List.set_cons_succ])
      refine heldz_step (fun _ => trivial) 9 (by kernel_rfl) rfl (fun K hK => ?_)
      rw [if_pos (by kernel_rfl)]
      refine wpIn_yield_any lp (by go_simp; exact hy) _ _ _ rfl HR.out (fun e w3 hp => ?_)
      rcases hp with ⟨rfl, hJ3⟩ | ⟨rfl, hJ3⟩
      · refine ⟨_, rfl, hK.out _ _ (fun h => (by cases h)) ?_⟩
        clear hK K
        (try simp only [Act.put, List.getElem_toArray, List.getElem_cons_zero, List.getElem_cons_succ, List.setIfInBounds_toArray, List.set_cons_zero, List.set_cons_succ])
        refine heldz_step (fun _ => trivial) 10 (by kernel_rfl) rfl (fun K hK => ?_)
        rw [if_pos (by kernel_rfl)]
        go_simp
        refine hK.out _ _ (fun h => (by cases h)) ?_
        clear hK K
        (try simp only [Act.put, List.getElem_toArray, List.getElem_cons_zero, List.getElem_cons_succ, List.setIfInBounds_toArray, List.set_cons_zero, List.set_cons_succ])
        refine heldz_done (by kernel_rfl) ?_ _
        gi_wp2_with fail
        go_roundw
        case rel => exact ⟨k + 1, by go_num, by omega, hJ3⟩
        case measure => simp [intOf]; omega
      · refine ⟨_, rfl, hK.out _ _ (fun h => (by cases h)) ?_⟩
        clear hK K
        (try simp only [Act.put, List.getElem_toArray, List.getElem_cons_zero, List.getElem_cons_succ, List.setIfInBounds_toArray, List.set_cons_zero, List.set_cons_succ])
        refine heldz_step (fun _ => trivial) 10 (by kernel_rfl) rfl (fun K hK => ?_)
        rw [if_pos (by kernel_rfl)]
        go_simp
        refine hK.out _ _ (fun h => (by cases h)) ?_
        clear hK K
        (try simp only [Act.put, List.getElem_toArray, List.getElem_cons_zero, List.getElem_cons_succ, List.setIfInBounds_toArray, List.set_cons_zero, List.set_cons_succ])
        refine heldz_done (by kernel_rfl) ?_ _
        gi_wp2_with fail
        refine bodyPost_ret (results_none rfl _ _ _) rfl ?_
        exact ⟨⟨_, rfl⟩, .inr hJ3⟩
    · obtain rfl : k = n := by omega
      have t1 : ¬ (k : Int) < (k : Int) := by omega
      gi_wp2_with fail
      go_end0
      exact ⟨⟨_, rfl⟩, .inl ⟨p, hJ⟩⟩
end Go.Proofs.YtildnadkfonlhaaGreat.Fx
namespace Go.Proofs.YtildnadkfonlhaaGreat.Fx
open Go Go.RowKit
theorem wpIn_call_one {n : Nat} {P : Program} {o : Oper} {a : Act} {w : World} {K : Act → World → Prop} {Q : Exit → Act → World → Prop} (f : FuncId) (args : Array Value) (hrun : (execOp a.eval o).run P w = .ok (.enter f args) w) (c : Callee) (ps : Array Operand) (ts : Array TypeId) (ho : o.op = .call { callee := c, args := ps, argTypes := ts })
    {post : Ending → World → Prop} (hc : Calls P f args w post) (h : ∀ e w', post e w' → ∃ v, e = .returned v ∧ K (a.put o.dst v) w') : Oper.wpIn Fence.wide n P o a w K Q := by
  unfold Oper.wpIn
  refine ⟨fun f _ => trivial, ?_⟩
  rw [Oper.semAt_plain _ _ _ (by rw [ho]; intro c hc'; cases hc'), hrun]
  refine ⟨fun h => (by cases h), callsIn_wide.2 (hc.mono ?_)⟩
  intro e w' hp
  obtain ⟨v, rfl, hk⟩ := h e w' hp
  exact hk
end Go.Proofs.YtildnadkfonlhaaGreat.Fx
namespace Go.Proofs.YtildnadkfonlhaaGreat.Fx
open Go Go.RowKit Go.Shelf
attribute [local go_sem] Oper.semAt_some
/-- a block of the iterator's own -/
def PrivAt (B : Nat) (p : Option (Nat × Obj)) (W : World) : Prop := ∀ r ob, p = some (r, ob) → B ≤ r ∧ W.heap[r]? = some ob ∧ ob.isCells = true
theorem PrivAt.kept {B C : Nat} {p : Option (Nat × Obj)} {W X : World} (h : Kept C W X) (i : PrivAt B p W) : PrivAt B p X := fun r ob e => by
  obtain ⟨h1, h2, h3⟩ := i r ob e
  exact ⟨h1, h.block r ob h2 (.inr h3), h3⟩
theorem PrivAt.up {B : Nat} {p : Option (Nat × Obj)} {W X : World} (h : Below W.heap.size W X) (i : PrivAt B p W) : PrivAt B p X := fun r ob e => by
  obtain ⟨h1, h2, h3⟩ := i r ob e
  exact ⟨h1, by rw [h.block r (Array.getElem?_eq_some_iff.1 h2).1]; exact h2, h3⟩
/-- the boxes of whose: scene, number, two results, the iterator's scene and members -/
structure WoS (s : ScR) (l : List Int) (o : Option Addr) (c : Nat) (id x : Int) (y : Bool) (w W : World) : Prop where
  box : ScAt w.heap.size s W
  idr : W.heap[w.heap.size + 1]? = some (.cells #[.int .i64 id] 3 (0, 0))
  r1 : W.heap[w.heap.size + 1 + 1]? = some (.cells #[.int .i64 x] 3 (0, 0))
  r2 : W.heap[w.heap.size + 1 + 1 + 1]? = some (.cells #[.bool y] 4 (0, 0))
  it : DeM s l o c (w.heap.size + 1 + 1 + 1 + 1) W
  below : Below w.heap.size w W
theorem WoS.kept {s : ScR} {l : List Int} {o : Option Addr} {c : Nat} {id x : Int} {y : Bool} {B : Nat} {w W X : World} (hB : w.heap.size ≤ B) (h : Kept B W X) (i : WoS s l o c id x y w W) : WoS s l o c id x y w X :=
  ⟨i.box.kept h, h.cells i.idr, h.cells i.r1, h.cells i.r2, i.it.kept h, h.below hB i.below⟩
theorem WoS.up {s : ScR} {l : List Int} {o : Option Addr} {c : Nat} {id x : Int} {y : Bool} {w W X : World} (h : Below W.heap.size W X) (i : WoS s l o c id x y w W) : WoS s l o c id x y w X :=
  ⟨i.box.below h, keep_row h i.idr, keep_row h i.r1, keep_row h i.r2, i.it.up h, bnext i.below h⟩
theorem WoS.drew {s : ScR} {l : List Int} {o : Option Addr} {c : Nat} {id x : Int} {y : Bool} {w W : World} (i : WoS s l o c id x y w W) : WoS s l o c id x y w W.drew := i.up (bdrew0 _ W 1)
theorem WoS.facts {s : ScR} {l : List Int} {o : Option Addr} {c : Nat} {id x : Int} {y : Bool} {w W : World} (i : WoS s l o c id x y w W) :
    W.cell? ⟨w.heap.size + 1, 0, none⟩ = some (.int .i64 id) ∧ W.cell? ⟨w.heap.size + 1 + 1, 0, none⟩ = some (.int .i64 x) ∧ W.cell? ⟨w.heap.size + 1 + 1 + 1, 0, none⟩ = some (.bool y) ∧
    W.frozen? ⟨w.heap.size + 1 + 1, 0, none⟩ = false ∧ W.frozen? ⟨w.heap.size + 1 + 1 + 1, 0, none⟩ = false :=
  ⟨by rw [cell_of_row _ _ _ _ _ _ i.idr]; rfl, by rw [cell_of_row _ _ _ _ _ _ i.r1]; rfl, by rw [cell_of_row _ _ _ _ _ _ i.r2]; rfl, frozen_row i.r1, frozen_row i.r2⟩
theorem WoS.put {s : ScR} {l : List Int} {o : Option Addr} {c : Nat} {id x x2 : Int} {y y2 : Bool} {w W : World} (hob : ObjsAt w s.oo s.os) (hme : IntsAt w o l) (i : WoS s l o c id x y w W) :
    WoS s l o c id x2 y2 w ((W.setCell ⟨w.heap.size + 1 + 1, 0, none⟩ (.int .i64 x2)).setCell ⟨w.heap.size + 1 + 1 + 1, 0, none⟩ (.bool y2)) := by
  have a1 := heap_setCell_same W _ 0 _ _ (.int .i64 x2) i.r1
  have o1 : ∀ {g : Nat} {ob : Obj}, g ≠ w.heap.size + 1 + 1 → g ≠ w.heap.size + 1 + 1 + 1 → W.heap[g]? = some ob → ((W.setCell ⟨w.heap.size + 1 + 1, 0, none⟩ (.int .i64 x2)).setCell ⟨w.heap.size + 1 + 1 + 1, 0, none⟩ (.bool y2)).heap[g]? = some ob := fun h1 h2 h => by
    rw [heap_setCell_other _ _ _ _ h2, heap_setCell_other _ _ _ _ h1]
    exact h
  have hb : Below w.heap.size w ((W.setCell ⟨w.heap.size + 1 + 1, 0, none⟩ (.int .i64 x2)).setCell ⟨w.heap.size + 1 + 1 + 1, 0, none⟩ (.bool y2)) := (i.below.setCell (p := ⟨w.heap.size + 1 + 1, 0, none⟩) (by show _ ≤ w.heap.size + 1 + 1; omega) _).setCell (p := ⟨w.heap.size + 1 + 1 + 1, 0, none⟩) (by show _ ≤ w.heap.size + 1 + 1 + 1; omega) _
  refine ⟨o1 (by omega) (by omega) i.box, o1 (by omega) (by omega) i.idr, ?_, ?_, ⟨o1 (by omega) (by omega) i.it.sc, o1 (by omega) (by omega) i.it.ms, hob.below hb, hme.below hb⟩, hb⟩
  · rw [heap_setCell_other _ _ _ _ (by show _ ≠ w.heap.size + 1 + 1 + 1; omega)]
    exact a1
  · have a2 : (W.setCell ⟨w.heap.size + 1 + 1, 0, none⟩ (.int .i64 x2)).heap[w.heap.size + 1 + 1 + 1]? = some (.cells #[.bool y] 4 (0, 0)) := by
      rw [heap_setCell_other _ _ _ _ (by show _ ≠ w.heap.size + 1 + 1; omega)]
      exact i.r2
    exact heap_setCell_same _ _ 0 _ _ (.bool y2) a2
def noneUpto (ids : List Int) (id : Int) (k : Nat) : Prop := (ids.take k).findIdx? (fun x => decide (x = id)) = none
def WoI (s : ScR) (l : List Int) (o : Option Addr) (c : Nat) (id : Int) (w : World) (p : Option (Nat × Obj)) (k : Nat) (W : World) : Prop :=
  WoS s l o c id 0 false w W ∧ noneUpto (sortedIds s.os) id k ∧ PrivAt w.heap.size p W
def WoX (s : ScR) (l : List Int) (o : Option Addr) (c : Nat) (id : Int) (w W : World) : Prop := ∃ m : Int, WoS s l o c id m true w W ∧ whoseZ (sortedIds s.os) l id = some m
def WoA (s : ScR) (l : List Int) (o : Option Addr) (c : Nat) (id : Int) (w : World) (k : Nat) (a : Act) : Prop :=
  a = { tmps := #[.agg (scC s), .slice o l.length c, .int .i64 id, .pointer (some ⟨w.heap.size, 0, none⟩), undef, .pointer (some ⟨w.heap.size + 1, 0, none⟩), .pointer (some ⟨w.heap.size + 1 + 1, 0, none⟩), .pointer (some ⟨w.heap.size + 1 + 1 + 1, 0, none⟩), .int .i64 ((sortedIds s.os).getD k 0), .int .i64 (ownK l k),
    .agg (scC s), .slice o l.length c, .func (.func 33) #[] #[.pointer (some ⟨w.heap.size + 1 + 1 + 1 + 1, 0, none⟩), .pointer (some ⟨w.heap.size + 1 + 1 + 1 + 1 + 1, 0, none⟩)], .int .i64 ((sortedIds s.os).getD k 0), .int .i64 (ownK l k), undef, undef, undef, undef, undef, undef], defers := [] }
def RetWhose (r : Option Int) (w : World) (e : Ending) (w' : World) : Prop := e = .returned (.tuple #[.int .i64 (r.getD 0), .bool r.isSome]) ∧ Below w.heap.size w w'
set_option maxRecDepth 100000 in
set_option maxHeartbeats 4000000 in
theorem pwhose_any (s : ScR) (l : List Int) (o : Option Addr) (c : Nat) (id : Int) (w : World) (hs : ScWf s) (h : ObjsAt w s.oo s.os) (hme : IntsAt w o l) (hlen : s.os.length ≤ 1000) (hl0 : 0 < l.length) (hl : l.length ≤ 1000) :
    Calls Tryz.prog 18 #[.agg (scC s), .slice o l.length c, .int .i64 id] w (RetWhose (whoseZ (sortedIds s.os) l id) w) := by
  obtain ⟨W1, hW1⟩ : ∃ W1, (((w.alloc (.cells (scC s) 28)).alloc (.cells #[.int .i64 id] 3)).alloc (.cells #[.int .i64 0] 3)).alloc (.cells #[.bool false] 4) = W1 := ⟨_, rfl⟩
  obtain ⟨W0, hW0⟩ : ∃ W0, (W1.alloc (.cells (scC s) 28)).alloc (.cells #[.slice o l.length c] 29) = W0 := ⟨_, rfl⟩
  have hs1 : W1.heap.size = w.heap.size + 1 + 1 + 1 + 1 := by rw [← hW1]; simp
  have b1 : Below w.heap.size w W1 := by rw [← hW1]; exact ((((Below.refl _ w).alloc (Nat.le_refl _) _).alloc (by simp) _).alloc (by simp; omega) _).alloc (by simp; omega) _
  have h12 : Below W1.heap.size W1 W0 := by rw [← hW0]; exact ((Below.refl _ W1).alloc (Nat.le_refl _) _).alloc (by simp) _
  have b0 := bnext b1 h12
  have g0 : ScAt w.heap.size s W1 := by rw [← hW1]; exact step_row (step_row (step_row (ScAt.new w s)))
  have F0 : WoS s l o c id 0 false w W0 := by
    refine ⟨g0.below h12, keep_row h12 ?_, keep_row h12 ?_, keep_row h12 ?_, ⟨?_, ?_, h.below b0, hme.below b0⟩, b0⟩
    · rw [← hW1]
      have := heap_alloc_new (w.alloc (.cells (scC s) 28)) (.cells #[.int .i64 id] 3)
      rw [World.size_alloc] at this
      exact step_row (step_row this)
    · rw [← hW1]
      have := heap_alloc_new ((w.alloc (.cells (scC s) 28)).alloc (.cells #[.int .i64 id] 3)) (.cells #[.int .i64 0] 3)
      rw [World.size_alloc, World.size_alloc] at this
      exact step_row this
    · rw [← hW1]
      have := heap_alloc_new (((w.alloc (.cells (scC s) 28)).alloc (.cells #[.int .i64 id] 3)).alloc (.cells #[.int .i64 0] 3)) (.cells #[.bool false] 4)
      rw [World.size_alloc, World.size_alloc, World.size_alloc] at this
      exact this
    · rw [← hW0, ← hs1]
      exact step_row (ScAt.new W1 s)
    · rw [← hW0, ← hs1]
      have := heap_alloc_new (W1.alloc (.cells (scC s) 28)) (.cells #[.slice o l.length c] 29)
      rw [World.size_alloc] at this
      exact this
  have HF0 := Lib.hid F0
  have HS0 : Hid (W0.heap.size = w.heap.size + 1 + 1 + 1 + 1 + 1 + 1) := Lib.hid (by rw [← hW0, World.size_alloc, World.size_alloc, hs1])
  have HS1 := Lib.hid hs1
  have HW1 := Lib.hid hW1
  have HW0 := Lib.hid hW0
  have HOB := Lib.hid h
  have HME := Lib.hid hme
  have HSW := Lib.hid hs
  have HDH := Lib.hid (deal_hands s l o c (w.heap.size + 1 + 1 + 1 + 1) hs hlen hl0 hl)
  have HALL := Lib.hid g0.all
  have hall := Lib.hid (sizeS hs)
  have HL0 := Lib.hid hl0
  clear F0 h12 b1 b0 g0 hW1 hW0 hs1 hs h hme hlen hl hl0
  refine (callsIn_wide (n := 5)).1 ?_
  refine callsIn_of_wp_marks Tryz.func18 rfl trivial ?_ rfl
  simp only [Tryz.ntmps18, List.size_toArray, List.length_cons, List.length_nil, Nat.reduceAdd, Nat.reduceSub, Array.replicate_succ, Array.replicate_zero, List.push_toArray, List.append_toArray, List.nil_append, List.cons_append]
  refine wpIn_wide.2 ?_
  go_wp2_with (first | go_step3 | (rw [HW1.out]; refine wpList_load_mid rfl 28 (.tmp 3) rfl w.heap.size 0 rfl (scL s) _ HALL.out Tryz.underlying28 rfl hall.out ?_))
  refine (dealt_w s l.length o c _).mono ?_
  rintro e w' ⟨rfl, rfl⟩
  rw [HS1.out, HW0.out]
  go_wp2_with (first | go_step3 | fail)
  refine wpIn_wide.1 (wpIn_range_priv (F := Fence.wide) (n := 5) rfl (by omega) (gf := 33) (lb := #[.pointer (some ⟨w.heap.size + 1 + 1 + 1 + 1, 0, none⟩), .pointer (some ⟨w.heap.size + 1 + 1 + 1 + 1 + 1, 0, none⟩)]) rfl trivial (enters_of Tryz.func33 (by kernel_rfl) rfl)
    HDH.out (fun _ => rfl) (.exit 0) (WoI s l o c id w) (WoX s l o c id w) (fun p k a' W => WoA s l o c id w k a' ∧ WoI s l o c id w p k W)
    ?i1 ?i2 ?i3 ?i4 ?i5 ?i6 ?assign ?body ?done ?stop)
  case i1 => rintro p k W X ⟨h1, h2, h3⟩ hk; exact ⟨h1.kept (by have := HS0.out; omega) hk, h2, h3.kept hk⟩
  case i2 => rintro W X ⟨m, h1, h2⟩ hk; exact ⟨m, h1.kept (by have := HS0.out; omega) hk, h2⟩
  case i3 => rintro p k a W X ⟨h0, h1, h2, h3⟩ hk; exact ⟨h0, h1.kept (by have := HS0.out; omega) hk, h2, h3.kept hk⟩
  case i4 => rintro p k W ⟨h1, h2, h3⟩; exact ⟨h1.it, fun r ob e => (h3 r ob e).2.1⟩
  case i5 => rintro W' hb; exact (HF0.out.up hb).it
  case i6 => rintro p W' hb hp; exact ⟨HF0.out.up hb, rfl, fun r ob e => by obtain ⟨q1, q2, q3⟩ := hp r ob e; exact ⟨by have := HS0.out; omega, q2, q3⟩⟩
  case assign =>
    intro l1 p k W C hk hI hC
    have HA : Hid (WoA s l o c id w k _) := Lib.hid rfl
    have HC := Lib.hid (hC _ _ (KeepsFrom.refl _ W) ⟨HA.out, hI⟩)
    clear hC hI
    simp only [dealElem]
    generalize (sortedIds s.os).getD k 0 = z at HC ⊢
    generalize ownK l k = x at HC ⊢
    clear hk HA
    gi_wp2
    exact HC.out
  case body =>
    rintro l1 p k a' W hk ⟨ha, fs, hpre, hpv⟩
    unfold WoA at ha
    subst ha
    obtain ⟨c1, c2, c3, f1, f2⟩ := fs.facts
    have HNX := Lib.hid (whose_step hk hpre)
    have HHIT := Lib.hid (whose_hit (l := l) hk hpre)
    have HPV := Lib.hid hpv
    have HS := Lib.hid fs
    generalize (sortedIds s.os).getD k 0 = z at HNX HHIT ⊢
    generalize ownK l k = x at HHIT ⊢
    clear hpre fs hk hpv
    by_cases hz : z = id
    · have HE : Hid (WoX s l o c id w ((W.setCell ⟨w.heap.size + 1 + 1, 0, none⟩ (.int .i64 x)).setCell ⟨w.heap.size + 1 + 1 + 1, 0, none⟩ (.bool true))) := Lib.hid ⟨x, HS.out.put HOB.out HME.out, HHIT.out hz⟩
      have HKF : Hid (KeepsFrom W0.heap.size W ((W.setCell ⟨w.heap.size + 1 + 1, 0, none⟩ (.int .i64 x)).setCell ⟨w.heap.size + 1 + 1 + 1, 0, none⟩ (.bool true))) := Lib.hid (((KeepsOthers.setCell _ _ _).trans (KeepsOthers.setCell _ _ _)).from _)
      clear HNX HHIT
      gi_wp2
      exact ⟨rfl, HKF.out, HE.out⟩
    · have HE : Hid (WoI s l o c id w p (k + 1) W) := Lib.hid ⟨HS.out, HNX.out hz, HPV.out⟩
      clear HNX HHIT
      gi_wp2
      exact ⟨KeepsFrom.refl _ _, HE.out⟩
  case done =>
    rintro D p W hD ⟨fs, hpre, hpv⟩ hdef
    have HR := Lib.hid (whose_none (l := l) (Nat.le_refl _) hpre)
    have HIW := Lib.hid fs
    have HDN : Hid (DefOk w.heap.size (D + 1) [{ target := .collected D, args := #[] }] W) := Lib.hid ((DefOk.nil w.heap.size D W).cons (by have := HS0.out; omega) (Nat.le_refl _) hdef)
    obtain ⟨c1, c2, c3, f1, f2⟩ := fs.facts
    clear fs hpre hpv hdef hD
    go_wp2_with (first | go_step3 | fail)
    refine wp_region_noPanic ?_
    refine (wpIn_wide (n := 5)).1 ?_
    refine heldz_region (S := fun X => X.cell? ⟨w.heap.size + 1 + 1, 0, none⟩ = some (.int .i64 0) ∧ X.cell? ⟨w.heap.size + 1 + 1 + 1, 0, none⟩ = some (.bool false)) (Z := []) (by kernel_rfl) ?_
    refine heldz_take (fun _ => trivial) [] 0 (?_) (by kernel_rfl) rfl (by kernel_rfl) (fun _ _ _ h => h) ⟨c2, c3⟩ (by kernel_rfl) ?_ ?_
    rotate_left
    · intro wz hSw; obtain ⟨q1, q2⟩ := hSw; (first | (go_simp; done) | (go_simp; with_reducible rfl))
    (try simp only [Act.put, List.getElem_toArray, List.getElem_cons_zero, List.getElem_cons_succ, List.setIfInBounds_toArray, List.set_cons_zero, List.set_cons_succ])
    refine heldz_take (fun _ => trivial) [] 1 (?_) (by kernel_rfl) rfl (by kernel_rfl) (fun _ _ _ h => h) ⟨c2, c3⟩ (by kernel_rfl) ?_ ?_
    rotate_left
    · intro wz hSw; obtain ⟨q1, q2⟩ := hSw; (first | (go_simp; done) | (go_simp; with_reducible rfl))
    (try simp only [Act.put, List.getElem_toArray, List.getElem_cons_zero, List.getElem_cons_succ, List.setIfInBounds_toArray, List.set_cons_zero, List.set_cons_succ])
    refine heldz_step (fun _ => trivial) 2 (by kernel_rfl) rfl (fun K hK => ?_)
    go_simp
    refine hK.out _ _ (fun _ => by constructor <;> simp [go_sem, *]) ?_
    clear hK K
    (try simp only [Act.put, List.getElem_toArray, List.getElem_cons_zero, List.getElem_cons_succ, List.setIfInBounds_toArray, List.set_cons_zero, List.set_cons_succ])
    refine heldz_step (fun _ => trivial) 3 (by kernel_rfl) rfl (fun K hK => ?_)
    go_simp
    refine hK.out _ _ (fun _ => by constructor <;> simp [go_sem, *]) ?_
    clear hK K
    (try simp only [Act.put, List.getElem_toArray, List.getElem_cons_zero, List.getElem_cons_succ, List.setIfInBounds_toArray, List.set_cons_zero, List.set_cons_succ])
    refine heldz_done (by kernel_rfl) ?_ _
    refine NoPanic.normal ?_
    go_wp2_with fail
    have HP := Lib.hid ((HIW.out.put (x2 := 0) (y2 := false) HOB.out HME.out).drew)
    refine end_ret (B := w.heap.size) (hi := D + 1) (HDN.out.keeps ((((KeepsOthers.setCell _ _ _).trans (KeepsOthers.setCell _ _ _)).from _).trans (keeps_drew _ _))) (fun X hk => ?_)
    have fs2 := HP.out.kept (Nat.le_refl _) hk
    obtain ⟨_, d1, d2, _, _⟩ := fs2.facts
    have HBL := Lib.hid fs2.below
    clear fs2 hk
    refine ⟨.tuple #[.int .i64 0, .bool false], ?_, by rw [HR.out]; rfl, HBL.out⟩
    simp [results, Tryz.results18, go_sem, *]
  case stop =>
    rintro D W hD ⟨m, fs, hr⟩ hdef
    have HR := Lib.hid hr
    have HIW := Lib.hid fs
    have HDN : Hid (DefOk w.heap.size (D + 1) [{ target := .collected D, args := #[] }] W) := Lib.hid ((DefOk.nil w.heap.size D W).cons (by have := HS0.out; omega) (Nat.le_refl _) hdef)
    obtain ⟨c1, c2, c3, f1, f2⟩ := fs.facts
    clear fs hr hdef hD
    refine wpIn_wide.2 ?_
    go_wp2_with (first | go_step3 | fail)
    refine wp_region_noPanic ?_
    refine (wpIn_wide (n := 5)).1 ?_
    refine heldz_region (S := fun X => X.cell? ⟨w.heap.size + 1 + 1, 0, none⟩ = some (.int .i64 m) ∧ X.cell? ⟨w.heap.size + 1 + 1 + 1, 0, none⟩ = some (.bool true)) (Z := []) (by kernel_rfl) ?_
    refine heldz_take (fun _ => trivial) [] 0 (?_) (by kernel_rfl) rfl (by kernel_rfl) (fun _ _ _ h => h) ⟨c2, c3⟩ (by kernel_rfl) ?_ ?_
    rotate_left
    · intro wz hSw; obtain ⟨q1, q2⟩ := hSw; (first | (go_simp; done) | (go_simp; with_reducible rfl))
    (try simp only [Act.put, List.getElem_toArray, List.getElem_cons_zero, List.getElem_cons_succ, List.setIfInBounds_toArray, List.set_cons_zero, List.set_cons_succ])
    refine heldz_take (fun _ => trivial) [] 1 (?_) (by kernel_rfl) rfl (by kernel_rfl) (fun _ _ _ h => h) ⟨c2, c3⟩ (by kernel_rfl) ?_ ?_
    rotate_left
    · intro wz hSw; obtain ⟨q1, q2⟩ := hSw; (first | (go_simp; done) | (go_simp; with_reducible rfl))
    (try simp only [Act.put, List.getElem_toArray, List.getElem_cons_zero, List.getElem_cons_succ, List.setIfInBounds_toArray, List.set_cons_zero, List.set_cons_succ])
    refine heldz_step (fun _ => trivial) 2 (by kernel_rfl) rfl (fun K hK => ?_)
    go_simp
    refine hK.out _ _ (fun _ => by constructor <;> simp [go_sem, *]) ?_
    clear hK K
    (try simp only [Act.put, List.getElem_toArray, List.getElem_cons_zero, List.getElem_cons_succ, List.setIfInBounds_toArray, List.set_cons_zero, List.set_cons_succ])
    refine heldz_step (fun _ => trivial) 3 (by kernel_rfl) rfl (fun K hK => ?_)
    go_simp
    refine hK.out _ _ (fun _ => by constructor <;> simp [go_sem, *]) ?_
    clear hK K
    (try simp only [Act.put, List.getElem_toArray, List.getElem_cons_zero, List.getElem_cons_succ, List.setIfInBounds_toArray, List.set_cons_zero, List.set_cons_succ])
    refine heldz_done (by kernel_rfl) ?_ _
    refine NoPanic.normal ?_
    go_wp2_with fail
    have HP := Lib.hid ((HIW.out.put (x2 := m) (y2 := true) HOB.out HME.out).drew)
    refine end_ret (B := w.heap.size) (hi := D + 1) (HDN.out.keeps ((((KeepsOthers.setCell _ _ _).trans (KeepsOthers.setCell _ _ _)).from _).trans (keeps_drew _ _))) (fun X hk => ?_)
    have fs2 := HP.out.kept (Nat.le_refl _) hk
    obtain ⟨_, d1, d2, _, _⟩ := fs2.facts
    have HBL := Lib.hid fs2.below
    clear fs2 hk
    refine ⟨.tuple #[.int .i64 m, .bool true], ?_, by rw [HR.out]; rfl, HBL.out⟩
    simp [results, Tryz.results18, go_sem, *]
end Go.Proofs.YtildnadkfonlhaaGreat.Fx
namespace Go.Proofs.YtildnadkfonlhaaGreat.Fx
open Go Go.RowKit Go.Shelf
attribute [local go_sem] Oper.semAt_some
/-- the boxes of chosen: scene, what is asked, the list's cell, the iterator's scene and members; B: from where on the list lies -/
structure ChS (s : ScR) (l : List Int) (o : Option Addr) (c : Nat) (q v : Value) (B : Nat) (L : List Int) (w W : World) : Prop where
  box : ScAt w.heap.size s W
  ask : W.heap[w.heap.size + 1]? = some (.cells #[q] 61 (0, 0))
  cell : W.heap[w.heap.size + 1 + 1]? = some (.cells #[v] 29 (0, 0))
  it : DeM s l o c (w.heap.size + 1 + 1 + 1) W
  own : OwnN W B v L
  lo : w.heap.size + 1 + 1 + 1 + 1 + 1 ≤ B
  hi : B ≤ W.heap.size
  below : Below w.heap.size w W
theorem ChS.kept {s : ScR} {l : List Int} {o : Option Addr} {c : Nat} {q v : Value} {B C : Nat} {L : List Int} {w W X : World} (hB : w.heap.size ≤ C) (h : Kept C W X) (i : ChS s l o c q v B L w W) : ChS s l o c q v B L w X :=
  ⟨i.box.kept h, h.cells i.ask, h.cells i.cell, i.it.kept h, i.own.kept h, i.lo, Nat.le_trans i.hi h.size, h.below hB i.below⟩
theorem ChS.up {s : ScR} {l : List Int} {o : Option Addr} {c : Nat} {q v : Value} {B : Nat} {L : List Int} {w W X : World} (h : Below W.heap.size W X) (i : ChS s l o c q v B L w W) : ChS s l o c q v B L w X :=
  ⟨i.box.below h, keep_row h i.ask, keep_row h i.cell, i.it.up h, i.own.below h, i.lo, Nat.le_trans i.hi h.size, bnext i.below h⟩
theorem ChS.facts {s : ScR} {l : List Int} {o : Option Addr} {c : Nat} {q v : Value} {B : Nat} {L : List Int} {w W : World} (i : ChS s l o c q v B L w W) :
    W.cell? ⟨w.heap.size + 1, 0, none⟩ = some q ∧ W.cell? ⟨w.heap.size + 1 + 1, 0, none⟩ = some v :=
  ⟨by rw [cell_of_row _ _ _ _ _ _ i.ask]; rfl, by rw [cell_of_row _ _ _ _ _ _ i.cell]; rfl⟩
theorem ChS.low {s : ScR} {l : List Int} {o : Option Addr} {c : Nat} {q v : Value} {B : Nat} {L : List Int} {w W X : World} (i : ChS s l o c q v B L w W) (hg : W.grownBy X v.ownBlock) {g : Nat} {ob : Obj} (hlt : g < B) (h : W.heap[g]? = some ob) : X.heap[g]? = some ob := by
  rw [hg.block _ (Array.getElem?_eq_some_iff.1 h).1 (fun e => by have := i.own.blk _ e.symm; omega)]
  exact h
theorem ChS.step {s : ScR} {l : List Int} {o : Option Addr} {c : Nat} {q v v' : Value} {B : Nat} {L L' : List Int} {w W X : World} (hob : ObjsAt w s.oo s.os) (hme : IntsAt w o l) (i : ChS s l o c q v B L w W) (ho : OwnN X B v' L') (hg : W.grownBy X v.ownBlock) :
    ChS s l o c q v' B L' w (X.setCell ⟨w.heap.size + 1 + 1, 0, none⟩ v') := by
  have hlo := i.lo
  have k2 : ∀ {g : Nat} {ob : Obj}, g ≠ w.heap.size + 1 + 1 → g < B → W.heap[g]? = some ob → (X.setCell ⟨w.heap.size + 1 + 1, 0, none⟩ v').heap[g]? = some ob := fun hne hlt h => by
    rw [heap_setCell_other _ _ _ _ hne]
    exact i.low hg hlt h
  have hb : Below w.heap.size w (X.setCell ⟨w.heap.size + 1 + 1, 0, none⟩ v') := (below_grown2 (Nat.le_refl _) i.below hg (fun k hk => by have := i.own.blk k hk; omega)).setCell (p := ⟨w.heap.size + 1 + 1, 0, none⟩) (by show _ ≤ w.heap.size + 1 + 1; omega) _
  exact ⟨k2 (by omega) (by omega) i.box, k2 (by omega) (by omega) i.ask, heap_setCell_same _ _ 0 _ _ v' (i.low hg (by omega) i.cell), ⟨k2 (by omega) (by omega) i.it.sc, k2 (by omega) (by omega) i.it.ms, hob.below hb, hme.below hb⟩, ho.cellset (by omega), i.lo, by simpa using Nat.le_trans i.hi hg.size, hb⟩
/-- the iterator's own block lies ahead of the list -/
def PrivIn (B : Nat) (p : Option (Nat × Obj)) (W : World) : Prop := ∀ r ob, p = some (r, ob) → r < B ∧ W.heap[r]? = some ob ∧ ob.isCells = true
def ChI (s : ScR) (l : List Int) (o : Option Addr) (c : Nat) (q : Value) (f : Int → Int → Bool) (w : World) (p : Option (Nat × Obj)) (k : Nat) (W : World) : Prop :=
  ∃ (v : Value) (B : Nat), ChS s l o c q v B (chosenK f (sortedIds s.os) l k) w W ∧ PrivIn B p W ∧ PrivAt (w.heap.size + 1 + 1 + 1) p W
def ChA (s : ScR) (l : List Int) (o : Option Addr) (c : Nat) (q : Value) (w : World) (k : Nat) (a : Act) : Prop :=
  a = { tmps := #[.agg (scC s), .slice o l.length c, q, .pointer (some ⟨w.heap.size, 0, none⟩), undef, .pointer (some ⟨w.heap.size + 1, 0, none⟩), .slice none 0 0, .pointer (some ⟨w.heap.size + 1 + 1, 0, none⟩), .int .i64 ((sortedIds s.os).getD k 0), .int .i64 (ownK l k),
    .agg (scC s), .slice o l.length c, .func (.func 33) #[] #[.pointer (some ⟨w.heap.size + 1 + 1 + 1, 0, none⟩), .pointer (some ⟨w.heap.size + 1 + 1 + 1 + 1, 0, none⟩)], .int .i64 ((sortedIds s.os).getD k 0), .int .i64 (ownK l k), undef, undef, undef, undef, undef, undef, undef, undef, undef], defers := [] }
set_option maxRecDepth 100000 in
set_option maxHeartbeats 4000000 in
theorem chosen_any (s : ScR) (l : List Int) (o : Option Addr) (c g : Nat) (lb : Array Value) (f : Int → Int → Bool) (w : World) (eg : ∀ args w, (callFunc g args).run Tryz.prog w = .ok (.enter g args) w) (hs : ScWf s) (h : ObjsAt w s.oo s.os) (hme : IntsAt w o l) (hlen : s.os.length ≤ 1000) (hl0 : 0 < l.length) (hl : l.length ≤ 1000)
    (hf : ∀ (W : World) (x y : Int), Below w.heap.size w W → Calls Tryz.prog g (#[.int .i64 x, .int .i64 y] ++ lb) W fun e w' => e = .returned (.bool (f x y)) ∧ Below W.heap.size W w') :
    Calls Tryz.prog 23 #[.agg (scC s), .slice o l.length c, .func (.func g) #[] lb] w (RetIDsP (chosenZ f (sortedIds s.os) l) w) := by
  obtain ⟨W1, hW1⟩ : ∃ W1, ((w.alloc (.cells (scC s) 28)).alloc (.cells #[.func (.func g) #[] lb] 61)).alloc (.cells #[.slice none 0 0] 29) = W1 := ⟨_, rfl⟩
  obtain ⟨W0, hW0⟩ : ∃ W0, (W1.alloc (.cells (scC s) 28)).alloc (.cells #[.slice o l.length c] 29) = W0 := ⟨_, rfl⟩
  have hs1 : W1.heap.size = w.heap.size + 1 + 1 + 1 := by rw [← hW1]; simp
  have b1 : Below w.heap.size w W1 := by rw [← hW1]; exact (((Below.refl _ w).alloc (Nat.le_refl _) _).alloc (by simp) _).alloc (by simp; omega) _
  have h12 : Below W1.heap.size W1 W0 := by rw [← hW0]; exact ((Below.refl _ W1).alloc (Nat.le_refl _) _).alloc (by simp) _
  have b0 := bnext b1 h12
  have hs0 : W0.heap.size = w.heap.size + 1 + 1 + 1 + 1 + 1 := by rw [← hW0, World.size_alloc, World.size_alloc, hs1]
  have g0 : ScAt w.heap.size s W1 := by rw [← hW1]; exact step_row (step_row (ScAt.new w s))
  have F0 : ∀ X, Below W0.heap.size W0 X → ChS s l o c (.func (.func g) #[] lb) (.slice none 0 0) X.heap.size [] w X := fun X hX => by
    refine ⟨(g0.below h12).below hX, keep_row hX (keep_row h12 ?_), keep_row hX (keep_row h12 ?_), DeM.up hX ⟨?_, ?_, h.below b0, hme.below b0⟩, ⟨rfl, .inl ⟨rfl, rfl⟩⟩, by have := hX.size; omega, Nat.le_refl _, bnext b0 hX⟩
    · rw [← hW1]
      have := heap_alloc_new (w.alloc (.cells (scC s) 28)) (.cells #[.func (.func g) #[] lb] 61)
      rw [World.size_alloc] at this
      exact step_row this
    · rw [← hW1]
      have := heap_alloc_new ((w.alloc (.cells (scC s) 28)).alloc (.cells #[.func (.func g) #[] lb] 61)) (.cells #[.slice none 0 0] 29)
      rw [World.size_alloc, World.size_alloc] at this
      exact this
    · rw [← hW0, ← hs1]
      exact step_row (ScAt.new W1 s)
    · rw [← hW0, ← hs1]
      have := heap_alloc_new (W1.alloc (.cells (scC s) 28)) (.cells #[.slice o l.length c] 29)
      rw [World.size_alloc] at this
      exact this
  have HF0 := Lib.hid F0
  have HS0 := Lib.hid hs0
  have HS1 := Lib.hid hs1
  have HW1 := Lib.hid hW1
  have HW0 := Lib.hid hW0
  have HOB := Lib.hid h
  have HME := Lib.hid hme
  have HFF := Lib.hid hf
  have HLEN := Lib.hid (show (sortedIds s.os).length ≤ 1000 by unfold sortedIds rawIds; simpa using hlen)
  have HDH := Lib.hid (deal_hands s l o c (w.heap.size + 1 + 1 + 1) hs hlen hl0 hl)
  have HALL := Lib.hid g0.all
  have hall := Lib.hid (sizeS hs)
  clear F0 h12 b1 b0 g0 hW1 hW0 hs1 hs0 hs h hme hlen hl hl0 hf
  refine (callsIn_wide (n := 5)).1 ?_
  refine callsIn_of_wp_marks Tryz.func23 rfl trivial ?_ rfl
  simp only [Tryz.ntmps23, List.size_toArray, List.length_cons, List.length_nil, Nat.reduceAdd, Nat.reduceSub, Array.replicate_succ, Array.replicate_zero, List.push_toArray, List.append_toArray, List.nil_append, List.cons_append]
  refine wpIn_wide.2 ?_
  go_wp2_with (first | (rw [HW1.out]; refine wpList_load_mid rfl 28 (.tmp 3) rfl w.heap.size 0 rfl (scL s) _ HALL.out Tryz.underlying28 rfl hall.out ?_))
  refine (dealt_w s l.length o c _).mono ?_
  rintro e w' ⟨rfl, rfl⟩
  rw [HS1.out, HW0.out]
  go_wp2_with fail
  refine wpIn_wide.1 (wpIn_range_priv (F := Fence.wide) (n := 5) rfl (by omega) (gf := 33) (lb := #[.pointer (some ⟨w.heap.size + 1 + 1 + 1, 0, none⟩), .pointer (some ⟨w.heap.size + 1 + 1 + 1 + 1, 0, none⟩)]) rfl trivial (enters_of Tryz.func33 (by kernel_rfl) rfl)
    HDH.out (fun _ => rfl) .ret (ChI s l o c (.func (.func g) #[] lb) f w) (fun _ => False) (fun p k a' W => ChA s l o c (.func (.func g) #[] lb) w k a' ∧ ChI s l o c (.func (.func g) #[] lb) f w p k W)
    ?i1 ?i2 ?i3 ?i4 ?i5 ?i6 ?assign ?body ?done ?stop)
  case i1 => rintro p k W X ⟨v, B, h1, h2, h3⟩ hk; exact ⟨v, B, h1.kept (by have := HS0.out; omega) hk, fun r ob e => ⟨(h2 r ob e).1, (h3.kept hk r ob e).2⟩, h3.kept hk⟩
  case i2 => rintro W X h; exact h.elim
  case i3 => rintro p k a W X ⟨h0, v, B, h1, h2, h3⟩ hk; exact ⟨h0, v, B, h1.kept (by have := HS0.out; omega) hk, fun r ob e => ⟨(h2 r ob e).1, (h3.kept hk r ob e).2⟩, h3.kept hk⟩
  case i4 => rintro p k W ⟨v, B, h1, h2, h3⟩; exact ⟨h1.it, fun r ob e => (h3 r ob e).2.1⟩
  case i5 => rintro W' hb; exact (HF0.out _ hb).it
  case i6 => rintro p W' hb hp; exact ⟨_, _, HF0.out _ hb, fun r ob e => by obtain ⟨q1, q2, q3⟩ := hp r ob e; exact ⟨(Array.getElem?_eq_some_iff.1 q2).1, q2, q3⟩, fun r ob e => by obtain ⟨q1, q2, q3⟩ := hp r ob e; exact ⟨by have := HS0.out; omega, q2, q3⟩⟩
  case assign =>
    intro l1 p k W C hk hI hC
    have HA : Hid (ChA s l o c (.func (.func g) #[] lb) w k _) := Lib.hid rfl
    have HC := Lib.hid (hC _ _ (KeepsFrom.refl _ W) ⟨HA.out, hI⟩)
    clear hC hI
    simp only [dealElem]
    generalize (sortedIds s.os).getD k 0 = z at HC ⊢
    generalize ownK l k = x at HC ⊢
    clear hk HA eg
    gi_wp2
    exact HC.out
  case body =>
    rintro l1 p k a' W hk ⟨ha, v, B, fs, hpi, hpa⟩
    unfold ChA at ha
    subst ha
    obtain ⟨c1, c2⟩ := fs.facts
    have HY : Hid (f ((sortedIds s.os).getD k 0) (ownK l k) = true → chosenK f (sortedIds s.os) l (k + 1) = chosenK f (sortedIds s.os) l k ++ [(sortedIds s.os).getD k 0]) := Lib.hid chosenK_yes
    have HX : Hid (f ((sortedIds s.os).getD k 0) (ownK l k) = false → chosenK f (sortedIds s.os) l (k + 1) = chosenK f (sortedIds s.os) l k) := Lib.hid chosenK_no
    have HLL : Hid ((chosenK f (sortedIds s.os) l k).length ≤ 1000000) := Lib.hid (by have := chosenK_len f (sortedIds s.os) l k; have := HLEN.out; omega)
    have HS := Lib.hid fs
    have HPI := Lib.hid hpi
    have HPA := Lib.hid hpa
    have HC := Lib.hid (HFF.out W ((sortedIds s.os).getD k 0) (ownK l k) fs.below)
    generalize (sortedIds s.os).getD k 0 = z at HY HX HC ⊢
    generalize ownK l k = x at HY HX HC ⊢
    generalize hL : chosenK f (sortedIds s.os) l k = L at HY HX HLL HS
    generalize hL1 : chosenK f (sortedIds s.os) l (k + 1) = L1 at HY HX
    have HL1 := Lib.hid hL1
    cases hq : f z x with
    | false =>
      have HE : Hid (L1 = L) := Lib.hid (HX.out hq)
      rw [hq] at HC
      clear fs hpi hpa hk hL hL1 hq HX HY
      gi_wp2
      refine ⟨trivial, CallsIn.mono (CallsIn.inRound l1 (callsIn_wide.2 HC.out)) ?_⟩
      rintro e X ⟨rfl, hb⟩
      have HKF := Lib.hid (below_keeps hb W0.heap.size)
      have HI : Hid (ChI s l o c (.func (.func g) #[] lb) f w p (k + 1) X) := Lib.hid ⟨v, B, by rw [HL1.out, HE.out]; exact HS.out.up hb, fun r ob e => ⟨(HPI.out r ob e).1, (HPA.out.up hb r ob e).2⟩, HPA.out.up hb⟩
      clear hb c1 c2
      gi_wp2
      exact ⟨HKF.out, HI.out⟩
    | true =>
      have HE : Hid (L1 = L ++ [z]) := Lib.hid (HY.out hq)
      rw [hq] at HC
      clear fs hpi hpa hk hL hL1 hq HX HY
      gi_wp2
      refine ⟨trivial, CallsIn.mono (CallsIn.inRound l1 (callsIn_wide.2 HC.out)) ?_⟩
      rintro e W2 ⟨rfl, hb⟩
      have HKF := Lib.hid (below_keeps hb W0.heap.size)
      have HS2 := Lib.hid (HS.out.up hb)
      have HP2 := Lib.hid (HPA.out.up hb)
      have HBB := Lib.hid HS2.out.hi
      obtain ⟨d1, d2⟩ := HS2.out.facts
      clear hb c1 c2 HC HS
      gi_wp2_with (refine appIn_num (fun _ => trivial) rfl (.tmp 19) (.tmp 21) rfl B v L z rfl HBB.out HS2.out.own HLL.out 1 rfl ?_)
      intro v' X ho hg
      refine Lib.hid ?_
      have HA2 : Hid (Below W2.heap.size W2 (W2.alloc (.cells #[.int .i64 z] 3))) := Lib.hid ((Below.refl _ W2).alloc (Nat.le_refl _) _)
      obtain ⟨o2, cap2, rfl, _, _⟩ := ho.form
      have HN := Lib.hid ((HS2.out.up HA2.out).step HOB.out HME.out ho hg)
      have f1 : X.frozen? ⟨w.heap.size + 1 + 1, 0, none⟩ = false ∧ X.cell? ⟨w.heap.size + 1 + 1, 0, none⟩ = some v := by
        have hr : X.heap[w.heap.size + 1 + 1]? = some (.cells #[v] 29 (0, 0)) := (HS2.out.up HA2.out).low hg (by have := HS2.out.lo; omega) (HS2.out.up HA2.out).cell
        exact ⟨frozen_row hr, by rw [cell_of_row _ _ _ _ _ _ hr]; rfl⟩
      obtain ⟨f1, e2⟩ := f1
      have HPX : Hid (∀ u, PrivIn B p (X.setCell ⟨w.heap.size + 1 + 1, 0, none⟩ u) ∧ PrivAt (w.heap.size + 1 + 1 + 1) p (X.setCell ⟨w.heap.size + 1 + 1, 0, none⟩ u)) := Lib.hid (fun u => by
        have hx : ∀ r ob, p = some (r, ob) → (X.setCell ⟨w.heap.size + 1 + 1, 0, none⟩ u).heap[r]? = some ob := fun r ob e => by
          have h1 := (HPI.out r ob e).1
          obtain ⟨h2, h3, _⟩ := HP2.out.up HA2.out r ob e
          rw [heap_setCell_other _ _ _ _ (by show r ≠ w.heap.size + 1 + 1; omega)]
          exact (HS2.out.up HA2.out).low hg h1 h3
        exact ⟨fun r ob e => ⟨(HPI.out r ob e).1, hx r ob e, (HP2.out r ob e).2.2⟩, fun r ob e => ⟨(HP2.out r ob e).1, hx r ob e, (HP2.out r ob e).2.2⟩⟩)
      have HKF2 : Hid (∀ u, KeepsFrom W0.heap.size W (X.setCell ⟨w.heap.size + 1 + 1, 0, none⟩ u)) := Lib.hid (fun u => HKF.out.trans (((below_keeps HA2.out _).trans (⟨hg.size, fun k ob _ hk ho => by
        rw [hg.block k (Array.getElem?_eq_some_iff.1 hk).1 (fun e => by
          obtain ⟨_, h2⟩ := HS2.out.own.below HA2.out
          rcases h2 with ⟨rfl, _⟩ | ⟨g, cap, cur, rfl, _, hgr, _⟩
          · cases e
          · cases e
            rw [hgr] at hk
            cases hk
            cases ho)]
        exact hk⟩ : KeepsFrom W0.heap.size _ X)).trans ((KeepsOthers.setCell _ _ _).from _)))
      obtain ⟨ml, hml⟩ : ∃ ml, (L ++ [z]).length = ml := ⟨_, rfl⟩
      rw [hml] at HN ⊢
      rw [← HE.out, ← HL1.out] at HN
      clear ho hg d1 d2 HS2 hml
      gi_wp2
      exact ⟨HKF2.out _, _, B, HN.out, (HPX.out _).1, (HPX.out _).2⟩
  case done =>
    rintro D p W hD ⟨v, B, fs, hpi, hpa⟩ hdef
    have HIW := Lib.hid fs
    have HDN : Hid (DefOk w.heap.size (D + 1) [{ target := .collected D, args := #[] }] W) := Lib.hid ((DefOk.nil w.heap.size D W).cons (by have := HS0.out; omega) (Nat.le_refl _) hdef)
    obtain ⟨c1, c2⟩ := fs.facts
    clear fs hpi hpa hdef hD eg
    go_wp2_with fail
    refine leaves_all (B := w.heap.size) _ (D + 1) _ HDN.out (fun X hk => ?_)
    have fs2 := HIW.out.kept (Nat.le_refl _) hk
    have HO := Lib.hid (fs2.own.base (show w.heap.size ≤ B by have := fs2.lo; omega))
    have HBL := Lib.hid fs2.below
    clear fs2 hk
    refine ⟨v, ?_, v, rfl, HO.out, HBL.out⟩
    simp [results, Tryz.results23, go_sem, *]
  case stop => rintro D W hD h; exact h.elim
end Go.Proofs.YtildnadkfonlhaaGreat.Fx
namespace Go.Proofs.YtildnadkfonlhaaGreat.Fx
open Go Go.RowKit Go.Shelf
theorem held_fn (x y m : Int) (A : Nat) (W : World) (h : W.cell? ⟨A, 0, none⟩ = some (.int .i64 m)) :
    Calls Tryz.prog 29 #[.int .i64 x, .int .i64 y, .pointer (some ⟨A, 0, none⟩)] W fun e w' => e = .returned (.bool (decide (y = m))) ∧ Below W.heap.size W w' := by
  go_enter Tryz.func29, Tryz.ntmps29
  go_wp2_with fail
  go_ret
  exact ⟨rfl, Below.refl _ _⟩
theorem box_at {w : World} {v u : Value} {t r : TypeId} : ((w.alloc (.cells #[v] t)).alloc (.cells #[u] r)).cell? ⟨w.heap.size, 0, none⟩ = some v := by
  rw [cell_of_row _ _ _ _ _ _ (step_row (heap_alloc_new _ _))]
  rfl
theorem OwnN.upTo {w W : World} {B : Nat} {v : Value} {l : List Int} (hb : Below w.heap.size w W) (h : OwnN W B v l) (hw : w.heap.size ≤ B) : OwnN W w.heap.size v l := h.base hw
set_option maxRecDepth 100000 in
set_option maxHeartbeats 2000000 in
theorem held_any (s : ScR) (l : List Int) (o : Option Addr) (c : Nat) (m : Int) (w : World) (hs : ScWf s) (h : ObjsAt w s.oo s.os) (hme : IntsAt w o l) (hlen : s.os.length ≤ 1000) (hl0 : 0 < l.length) (hl : l.length ≤ 1000) :
    Calls Tryz.prog 21 #[.agg (scC s), .slice o l.length c, .int .i64 m] w (RetIDsP (heldZ (sortedIds s.os) l m) w) := by
  obtain ⟨W1, hW1⟩ : ∃ W1, (w.alloc (.cells (scC s) 28)).alloc (.cells #[.int .i64 m] 3) = W1 := ⟨_, rfl⟩
  have b1 : Below w.heap.size w W1 := by rw [← hW1]; exact ((Below.refl _ w).alloc (Nat.le_refl _) _).alloc (by simp) _
  have hsc : ScAt w.heap.size s W1 := by rw [← hW1]; exact step_row (ScAt.new w s)
  have hc : W1.heap[w.heap.size + 1]? = some (.cells #[.int .i64 m] 3 (0, 0)) := by
    rw [← hW1]
    have := heap_alloc_new (w.alloc (.cells (scC s) 28)) (.cells #[.int .i64 m] 3)
    rw [World.size_alloc] at this
    exact this
  have HALL := Lib.hid hsc.all
  have hall := Lib.hid (sizeS hs)
  have HCH := Lib.hid (chosen_any s l o c 29 #[.pointer (some ⟨w.heap.size + 1, 0, none⟩)] (fun _ y => decide (y = m)) W1 (enters_of Tryz.func29 (by kernel_rfl) rfl) hs (h.below b1) (hme.below b1) hlen hl0 hl
    (fun W x y hW => held_fn x y m (w.heap.size + 1) W (by rw [cell_of_row _ _ _ _ _ _ (keep_row hW hc)]; rfl)))
  have HB1 := Lib.hid b1
  have HW1 := Lib.hid hW1
  clear b1 hsc hc hW1 hs h hme hlen hl0 hl
  generalize l.length = n at HCH ⊢
  go_enter Tryz.func21, Tryz.ntmps21
  go_wp2_with (first | (rw [HW1.out]; refine wpList_load_mid rfl 28 (.tmp 3) rfl w.heap.size 0 rfl (scL s) _ HALL.out Tryz.underlying28 rfl hall.out ?_))
  refine HCH.out.mono ?_
  rintro e w' ⟨v, rfl, ho, hb⟩
  have HO := Lib.hid ho
  have HB := Lib.hid hb
  clear ho hb
  go_wp2_with fail
  go_ret
  exact ⟨v, rfl, HO.out.base HB1.out.size, bnext HB1.out HB.out⟩
/-- a list that is new, and an error -/
def RetLE (L : List Int) (er : Int) (w : World) (e : Ending) (w' : World) : Prop := ∃ v, e = .returned (.tuple #[v, .int .i64 er]) ∧ OwnN w' w.heap.size v L ∧ Below w.heap.size w w'
def RetNE (z er : Int) (w : World) (e : Ending) (w' : World) : Prop := e = .returned (.tuple #[.int .i64 z, .int .i64 er]) ∧ Below w.heap.size w w'
def ownZ (s : ScR) (l : List Int) (id : Int) : Option Int := if dealB s l = true then whoseZ (sortedIds s.os) l id else none
def ofB (s : ScR) (l : List Int) (m : Int) : Bool := dealB s l && l.any (eqP m)
def ofZ (s : ScR) (l : List Int) (m : Int) : List Int := if ofB s l m = true then heldZ (sortedIds s.os) l m else []
def moB (s : ScR) (a b : List Int) : Bool := dealB s a && memB b
def moZ (s : ScR) (a b : List Int) : List Int := if moB s a b = true then movedZ (sortedIds s.os) a b else []
def errB (b : Bool) : Int := if b = true then 0 else 80
theorem deal_mem {s : ScR} {l : List Int} (h : dealB s l = true) : memB l = true := by
  unfold dealB at h
  rw [Bool.and_eq_true] at h
  exact h.1
theorem deal_many {s : ScR} {l : List Int} (h : dealB s l = true) : s.os.length ≤ 16 := by
  unfold dealB at h
  rw [Bool.and_eq_true] at h
  exact (ok_iff.1 h.2).many
/-- a scene in its box, at a function's start -/
theorem box_sc (s : ScR) (w : World) : ScAt w.heap.size s (w.alloc (.cells (scC s) 28)) := ScAt.new w s
set_option maxRecDepth 100000 in
set_option maxHeartbeats 2000000 in
theorem powner_any (s : ScR) (l : List Int) (o : Option Addr) (c : Nat) (id : Int) (w : World) (hs : ScWf s) (h : ObjsAt w s.oo s.os) (hme : IntsAt w o l) (hl : l.length ≤ 9223372036854775807) :
    Calls Tryz.prog 5 #[.agg (scC s), .slice o l.length c, .int .i64 id] w (RetNE ((ownZ s l id).getD 0) (errB (ownZ s l id).isSome) w) := by
  obtain ⟨W1, hW1⟩ : ∃ W1, w.alloc (.cells (scC s) 28) = W1 := ⟨_, rfl⟩
  have b1 : Below w.heap.size w W1 := by rw [← hW1]; exact (Below.refl _ w).alloc (Nat.le_refl _) _
  have hsc : ScAt w.heap.size s W1 := by rw [← hW1]; exact ScAt.new w s
  have HSC := Lib.hid hsc
  have HALL := Lib.hid hsc.all
  have hall := Lib.hid (sizeS hs)
  have HM := Lib.hid (pmay_any s l o c W1 hs (h.below b1) (hme.below b1) hl)
  have HB1 := Lib.hid b1
  have HW1 := Lib.hid hW1
  have HWH : Hid (dealB s l = true → ∀ W, Below W1.heap.size W1 W → Calls Tryz.prog 18 #[.agg (scC s), .slice o l.length c, .int .i64 id] W (RetWhose (ownZ s l id) W)) := Lib.hid (fun hd W hW => by
    unfold ownZ
    rw [if_pos hd]
    exact pwhose_any s l o c id W hs (h.below (bnext b1 hW)) (hme.below (bnext b1 hW)) (by have := deal_many hd; omega) (mem_pos (deal_mem hd)) (by have := mem_many (deal_mem hd); omega))
  have HNO : Hid (dealB s l = false → ownZ s l id = none) := Lib.hid (fun hd => by unfold ownZ; rw [hd]; rfl)
  clear b1 hsc hW1 hs h hme hl
  generalize l.length = n at HM HWH ⊢
  generalize dealB s l = d at HM HWH HNO
  generalize ownZ s l id = z at HWH HNO ⊢
  go_enter Tryz.func5, Tryz.ntmps5
  go_wp2_with (first | (rw [HW1.out]; refine wpList_load_mid rfl 28 (.tmp 3) rfl w.heap.size 0 rfl (scL s) _ HALL.out Tryz.underlying28 rfl hall.out ?_))
  refine HM.out.mono ?_
  rintro e w1 ⟨rfl, hb⟩
  have HB := Lib.hid (bnext HB1.out hb)
  have HAL := Lib.hid (HSC.out.below hb).all
  cases d with
  | false =>
    obtain rfl := HNO.out (by simp)
    clear hb HWH
    go_wp2_with fail
    go_ret2
    exact ⟨rfl, HB.out⟩
  | true =>
    have HC := Lib.hid (HWH.out (by simp) _ hb)
    clear hb HWH HNO
    go_wp2_with (refine wpList_load_mid rfl 28 (.tmp 3) rfl w.heap.size 0 rfl (scL s) _ HAL.out Tryz.underlying28 rfl hall.out ?_)
    refine HC.out.mono ?_
    rintro e w2 ⟨rfl, hb⟩
    have HB2 := Lib.hid (bnext HB.out hb)
    clear hb
    cases z with
    | none =>
      go_wp2_with fail
      go_ret2
      exact ⟨rfl, HB2.out⟩
    | some z =>
      go_wp2_with fail
      go_ret2
      exact ⟨rfl, HB2.out⟩
set_option maxRecDepth 100000 in
set_option maxHeartbeats 2000000 in
theorem pof_any (s : ScR) (l : List Int) (o : Option Addr) (c : Nat) (m : Int) (w : World) (hs : ScWf s) (h : ObjsAt w s.oo s.os) (hme : IntsAt w o l) (hl : l.length ≤ 9223372036854775807) :
    Calls Tryz.prog 7 #[.agg (scC s), .slice o l.length c, .int .i64 m] w (RetLE (ofZ s l m) (errB (ofB s l m)) w) := by
  obtain ⟨W1, hW1⟩ : ∃ W1, w.alloc (.cells (scC s) 28) = W1 := ⟨_, rfl⟩
  have b1 : Below w.heap.size w W1 := by rw [← hW1]; exact (Below.refl _ w).alloc (Nat.le_refl _) _
  have hsc : ScAt w.heap.size s W1 := by rw [← hW1]; exact ScAt.new w s
  have HSC := Lib.hid hsc
  have HALL := Lib.hid hsc.all
  have hall := Lib.hid (sizeS hs)
  have HM := Lib.hid (pmay_any s l o c W1 hs (h.below b1) (hme.below b1) hl)
  have HCN := Lib.hid (fun W (hW : Below W1.heap.size W1 W) => pcontains_any l m o c W (hme.below (bnext b1 hW)) hl)
  have HB1 := Lib.hid b1
  have HW1 := Lib.hid hW1
  have HWH : Hid (dealB s l = true → l.any (eqP m) = true → ∀ W, Below W1.heap.size W1 W → Calls Tryz.prog 21 #[.agg (scC s), .slice o l.length c, .int .i64 m] W (RetIDsP (ofZ s l m) W)) := Lib.hid (fun hd hm W hW => by
    unfold ofZ ofB
    rw [hd, hm]
    exact held_any s l o c m W hs (h.below (bnext b1 hW)) (hme.below (bnext b1 hW)) (by have := deal_many hd; omega) (mem_pos (deal_mem hd)) (by have := mem_many (deal_mem hd); omega))
  have HNO : Hid (ofB s l m = false → ofZ s l m = []) := Lib.hid (fun hd => by unfold ofZ; rw [hd]; rfl)
  clear b1 hsc hW1 hs h hme hl
  unfold ofB at HNO ⊢
  generalize l.length = n at HM HCN HWH ⊢
  generalize dealB s l = d at HM HWH HNO ⊢
  generalize l.any (eqP m) = q at HCN HWH HNO ⊢
  generalize ofZ s l m = z at HWH HNO ⊢
  go_enter Tryz.func7, Tryz.ntmps7
  cases d with
  | false =>
    obtain rfl := HNO.out (by simp)
    go_wp2_with (first | (rw [HW1.out]; refine wpList_load_mid rfl 28 (.tmp 3) rfl w.heap.size 0 rfl (scL s) _ HALL.out Tryz.underlying28 rfl hall.out ?_))
    refine HM.out.mono ?_
    rintro e w1 ⟨rfl, hb⟩
    have HB := Lib.hid (bnext HB1.out hb)
    clear hb HWH
    go_wp2_with fail
    go_ret2
    exact ⟨_, rfl, World.ownsRow_nil _ _ _ _, HB.out⟩
  | true =>
    go_wp2_with (first | (rw [HW1.out]; refine wpList_load_mid rfl 28 (.tmp 3) rfl w.heap.size 0 rfl (scL s) _ HALL.out Tryz.underlying28 rfl hall.out ?_))
    refine HM.out.mono ?_
    rintro e w1 ⟨rfl, hb⟩
    have HBW := Lib.hid hb
    have HC2 := Lib.hid (HCN.out _ hb)
    clear hb HCN
    go_wp2_with fail
    refine HC2.out.mono ?_
    rintro e w2 ⟨rfl, hb⟩
    have HB2 := Lib.hid (bnext HBW.out hb)
    clear hb
    cases q with
    | false =>
      obtain rfl := HNO.out (by simp)
      go_wp2_with fail
      go_ret2
      exact ⟨_, rfl, World.ownsRow_nil _ _ _ _, bnext HB1.out HB2.out⟩
    | true =>
      have HC := Lib.hid (HWH.out (by simp) (by simp) _ HB2.out)
      have HAL := Lib.hid (HSC.out.below HB2.out).all
      clear HWH HNO
      go_wp2_with (refine wpList_load_mid rfl 28 (.tmp 3) rfl w.heap.size 0 rfl (scL s) _ HAL.out Tryz.underlying28 rfl hall.out ?_)
      refine HC.out.mono ?_
      rintro e w3 ⟨v, rfl, ho, hb⟩
      have HO := Lib.hid ho
      have HB3 := Lib.hid (bnext (bnext HB1.out HB2.out) hb)
      have HSZ := Lib.hid ((bnext HB1.out HB2.out).size)
      clear ho hb
      go_wp2_with fail
      go_ret2
      exact ⟨_, rfl, HO.out.base HSZ.out, HB3.out⟩
/-- what asks whether an object's owner is another one -/
theorem moved_fn (s : ScR) (l : List Int) (o : Option Addr) (c A : Nat) (x y : Int) (W : World) (hs : ScWf s) (h : ObjsAt W s.oo s.os) (hme : IntsAt W o l) (hlen : s.os.length ≤ 1000) (hl0 : 0 < l.length) (hl : l.length ≤ 1000)
    (hsc : ScAt A s W) (hms : W.cell? ⟨A + 1, 0, none⟩ = some (.slice o l.length c)) :
    Calls Tryz.prog 24 #[.int .i64 x, .int .i64 y, .pointer (some ⟨A, 0, none⟩), .pointer (some ⟨A + 1, 0, none⟩)] W fun e w' => e = .returned (.bool (decide (y ≠ (whoseZ (sortedIds s.os) l x).getD 0))) ∧ Below W.heap.size W w' := by
  have HALL := Lib.hid hsc.all
  have hall := Lib.hid (sizeS hs)
  have HW := Lib.hid (pwhose_any s l o c x W hs h hme hlen hl0 hl)
  clear hs h hme hlen hl0 hl hsc
  generalize l.length = n at HW hms
  generalize whoseZ (sortedIds s.os) l x = z at HW ⊢
  go_enter Tryz.func24, Tryz.ntmps24
  go_wp2_with (first | (refine wpList_load_mid rfl 28 (.tmp 2) rfl A 0 rfl (scL s) _ HALL.out Tryz.underlying28 rfl hall.out ?_))
  refine HW.out.mono ?_
  rintro e w' ⟨rfl, hb⟩
  have HB := Lib.hid hb
  clear hb
  go_wp2_with fail
  go_ret
  exact ⟨by generalize z.getD 0 = r; by_cases e : y = r <;> simp [e], HB.out⟩
set_option maxRecDepth 100000 in
set_option maxHeartbeats 2000000 in
theorem pmoved_any (s : ScR) (a b : List Int) (oa ob : Option Addr) (ca cb : Nat) (w : World) (hs : ScWf s) (h : ObjsAt w s.oo s.os) (ha : IntsAt w oa a) (hb : IntsAt w ob b) (la : a.length ≤ 9223372036854775807) (lb : b.length ≤ 9223372036854775807) :
    Calls Tryz.prog 9 #[.agg (scC s), .slice oa a.length ca, .slice ob b.length cb] w (RetLE (moZ s a b) (errB (moB s a b)) w) := by
  obtain ⟨W1, hW1⟩ : ∃ W1, (w.alloc (.cells (scC s) 28)).alloc (.cells #[.slice oa a.length ca] 29) = W1 := ⟨_, rfl⟩
  have b1 : Below w.heap.size w W1 := by rw [← hW1]; exact ((Below.refl _ w).alloc (Nat.le_refl _) _).alloc (by simp) _
  have hsc : ScAt w.heap.size s W1 := by rw [← hW1]; exact step_row (ScAt.new w s)
  have hms : W1.heap[w.heap.size + 1]? = some (.cells #[.slice oa a.length ca] 29 (0, 0)) := by
    rw [← hW1]
    have := heap_alloc_new (w.alloc (.cells (scC s) 28)) (.cells #[.slice oa a.length ca] 29)
    rw [World.size_alloc] at this
    exact this
  have c1 : W1.cell? ⟨w.heap.size + 1, 0, none⟩ = some (.slice oa a.length ca) := by rw [cell_of_row _ _ _ _ _ _ hms]; rfl
  have HSC := Lib.hid hsc
  have HALL := Lib.hid hsc.all
  have hall := Lib.hid (sizeS hs)
  have HM := Lib.hid (pmay_any s a oa ca W1 hs (h.below b1) (ha.below b1) la)
  have HCN := Lib.hid (fun W (hW : Below W1.heap.size W1 W) => pmembers_any b ob cb W (hb.below (bnext b1 hW)) lb)
  have HB1 := Lib.hid b1
  have HW1 := Lib.hid hW1
  have HWH : Hid (dealB s a = true → memB b = true → ∀ W, Below W1.heap.size W1 W → Calls Tryz.prog 23 #[.agg (scC s), .slice ob b.length cb, .func (.func 24) #[] #[.pointer (some ⟨w.heap.size, 0, none⟩), .pointer (some ⟨w.heap.size + 1, 0, none⟩)]] W (RetIDsP (moZ s a b) W)) := Lib.hid (fun hd hm W hW => by
    unfold moZ moB
    rw [hd, hm]
    have h16 := deal_many hd
    exact chosen_any s b ob cb 24 #[.pointer (some ⟨w.heap.size, 0, none⟩), .pointer (some ⟨w.heap.size + 1, 0, none⟩)] (fun id o => decide (o ≠ (whoseZ (sortedIds s.os) a id).getD 0)) W (enters_of Tryz.func24 (by kernel_rfl) rfl) hs (h.below (bnext b1 hW)) (hb.below (bnext b1 hW)) (by omega) (mem_pos hm) (by have := mem_many hm; omega)
      (fun X x y hX => moved_fn s a oa ca w.heap.size x y X hs (h.below (bnext b1 (bnext hW hX))) (ha.below (bnext b1 (bnext hW hX))) (by omega) (mem_pos (deal_mem hd)) (by have := mem_many (deal_mem hd); omega) (hsc.below (bnext hW hX)) (by rw [cell_of_row _ _ _ _ _ _ (keep_row (bnext hW hX) hms)]; rfl)))
  have HNO : Hid (moB s a b = false → moZ s a b = []) := Lib.hid (fun hd => by unfold moZ; rw [hd]; rfl)
  clear b1 hsc hms hW1 hs h ha hb la lb
  unfold moB at HNO ⊢
  generalize a.length = n at HM HW1 c1 ⊢
  generalize b.length = m at HCN HWH ⊢
  generalize dealB s a = d at HM HWH HNO ⊢
  generalize memB b = q at HCN HWH HNO ⊢
  generalize moZ s a b = z at HWH HNO ⊢
  go_enter Tryz.func9, Tryz.ntmps9
  cases d with
  | false =>
    obtain rfl := HNO.out rfl
    go_wp2_with (first | (rw [HW1.out]; refine wpList_load_mid rfl 28 (.tmp 3) rfl w.heap.size 0 rfl (scL s) _ HALL.out Tryz.underlying28 rfl hall.out ?_))
    refine HM.out.mono ?_
    rintro e w1 ⟨rfl, hb⟩
    have HB := Lib.hid (bnext HB1.out hb)
    clear hb HWH
    go_wp2_with fail
    go_ret2
    exact ⟨_, rfl, World.ownsRow_nil _ _ _ _, HB.out⟩
  | true =>
    go_wp2_with (first | (rw [HW1.out]; refine wpList_load_mid rfl 28 (.tmp 3) rfl w.heap.size 0 rfl (scL s) _ HALL.out Tryz.underlying28 rfl hall.out ?_))
    refine HM.out.mono ?_
    rintro e w1 ⟨rfl, hb⟩
    have HBW := Lib.hid hb
    have HC2 := Lib.hid (HCN.out _ hb)
    clear hb HCN
    go_wp2_with fail
    refine HC2.out.mono ?_
    rintro e w2 ⟨rfl, hb⟩
    have HB2 := Lib.hid (bnext HBW.out hb)
    clear hb
    cases q with
    | false =>
      obtain rfl := HNO.out (by simp)
      go_wp2_with fail
      go_ret2
      exact ⟨_, rfl, World.ownsRow_nil _ _ _ _, bnext HB1.out HB2.out⟩
    | true =>
      have HC := Lib.hid (HWH.out (by simp) (by simp) _ HB2.out)
      have HAL := Lib.hid (HSC.out.below HB2.out).all
      clear HWH HNO
      go_wp2_with (refine wpList_load_mid rfl 28 (.tmp 3) rfl w.heap.size 0 rfl (scL s) _ HAL.out Tryz.underlying28 rfl hall.out ?_)
      refine HC.out.mono ?_
      rintro e w3 ⟨v, rfl, ho, hb⟩
      have HO := Lib.hid ho
      have HB3 := Lib.hid (bnext (bnext HB1.out HB2.out) hb)
      have HSZ := Lib.hid ((bnext HB1.out HB2.out).size)
      clear ho hb
      go_wp2_with fail
      go_ret2
      exact ⟨_, rfl, HO.out.base HSZ.out, HB3.out⟩
end Go.Proofs.YtildnadkfonlhaaGreat.Fx
namespace Go.Proofs.YtildnadkfonlhaaGreat.Fx
open Go Go.RowKit Go.Shelf
/-- a list of slices that a call made itself -/
def OwnV (W : World) (B : Nat) (v : Value) (vs : List Value) : Prop := W.ownsRow B 29 1 v vs.length vs
theorem OwnV.below {w W : World} {B : Nat} {v : Value} {l : List Value} (h : Below w.heap.size w W) (s : OwnV w B v l) : OwnV W B v l := by
  obtain ⟨h1, h2⟩ := s
  refine ⟨h1, ?_⟩
  rcases h2 with h2 | ⟨g, cap, cur, e, hb, hg, h3⟩
  · exact Or.inl h2
  · exact Or.inr ⟨g, cap, cur, e, hb, keep_row h hg, h3⟩
theorem OwnV.alloc {w : World} {B : Nat} {v : Value} {l : List Value} (s : OwnV w B v l) (o : Obj) : OwnV (w.alloc o) B v l := by
  obtain ⟨h1, h2⟩ := s
  refine ⟨h1, ?_⟩
  rcases h2 with h2 | ⟨g, cap, cur, e, hb, hg, h3⟩
  · exact Or.inl h2
  · exact Or.inr ⟨g, cap, cur, e, hb, step_row hg, h3⟩
theorem OwnV.blk {w : World} {B : Nat} {v : Value} {l : List Value} (s : OwnV w B v l) : ∀ k, v.ownBlock = some k → B ≤ k ∧ ∃ cur, w.heap[k]? = some (.cells cur 29 (0, 0)) := by
  intro k hk
  obtain ⟨h1, h2⟩ := s
  rcases h2 with ⟨rfl, _⟩ | ⟨g, cap, cur, rfl, hb, hg, _⟩
  · cases hk
  · cases hk
    exact ⟨hb, cur, hg⟩
theorem OwnV.base {w : World} {B C : Nat} {v : Value} {l : List Value} (hc : C ≤ B) (s : OwnV w B v l) : OwnV w C v l := by
  obtain ⟨h1, h2⟩ := s
  refine ⟨h1, ?_⟩
  rcases h2 with h2 | ⟨g, cap, cur, e, hb, hg, h3⟩
  · exact Or.inl h2
  · exact Or.inr ⟨g, cap, cur, e, Nat.le_trans hc hb, hg, h3⟩
theorem OwnV.form {W : World} {B : Nat} {v : Value} {l : List Value} (s : OwnV W B v l) : ∃ o cap, v = .slice o l.length cap ∧ (∀ i, i < l.length → ∃ b, o = some ⟨b, 0, none⟩ ∧ W.cell? ⟨b, i, none⟩ = some (l.getD i undef)) ∧ l.length ≤ maxLen := by
  obtain ⟨h1, h2⟩ := s
  rcases h2 with ⟨rfl, h0⟩ | ⟨g, cap, cur, rfl, hb, hg, hle, hm, hsz, htk⟩
  · exact ⟨none, 0, by rw [h0], fun i hi => by omega, by omega⟩
  · refine ⟨some ⟨g, 0, none⟩, cap, rfl, fun i hi => ⟨g, rfl, ?_⟩, Nat.le_trans hle hm⟩
    rw [cell_of_row _ _ _ _ _ _ hg]
    have h3 : l[i]? = some (l.getD i undef) := by
      rw [List.getD_eq_getElem?_getD, List.getElem?_eq_getElem hi]
      rfl
    rw [← htk, List.getElem?_take, if_pos (by omega)] at h3
    rw [htk] at h3
    simpa using h3
/-- a list of numbers stays where a list of slices grows -/
theorem OwnN.grown {W X : World} {B : Nat} {v : Value} {l : List Int} {row : Option Nat} (hg : W.grownBy X row) (hr : ∀ k, row = some k → ∃ cur, W.heap[k]? = some (.cells cur 29 (0, 0))) (s : OwnN W B v l) : OwnN X B v l := by
  obtain ⟨h1, h2⟩ := s
  refine ⟨h1, ?_⟩
  rcases h2 with h2 | ⟨g, cap, cur, e, hb, hh, h3⟩
  · exact Or.inl h2
  · refine Or.inr ⟨g, cap, cur, e, hb, ?_, h3⟩
    rw [hg.block g (Array.getElem?_eq_some_iff.1 hh).1 (fun e => by
      obtain ⟨cur2, h4⟩ := hr g e.symm
      rw [hh] at h4
      cases h4)]
    exact hh
/-- slices that are lists of numbers of one's own -/
def Lists (W : World) (B : Nat) (vs : List Value) (Ls : List (List Int)) : Prop := vs.length = Ls.length ∧ ∀ i, i < Ls.length → OwnN W B (vs.getD i undef) (Ls.getD i [])
theorem Lists.below {w W : World} {B : Nat} {vs : List Value} {Ls : List (List Int)} (h : Below w.heap.size w W) (s : Lists w B vs Ls) : Lists W B vs Ls := ⟨s.1, fun i hi => (s.2 i hi).below h⟩
theorem Lists.base {W : World} {B C : Nat} {vs : List Value} {Ls : List (List Int)} (h : C ≤ B) (s : Lists W B vs Ls) : Lists W C vs Ls := ⟨s.1, fun i hi => (s.2 i hi).base h⟩
theorem Lists.grown {W X : World} {B : Nat} {vs : List Value} {Ls : List (List Int)} {row : Option Nat} (hg : W.grownBy X row) (hr : ∀ k, row = some k → ∃ cur, W.heap[k]? = some (.cells cur 29 (0, 0))) (s : Lists W B vs Ls) : Lists X B vs Ls := ⟨s.1, fun i hi => (s.2 i hi).grown hg hr⟩
theorem Lists.snoc {W : World} {B : Nat} {vs : List Value} {Ls : List (List Int)} {v : Value} {L : List Int} (s : Lists W B vs Ls) (h : OwnN W B v L) : Lists W B (vs ++ [v]) (Ls ++ [L]) := by
  refine ⟨by simp [s.1], fun i hi => ?_⟩
  rw [List.length_append, List.length_singleton] at hi
  by_cases e : i < Ls.length
  · rw [List.getD_eq_getElem?_getD, List.getD_eq_getElem?_getD, List.getElem?_append_left (by rw [s.1]; exact e), List.getElem?_append_left e, ← List.getD_eq_getElem?_getD, ← List.getD_eq_getElem?_getD]
    exact s.2 i e
  · obtain rfl : i = Ls.length := by omega
    rw [List.getD_eq_getElem?_getD, List.getD_eq_getElem?_getD, List.getElem?_append_right (by rw [s.1]; exact Nat.le_refl _), List.getElem?_append_right (Nat.le_refl _), s.1]
    simpa using h
theorem infoV : (Tryz.prog.info? 29).map (fun i => (i.zero, i.size, i.bytes)) = some (some (.slice none 0 0), 1, 24) := by kernel_rfl
theorem app_sl {ops : Array Oper} {rest : List Oper} {o : Oper} {a : Act} {Q : Exit → Act → World → Prop} {W : World} (hgd : o.guard = none) (sx x : Operand)
    (ho : o.op = .call { callee := .builtin .append, args := #[sx, x], argTypes := #[42, 42] })
    (B : Nat) (v : Value) (L : List Value) (z : Value) (hs : a.eval sx = v) (hB : B ≤ W.heap.size) (hown : OwnV W B v L) (hL : L.length ≤ 100000) (hz1 : z.oneCell' = true) (c : Nat) (hx : a.eval x = .slice (some ⟨W.heap.size, 0, none⟩) 1 c)
    (h : ∀ v' X, OwnV X B v' (L ++ [z]) → (W.alloc (.cells #[z] 29)).grownBy X v.ownBlock → wpList Tryz.prog ops Q rest (a.put o.dst v') X) :
    wpList Tryz.prog ops Q (o :: rest) a (W.alloc (.cells #[z] 29)) := by
  obtain ⟨i0, hi, hz0, hz2, hz3⟩ := info_parts infoV
  refine wpList_append_own _ hgd sx x 42 ho B 29 i0 (.slice none 0 0) 1 24 Tryz.underlying42 hi hz0 hz2 hz3 rfl (by decide) v L.length L hs (hown.alloc _) ⟨W.heap.size, 0, none⟩ 1 c [z] hx rfl (cell_one_newN _ _ _) (by simpa using hz1) (by unfold maxLen; omega) (by omega) (by simp; omega) ?_
  intro v' w3 h1 h2 _
  exact h v' w3 (by unfold OwnV; rw [List.length_append]; exact h1) h2
def allZ (s : ScR) (l : List Int) : List (List Int) := if dealB s l = true then l.map (heldZ (sortedIds s.os) l) else []
def RetLL (Ls : List (List Int)) (er : Int) (w : World) (e : Ending) (w' : World) : Prop :=
  ∃ v vs, e = .returned (.tuple #[v, .int .i64 er]) ∧ OwnV w' w.heap.size v vs ∧ Lists w' w.heap.size vs Ls ∧ Below w.heap.size w w'
def AlRel (s : ScR) (l : List Int) (V : World) (n : Nat) (g : Nat) (s6 s8 s15 : Value) (W : World) : Prop :=
  ∃ (k : Nat) (vs : List Value), g = n - k ∧ s15 = .int .i64 (k : Int) ∧ k ≤ n ∧ vs.length = k ∧ Below V.heap.size V W ∧ OwnV W V.heap.size s6 vs ∧ Lists W V.heap.size vs ((l.take k).map (heldZ (sortedIds s.os) l))
set_option maxRecDepth 100000 in
set_option maxHeartbeats 2000000 in
theorem pall_any (s : ScR) (l : List Int) (o : Option Addr) (c : Nat) (w : World) (hs : ScWf s) (h : ObjsAt w s.oo s.os) (hme : IntsAt w o l) (hl : l.length ≤ 9223372036854775807) :
    Calls Tryz.prog 11 #[.agg (scC s), .slice o l.length c] w (RetLL (allZ s l) (errB (dealB s l)) w) := by
  obtain ⟨W1, hW1⟩ : ∃ W1, w.alloc (.cells (scC s) 28) = W1 := ⟨_, rfl⟩
  have b1 : Below w.heap.size w W1 := by rw [← hW1]; exact (Below.refl _ w).alloc (Nat.le_refl _) _
  have hsc : ScAt w.heap.size s W1 := by rw [← hW1]; exact ScAt.new w s
  have HSC := Lib.hid hsc
  have HALL := Lib.hid hsc.all
  have hall := Lib.hid (sizeS hs)
  have HM := Lib.hid (pmay_any s l o c W1 hs (h.below b1) (hme.below b1) hl)
  have HB1 := Lib.hid b1
  have HW1 := Lib.hid hW1
  have HWH : Hid (dealB s l = true → ∀ W x, Below W1.heap.size W1 W → Calls Tryz.prog 21 #[.agg (scC s), .slice o l.length c, .int .i64 x] W (RetIDsP (heldZ (sortedIds s.os) l x) W)) := Lib.hid (fun hd W x hW =>
    held_any s l o c x W hs (h.below (bnext b1 hW)) (hme.below (bnext b1 hW)) (by have := deal_many hd; omega) (mem_pos (deal_mem hd)) (by have := mem_many (deal_mem hd); omega))
  have HNO : Hid (dealB s l = false → allZ s l = []) := Lib.hid (fun hd => by unfold allZ; rw [hd]; rfl)
  have HYE : Hid (dealB s l = true → allZ s l = l.map (heldZ (sortedIds s.os) l) ∧ l.length ≤ 64) := Lib.hid (fun hd => ⟨by unfold allZ; rw [hd]; rfl, mem_many (deal_mem hd)⟩)
  have HME := Lib.hid (hme.below b1)
  clear b1 hsc hW1 hs h hme hl
  obtain ⟨n, hn⟩ : ∃ n, l.length = n := ⟨_, rfl⟩
  have HN := Lib.hid hn
  rw [hn] at HM HWH HYE ⊢
  clear hn
  generalize dealB s l = d at HM HWH HNO HYE ⊢
  generalize allZ s l = z at HNO HYE ⊢
  go_enter Tryz.func11, Tryz.ntmps11
  cases d with
  | false =>
    obtain rfl := HNO.out rfl
    go_wp2_with (first | (rw [HW1.out]; refine wpList_load_mid rfl 28 (.tmp 2) rfl w.heap.size 0 rfl (scL s) _ HALL.out Tryz.underlying28 rfl hall.out ?_))
    refine HM.out.mono ?_
    rintro e w1 ⟨rfl, hb⟩
    have HB := Lib.hid (bnext HB1.out hb)
    clear hb HWH HYE
    go_wp2_with fail
    go_ret2
    exact ⟨_, [], rfl, World.ownsRow_nil _ _ _ _, ⟨rfl, fun i hi => absurd hi (by simp)⟩, HB.out⟩
  | true =>
    obtain ⟨hz, h64⟩ := HYE.out rfl
    subst hz
    have HHE := Lib.hid (HWH.out rfl)
    have n0 : (0 : Int) ≤ (n : Int) := by omega
    have n1 : (n : Int) ≤ 64 := by omega
    clear HWH HYE HNO h64
    go_wp2_with (first | (rw [HW1.out]; refine wpList_load_mid rfl 28 (.tmp 2) rfl w.heap.size 0 rfl (scL s) _ HALL.out Tryz.underlying28 rfl hall.out ?_))
    refine HM.out.mono ?_
    rintro e V ⟨rfl, hb⟩
    have HBV := Lib.hid hb
    clear hb HM
    go_wp2_with fail
    go_loopg [6, 8, 15] n (AlRel s l V n)
    case atStart => exact ⟨0, [], rfl, rfl, by omega, rfl, Below.refl _ _, World.ownsRow_nil _ _ _ _, ⟨rfl, fun i hi => absurd hi (by simp)⟩⟩
    case round =>
      obtain ⟨k, vs, hg, rfl, hk, hvl, hbl, hov, hls⟩ := hrel
      subst hg
      have HB := Lib.hid hbl
      have HOV := Lib.hid hov
      have HLS := Lib.hid hls
      have HVL := Lib.hid hvl
      have k0 : (0 : Int) ≤ (k : Int) := by omega
      clear hov hls
      by_cases hkn : k < n
      · have t1 : (k : Int) < (n : Int) := by omega
        obtain ⟨b, off, e, hr⟩ := (HME.out.below (bnext HBV.out hbl)) k (by rw [HN.out]; exact hkn)
        subst e
        have HTK : Hid ((l.take (k + 1)).map (heldZ (sortedIds s.os) l) = (l.take k).map (heldZ (sortedIds s.os) l) ++ [heldZ (sortedIds s.os) l (l.getD k 0)]) := Lib.hid (by
          rw [take_snoc (by rw [HN.out]; exact hkn), List.map_append]
          rfl)
        have HC := Lib.hid (HHE.out wr (l.getD k 0) (bnext HBV.out hbl))
        have HAL := Lib.hid (HSC.out.below (bnext HBV.out hbl)).all
        generalize l.getD k 0 = x at hr HC HTK
        generalize heldZ (sortedIds s.os) l x = L at HC HTK
        clear hbl hvl
        go_wp2_with (refine wpList_load_mid rfl 28 (.tmp 2) rfl w.heap.size 0 rfl (scL s) _ HAL.out Tryz.underlying28 rfl hall.out ?_)
        refine HC.out.mono ?_
        rintro e w2 ⟨v, rfl, ho, hb⟩
        obtain ⟨o2, c2, rfl, _, _⟩ := ho.form
        have HO := Lib.hid ho
        have HBX := Lib.hid hb
        have HV2 := Lib.hid (HOV.out.below hb)
        have HSZ : Hid (V.heap.size ≤ wr.heap.size ∧ V.heap.size ≤ w2.heap.size) := Lib.hid ⟨HB.out.size, (bnext HB.out hb).size⟩
        generalize L.length = m at HO ⊢
        clear ho hb
        go_wp2_with (at_builtin; refine app_sl rfl _ _ rfl V.heap.size u6 vs (.slice o2 m c2) rfl HSZ.out.2 HV2.out (by have := HVL.out; omega) rfl 1 rfl ?_; intro v5 w5 ho5 hg5)
        have HO5 := Lib.hid ho5
        have HA2 : Hid (Below w2.heap.size w2 (w2.alloc (.cells #[.slice o2 m c2] 29))) := Lib.hid ((Below.refl _ w2).alloc (Nat.le_refl _) _)
        have HG5 := Lib.hid hg5
        have HBLK : Hid (∀ k, u6.ownBlock = some k → V.heap.size ≤ k ∧ ∃ cur, (w2.alloc (.cells #[.slice o2 m c2] 29)).heap[k]? = some (.cells cur 29 (0, 0))) := Lib.hid (HV2.out.below HA2.out).blk
        have HLN : Hid (Lists w5 V.heap.size (vs ++ [.slice o2 m c2]) ((l.take (k + 1)).map (heldZ (sortedIds s.os) l))) := Lib.hid (by
          rw [HTK.out]
          exact (((HLS.out.below HBX.out).snoc (HO.out.base HSZ.out.1)).below HA2.out).grown HG5.out (fun k hk => (HBLK.out k hk).2))
        have HB5 : Hid (Below V.heap.size V w5) := Lib.hid (below_grown2 (Nat.le_refl _) (bnext (bnext HB.out HBX.out) HA2.out) HG5.out (fun k hk => (HBLK.out k hk).1))
        clear ho5 hg5
        go_roundg (n - (k + 1))
        case measure => omega
        case rel => exact ⟨k + 1, _, rfl, by go_num, by omega, by rw [List.length_append, HVL.out]; rfl, HB5.out, HO5.out, HLN.out⟩
      · obtain rfl : k = n := by omega
        have t1 : ¬ (k : Int) < (k : Int) := by omega
        have HE : Hid ((l.take k).map (heldZ (sortedIds s.os) l) = l.map (heldZ (sortedIds s.os) l)) := Lib.hid (by rw [List.take_of_length_le (by rw [HN.out]; omega)])
        have HSZ : Hid (w.heap.size ≤ V.heap.size) := Lib.hid (bnext HB1.out HBV.out).size
        clear hbl hvl
        go_wp2_with fail
        go_ret2
        exact ⟨_, vs, rfl, HOV.out.base HSZ.out, by rw [← HE.out]; exact HLS.out.base HSZ.out, bnext (bnext HB1.out HBV.out) HB.out⟩
def mostN (Ls : List (List Int)) : Nat := Ls.foldl (fun m x => max m x.length) 0
theorem most_snoc (Ls : List (List Int)) (x : List Int) : mostN (Ls ++ [x]) = max (mostN Ls) x.length := by
  unfold mostN
  rw [List.foldl_append]
  rfl
def MoRel (Ls : List (List Int)) (V : World) (n : Nat) (g : Nat) (s5 s9 s18 : Value) (W : World) : Prop :=
  ∃ (k m : Nat), g = n - k ∧ s18 = .int .i64 (k : Int) ∧ k ≤ n ∧ s5 = .int .i64 (m : Int) ∧ m = mostN (Ls.take k) ∧ Below V.heap.size V W
set_option maxRecDepth 100000 in
set_option maxHeartbeats 2000000 in
theorem pmost_any (s : ScR) (l : List Int) (o : Option Addr) (c : Nat) (w : World) (hs : ScWf s) (h : ObjsAt w s.oo s.os) (hme : IntsAt w o l) (hl : l.length ≤ 9223372036854775807) :
    Calls Tryz.prog 16 #[.agg (scC s), .slice o l.length c] w fun e w' => e = .returned (.int .i64 (mostN (allZ s l) : Int)) ∧ Below w.heap.size w w' := by
  obtain ⟨W1, hW1⟩ : ∃ W1, w.alloc (.cells (scC s) 28) = W1 := ⟨_, rfl⟩
  have b1 : Below w.heap.size w W1 := by rw [← hW1]; exact (Below.refl _ w).alloc (Nat.le_refl _) _
  have hsc : ScAt w.heap.size s W1 := by rw [← hW1]; exact ScAt.new w s
  have HALL := Lib.hid hsc.all
  have hall := Lib.hid (sizeS hs)
  have HM := Lib.hid (pall_any s l o c W1 hs (h.below b1) (hme.below b1) hl)
  have HB1 := Lib.hid b1
  have HW1 := Lib.hid hW1
  clear b1 hsc hW1 hs h hme hl
  generalize l.length = q at HM ⊢
  generalize errB (dealB s l) = er at HM
  generalize allZ s l = Ls at HM ⊢
  go_enter Tryz.func16, Tryz.ntmps16
  go_wp2_with (first | (rw [HW1.out]; refine wpList_load_mid rfl 28 (.tmp 2) rfl w.heap.size 0 rfl (scL s) _ HALL.out Tryz.underlying28 rfl hall.out ?_))
  refine HM.out.mono ?_
  rintro e V ⟨v, vs, rfl, hov, hls, hb⟩
  obtain ⟨o2, c2, rfl, hat, hml⟩ := hov.form
  obtain ⟨n, hn⟩ : ∃ n, vs.length = n := ⟨_, rfl⟩
  have HLN : Hid (Ls.length = n) := Lib.hid (by rw [← hls.1, hn])
  have HBV := Lib.hid hb
  have HLS := Lib.hid hls
  have HAT := Lib.hid hat
  have HVN := Lib.hid hn
  unfold maxLen at hml
  rw [hn] at hml ⊢
  have n0 : (0 : Int) ≤ (n : Int) := by omega
  have n1 : (n : Int) ≤ 9223372036854775807 := by omega
  clear hov hls hb hn hat hml HM
  go_wp2_with fail
  go_loopg [5, 9, 18] n (MoRel Ls V n)
  case atStart => exact ⟨0, 0, rfl, rfl, by omega, rfl, rfl, Below.refl _ _⟩
  case round =>
    obtain ⟨k, m, hg, rfl, hk, rfl, hm, hbl⟩ := hrel
    subst hg
    have HB := Lib.hid hbl
    have HM := Lib.hid hm
    have k0 : (0 : Int) ≤ (k : Int) := by omega
    clear hm
    by_cases hkn : k < n
    · have t1 : (k : Int) < (n : Int) := by omega
      obtain ⟨b, e, hr⟩ := HAT.out k (by rw [HVN.out]; exact hkn)
      subst e
      obtain ⟨o3, c3, e3, _, hm3⟩ := (HLS.out.2 k (by rw [HLN.out]; exact hkn)).form
      have hr2 := keep_cell hbl hr
      rw [e3] at hr2
      have HTK : Hid (mostN (Ls.take (k + 1)) = max m (Ls.getD k []).length) := Lib.hid (by
        rw [HM.out, ← most_snoc]
        congr 1
        rw [List.take_add_one, List.getD_eq_getElem?_getD, List.getElem?_eq_getElem (by rw [HLN.out]; exact hkn)]
        rfl)
      generalize (Ls.getD k []).length = x at hr2 HTK hm3
      unfold maxLen at hm3
      have x0 : (0 : Int) ≤ (x : Int) := by omega
      have m0 : (0 : Int) ≤ (m : Int) := by omega
      clear hbl hr e3 hm3
      go_wp2_with fail
      go_roundg (n - (k + 1))
      case measure => omega
      case rel => exact ⟨k + 1, max m x, rfl, by go_num, by omega, by congr 1; omega, HTK.out.symm, HB.out⟩
    · obtain rfl : k = n := by omega
      have t1 : ¬ (k : Int) < (k : Int) := by omega
      have HE : Hid (m = mostN Ls) := Lib.hid (by rw [HM.out, List.take_of_length_le (by rw [HLN.out]; omega)])
      clear hbl
      go_wp2_with fail
      go_ret
      exact ⟨by rw [← HE.out]; rfl, bnext (bnext HB1.out HBV.out) HB.out⟩
end Go.Proofs.YtildnadkfonlhaaGreat.Fx
namespace Go.Proofs.YtildnadkfonlhaaGreat.Fx
open Go Go.RowKit Go.Shelf
theorem mem_go {l : List Int} {k : Nat} (h : memU l k = true) (h1 : 0 ≤ l.getD k 0) (h2 : l.getD k 0 ≤ 63) (h3 : 0 < k → l.getD (k - 1) 0 < l.getD k 0) : memU l (k + 1) = true := by
  rw [memU_step, h, Bool.true_and]
  exact decide_eq_true ⟨h1, h2, h3⟩
theorem mem_no {l : List Int} {k : Nat} (hk : k < l.length) (h : l.getD k 0 < 0 ∨ 63 < l.getD k 0 ∨ (0 < k ∧ l.getD k 0 ≤ l.getD (k - 1) 0)) : memB l = false := by
  refine memU_bad hk (decide_eq_false fun ⟨a, b, c⟩ => ?_)
  rcases h with h | h | ⟨h0, h⟩
  · omega
  · omega
  · have := c h0
    omega
def ZmRel (l : List Int) (w : World) (n g : Nat) (s3 : Value) (W : World) : Prop := ∃ k : Nat, g = n - k ∧ s3 = .int .i64 (k : Int) ∧ k ≤ n ∧ Below w.heap.size w W ∧ memU l k = true
set_option maxRecDepth 100000 in
set_option maxHeartbeats 4000000 in
theorem zmembers_any (l : List Int) (o : Option Addr) (c : Nat) (w : World) (h : IntsAt w o l) (hl : l.length ≤ 9223372036854775807) :
    Calls Tryz.prog 12 #[.slice o l.length c] w (RetBool (memB l) w) := by
  obtain ⟨n, hn⟩ : ∃ n, l.length = n := ⟨_, rfl⟩
  have HN := Lib.hid hn
  have HL := Lib.hid h
  rw [hn] at hl ⊢
  have n0 : (0 : Int) ≤ (n : Int) := by omega
  have n1 : (n : Int) ≤ 9223372036854775807 := by omega
  clear hn h hl
  by_cases hz : n = 0
  · subst hz
    have HR : Hid (memB l = false) := Lib.hid (by unfold memB; rw [HN.out]; rfl)
    go_enter Tryz.func12, Tryz.ntmps12
    go_wp2_with fail
    go_ret
    exact ⟨by rw [HR.out]; rfl, Below.refl _ _⟩
  have hnz : ((n : Int) == 0) = false := by rw [beq_eq_false_iff_ne]; omega
  go_enter Tryz.func12, Tryz.ntmps12
  go_wp2_with fail
  go_loopg [3] n (ZmRel l w n)
  case atStart => exact ⟨0, rfl, rfl, by omega, Below.refl _ _, rfl⟩
  case round =>
    obtain ⟨k, hg, rfl, hk, hbl, ha⟩ := hrel
    subst hg
    have HB := Lib.hid hbl
    have HA := Lib.hid ha
    clear ha
    have k0 : (0 : Int) ≤ (k : Int) := by omega
    by_cases hkn : k < n
    · have t1 : (k : Int) < (n : Int) := by omega
      obtain ⟨b, off, e, hr⟩ := (HL.out.below hbl) k (by rw [HN.out]; exact hkn)
      subst e
      have HNO : Hid (l.getD k 0 < 0 ∨ 63 < l.getD k 0 ∨ (0 < k ∧ l.getD k 0 ≤ l.getD (k - 1) 0) → memB l = false) := Lib.hid (mem_no (by rw [HN.out]; exact hkn))
      have HGO : Hid (0 ≤ l.getD k 0 → l.getD k 0 ≤ 63 → (0 < k → l.getD (k - 1) 0 < l.getD k 0) → memU l (k + 1) = true) := Lib.hid (mem_go HA.out)
      by_cases hk1 : 0 < k
      · obtain ⟨j, rfl⟩ : ∃ j, k = j + 1 := ⟨k - 1, by omega⟩
        obtain ⟨b2, off2, e2, hr2⟩ := (HL.out.below hbl) j (by rw [HN.out]; omega)
        cases e2
        rw [Nat.add_sub_cancel] at HNO HGO
        have t4 : (0 : Int) < ((j + 1 : Nat) : Int) := by omega
        have j0 : (0 : Int) ≤ (j : Int) := by omega
        have j1 : (j : Int) < (n : Int) := by omega
        have j2 : ((j + 1 : Nat) : Int) - 1 = (j : Int) := by omega
        generalize l.getD (j + 1) 0 = x at hr HNO HGO
        generalize l.getD j 0 = y at hr2 HNO HGO
        clear hbl
        by_cases h1 : x < 0
        · have HR := Lib.hid (HNO.out (.inl h1))
          have d1 : decide (x < 0) = true := decide_eq_true h1
          clear HNO HGO
          go_wp2_with fail
          go_quiet (fail)
          go_wp2_with fail
          go_ret
          exact ⟨by rw [HR.out]; rfl, bdrewN _ HB.out⟩
        · have d1 : decide (x < 0) = false := decide_eq_false h1
          by_cases h2 : 63 < x
          · have HR := Lib.hid (HNO.out (.inr (.inl h2)))
            have d2 : decide (63 < x) = true := decide_eq_true h2
            clear HNO HGO
            go_wp2_with fail
            go_quiet (fail)
            go_wp2_with fail
            go_ret
            exact ⟨by rw [HR.out]; rfl, bdrewN _ HB.out⟩
          · have d2 : decide (63 < x) = false := decide_eq_false h2
            have d4 : decide ((0 : Int) < ((j + 1 : Nat) : Int)) = true := decide_eq_true t4
            by_cases h3 : x ≤ y
            · have HR := Lib.hid (HNO.out (.inr (.inr ⟨hk1, h3⟩)))
              have d3 : decide (x ≤ y) = true := decide_eq_true h3
              clear HNO HGO
              go_wp2_with fail
              go_quiet (fail)
              go_wp2_with fail
              go_ret
              exact ⟨by rw [HR.out]; rfl, bdrewN _ HB.out⟩
            · have HG := Lib.hid (HGO.out (by omega) (by omega) (fun _ => by omega))
              have d3 : decide (x ≤ y) = false := decide_eq_false h3
              clear HNO HGO
              go_wp2_with fail
              go_quiet (fail)
              go_wp2_with fail
              go_roundg (n - (j + 1 + 1))
              case measure => omega
              case rel => exact ⟨j + 1 + 1, rfl, by go_num, by omega, bdrewN _ HB.out, HG.out⟩
      · have HGO2 : Hid (0 ≤ l.getD k 0 → l.getD k 0 ≤ 63 → memU l (k + 1) = true) := Lib.hid (fun h1 h2 => HGO.out h1 h2 (fun h => absurd h (by omega)))
        have HNO2 : Hid (l.getD k 0 < 0 ∨ 63 < l.getD k 0 → memB l = false) := Lib.hid (fun h => HNO.out (h.imp id .inl))
        generalize l.getD k 0 = x at hr HGO2 HNO2
        have t4 : ¬ (0 : Int) < (k : Int) := by omega
        have d4 : decide ((0 : Int) < (k : Int)) = false := decide_eq_false t4
        have d5 : decide (0 < k) = false := decide_eq_false hk1
        clear hbl HNO HGO hk1 t4
        by_cases h1 : x < 0
        · have HR := Lib.hid (HNO2.out (.inl h1))
          have d1 : decide (x < 0) = true := decide_eq_true h1
          clear HNO2 HGO2
          go_wp2_with fail
          go_quiet (fail)
          go_wp2_with fail
          go_ret
          exact ⟨by rw [HR.out]; rfl, bdrewN _ HB.out⟩
        · have d1 : decide (x < 0) = false := decide_eq_false h1
          by_cases h2 : 63 < x
          · have HR := Lib.hid (HNO2.out (.inr h2))
            have d2 : decide (63 < x) = true := decide_eq_true h2
            clear HNO2 HGO2
            go_wp2_with fail
            go_quiet (fail)
            go_wp2_with fail
            go_ret
            exact ⟨by rw [HR.out]; rfl, bdrewN _ HB.out⟩
          · have d2 : decide (63 < x) = false := decide_eq_false h2
            have HG := Lib.hid (HGO2.out (by omega) (by omega))
            clear HNO2 HGO2
            go_wp2_with fail
            go_quiet (fail)
            go_wp2_with fail
            go_roundg (n - (k + 1))
            case measure => omega
            case rel => exact ⟨k + 1, rfl, by go_num, by omega, bdrewN _ HB.out, HG.out⟩
    · obtain rfl : k = n := by omega
      have t1 : ¬ (k : Int) < (k : Int) := by omega
      have HR : Hid (memB l = true) := Lib.hid (memB_full (by rw [HN.out]; omega) (by rw [HN.out]; exact HA.out))
      clear hbl
      go_wp2_with fail
      go_ret
      exact ⟨by rw [HR.out]; rfl, HB.out⟩
end Go.Proofs.YtildnadkfonlhaaGreat.Fx
namespace Go.Proofs.YtildnadkfonlhaaGreat.Fx
open Go Go.RowKit Go.Shelf
def rankZ (l : List ObjR) (id : Int) : Nat := (l.filter fun x => decide (x.id < id)).length
theorem rank_yes {l : List ObjR} {id : Int} {k : Nat} {x : ObjR} (hx : l[k]? = some x) (h : x.id < id) : rankZ (l.take (k + 1)) id = rankZ (l.take k) id + 1 := by
  unfold rankZ
  rw [List.take_add_one, hx, List.filter_append, List.length_append]
  simp [h]
theorem rank_no {l : List ObjR} {id : Int} {k : Nat} {x : ObjR} (hx : l[k]? = some x) (h : ¬ x.id < id) : rankZ (l.take (k + 1)) id = rankZ (l.take k) id := by
  unfold rankZ
  rw [List.take_add_one, hx, List.filter_append, List.length_append]
  simp [h]
theorem rank_le (l : List ObjR) (id : Int) : rankZ l id ≤ l.length := List.length_filter_le _ _
theorem rise_sorted {l : List ObjR} (h : (rawIds l).Nodup) : Rise (sortedIds l) := by
  have h1 := sort_rises (rawIds l)
  have h2 : (sortedIds l).Nodup := (List.mergeSort_perm (rawIds l) _).nodup_iff.2 h
  unfold Rise
  unfold sortedIds at h2 ⊢
  exact (List.pairwise_iff_getElem.2 fun i j hi hj hij => by
    have a := of_decide_eq_true (List.pairwise_iff_getElem.1 h1 i j hi hj hij)
    have b := List.pairwise_iff_getElem.1 h2 i j hi hj hij
    omega)
theorem count_lt {ids : List Int} (h : Rise ids) {k : Nat} (hk : k < ids.length) : (ids.filter fun y => decide (y < ids.getD k 0)).length = k := by
  have e : (ids.take k ++ ids.drop k).filter (fun y => decide (y < ids.getD k 0)) = ids.take k := by
    rw [List.filter_append]
    have e1 : (ids.take k).filter (fun y => decide (y < ids.getD k 0)) = ids.take k := by
      rw [List.filter_eq_self]
      intro x hx
      obtain ⟨i, hi, e⟩ := List.mem_iff_getElem.1 hx
      rw [List.length_take] at hi
      rw [List.getElem_take] at e
      have := h.lt (show i < k by omega) hk
      rw [List.getD_eq_getElem?_getD, List.getElem?_eq_getElem (show i < ids.length by omega)] at this
      refine decide_eq_true ?_
      rw [← e]
      exact this
    have e2 : (ids.drop k).filter (fun y => decide (y < ids.getD k 0)) = [] := by
      rw [List.filter_eq_nil_iff]
      intro x hx hc
      obtain ⟨i, hi, e⟩ := List.mem_iff_getElem.1 hx
      rw [List.length_drop] at hi
      rw [List.getElem_drop] at e
      have hc' := of_decide_eq_true hc
      have hx2 : ids.getD (k + i) 0 = x := by rw [List.getD_eq_getElem?_getD, List.getElem?_eq_getElem (by omega)]; exact e
      by_cases h0 : i = 0
      · subst h0
        rw [Nat.add_zero] at hx2
        omega
      · have := h.lt (show k < k + i by omega) (by omega)
        omega
    rw [e1, e2, List.append_nil]
  rw [List.take_append_drop] at e
  rw [e, List.length_take]
  omega
theorem raw_filter (l : List ObjR) (id : Int) : rankZ l id = ((rawIds l).filter fun y => decide (y < id)).length := by
  unfold rankZ rawIds
  rw [List.filter_map, List.length_map]
  rfl
theorem ok_rise {s : ScR} (h : okZ s = true) : Rise (sortedIds s.os) := rise_sorted (ok_iff.1 h).apart
theorem mem_sorted {l : List ObjR} {x : Int} : x ∈ sortedIds l ↔ x ∈ rawIds l := (List.mergeSort_perm (rawIds l) _).mem_iff
/-- the rank of an ID is its place among the sorted ones -/
theorem own_rank {s : ScR} {l : List Int} {id : Int} (h : okZ s = true) (hf : (findZ s.os id).isSome = true) : whoseZ (sortedIds s.os) l id = some (ownK l (rankZ s.os id)) := by
  have hm : id ∈ sortedIds s.os := by
    rw [mem_sorted]
    unfold findZ at hf
    obtain ⟨x, h1, h2⟩ := List.findIdx?_isSome.symm.trans hf |> List.any_eq_true.1
    unfold rawIds
    rw [List.mem_map]
    exact ⟨x, h1, of_decide_eq_true h2⟩
  obtain ⟨k, hk, e⟩ := List.mem_iff_getElem.1 hm
  have e2 : (sortedIds s.os).getD k 0 = id := by rw [List.getD_eq_getElem?_getD, List.getElem?_eq_getElem hk]; exact e
  have hr : rankZ s.os id = k := by
    rw [raw_filter, ← e2]
    refine Eq.trans ?_ (count_lt (ok_rise h) hk)
    exact ((List.mergeSort_perm (rawIds s.os) _).symm.filter _).length_eq
  rw [hr, ← e2]
  exact whose_at (ok_rise h) hk
theorem own_none {s : ScR} {l : List Int} {id : Int} (hf : findZ s.os id = none) : whoseZ (sortedIds s.os) l id = none := by
  unfold whoseZ
  have : (sortedIds s.os).findIdx? (fun x => decide (x = id)) = none := by
    rw [List.findIdx?_eq_none_iff]
    intro x hx
    rw [mem_sorted] at hx
    unfold findZ at hf
    rw [List.findIdx?_eq_none_iff] at hf
    unfold rawIds at hx
    obtain ⟨y, hy, rfl⟩ := List.mem_map.1 hx
    exact hf y hy
  rw [this]
  rfl
theorem own_doc (s : ScR) (l : List Int) (id : Int) : ownZ s l id = if (memB l && okZ s && (findZ s.os id).isSome) = true then some (ownK l (rankZ s.os id)) else none := by
  unfold ownZ dealB
  by_cases h1 : (memB l && okZ s) = true
  · rw [if_pos h1, h1, Bool.true_and]
    rw [Bool.and_eq_true] at h1
    cases hf : findZ s.os id with
    | none => rw [own_none hf]; rfl
    | some k => rw [own_rank h1.2 (by rw [hf]; rfl)]; rfl
  · rw [if_neg h1, if_neg]
    intro h
    rw [Bool.and_eq_true] at h
    exact h1 h.1
def ZoRel (s : ScR) (id : Int) (V : World) (n : Nat) (g : Nat) (s12 s13 : Value) (W : World) : Prop :=
  ∃ k r : Nat, g = n - k ∧ s13 = .int .i64 (k : Int) ∧ k ≤ n ∧ s12 = .int .i64 (r : Int) ∧ r ≤ k ∧ r = rankZ (s.os.take k) id ∧ Below V.heap.size V W
set_option maxRecDepth 100000 in
set_option maxHeartbeats 4000000 in
theorem zowner_any (s : ScR) (l : List Int) (o : Option Addr) (c : Nat) (id : Int) (w : World) (hs : ScWf s) (h : ObjsAt w s.oo s.os) (hme : IntsAt w o l) (hl : l.length ≤ 9223372036854775807) :
    Calls Tryz.prog 6 #[.agg (scC s), .slice o l.length c, .int .i64 id] w (RetNE ((ownZ s l id).getD 0) (errB (ownZ s l id).isSome) w) := by
  obtain ⟨W1, hW1⟩ : ∃ W1, w.alloc (.cells (scC s) 28) = W1 := ⟨_, rfl⟩
  have b1 : Below w.heap.size w W1 := by rw [← hW1]; exact (Below.refl _ w).alloc (Nat.le_refl _) _
  have hsc : ScAt w.heap.size s W1 := by rw [← hW1]; exact ScAt.new w s
  have HSC := Lib.hid hsc
  have hall := Lib.hid (sizeS hs)
  have HM := Lib.hid (zmembers_any l o c W1 (hme.below b1) hl)
  have HC := Lib.hid (fun W (hW : Below W1.heap.size W1 W) => zcheck_any s W hs (h.below (bnext b1 hW)))
  have HF := Lib.hid (fun W (hW : Below W1.heap.size W1 W) => zfind_any s id W hs (h.below (bnext b1 hW)))
  have HB1 := Lib.hid b1
  have HW1 := Lib.hid hW1
  have HS := Lib.hid hs
  have HO := Lib.hid (h.below b1)
  have HME := Lib.hid (hme.below b1)
  have HD := Lib.hid (own_doc s l id)
  have H16 : Hid (okZ s = true → s.os.length ≤ 16) := Lib.hid (fun hk => (ok_iff.1 hk).many)
  have H64 : Hid (memB l = true → 0 < l.length ∧ l.length ≤ 64) := Lib.hid (fun hk => ⟨mem_pos hk, mem_many hk⟩)
  clear b1 hsc hW1 hs h hme hl
  obtain ⟨q, hq⟩ : ∃ q, l.length = q := ⟨_, rfl⟩
  have HQ := Lib.hid hq
  rw [hq] at HM H64 ⊢
  generalize memB l = d at HM HD H64
  generalize okZ s = ok at HC HD H16
  generalize findZ s.os id = r at HF HD
  obtain ⟨er, her⟩ : ∃ er : Int, (if ok = true then (0 : Int) else 60) = er := ⟨_, rfl⟩
  have HER := Lib.hid her
  rw [her] at HC
  clear hq her
  go_enter Tryz.func6, Tryz.ntmps6
  go_wp2_with (rw [HW1.out])
  refine HM.out.mono ?_
  rintro e w1 ⟨rfl, hb⟩
  have B1 := Lib.hid hb
  have A1 := Lib.hid (HSC.out.below hb).all
  have C1 := Lib.hid (HC.out _ hb)
  clear hb HM HC
  go_wp2_with (refine wpList_load_mid rfl 28 (.tmp 3) rfl w.heap.size 0 rfl (scL s) _ A1.out Tryz.underlying28 rfl hall.out ?_)
  refine C1.out.mono ?_
  rintro e w2 ⟨rfl, hb⟩
  have B2 := Lib.hid (bnext B1.out hb)
  have A2 := Lib.hid (HSC.out.below B2.out).all
  have F2 := Lib.hid (HF.out _ B2.out)
  clear hb HF C1 A1 B1
  go_wp2_with (refine wpList_load_mid rfl 28 (.tmp 3) rfl w.heap.size 0 rfl (scL s) _ A2.out Tryz.underlying28 rfl hall.out ?_)
  refine F2.out.mono ?_
  rintro e w3 ⟨rfl, hb⟩
  have B3 := Lib.hid (bnext B2.out hb)
  have B0 := Lib.hid (bnext HB1.out B3.out)
  clear hb F2 A2 B2
  cases d with
  | false =>
    have HR : Hid (ownZ s l id = none) := Lib.hid HD.out
    clear HD
    go_wp2_with fail
    go_ret2
    exact ⟨by rw [HR.out]; rfl, B0.out⟩
  | true =>
    cases ok with
    | false =>
      obtain rfl : er = 60 := HER.out.symm
      have HR : Hid (ownZ s l id = none) := Lib.hid HD.out
      clear HD
      go_wp2_with fail
      go_ret2
      exact ⟨by rw [HR.out]; rfl, B0.out⟩
    | true =>
      obtain rfl : er = 0 := HER.out.symm
      cases r with
      | none =>
        have HR : Hid (ownZ s l id = none) := Lib.hid HD.out
        clear HD
        go_wp2_with fail
        go_ret2
        exact ⟨by rw [HR.out]; rfl, B0.out⟩
      | some r =>
        have HR : Hid (ownZ s l id = some (ownK l (rankZ s.os id))) := Lib.hid HD.out
        obtain ⟨hq0, hq64⟩ := H64.out (by simp)
        have h16 := H16.out (by simp)
        obtain ⟨n, hn⟩ : ∃ n, s.os.length = n := ⟨_, rfl⟩
        have HN := Lib.hid hn
        rw [hn] at h16
        have n0 : (0 : Int) ≤ (n : Int) := by omega
        have n1 : (n : Int) ≤ 16 := by omega
        have q0 : (0 : Int) ≤ (q : Int) := by omega
        have q1 : (q : Int) ≤ 64 := by omega
        have q2 : ¬ q = 0 := by omega
        clear HD H64 H16 hn h16 hq64
        go_wp2_with fail
        go_loopg [12, 13] n (ZoRel s id w3 n)
        case atStart => exact ⟨0, 0, rfl, rfl, by omega, rfl, by omega, rfl, Below.refl _ _⟩
        case round =>
          obtain ⟨k, m, hg, rfl, hk, rfl, hmk, hm, hbl⟩ := hrel
          subst hg
          have HB := Lib.hid hbl
          have HMK := Lib.hid hm
          have k0 : (0 : Int) ≤ (k : Int) := by omega
          have m0 : (0 : Int) ≤ (m : Int) := by omega
          have m1 : (m : Int) ≤ 16 := by omega
          have c18 := (HSC.out.below (bnext B3.out hbl)).c18 HS.out
          rw [HN.out] at c18
          clear hm
          by_cases hkn : k < n
          · have t1 : (k : Int) < (n : Int) := by omega
            obtain ⟨x, hx⟩ : ∃ x, s.os[k]? = some x := ⟨_, List.getElem?_eq_getElem (by rw [HN.out]; exact hkn)⟩
            obtain ⟨b, off, e, hob⟩ := (HO.out.below (bnext B3.out hbl)) k x hx
            have d0 := hob.c0
            rw [e] at c18
            have HY := Lib.hid (rank_yes (id := id) hx)
            have HX := Lib.hid (rank_no (id := id) hx)
            generalize x.id = z at d0 HY HX
            clear hbl hx hob e
            by_cases hz : z < id
            · have HE := Lib.hid (HY.out hz)
              go_wp2_with fail
              go_roundg (n - (k + 1))
              case measure => omega
              case rel => exact ⟨k + 1, m + 1, rfl, by go_num, by omega, by go_num, by omega, by rw [HE.out, ← HMK.out], HB.out⟩
            · have HE := Lib.hid (HX.out hz)
              go_wp2_with fail
              go_roundg (n - (k + 1))
              case measure => omega
              case rel => exact ⟨k + 1, m, rfl, by go_num, by omega, rfl, by omega, by rw [HE.out, ← HMK.out], HB.out⟩
          · obtain rfl : k = n := by omega
            have t1 : ¬ (k : Int) < (k : Int) := by omega
            have HE : Hid (m = rankZ s.os id) := Lib.hid (by rw [HMK.out, List.take_of_length_le (by rw [HN.out]; omega)])
            obtain ⟨j, hj⟩ : ∃ j, m % q = j := ⟨_, rfl⟩
            have hjq : j < q := by rw [← hj]; exact Nat.mod_lt _ hq0
            obtain ⟨bm, om, e, hr⟩ := (HME.out.below (bnext B3.out hbl)) j (by rw [HQ.out]; exact hjq)
            subst e
            have HV : Hid (ownK l (rankZ s.os id) = l.getD j 0) := Lib.hid (by unfold ownK; rw [HQ.out, ← HE.out, hj])
            have e2 : (m : Int).tmod (q : Int) = (j : Int) := by rw [Int.tmod_eq_emod_of_nonneg (by omega), ← hj]; rfl
            have j0 : (0 : Int) ≤ (j : Int) := by omega
            have j1 : (j : Int) < (q : Int) := by omega
            generalize l.getD j 0 = y at hr HV
            clear hbl hj
            go_wp2_with fail
            go_ret2
            exact ⟨by rw [HR.out, HV.out]; rfl, bnext B0.out HB.out⟩
end Go.Proofs.YtildnadkfonlhaaGreat.Fx
namespace Go.Proofs.YtildnadkfonlhaaGreat.Fx
open Go Go.RowKit Go.Shelf
theorem any_yes {p : Int → Bool} {l : List Int} {k : Nat} (hk : k < l.length) (h : p (l.getD k 0) = true) : (l.take (k + 1)).any p = true := by
  rw [take_snoc hk, List.any_append]
  simp only [List.any_cons, h]
  simp
theorem any_same {p : Int → Bool} {l : List Int} {k : Nat} (hk : k < l.length) (h : p (l.getD k 0) = false) : (l.take (k + 1)).any p = (l.take k).any p := by
  rw [take_snoc hk, List.any_append]
  simp only [List.any_cons, h]
  simp
def ZnRelI (l : List Int) (m : Int) (V : World) (n : Nat) (g : Nat) (s10 s11 : Value) (W : World) : Prop :=
  ∃ k : Nat, g = n - k ∧ s11 = .int .i64 (k : Int) ∧ k ≤ n ∧ s10 = .bool ((l.take k).any (eqP m)) ∧ W = V
def ZfRel (L : Nat → List Int) (V : World) (n : Nat) (g : Nat) (s12 s14 : Value) (W : World) : Prop :=
  ∃ i : Nat, g = n - i ∧ s14 = .int .i64 (i : Int) ∧ i ≤ n ∧ Below V.heap.size V W ∧ OwnN W V.heap.size s12 (L i)
theorem own_at {s : ScR} {l : List Int} {k : Nat} (h : dealB s l = true) (hk : k < (sortedIds s.os).length) : ownZ s l ((sortedIds s.os).getD k 0) = some (ownK l k) := by
  unfold ownZ
  rw [if_pos h]
  unfold dealB at h
  rw [Bool.and_eq_true] at h
  exact whose_at (ok_rise h.2) hk
set_option maxRecDepth 100000 in
set_option maxHeartbeats 1000000 in
theorem zof_any (s : ScR) (l : List Int) (o : Option Addr) (c : Nat) (m : Int) (w : World) (hs : ScWf s) (h : ObjsAt w s.oo s.os) (hme : IntsAt w o l) (hl : l.length ≤ 9223372036854775807) :
    Calls Tryz.prog 8 #[.agg (scC s), .slice o l.length c, .int .i64 m] w (RetLE (ofZ s l m) (errB (ofB s l m)) w) := by
  obtain ⟨W1, hW1⟩ : ∃ W1, w.alloc (.cells (scC s) 28) = W1 := ⟨_, rfl⟩
  have b1 : Below w.heap.size w W1 := by rw [← hW1]; exact (Below.refl _ w).alloc (Nat.le_refl _) _
  have hsc : ScAt w.heap.size s W1 := by rw [← hW1]; exact ScAt.new w s
  have HSC := Lib.hid hsc
  have hall := Lib.hid (sizeS hs)
  have HM := Lib.hid (zmembers_any l o c W1 (hme.below b1) hl)
  have HC := Lib.hid (fun W (hW : Below W1.heap.size W1 W) => zcheck_any s W hs (h.below (bnext b1 hW)))
  have HOW := Lib.hid (fun W x (hW : Below W1.heap.size W1 W) => zowner_any s l o c x W hs (h.below (bnext b1 hW)) (hme.below (bnext b1 hW)) hl)
  have HID : Hid (okZ s = true → ∀ W, Below W1.heap.size W1 W → Calls Tryz.prog 22 #[.agg (scC s)] W (RetIDs (sortedIds s.os) W)) := Lib.hid (fun hk W hW => by
    rw [← ids_both]
    exact zids_any s W hs (h.below (bnext b1 hW)) (by have := (ok_iff.1 hk).many; omega))
  have HB1 := Lib.hid b1
  have HW1 := Lib.hid hW1
  have HME := Lib.hid (hme.below b1)
  have HAT := Lib.hid (fun (hd : dealB s l = true) k (hk : k < (sortedIds s.os).length) => own_at hd hk)
  have HOF : Hid (ofB s l m = ((memB l && okZ s) && l.any (eqP m))) := Lib.hid rfl
  have HOZ : Hid (ofZ s l m = if ofB s l m = true then heldZ (sortedIds s.os) l m else []) := Lib.hid rfl
  have HDD : Hid (dealB s l = (memB l && okZ s)) := Lib.hid rfl
  have H16 : Hid (okZ s = true → (sortedIds s.os).length ≤ 16) := Lib.hid (fun hk => by rw [sorted_len]; exact (ok_iff.1 hk).many)
  clear b1 hsc hW1 hs h hme
  obtain ⟨q, hq⟩ : ∃ q, l.length = q := ⟨_, rfl⟩
  have HQ := Lib.hid hq
  rw [hq] at HM HOW hl ⊢
  have q0 : (0 : Int) ≤ (q : Int) := by omega
  have q1 : (q : Int) ≤ 9223372036854775807 := by omega
  generalize memB l = d at HM HOF HDD
  generalize okZ s = ok at HC HID HOF HDD H16
  obtain ⟨er, her⟩ : ∃ er : Int, (if ok = true then (0 : Int) else 60) = er := ⟨_, rfl⟩
  have HER := Lib.hid her
  rw [her] at HC
  clear hq her hl
  go_enter Tryz.func8, Tryz.ntmps8
  go_wp2_with (rw [HW1.out])
  refine HM.out.mono ?_
  rintro e w1 ⟨rfl, hb⟩
  have B1 := Lib.hid hb
  have A1 := Lib.hid (HSC.out.below hb).all
  have C1 := Lib.hid (HC.out _ hb)
  clear hb HM HC
  go_wp2_with (refine wpList_load_mid rfl 28 (.tmp 3) rfl w.heap.size 0 rfl (scL s) _ A1.out Tryz.underlying28 rfl hall.out ?_)
  refine C1.out.mono ?_
  rintro e w2 ⟨rfl, hb⟩
  have B2 := Lib.hid (bnext B1.out hb)
  have HM2 := Lib.hid (HME.out.below B2.out)
  clear hb C1 A1 B1
  go_wp2_with fail
  go_loopg [10, 11] q (ZnRelI l m w2 q)
  case atStart => exact ⟨0, rfl, rfl, by omega, rfl, rfl⟩
  case round =>
    obtain ⟨k, hg, rfl, hk, rfl, hwr⟩ := hrel
    subst hg
    subst hwr
    have k0 : (0 : Int) ≤ (k : Int) := by omega
    by_cases hkq : k < q
    · have t1 : (k : Int) < (q : Int) := by omega
      obtain ⟨b, off, e, hr⟩ := HM2.out k (by rw [HQ.out]; exact hkq)
      subst e
      have HY := Lib.hid (any_yes (p := eqP m) (l := l) (k := k) (by rw [HQ.out]; exact hkq))
      have HX := Lib.hid (any_same (p := eqP m) (l := l) (k := k) (by rw [HQ.out]; exact hkq))
      generalize l.getD k 0 = y at hr HY HX
      by_cases hy : y = m
      · have HE := Lib.hid (HY.out (decide_eq_true hy.symm))
        go_wp2_with fail
        go_roundg (q - (k + 1))
        case measure => omega
        case rel => exact ⟨k + 1, rfl, by go_num, by omega, by rw [HE.out], rfl⟩
      · have HE := Lib.hid (HX.out (decide_eq_false (fun e => hy e.symm)))
        go_wp2_with fail
        go_roundg (q - (k + 1))
        case measure => omega
        case rel => exact ⟨k + 1, rfl, by go_num, by omega, by rw [HE.out], rfl⟩
    · obtain rfl : k = q := by omega
      have t1 : ¬ (k : Int) < (k : Int) := by omega
      have HE : Hid ((l.take k).any (eqP m) = l.any (eqP m)) := Lib.hid (by rw [List.take_of_length_le (by rw [HQ.out]; omega)])
      rw [HE.out]
      clear HE
      generalize l.any (eqP m) = q9 at HOF ⊢
      have BB := Lib.hid (bnext HB1.out B2.out)
      cases d with
      | false =>
        have HR : Hid (ofB s l m = false) := Lib.hid HOF.out
        clear HOF
        go_wp2_with fail
        go_ret2
        exact ⟨_, by rw [HR.out]; rfl, by rw [HOZ.out, HR.out]; exact World.ownsRow_nil _ _ _ _, BB.out⟩
      | true =>
        cases ok with
        | false =>
          obtain rfl : er = 60 := HER.out.symm
          have HR : Hid (ofB s l m = false) := Lib.hid HOF.out
          clear HOF
          go_wp2_with fail
          go_ret2
          exact ⟨_, by rw [HR.out]; rfl, by rw [HOZ.out, HR.out]; exact World.ownsRow_nil _ _ _ _, BB.out⟩
        | true =>
          obtain rfl : er = 0 := HER.out.symm
          cases q9 with
          | false =>
            have HR : Hid (ofB s l m = false) := Lib.hid HOF.out
            clear HOF
            go_wp2_with fail
            go_ret2
            exact ⟨_, by rw [HR.out]; rfl, by rw [HOZ.out, HR.out]; exact World.ownsRow_nil _ _ _ _, BB.out⟩
          | true =>
            have HR : Hid (ofB s l m = true) := Lib.hid HOF.out
            have HAT2 := Lib.hid (HAT.out HDD.out)
            have HZ : Hid (ofZ s l m = chosenK (fun _ o => decide (o = m)) (sortedIds s.os) l (sortedIds s.os).length) := Lib.hid (by rw [HOZ.out, HR.out]; rfl)
            have HI2 := Lib.hid (HID.out (by simp) _ B2.out)
            have A2 := Lib.hid (HSC.out.below B2.out).all
            have h16 := H16.out (by simp)
            clear HOF HAT HID HOZ HDD HER
            generalize hids : sortedIds s.os = ids at HAT2 HZ HI2 h16
            go_wp2_with (refine wpList_load_mid rfl 28 (.tmp 3) rfl w.heap.size 0 rfl (scL s) _ A2.out Tryz.underlying28 rfl hall.out ?_)
            refine HI2.out.mono ?_
            rintro e V ⟨vi, rfl, hoi, hb⟩
            obtain ⟨oi, ci, rfl, hat, _⟩ := hoi.form
            obtain ⟨n, hn⟩ : ∃ n, ids.length = n := ⟨_, rfl⟩
            have HN := Lib.hid hn
            have HII := Lib.hid hat
            have B3 := Lib.hid (bnext B2.out hb)
            rw [hn] at HAT2 HZ h16 ⊢
            have n0 : (0 : Int) ≤ (n : Int) := by omega
            have n1 : (n : Int) ≤ 16 := by omega
            have H16 := Lib.hid h16
            clear hoi hat hb hn HI2 A2 hids h16
            go_wp2_with fail
            go_loopg [12, 14] n (ZfRel (chosenK (fun _ o => decide (o = m)) ids l) V n)
            case atStart => exact ⟨0, rfl, rfl, by omega, Below.refl _ _, World.ownsRow_nil _ _ _ _⟩
            case round =>
              obtain ⟨i, hg, rfl, hi, hbl, how⟩ := hrel
              subst hg
              have HB := Lib.hid hbl
              have HO := Lib.hid how
              have i0 : (0 : Int) ≤ (i : Int) := by omega
              by_cases hin : i < n
              · have t2 : (i : Int) < (n : Int) := by omega
                have hbd : Below V.heap.size V wr.drew := bnext hbl (bdrew0 _ wr 1)
                obtain ⟨bi, fi, e, c1⟩ := (HII.out.below hbd) i (by rw [HN.out]; exact hin)
                subst e
                have r1 := (HSC.out.below (bnext B3.out hbd)).all
                have HAX := Lib.hid (HAT2.out i hin)
                have HY : Hid (decide (ownK l i = m) = true → chosenK (fun _ o => decide (o = m)) ids l (i + 1) = chosenK (fun _ o => decide (o = m)) ids l i ++ [ids.getD i 0]) := Lib.hid (fun h => chosenK_yes (p := fun _ o => decide (o = m)) h)
                have HX : Hid (decide (ownK l i = m) = false → chosenK (fun _ o => decide (o = m)) ids l (i + 1) = chosenK (fun _ o => decide (o = m)) ids l i) := Lib.hid (fun h => chosenK_no (p := fun _ o => decide (o = m)) h)
                have HLL : Hid ((chosenK (fun _ o => decide (o = m)) ids l i).length ≤ 100000) := Lib.hid (by have := chosenK_len (fun _ o => decide (o = m)) ids l i; have := H16.out; omega)
                have HCW := Lib.hid (HOW.out wr.drew (ids.getD i 0) (bnext B3.out hbd))
                rw [HAX.out] at HCW
                generalize ids.getD i 0 = x at c1 HCW HY HAX
                generalize ownK l i = y at HCW HY HX HAX
                generalize hL : chosenK (fun _ o => decide (o = m)) ids l i = L at HY HX HLL HO
                generalize hL1 : chosenK (fun _ o => decide (o = m)) ids l (i + 1) = L1 at HY HX
                have HL1 := Lib.hid hL1
                have HBD := Lib.hid hbd
                have HCW2 : Hid (Calls Tryz.prog 6 #[.agg (scC s), .slice o k c, .int .i64 x] wr.drew (RetNE y 0 wr.drew)) := Lib.hid HCW.out
                clear hbl how hL hL1 hbd HCW
                go_wp2_with fail
                refine (wpIn_wide (n := 5)).1 ?_
                refine heldz_region (S := fun X => X.rangeAt w.heap.size 0 (scL s) ∧ X.cell? ⟨bi, fi + i, none⟩ = some (.int .i64 x)) (Z := []) (by kernel_rfl) ?_
                refine heldz_take (fun _ => trivial) [] 0 (.agg (scC s)) (by kernel_rfl) rfl (by kernel_rfl) (fun _ _ _ h => h) ⟨r1, c1⟩ (by kernel_rfl) ?_ ?_
                · intro wz hSw; obtain ⟨q1, q2⟩ := hSw; exact exec_load_mid 28 (.tmp 3) (by kernel_rfl) w.heap.size 0 (by kernel_rfl) (scL s) _ q1 Tryz.underlying28 (by kernel_rfl) hall.out
                (try simp only [Act.put, List.getElem_toArray, List.getElem_cons_zero, List.getElem_cons_succ, List.setIfInBounds_toArray, List.set_cons_zero, List.set_cons_succ])
                refine heldz_take (fun _ => trivial) [] 1 (?_) (by kernel_rfl) rfl (by kernel_rfl) (fun _ _ _ h => h) ⟨r1, c1⟩ (by kernel_rfl) ?_ ?_
                rotate_left
                · intro wz hSw; obtain ⟨q1, q2⟩ := hSw; (first | (go_simp; done) | (go_simp; with_reducible rfl))
                (try simp only [Act.put, List.getElem_toArray, List.getElem_cons_zero, List.getElem_cons_succ, List.setIfInBounds_toArray, List.set_cons_zero, List.set_cons_succ])
                refine heldz_take (fun _ => trivial) [] 2 (?_) (by kernel_rfl) rfl (by kernel_rfl) (fun _ _ _ h => h) ⟨r1, c1⟩ (by kernel_rfl) ?_ ?_
                rotate_left
                · intro wz hSw; obtain ⟨q1, q2⟩ := hSw; (first | (go_simp; done) | (go_simp; with_reducible rfl))
                (try simp only [Act.put, List.getElem_toArray, List.getElem_cons_zero, List.getElem_cons_succ, List.setIfInBounds_toArray, List.set_cons_zero, List.set_cons_succ])
                refine heldz_take (fun _ => trivial) [] 3 (?_) (by kernel_rfl) rfl (by kernel_rfl) (fun _ _ _ h => h) ⟨r1, c1⟩ (by kernel_rfl) ?_ ?_
                rotate_left
                · intro wz hSw; obtain ⟨q1, q2⟩ := hSw; (first | (go_simp; done) | (go_simp; with_reducible rfl))
                (try simp only [Act.put, List.getElem_toArray, List.getElem_cons_zero, List.getElem_cons_succ, List.setIfInBounds_toArray, List.set_cons_zero, List.set_cons_succ])
                refine heldz_take (fun _ => trivial) [] 4 (.pointer (some ⟨bi, fi + i, none⟩)) (by kernel_rfl) rfl (by kernel_rfl) (fun _ _ _ h => h) ⟨r1, c1⟩ (by kernel_rfl) ?_ ?_
                · intro wz hSw; obtain ⟨q1, q2⟩ := hSw; (go_simp; (try first | rfl | simp))
                (try simp only [Act.put, List.getElem_toArray, List.getElem_cons_zero, List.getElem_cons_succ, List.setIfInBounds_toArray, List.set_cons_zero, List.set_cons_succ])
                refine heldz_take (fun _ => trivial) [] 5 (?_) (by kernel_rfl) rfl (by kernel_rfl) (fun _ _ _ h => h) ⟨r1, c1⟩ (by kernel_rfl) ?_ ?_
                rotate_left
                · intro wz hSw; obtain ⟨q1, q2⟩ := hSw; (first | (go_simp; done) | (go_simp; with_reducible rfl))
                (try simp only [Act.put, List.getElem_toArray, List.getElem_cons_zero, List.getElem_cons_succ, List.setIfInBounds_toArray, List.set_cons_zero, List.set_cons_succ])
                refine heldz_step (fun _ => trivial) 6 (by kernel_rfl) rfl (fun K hK => ?_)
                rw [if_pos (by kernel_rfl)]
                refine wpIn_call_one 6 #[.agg (scC s), .slice o k c, .int .i64 x] (by first | (go_simp; done) | (go_simp; with_reducible rfl)) _ _ _ rfl (HCW2.out) (fun e w4 hp => ?_)
                obtain ⟨rfl, hb4⟩ := hp
                replace r1 := range_below hb4 r1
                replace c1 := keep_cell hb4 c1
                refine ⟨_, rfl, hK.out _ _ (fun _ => ⟨r1, c1⟩) ?_⟩
                clear hK K
                (try simp only [Act.put, List.getElem_toArray, List.getElem_cons_zero, List.getElem_cons_succ, List.setIfInBounds_toArray, List.set_cons_zero, List.set_cons_succ])
                refine heldz_take (fun _ => trivial) [] 7 (?_) (by kernel_rfl) rfl (by kernel_rfl) (fun _ _ _ h => h) ⟨r1, c1⟩ (by kernel_rfl) ?_ ?_
                rotate_left
                · intro wz hSw; obtain ⟨q1, q2⟩ := hSw; (first | (go_simp; done) | (go_simp; with_reducible rfl))
                (try simp only [Act.put, List.getElem_toArray, List.getElem_cons_zero, List.getElem_cons_succ, List.setIfInBounds_toArray, List.set_cons_zero, List.set_cons_succ])
                refine heldz_take (fun _ => trivial) [] 8 (?_) (by kernel_rfl) rfl (by kernel_rfl) (fun _ _ _ h => h) ⟨r1, c1⟩ (by kernel_rfl) ?_ ?_
                rotate_left
                · intro wz hSw; obtain ⟨q1, q2⟩ := hSw; (first | (go_simp; done) | (go_simp; with_reducible rfl))
                (try simp only [Act.put, List.getElem_toArray, List.getElem_cons_zero, List.getElem_cons_succ, List.setIfInBounds_toArray, List.set_cons_zero, List.set_cons_succ])
                refine heldz_take (fun _ => trivial) [] 9 (?_) (by kernel_rfl) rfl (by kernel_rfl) (fun _ _ _ h => h) ⟨r1, c1⟩ (by kernel_rfl) ?_ ?_
                rotate_left
                · intro wz hSw; obtain ⟨q1, q2⟩ := hSw; (first | (go_simp; done) | (go_simp; with_reducible rfl))
                (try simp only [Act.put, List.getElem_toArray, List.getElem_cons_zero, List.getElem_cons_succ, List.setIfInBounds_toArray, List.set_cons_zero, List.set_cons_succ])
                refine heldz_take (fun _ => trivial) [] 10 (?_) (by kernel_rfl) rfl (by kernel_rfl) (fun _ _ _ h => h) ⟨r1, c1⟩ (by kernel_rfl) ?_ ?_
                rotate_left
                · intro wz hSw; obtain ⟨q1, q2⟩ := hSw; (first | (go_simp; done) | (go_simp; with_reducible rfl))
                (try simp only [Act.put, List.getElem_toArray, List.getElem_cons_zero, List.getElem_cons_succ, List.setIfInBounds_toArray, List.set_cons_zero, List.set_cons_succ])
                refine heldz_take (fun _ => trivial) [] 11 (?_) (by kernel_rfl) rfl (by kernel_rfl) (fun _ _ _ h => h) ⟨r1, c1⟩ (by kernel_rfl) ?_ ?_
                rotate_left
                · intro wz hSw; obtain ⟨q1, q2⟩ := hSw; (first | (go_simp; done) | (go_simp; with_reducible rfl))
                (try simp only [Act.put, List.getElem_toArray, List.getElem_cons_zero, List.getElem_cons_succ, List.setIfInBounds_toArray, List.set_cons_zero, List.set_cons_succ])
                refine heldz_done (by kernel_rfl) ?_ _
                have HB4 := Lib.hid (bnext HBD.out hb4)
                have HO4 := Lib.hid ((HO.out.below (bdrew0 _ wr 1)).below hb4)
                clear hb4 r1 HCW2
                by_cases hy : y = m
                · have HE := Lib.hid (HY.out (decide_eq_true hy))
                  have HSZ := Lib.hid HB4.out.size
                  clear HY HX
                  go_wp2_with (at_builtin; refine app_num rfl _ _ rfl V u12 L x rfl HB4.out HO4.out HLL.out 1 rfl ?_; intro v5 w5 ho5 hb5)
                  have HO5 := Lib.hid ho5
                  have HB5 := Lib.hid hb5
                  clear ho5 hb5
                  go_roundg (n - (i + 1))
                  case measure => omega
                  case rel => exact ⟨i + 1, rfl, by go_num, by omega, HB5.out, by rw [HL1.out, HE.out]; exact HO5.out⟩
                · have HE := Lib.hid (HX.out (decide_eq_false hy))
                  clear HY HX
                  go_wp2_with fail
                  go_roundg (n - (i + 1))
                  case measure => omega
                  case rel => exact ⟨i + 1, rfl, by go_num, by omega, HB4.out, by rw [HL1.out, HE.out]; exact HO4.out⟩
              · obtain rfl : i = n := by omega
                have t2 : ¬ (i : Int) < (i : Int) := by omega
                have HSZ : Hid (w.heap.size ≤ V.heap.size) := Lib.hid (bnext HB1.out B3.out).size
                clear hbl how
                go_wp2_with fail
                go_ret2
                exact ⟨_, by rw [HR.out]; rfl, by rw [HZ.out]; exact HO.out.base HSZ.out, bnext (bnext HB1.out B3.out) HB.out⟩
end Go.Proofs.YtildnadkfonlhaaGreat.Fx
namespace Go.Proofs.YtildnadkfonlhaaGreat.Fx
open Go Go.RowKit Go.Shelf
def mvP (ids a : List Int) : Int → Int → Bool := fun id o => decide (o ≠ (whoseZ ids a id).getD 0)
theorem mv_step {ids a b : List Int} {i : Nat} (hr : Rise ids) (hi : i < ids.length) :
    (ownK a i ≠ ownK b i → chosenK (mvP ids a) ids b (i + 1) = chosenK (mvP ids a) ids b i ++ [ids.getD i 0]) ∧ (ownK a i = ownK b i → chosenK (mvP ids a) ids b (i + 1) = chosenK (mvP ids a) ids b i) := by
  have e : mvP ids a (ids.getD i 0) (ownK b i) = decide (ownK b i ≠ ownK a i) := by
    unfold mvP
    rw [whose_at hr hi]
    rfl
  exact ⟨fun h => chosenK_yes (by rw [e]; exact decide_eq_true (Ne.symm h)), fun h => chosenK_no (by rw [e]; exact decide_eq_false (fun k => k h.symm))⟩
set_option maxRecDepth 100000 in
set_option maxHeartbeats 1000000 in
theorem zmoved_any (s : ScR) (a b : List Int) (oa ob : Option Addr) (ca cb : Nat) (w : World) (hs : ScWf s) (h : ObjsAt w s.oo s.os) (ha : IntsAt w oa a) (hb : IntsAt w ob b) (la : a.length ≤ 9223372036854775807) (lb : b.length ≤ 9223372036854775807) :
    Calls Tryz.prog 10 #[.agg (scC s), .slice oa a.length ca, .slice ob b.length cb] w (RetLE (moZ s a b) (errB (moB s a b)) w) := by
  obtain ⟨W1, hW1⟩ : ∃ W1, w.alloc (.cells (scC s) 28) = W1 := ⟨_, rfl⟩
  have b1 : Below w.heap.size w W1 := by rw [← hW1]; exact (Below.refl _ w).alloc (Nat.le_refl _) _
  have hsc : ScAt w.heap.size s W1 := by rw [← hW1]; exact ScAt.new w s
  have HSC := Lib.hid hsc
  have hall := Lib.hid (sizeS hs)
  have HMA := Lib.hid (zmembers_any a oa ca W1 (ha.below b1) la)
  have HMB := Lib.hid (fun W (hW : Below W1.heap.size W1 W) => zmembers_any b ob cb W (hb.below (bnext b1 hW)) lb)
  have HC := Lib.hid (fun W (hW : Below W1.heap.size W1 W) => zcheck_any s W hs (h.below (bnext b1 hW)))
  have HOA := Lib.hid (fun W x (hW : Below W1.heap.size W1 W) => zowner_any s a oa ca x W hs (h.below (bnext b1 hW)) (ha.below (bnext b1 hW)) la)
  have HOB := Lib.hid (fun W x (hW : Below W1.heap.size W1 W) => zowner_any s b ob cb x W hs (h.below (bnext b1 hW)) (hb.below (bnext b1 hW)) lb)
  have HID : Hid (okZ s = true → ∀ W, Below W1.heap.size W1 W → Calls Tryz.prog 22 #[.agg (scC s)] W (RetIDs (sortedIds s.os) W)) := Lib.hid (fun hk W hW => by
    rw [← ids_both]
    exact zids_any s W hs (h.below (bnext b1 hW)) (by have := (ok_iff.1 hk).many; omega))
  have HB1 := Lib.hid b1
  have HW1 := Lib.hid hW1
  have HAA := Lib.hid (fun (hd : dealB s a = true) k (hk : k < (sortedIds s.os).length) => own_at hd hk)
  have HAB := Lib.hid (fun (hd : dealB s b = true) k (hk : k < (sortedIds s.os).length) => own_at hd hk)
  have HST := Lib.hid (fun (hk : okZ s = true) i (hi : i < (sortedIds s.os).length) => mv_step (a := a) (b := b) (ok_rise hk) hi)
  have HMO : Hid (moB s a b = ((memB a && okZ s) && memB b)) := Lib.hid rfl
  have HMZ : Hid (moZ s a b = if moB s a b = true then movedZ (sortedIds s.os) a b else []) := Lib.hid rfl
  have HDA : Hid (dealB s a = (memB a && okZ s)) := Lib.hid rfl
  have HDB : Hid (dealB s b = (memB b && okZ s)) := Lib.hid rfl
  have H16 : Hid (okZ s = true → (sortedIds s.os).length ≤ 16) := Lib.hid (fun hk => by rw [sorted_len]; exact (ok_iff.1 hk).many)
  clear b1 hsc hW1 hs h ha hb
  generalize a.length = na at HMA HOA la ⊢
  generalize b.length = nb at HMB HOB lb ⊢
  generalize memB a = da at HMA HMO HDA
  generalize memB b = db at HMB HMO HDB
  generalize okZ s = ok at HC HID HMO HDA HDB H16 HST
  obtain ⟨er, her⟩ : ∃ er : Int, (if ok = true then (0 : Int) else 60) = er := ⟨_, rfl⟩
  have HER := Lib.hid her
  rw [her] at HC
  clear her la lb
  go_enter Tryz.func10, Tryz.ntmps10
  go_wp2_with (rw [HW1.out])
  refine HMA.out.mono ?_
  rintro e w1 ⟨rfl, hb⟩
  have B1 := Lib.hid hb
  have C1 := Lib.hid (HMB.out _ hb)
  clear hb HMA HMB
  go_wp2_with fail
  refine C1.out.mono ?_
  rintro e w2 ⟨rfl, hb⟩
  have B2 := Lib.hid (bnext B1.out hb)
  have A2 := Lib.hid (HSC.out.below B2.out).all
  have C2 := Lib.hid (HC.out _ B2.out)
  clear hb C1 B1 HC
  go_wp2_with (refine wpList_load_mid rfl 28 (.tmp 3) rfl w.heap.size 0 rfl (scL s) _ A2.out Tryz.underlying28 rfl hall.out ?_)
  refine C2.out.mono ?_
  rintro e w3 ⟨rfl, hb⟩
  have B3 := Lib.hid (bnext B2.out hb)
  have BB := Lib.hid (bnext HB1.out B3.out)
  clear hb C2 A2 B2
  cases da with
  | false =>
    have HR : Hid (moB s a b = false) := Lib.hid HMO.out
    clear HMO
    go_wp2_with fail
    go_ret2
    exact ⟨_, by rw [HR.out]; rfl, by rw [HMZ.out, HR.out]; exact World.ownsRow_nil _ _ _ _, BB.out⟩
  | true =>
    cases db with
    | false =>
      have HR : Hid (moB s a b = false) := Lib.hid (by rw [HMO.out, Bool.and_false])
      clear HMO
      go_wp2_with fail
      go_ret2
      exact ⟨_, by rw [HR.out]; rfl, by rw [HMZ.out, HR.out]; exact World.ownsRow_nil _ _ _ _, BB.out⟩
    | true =>
      cases ok with
      | false =>
        obtain rfl : er = 60 := HER.out.symm
        have HR : Hid (moB s a b = false) := Lib.hid HMO.out
        clear HMO
        go_wp2_with fail
        go_ret2
        exact ⟨_, by rw [HR.out]; rfl, by rw [HMZ.out, HR.out]; exact World.ownsRow_nil _ _ _ _, BB.out⟩
      | true =>
        obtain rfl : er = 0 := HER.out.symm
        have HR : Hid (moB s a b = true) := Lib.hid HMO.out
        have HA2 := Lib.hid (HAA.out HDA.out)
        have HB2 := Lib.hid (HAB.out HDB.out)
        have HST2 := Lib.hid (HST.out (by simp))
        have HZ : Hid (moZ s a b = chosenK (mvP (sortedIds s.os) a) (sortedIds s.os) b (sortedIds s.os).length) := Lib.hid (by rw [HMZ.out, HR.out]; rfl)
        have HI3 := Lib.hid (HID.out (by simp) _ B3.out)
        have A3 := Lib.hid (HSC.out.below B3.out).all
        have h16 := H16.out (by simp)
        clear HMO HAA HAB HST HID HMZ HDA HDB HER
        generalize hids : sortedIds s.os = ids at HA2 HB2 HST2 HZ HI3 h16
        go_wp2_with (refine wpList_load_mid rfl 28 (.tmp 3) rfl w.heap.size 0 rfl (scL s) _ A3.out Tryz.underlying28 rfl hall.out ?_)
        refine HI3.out.mono ?_
        rintro e V ⟨vi, rfl, hoi, hb⟩
        obtain ⟨oi, ci, rfl, hat, _⟩ := hoi.form
        obtain ⟨n, hn⟩ : ∃ n, ids.length = n := ⟨_, rfl⟩
        have HN := Lib.hid hn
        have HII := Lib.hid hat
        have B4 := Lib.hid (bnext B3.out hb)
        rw [hn] at HA2 HB2 HST2 HZ h16 ⊢
        have n0 : (0 : Int) ≤ (n : Int) := by omega
        have n1 : (n : Int) ≤ 16 := by omega
        have H16 := Lib.hid h16
        clear hoi hat hb hn HI3 A3 hids h16
        go_wp2_with fail
        go_loopg [11, 13] n (ZfRel (chosenK (mvP ids a) ids b) V n)
        case atStart => exact ⟨0, rfl, rfl, by omega, Below.refl _ _, World.ownsRow_nil _ _ _ _⟩
        case round =>
          obtain ⟨i, hg, rfl, hi, hbl, how⟩ := hrel
          subst hg
          have HB := Lib.hid hbl
          have HO := Lib.hid how
          have i0 : (0 : Int) ≤ (i : Int) := by omega
          by_cases hin : i < n
          · have t2 : (i : Int) < (n : Int) := by omega
            have hbd : Below V.heap.size V wr.drew := bnext hbl (bdrew0 _ wr 1)
            obtain ⟨bi, fi, e, c1⟩ := (HII.out.below hbd) i (by rw [HN.out]; exact hin)
            subst e
            have r1 := (HSC.out.below (bnext B4.out hbd)).all
            have HXA := Lib.hid (HA2.out i hin)
            have HXB := Lib.hid (HB2.out i hin)
            have HYX := Lib.hid (HST2.out i hin)
            have HLL : Hid ((chosenK (mvP ids a) ids b i).length ≤ 100000) := Lib.hid (by have := chosenK_len (mvP ids a) ids b i; have := H16.out; omega)
            have HCA := Lib.hid (fun W hW => HOA.out W (ids.getD i 0) hW)
            have HCB := Lib.hid (fun W hW => HOB.out W (ids.getD i 0) hW)
            rw [HXA.out] at HCA
            rw [HXB.out] at HCB
            generalize ids.getD i 0 = x at c1 HCA HCB HYX HXA HXB
            generalize ownK a i = y at HCA HYX HXA
            generalize ownK b i = z at HCB HYX HXB
            generalize hL : chosenK (mvP ids a) ids b i = L at HYX HLL HO
            generalize hL1 : chosenK (mvP ids a) ids b (i + 1) = L1 at HYX
            have HL1 := Lib.hid hL1
            have HBD := Lib.hid hbd
            have HCA2 : Hid (∀ W, Below W1.heap.size W1 W → Calls Tryz.prog 6 #[.agg (scC s), .slice oa na ca, .int .i64 x] W (RetNE y 0 W)) := Lib.hid HCA.out
            have HCB2 : Hid (∀ W, Below W1.heap.size W1 W → Calls Tryz.prog 6 #[.agg (scC s), .slice ob nb cb, .int .i64 x] W (RetNE z 0 W)) := Lib.hid HCB.out
            clear hbl how hL hL1 hbd HCA HCB
            go_wp2_with fail
            refine (wpIn_wide (n := 5)).1 ?_
            refine heldz_region (S := fun X => X.rangeAt w.heap.size 0 (scL s) ∧ X.cell? ⟨bi, fi + i, none⟩ = some (.int .i64 x)) (Z := []) (by kernel_rfl) ?_
            refine heldz_take (fun _ => trivial) [] 0 (.agg (scC s)) (by kernel_rfl) rfl (by kernel_rfl) (fun _ _ _ h => h) ⟨r1, c1⟩ (by kernel_rfl) ?_ ?_
            · intro wz hSw; obtain ⟨q1, q2⟩ := hSw; exact exec_load_mid 28 (.tmp 3) (by kernel_rfl) w.heap.size 0 (by kernel_rfl) (scL s) _ q1 Tryz.underlying28 (by kernel_rfl) hall.out
            (try simp only [Act.put, List.getElem_toArray, List.getElem_cons_zero, List.getElem_cons_succ, List.setIfInBounds_toArray, List.set_cons_zero, List.set_cons_succ])
            refine heldz_take (fun _ => trivial) [] 1 (?_) (by kernel_rfl) rfl (by kernel_rfl) (fun _ _ _ h => h) ⟨r1, c1⟩ (by kernel_rfl) ?_ ?_
            rotate_left
            · intro wz hSw; obtain ⟨q1, q2⟩ := hSw; (first | (go_simp; done) | (go_simp; with_reducible rfl))
            (try simp only [Act.put, List.getElem_toArray, List.getElem_cons_zero, List.getElem_cons_succ, List.setIfInBounds_toArray, List.set_cons_zero, List.set_cons_succ])
            refine heldz_take (fun _ => trivial) [] 2 (?_) (by kernel_rfl) rfl (by kernel_rfl) (fun _ _ _ h => h) ⟨r1, c1⟩ (by kernel_rfl) ?_ ?_
            rotate_left
            · intro wz hSw; obtain ⟨q1, q2⟩ := hSw; (first | (go_simp; done) | (go_simp; with_reducible rfl))
            (try simp only [Act.put, List.getElem_toArray, List.getElem_cons_zero, List.getElem_cons_succ, List.setIfInBounds_toArray, List.set_cons_zero, List.set_cons_succ])
            refine heldz_take (fun _ => trivial) [] 3 (?_) (by kernel_rfl) rfl (by kernel_rfl) (fun _ _ _ h => h) ⟨r1, c1⟩ (by kernel_rfl) ?_ ?_
            rotate_left
            · intro wz hSw; obtain ⟨q1, q2⟩ := hSw; (first | (go_simp; done) | (go_simp; with_reducible rfl))
            (try simp only [Act.put, List.getElem_toArray, List.getElem_cons_zero, List.getElem_cons_succ, List.setIfInBounds_toArray, List.set_cons_zero, List.set_cons_succ])
            refine heldz_take (fun _ => trivial) [] 4 (.pointer (some ⟨bi, fi + i, none⟩)) (by kernel_rfl) rfl (by kernel_rfl) (fun _ _ _ h => h) ⟨r1, c1⟩ (by kernel_rfl) ?_ ?_
            · intro wz hSw; obtain ⟨q1, q2⟩ := hSw; (go_simp; (try first | rfl | simp))
            (try simp only [Act.put, List.getElem_toArray, List.getElem_cons_zero, List.getElem_cons_succ, List.setIfInBounds_toArray, List.set_cons_zero, List.set_cons_succ])
            refine heldz_take (fun _ => trivial) [] 5 (?_) (by kernel_rfl) rfl (by kernel_rfl) (fun _ _ _ h => h) ⟨r1, c1⟩ (by kernel_rfl) ?_ ?_
            rotate_left
            · intro wz hSw; obtain ⟨q1, q2⟩ := hSw; (first | (go_simp; done) | (go_simp; with_reducible rfl))
            (try simp only [Act.put, List.getElem_toArray, List.getElem_cons_zero, List.getElem_cons_succ, List.setIfInBounds_toArray, List.set_cons_zero, List.set_cons_succ])
            refine heldz_step (fun _ => trivial) 6 (by kernel_rfl) rfl (fun K hK => ?_)
            rw [if_pos (by kernel_rfl)]
            refine wpIn_call_one 6 #[.agg (scC s), .slice oa na ca, .int .i64 x] (by first | (go_simp; done) | (go_simp; with_reducible rfl)) _ _ _ rfl (HCA2.out _ (bnext B4.out HBD.out)) (fun e w4 hp => ?_)
            obtain ⟨rfl, hb4⟩ := hp
            replace r1 := range_below hb4 r1
            replace c1 := keep_cell hb4 c1
            refine ⟨_, rfl, hK.out _ _ (fun _ => ⟨r1, c1⟩) ?_⟩
            clear hK K
            (try simp only [Act.put, List.getElem_toArray, List.getElem_cons_zero, List.getElem_cons_succ, List.setIfInBounds_toArray, List.set_cons_zero, List.set_cons_succ])
            refine heldz_take (fun _ => trivial) [] 7 (?_) (by kernel_rfl) rfl (by kernel_rfl) (fun _ _ _ h => h) ⟨r1, c1⟩ (by kernel_rfl) ?_ ?_
            rotate_left
            · intro wz hSw; obtain ⟨q1, q2⟩ := hSw; (first | (go_simp; done) | (go_simp; with_reducible rfl))
            (try simp only [Act.put, List.getElem_toArray, List.getElem_cons_zero, List.getElem_cons_succ, List.setIfInBounds_toArray, List.set_cons_zero, List.set_cons_succ])
            refine heldz_take (fun _ => trivial) [] 8 (?_) (by kernel_rfl) rfl (by kernel_rfl) (fun _ _ _ h => h) ⟨r1, c1⟩ (by kernel_rfl) ?_ ?_
            rotate_left
            · intro wz hSw; obtain ⟨q1, q2⟩ := hSw; (first | (go_simp; done) | (go_simp; with_reducible rfl))
            (try simp only [Act.put, List.getElem_toArray, List.getElem_cons_zero, List.getElem_cons_succ, List.setIfInBounds_toArray, List.set_cons_zero, List.set_cons_succ])
            refine heldz_take (fun _ => trivial) [] 9 (?_) (by kernel_rfl) rfl (by kernel_rfl) (fun _ _ _ h => h) ⟨r1, c1⟩ (by kernel_rfl) ?_ ?_
            rotate_left
            · intro wz hSw; obtain ⟨q1, q2⟩ := hSw; (first | (go_simp; done) | (go_simp; with_reducible rfl))
            (try simp only [Act.put, List.getElem_toArray, List.getElem_cons_zero, List.getElem_cons_succ, List.setIfInBounds_toArray, List.set_cons_zero, List.set_cons_succ])
            refine heldz_take (fun _ => trivial) [] 10 (?_) (by kernel_rfl) rfl (by kernel_rfl) (fun _ _ _ h => h) ⟨r1, c1⟩ (by kernel_rfl) ?_ ?_
            rotate_left
            · intro wz hSw; obtain ⟨q1, q2⟩ := hSw; (first | (go_simp; done) | (go_simp; with_reducible rfl))
            (try simp only [Act.put, List.getElem_toArray, List.getElem_cons_zero, List.getElem_cons_succ, List.setIfInBounds_toArray, List.set_cons_zero, List.set_cons_succ])
            refine heldz_take (fun _ => trivial) [] 11 (?_) (by kernel_rfl) rfl (by kernel_rfl) (fun _ _ _ h => h) ⟨r1, c1⟩ (by kernel_rfl) ?_ ?_
            rotate_left
            · intro wz hSw; obtain ⟨q1, q2⟩ := hSw; (first | (go_simp; done) | (go_simp; with_reducible rfl))
            (try simp only [Act.put, List.getElem_toArray, List.getElem_cons_zero, List.getElem_cons_succ, List.setIfInBounds_toArray, List.set_cons_zero, List.set_cons_succ])
            refine heldz_done (by kernel_rfl) ?_ _
            have HB4 := Lib.hid (bnext HBD.out hb4)
            have HO4 := Lib.hid ((HO.out.below (bdrew0 _ wr 1)).below hb4)
            clear hb4
            have hbd2 : Below V.heap.size V w4.drew := bnext HB4.out (bdrew0 _ w4 1)
            replace r1 := range_below (bdrew0 _ w4 1) r1
            replace c1 := keep_cell (bdrew0 _ w4 1) c1
            have HBD2 := Lib.hid hbd2
            clear hbd2
            go_wp2_with fail
            refine (wpIn_wide (n := 5)).1 ?_
            refine heldz_region (S := fun X => X.rangeAt w.heap.size 0 (scL s) ∧ X.cell? ⟨bi, fi + i, none⟩ = some (.int .i64 x)) (Z := []) (by kernel_rfl) ?_
            refine heldz_take (fun _ => trivial) [] 0 (.agg (scC s)) (by kernel_rfl) rfl (by kernel_rfl) (fun _ _ _ h => h) ⟨r1, c1⟩ (by kernel_rfl) ?_ ?_
            · intro wz hSw; obtain ⟨q1, q2⟩ := hSw; exact exec_load_mid 28 (.tmp 3) (by kernel_rfl) w.heap.size 0 (by kernel_rfl) (scL s) _ q1 Tryz.underlying28 (by kernel_rfl) hall.out
            (try simp only [Act.put, List.getElem_toArray, List.getElem_cons_zero, List.getElem_cons_succ, List.setIfInBounds_toArray, List.set_cons_zero, List.set_cons_succ])
            refine heldz_take (fun _ => trivial) [] 1 (?_) (by kernel_rfl) rfl (by kernel_rfl) (fun _ _ _ h => h) ⟨r1, c1⟩ (by kernel_rfl) ?_ ?_
            rotate_left
            · intro wz hSw; obtain ⟨q1, q2⟩ := hSw; (first | (go_simp; done) | (go_simp; with_reducible rfl))
            (try simp only [Act.put, List.getElem_toArray, List.getElem_cons_zero, List.getElem_cons_succ, List.setIfInBounds_toArray, List.set_cons_zero, List.set_cons_succ])
            refine heldz_take (fun _ => trivial) [] 2 (?_) (by kernel_rfl) rfl (by kernel_rfl) (fun _ _ _ h => h) ⟨r1, c1⟩ (by kernel_rfl) ?_ ?_
            rotate_left
            · intro wz hSw; obtain ⟨q1, q2⟩ := hSw; (first | (go_simp; done) | (go_simp; with_reducible rfl))
            (try simp only [Act.put, List.getElem_toArray, List.getElem_cons_zero, List.getElem_cons_succ, List.setIfInBounds_toArray, List.set_cons_zero, List.set_cons_succ])
            refine heldz_take (fun _ => trivial) [] 3 (?_) (by kernel_rfl) rfl (by kernel_rfl) (fun _ _ _ h => h) ⟨r1, c1⟩ (by kernel_rfl) ?_ ?_
            rotate_left
            · intro wz hSw; obtain ⟨q1, q2⟩ := hSw; (first | (go_simp; done) | (go_simp; with_reducible rfl))
            (try simp only [Act.put, List.getElem_toArray, List.getElem_cons_zero, List.getElem_cons_succ, List.setIfInBounds_toArray, List.set_cons_zero, List.set_cons_succ])
            refine heldz_take (fun _ => trivial) [] 4 (.pointer (some ⟨bi, fi + i, none⟩)) (by kernel_rfl) rfl (by kernel_rfl) (fun _ _ _ h => h) ⟨r1, c1⟩ (by kernel_rfl) ?_ ?_
            · intro wz hSw; obtain ⟨q1, q2⟩ := hSw; (go_simp; (try first | rfl | simp))
            (try simp only [Act.put, List.getElem_toArray, List.getElem_cons_zero, List.getElem_cons_succ, List.setIfInBounds_toArray, List.set_cons_zero, List.set_cons_succ])
            refine heldz_take (fun _ => trivial) [] 5 (?_) (by kernel_rfl) rfl (by kernel_rfl) (fun _ _ _ h => h) ⟨r1, c1⟩ (by kernel_rfl) ?_ ?_
            rotate_left
            · intro wz hSw; obtain ⟨q1, q2⟩ := hSw; (first | (go_simp; done) | (go_simp; with_reducible rfl))
            (try simp only [Act.put, List.getElem_toArray, List.getElem_cons_zero, List.getElem_cons_succ, List.setIfInBounds_toArray, List.set_cons_zero, List.set_cons_succ])
            refine heldz_step (fun _ => trivial) 6 (by kernel_rfl) rfl (fun K hK => ?_)
            rw [if_pos (by kernel_rfl)]
            refine wpIn_call_one 6 #[.agg (scC s), .slice ob nb cb, .int .i64 x] (by first | (go_simp; done) | (go_simp; with_reducible rfl)) _ _ _ rfl (HCB2.out _ (bnext B4.out HBD2.out)) (fun e w5 hp => ?_)
            obtain ⟨rfl, hb5⟩ := hp
            replace r1 := range_below hb5 r1
            replace c1 := keep_cell hb5 c1
            refine ⟨_, rfl, hK.out _ _ (fun _ => ⟨r1, c1⟩) ?_⟩
            clear hK K
            (try simp only [Act.put, List.getElem_toArray, List.getElem_cons_zero, List.getElem_cons_succ, List.setIfInBounds_toArray, List.set_cons_zero, List.set_cons_succ])
            refine heldz_take (fun _ => trivial) [] 7 (?_) (by kernel_rfl) rfl (by kernel_rfl) (fun _ _ _ h => h) ⟨r1, c1⟩ (by kernel_rfl) ?_ ?_
            rotate_left
            · intro wz hSw; obtain ⟨q1, q2⟩ := hSw; (first | (go_simp; done) | (go_simp; with_reducible rfl))
            (try simp only [Act.put, List.getElem_toArray, List.getElem_cons_zero, List.getElem_cons_succ, List.setIfInBounds_toArray, List.set_cons_zero, List.set_cons_succ])
            refine heldz_take (fun _ => trivial) [] 8 (?_) (by kernel_rfl) rfl (by kernel_rfl) (fun _ _ _ h => h) ⟨r1, c1⟩ (by kernel_rfl) ?_ ?_
            rotate_left
            · intro wz hSw; obtain ⟨q1, q2⟩ := hSw; (first | (go_simp; done) | (go_simp; with_reducible rfl))
            (try simp only [Act.put, List.getElem_toArray, List.getElem_cons_zero, List.getElem_cons_succ, List.setIfInBounds_toArray, List.set_cons_zero, List.set_cons_succ])
            refine heldz_take (fun _ => trivial) [] 9 (?_) (by kernel_rfl) rfl (by kernel_rfl) (fun _ _ _ h => h) ⟨r1, c1⟩ (by kernel_rfl) ?_ ?_
            rotate_left
            · intro wz hSw; obtain ⟨q1, q2⟩ := hSw; (first | (go_simp; done) | (go_simp; with_reducible rfl))
            (try simp only [Act.put, List.getElem_toArray, List.getElem_cons_zero, List.getElem_cons_succ, List.setIfInBounds_toArray, List.set_cons_zero, List.set_cons_succ])
            refine heldz_take (fun _ => trivial) [] 10 (?_) (by kernel_rfl) rfl (by kernel_rfl) (fun _ _ _ h => h) ⟨r1, c1⟩ (by kernel_rfl) ?_ ?_
            rotate_left
            · intro wz hSw; obtain ⟨q1, q2⟩ := hSw; (first | (go_simp; done) | (go_simp; with_reducible rfl))
            (try simp only [Act.put, List.getElem_toArray, List.getElem_cons_zero, List.getElem_cons_succ, List.setIfInBounds_toArray, List.set_cons_zero, List.set_cons_succ])
            refine heldz_take (fun _ => trivial) [] 11 (?_) (by kernel_rfl) rfl (by kernel_rfl) (fun _ _ _ h => h) ⟨r1, c1⟩ (by kernel_rfl) ?_ ?_
            rotate_left
            · intro wz hSw; obtain ⟨q1, q2⟩ := hSw; (first | (go_simp; done) | (go_simp; with_reducible rfl))
            (try simp only [Act.put, List.getElem_toArray, List.getElem_cons_zero, List.getElem_cons_succ, List.setIfInBounds_toArray, List.set_cons_zero, List.set_cons_succ])
            refine heldz_done (by kernel_rfl) ?_ _
            have HB5 := Lib.hid (bnext HBD2.out hb5)
            have HO5 := Lib.hid ((HO4.out.below (bdrew0 _ w4 1)).below hb5)
            clear hb5 r1 HCA2 HCB2
            by_cases hy : y = z
            · have HE := Lib.hid (HYX.out.2 hy)
              clear HYX
              go_wp2_with fail
              go_roundg (n - (i + 1))
              case measure => omega
              case rel => exact ⟨i + 1, rfl, by go_num, by omega, HB5.out, by rw [HL1.out, HE.out]; exact HO5.out⟩
            · have HE := Lib.hid (HYX.out.1 hy)
              clear HYX
              go_wp2_with (at_builtin; refine app_num rfl _ _ rfl V u11 L x rfl HB5.out HO5.out HLL.out 1 rfl ?_; intro v6 w6 ho6 hb6)
              have HO6 := Lib.hid ho6
              have HB6 := Lib.hid hb6
              clear ho6 hb6
              go_roundg (n - (i + 1))
              case measure => omega
              case rel => exact ⟨i + 1, rfl, by go_num, by omega, HB6.out, by rw [HL1.out, HE.out]; exact HO6.out⟩
          · obtain rfl : i = n := by omega
            have t2 : ¬ (i : Int) < (i : Int) := by omega
            have HSZ : Hid (w.heap.size ≤ V.heap.size) := Lib.hid (bnext HB1.out B4.out).size
            clear hbl how
            go_wp2_with fail
            go_ret2
            exact ⟨_, by rw [HR.out]; rfl, by rw [HZ.out]; exact HO.out.base HSZ.out, bnext (bnext HB1.out B4.out) HB.out⟩
end Go.Proofs.YtildnadkfonlhaaGreat.Fx
namespace Go.Proofs.YtildnadkfonlhaaGreat.Fx
open Go Go.RowKit Go.Shelf
theorem eqI_refl (l : List Int) : eqI l l = true := decide_eq_true rfl
theorem of_held {s : ScR} {a : List Int} {p : Nat} (hd : dealB s a = true) (hp : p < a.length) : ofZ s a (a.getD p 0) = heldZ (sortedIds s.os) a (a.getD p 0) := by
  unfold ofZ ofB
  rw [hd, Bool.true_and, if_pos]
  rw [List.any_eq_true]
  exact ⟨a.getD p 0, List.mem_of_getElem? (ints_get hp), decide_eq_true rfl⟩
theorem map_at {f : Int → List Int} {a : List Int} {p : Nat} (hp : p < a.length) : (a.map f).getD p [] = f (a.getD p 0) := by
  rw [show (a.map f).getD p [] = ((a.map f)[p]?).getD [] from List.getD_eq_getElem?_getD, List.getElem?_map, ints_get hp]
  rfl
def SdRel (Ls : List (List Int)) (V : World) (n : Nat) (g : Nat) (s26 s151 : Value) (W : World) : Prop :=
  ∃ (k m : Nat), g = n - k ∧ s151 = .int .i64 (k : Int) ∧ k ≤ n ∧ s26 = .int .i64 (m : Int) ∧ m = mostN (Ls.take k) ∧ Below V.heap.size V W
set_option maxRecDepth 100000 in
set_option maxHeartbeats 4000000 in
theorem law_shareDeals (s : ScR) (a b : List Int) (oa ob : Option Addr) (ca cb : Nat) (node id : Int) (w : World) (hs : ScWf s) (h : ObjsAt w s.oo s.os) (ha : IntsAt w oa a) (hb : IntsAt w ob b) (la : a.length ≤ 9223372036854775807) (lb : b.length ≤ 9223372036854775807) :
    Calls Tryz.prog 3 #[.agg (scC s), .slice oa a.length ca, .slice ob b.length cb, .int .i64 node, .int .i64 id] w (RetBool true w) := by
  obtain ⟨V, hV⟩ : ∃ V, w.alloc (.cells (scC s) 28) = V := ⟨_, rfl⟩
  have b1 : Below w.heap.size w V := by rw [← hV]; exact (Below.refl _ w).alloc (Nat.le_refl _) _
  have hsc : ScAt w.heap.size s V := by rw [← hV]; exact ScAt.new w s
  have HSC := Lib.hid hsc
  have A0 := Lib.hid hsc.all
  have hall := Lib.hid (sizeS hs)
  have HO := Lib.hid (h.below b1)
  have HS := Lib.hid hs
  have HA := Lib.hid (ha.below b1)
  have HBb := Lib.hid (hb.below b1)
  have PG := Lib.hid (zgreat_any s V hs (h.below b1))
  have P1 := Lib.hid (fun W (hW : Below V.heap.size V W) => powner_any s a oa ca id W hs (h.below (bnext b1 hW)) (ha.below (bnext b1 hW)) la)
  have P2 := Lib.hid (fun W (hW : Below V.heap.size V W) => zowner_any s a oa ca id W hs (h.below (bnext b1 hW)) (ha.below (bnext b1 hW)) la)
  have P3 := Lib.hid (fun W (hW : Below V.heap.size V W) => pof_any s a oa ca node W hs (h.below (bnext b1 hW)) (ha.below (bnext b1 hW)) la)
  have P4 := Lib.hid (fun W x (hW : Below V.heap.size V W) => zof_any s a oa ca x W hs (h.below (bnext b1 hW)) (ha.below (bnext b1 hW)) la)
  have P5 := Lib.hid (fun W (hW : Below V.heap.size V W) => pmoved_any s a b oa ob ca cb W hs (h.below (bnext b1 hW)) (ha.below (bnext b1 hW)) (hb.below (bnext b1 hW)) la lb)
  have P6 := Lib.hid (fun W (hW : Below V.heap.size V W) => zmoved_any s a b oa ob ca cb W hs (h.below (bnext b1 hW)) (ha.below (bnext b1 hW)) (hb.below (bnext b1 hW)) la lb)
  have P7 := Lib.hid (fun W (hW : Below V.heap.size V W) => pall_any s a oa ca W hs (h.below (bnext b1 hW)) (ha.below (bnext b1 hW)) la)
  have P8 := Lib.hid (fun W (hW : Below V.heap.size V W) => zmembers_any a oa ca W (ha.below (bnext b1 hW)) la)
  have P9 := Lib.hid (fun W (hW : Below V.heap.size V W) => pmembers_any a oa ca W (ha.below (bnext b1 hW)) la)
  have PC := Lib.hid (fun W (hW : Below V.heap.size V W) => zcheck_any s W hs (h.below (bnext b1 hW)))
  have PM := Lib.hid (fun W (hW : Below V.heap.size V W) => pmost_any s a oa ca W hs (h.below (bnext b1 hW)) (ha.below (bnext b1 hW)) la)
  have HDD : Hid (dealB s a = (memB a && okZ s)) := Lib.hid rfl
  have HNO : Hid (dealB s a = false → allZ s a = []) := Lib.hid (fun hd => by unfold allZ; rw [hd]; rfl)
  have HYE : Hid (dealB s a = true → allZ s a = a.map (heldZ (sortedIds s.os) a)) := Lib.hid (fun hd => by unfold allZ; rw [hd]; rfl)
  have HOH : Hid (dealB s a = true → ∀ p, p < a.length → ofZ s a (a.getD p 0) = (allZ s a).getD p []) := Lib.hid (fun hd p hp => by
    rw [of_held hd hp]
    unfold allZ
    rw [hd, if_pos rfl]
    exact (map_at hp).symm)
  have HB1 := Lib.hid b1
  have HV := Lib.hid hV
  have HLA : Hid (dealB s a = true → (allZ s a).length = a.length ∧ a.length ≤ 64) := Lib.hid (fun hd => ⟨by unfold allZ; rw [hd, if_pos rfl, List.length_map], mem_many (deal_mem hd)⟩)
  clear b1 hsc hV hs h ha hb
  obtain ⟨na, hna⟩ : ∃ n, a.length = n := ⟨_, rfl⟩
  have HNA := Lib.hid hna
  rw [hna] at P1 P2 P3 P4 P5 P6 P7 P8 P9 PM HOH HLA ⊢
  obtain ⟨nb, hnb⟩ : ∃ n, b.length = n := ⟨_, rfl⟩
  have HNB := Lib.hid hnb
  rw [hnb] at P5 P6 ⊢
  have na0 : (0 : Int) ≤ (na : Int) := by omega
  have na1 : (na : Int) ≤ 9223372036854775807 := by omega
  have nb0 : (0 : Int) ≤ (nb : Int) := by omega
  have nb1 : (nb : Int) ≤ 9223372036854775807 := by omega
  generalize (ownZ s a id).getD 0 = z1 at P1 P2
  generalize errB (ownZ s a id).isSome = e1 at P1 P2
  generalize moZ s a b = L2 at P5 P6
  generalize errB (moB s a b) = e3 at P5 P6
  have P4b := Lib.hid (fun W (hW : Below V.heap.size V W) => P4.out W node hW)
  generalize ofZ s a node = L1 at P3 P4b
  generalize errB (ofB s a node) = e2 at P3 P4b
  clear hna hnb la lb
  obtain ⟨e4, he4⟩ : ∃ e, errB (dealB s a) = e := ⟨_, rfl⟩
  have HE4 := Lib.hid he4
  rw [he4] at P7
  clear he4
  obtain ⟨er, her⟩ : ∃ er : Int, (if okZ s = true then (0 : Int) else 60) = er := ⟨_, rfl⟩
  have HER := Lib.hid her
  rw [her] at PC
  clear her
  go_enter Tryz.func3, Tryz.ntmps3
  go_wp2_with (first | (rw [HV.out]) | (refine wpList_load_mid rfl 28 (.tmp 5) rfl w.heap.size 0 rfl (scL s) _ A0.out Tryz.underlying28 rfl hall.out ?_))
  refine PG.out.mono ?_
  rintro e w0 ⟨rfl, hb⟩
  have B0 := Lib.hid hb
  clear hb PG
  generalize greatZ s = gr
  cases gr with
  | true =>
    go_wp2_with fail
    go_ret
    exact ⟨rfl, bnext HB1.out B0.out⟩
  | false =>
    by_cases ga : 70 < na
    · have t1 : (70 : Int) < (na : Int) := by omega
      go_wp2_with fail
      go_ret
      exact ⟨rfl, bnext HB1.out B0.out⟩
    · have t1 : ¬ (70 : Int) < (na : Int) := by omega
      by_cases gb : 70 < nb
      · have t2 : (70 : Int) < (nb : Int) := by omega
        go_wp2_with fail
        go_ret
        exact ⟨rfl, bnext HB1.out B0.out⟩
      · have t2 : ¬ (70 : Int) < (nb : Int) := by omega
        have A1 := Lib.hid (HSC.out.below B0.out).all
        have C1 := Lib.hid (P1.out _ B0.out)
        go_wp2_with (refine wpList_load_mid rfl 28 (.tmp 5) rfl w.heap.size 0 rfl (scL s) _ A1.out Tryz.underlying28 rfl hall.out ?_)
        refine C1.out.mono ?_
        rintro e w1 ⟨rfl, hb⟩
        have B1 := Lib.hid (bnext B0.out hb)
        clear hb A1 C1 P1 t1 t2 ga gb
        have A2 := Lib.hid (HSC.out.below B1.out).all
        have C2 := Lib.hid (P2.out _ B1.out)
        go_wp2_with (refine wpList_load_mid rfl 28 (.tmp 5) rfl w.heap.size 0 rfl (scL s) _ A2.out Tryz.underlying28 rfl hall.out ?_)
        refine C2.out.mono ?_
        rintro e w2 ⟨rfl, hb⟩
        have B2 := Lib.hid (bnext B1.out hb)
        clear hb A2 C2 P2
        have A3 := Lib.hid (HSC.out.below B2.out).all
        have C3 := Lib.hid (P3.out _ B2.out)
        go_wp2_with (refine wpList_load_mid rfl 28 (.tmp 5) rfl w.heap.size 0 rfl (scL s) _ A3.out Tryz.underlying28 rfl hall.out ?_)
        refine C3.out.mono ?_
        rintro e w3 ⟨v1, rfl, ho, hb⟩
        obtain ⟨o1, c1, rfl, i1, m1⟩ := ho.form
        have I1 := Lib.hid i1
        have M1 := Lib.hid m1
        have B3 := Lib.hid (bnext B2.out hb)
        clear hb A3 C3 P3 ho i1 m1
        have A4 := Lib.hid (HSC.out.below B3.out).all
        have C4 := Lib.hid (P4b.out _ B3.out)
        go_wp2_with (refine wpList_load_mid rfl 28 (.tmp 5) rfl w.heap.size 0 rfl (scL s) _ A4.out Tryz.underlying28 rfl hall.out ?_)
        refine C4.out.mono ?_
        rintro e w4 ⟨v2, rfl, ho, hb⟩
        obtain ⟨o2, c2, rfl, i2, m2⟩ := ho.form
        have I2 := Lib.hid i2
        have I1b := Lib.hid (I1.out.below hb)
        have B4 := Lib.hid (bnext B3.out hb)
        clear hb A4 C4 P4b ho i2 m2 I1
        have A5 := Lib.hid (HSC.out.below B4.out).all
        have C5 := Lib.hid (P5.out _ B4.out)
        go_wp2_with (refine wpList_load_mid rfl 28 (.tmp 5) rfl w.heap.size 0 rfl (scL s) _ A5.out Tryz.underlying28 rfl hall.out ?_)
        refine C5.out.mono ?_
        rintro e w5 ⟨v3, rfl, ho, hb⟩
        obtain ⟨o3, c3, rfl, i3, m3⟩ := ho.form
        have I3 := Lib.hid i3
        have M3 := Lib.hid m3
        have I1c := Lib.hid (I1b.out.below hb)
        have I2b := Lib.hid (I2.out.below hb)
        have B5 := Lib.hid (bnext B4.out hb)
        clear hb A5 C5 P5 ho i3 m3 I1b I2
        have A6 := Lib.hid (HSC.out.below B5.out).all
        have C6 := Lib.hid (P6.out _ B5.out)
        go_wp2_with (refine wpList_load_mid rfl 28 (.tmp 5) rfl w.heap.size 0 rfl (scL s) _ A6.out Tryz.underlying28 rfl hall.out ?_)
        refine C6.out.mono ?_
        rintro e w6 ⟨v4, rfl, ho, hb⟩
        obtain ⟨o4, c4, rfl, i4, m4⟩ := ho.form
        have I4 := Lib.hid i4
        have I1d := Lib.hid (I1c.out.below hb)
        have I2c := Lib.hid (I2b.out.below hb)
        have I3b := Lib.hid (I3.out.below hb)
        have B6 := Lib.hid (bnext B5.out hb)
        clear hb A6 C6 P6 ho i4 m4 I1c I2b I3
        have A7 := Lib.hid (HSC.out.below B6.out).all
        have C7 := Lib.hid (P7.out _ B6.out)
        go_wp2_with (refine wpList_load_mid rfl 28 (.tmp 5) rfl w.heap.size 0 rfl (scL s) _ A7.out Tryz.underlying28 rfl hall.out ?_)
        refine C7.out.mono ?_
        rintro e w7 ⟨v5, vs, rfl, hov, hls, hb⟩
        obtain ⟨o5, c5, rfl, i5, m5⟩ := hov.form
        have I5 := Lib.hid i5
        have M5 := Lib.hid m5
        have LS := Lib.hid hls
        have HKV := Lib.hid hls.1
        generalize hkv : vs.length = kv at HKV m5 ⊢
        have HVS := Lib.hid hkv
        have B7 := Lib.hid (bnext B6.out hb)
        clear A7 C7 P7 hov i5 m5 hls hkv
        have J1 := Lib.hid (I1d.out.below hb)
        have J2 := Lib.hid (I2c.out.below hb)
        have J3 := Lib.hid (I3b.out.below hb)
        have J4 := Lib.hid (I4.out.below hb)
        clear hb I1d I2c I3b I4
        have C8 := Lib.hid (P8.out _ B7.out)
        go_wp2_with fail
        refine C8.out.mono ?_
        rintro e w8 ⟨rfl, hb⟩
        have B8 := Lib.hid (bnext B7.out hb)
        have G78 := Lib.hid hb
        clear hb C8 P8
        have C9 := Lib.hid (P9.out _ B8.out)
        go_wp2_with fail
        refine C9.out.mono ?_
        rintro e w9 ⟨rfl, hb⟩
        have B9 := Lib.hid (bnext B8.out hb)
        have G79 := Lib.hid (bnext G78.out hb)
        clear hb C9 P9 G78
        have X1 := Lib.hid (zints_any L1 L1 o1 o2 c1 c2 w9 (J1.out.below G79.out) (J2.out.below G79.out) M1.out M1.out)
        rw [eqI_refl] at X1
        generalize memB a = d at HDD ⊢
        generalize L1.length = k1 at X1 ⊢
        go_wp2_with fail
        refine X1.out.mono ?_
        rintro e w10 ⟨rfl, hb⟩
        have B10 := Lib.hid (bnext B9.out hb)
        have G10 := Lib.hid (bnext G79.out hb)
        clear hb X1 J1 J2 M1
        have X2 := Lib.hid (zints_any L2 L2 o3 o4 c3 c4 w10 (J3.out.below G10.out) (J4.out.below G10.out) M3.out M3.out)
        rw [eqI_refl] at X2
        generalize L2.length = k2 at X2 ⊢
        go_wp2_with fail
        refine X2.out.mono ?_
        rintro e w11 ⟨rfl, hb⟩
        have B11 := Lib.hid (bnext B10.out hb)
        have G11 := Lib.hid (bnext G10.out hb)
        clear hb X2 J3 J4 M3
        clear M5
        cases d with
        | false =>
          have hd : dealB s a = false := HDD.out
          have hal := HNO.out hd
          obtain rfl : e4 = 80 := by rw [← HE4.out, hd]; rfl
          obtain rfl : kv = 0 := by rw [HKV.out, hal]; rfl
          have CM : Hid (Calls Tryz.prog 16 #[.agg (scC s), .slice oa na ca] w11 (fun e w' => e = .returned (.int .i64 0) ∧ Below w11.heap.size w11 w')) := Lib.hid (by have := PM.out _ B11.out; rw [hal] at this; exact this)
          have AM := Lib.hid (HSC.out.below B11.out).all
          clear hd hal
          go_wp2_with (refine wpList_load_mid_g (by rfl) 28 (.tmp 5) rfl w.heap.size 0 rfl (scL s) _ AM.out Tryz.underlying28 rfl hall.out ?_)
          refine CM.out.mono ?_
          rintro e w13 ⟨rfl, hb⟩
          have BM := Lib.hid (bnext (bnext HB1.out B11.out) hb)
          clear hb
          go_wp2_with fail
          go_ret
          exact ⟨rfl, BM.out⟩
        | true =>
          have AC := Lib.hid (HSC.out.below B11.out).all
          have CC := Lib.hid (PC.out _ B11.out)
          go_wp2_with (refine wpList_load_mid_g (by rfl) 28 (.tmp 5) rfl w.heap.size 0 rfl (scL s) _ AC.out Tryz.underlying28 rfl hall.out ?_)
          refine CC.out.mono ?_
          rintro e w12 ⟨rfl, hb⟩
          have B12 := Lib.hid (bnext B11.out hb)
          have G12 := Lib.hid (bnext G11.out hb)
          clear hb CC AC PC
          generalize okZ s = ok at HDD HER
          cases ok with
          | false =>
            obtain rfl : er = 60 := HER.out.symm
            have hd : dealB s a = false := HDD.out
            have hal := HNO.out hd
            obtain rfl : e4 = 80 := by rw [← HE4.out, hd]; rfl
            obtain rfl : kv = 0 := by rw [HKV.out, hal]; rfl
            have CM : Hid (Calls Tryz.prog 16 #[.agg (scC s), .slice oa na ca] w12 (fun e w' => e = .returned (.int .i64 0) ∧ Below w12.heap.size w12 w')) := Lib.hid (by have := PM.out _ B12.out; rw [hal] at this; exact this)
            have AM := Lib.hid (HSC.out.below B12.out).all
            clear hd hal
            go_wp2_with (refine wpList_load_mid_g (by rfl) 28 (.tmp 5) rfl w.heap.size 0 rfl (scL s) _ AM.out Tryz.underlying28 rfl hall.out ?_)
            refine CM.out.mono ?_
            rintro e w13 ⟨rfl, hb⟩
            have BM := Lib.hid (bnext (bnext HB1.out B12.out) hb)
            clear hb
            go_wp2_with fail
            go_ret
            exact ⟨rfl, BM.out⟩
          | true =>
            obtain rfl : er = 0 := HER.out.symm
            have hd : dealB s a = true := HDD.out
            obtain rfl : e4 = 0 := by rw [← HE4.out, hd]; rfl
            obtain ⟨hl1, hl2⟩ := HLA.out hd
            obtain rfl : kv = na := by rw [HKV.out]; exact hl1
            have HOH2 := Lib.hid (HOH.out hd)
            have HLN := Lib.hid hl1
            have na2 : (kv : Int) ≤ 64 := by omega
            clear hd hl1 hl2 HDD HER HE4 HNO HYE HOH HLA HKV
            generalize allZ s a = Ls at HOH2 HLN LS PM
            go_wp2_with fail
            go_loopg [26, 151] kv (SdRel Ls w12 kv)
            case atStart => exact ⟨0, 0, rfl, rfl, by omega, rfl, rfl, Below.refl _ _⟩
            case round =>
              obtain ⟨k, m, hg, rfl, hk, rfl, hm, hbl⟩ := hrel
              subst hg
              have HB := Lib.hid hbl
              have HM := Lib.hid hm
              have k0 : (0 : Int) ≤ (k : Int) := by omega
              clear hm
              by_cases hkn : k < kv
              · have t3 : (k : Int) < (kv : Int) := by omega
                have hbd : Below w12.heap.size w12 wr.drew := bnext hbl (bdrew0 _ wr 1)
                obtain ⟨bi, fi, e, c1⟩ := (HA.out.below (bnext B12.out hbd)) k (by rw [HNA.out]; exact hkn)
                subst e
                have r1 := (HSC.out.below (bnext B12.out hbd)).all
                obtain ⟨b5, e, hr5⟩ := I5.out k (by rw [HVS.out]; exact hkn)
                subst e
                have how := LS.out.2 k (by rw [HLN.out]; exact hkn)
                obtain ⟨o9, c9, e9, i9, m9⟩ := how.form
                rw [e9] at hr5
                have HTK : Hid (mostN (Ls.take (k + 1)) = max m (Ls.getD k []).length) := Lib.hid (by
                  rw [HM.out, ← most_snoc]
                  congr 1
                  rw [List.take_add_one, List.getD_eq_getElem?_getD, List.getElem?_eq_getElem (by rw [HLN.out]; exact hkn)]
                  rfl)
                have HCW := Lib.hid (P4.out wr.drew (a.getD k 0) (bnext B12.out hbd))
                rw [HOH2.out k hkn] at HCW
                generalize Ls.getD k [] = Lk at HCW HTK e9 i9 m9 hr5
                generalize a.getD k 0 = x at c1 HCW
                generalize errB (ofB s a x) = ez at HCW
                have HI9 := Lib.hid i9
                have HM9 := Lib.hid m9
                have HR5 := Lib.hid hr5
                have HBD := Lib.hid hbd
                have m0 : (0 : Int) ≤ (m : Int) := by omega
                clear hbl how e9 i9 hr5 hbd
                go_wp2_with fail
                refine (wpIn_wide (n := 5)).1 ?_
                refine heldz_region (S := fun X => X.rangeAt w.heap.size 0 (scL s) ∧ X.cell? ⟨bi, fi + k, none⟩ = some (.int .i64 x)) (Z := []) (by kernel_rfl) ?_
                refine heldz_take (fun _ => trivial) [] 0 (.agg (scC s)) (by kernel_rfl) rfl (by kernel_rfl) (fun _ _ _ h => h) ⟨r1, c1⟩ (by kernel_rfl) ?_ ?_
                · intro wz hSw; obtain ⟨q1, q2⟩ := hSw; exact exec_load_mid 28 (.tmp 5) (by kernel_rfl) w.heap.size 0 (by kernel_rfl) (scL s) _ q1 Tryz.underlying28 (by kernel_rfl) hall.out
                (try simp only [Act.put, List.getElem_toArray, List.getElem_cons_zero, List.getElem_cons_succ, List.setIfInBounds_toArray, List.set_cons_zero, List.set_cons_succ])
                refine heldz_take (fun _ => trivial) [] 1 (?_) (by kernel_rfl) rfl (by kernel_rfl) (fun _ _ _ h => h) ⟨r1, c1⟩ (by kernel_rfl) ?_ ?_
                rotate_left
                · intro wz hSw; obtain ⟨q1, q2⟩ := hSw; (first | (go_simp; done) | (go_simp; with_reducible rfl))
                (try simp only [Act.put, List.getElem_toArray, List.getElem_cons_zero, List.getElem_cons_succ, List.setIfInBounds_toArray, List.set_cons_zero, List.set_cons_succ])
                refine heldz_take (fun _ => trivial) [] 2 (?_) (by kernel_rfl) rfl (by kernel_rfl) (fun _ _ _ h => h) ⟨r1, c1⟩ (by kernel_rfl) ?_ ?_
                rotate_left
                · intro wz hSw; obtain ⟨q1, q2⟩ := hSw; (first | (go_simp; done) | (go_simp; with_reducible rfl))
                (try simp only [Act.put, List.getElem_toArray, List.getElem_cons_zero, List.getElem_cons_succ, List.setIfInBounds_toArray, List.set_cons_zero, List.set_cons_succ])
                refine heldz_take (fun _ => trivial) [] 3 (?_) (by kernel_rfl) rfl (by kernel_rfl) (fun _ _ _ h => h) ⟨r1, c1⟩ (by kernel_rfl) ?_ ?_
                rotate_left
                · intro wz hSw; obtain ⟨q1, q2⟩ := hSw; (first | (go_simp; done) | (go_simp; with_reducible rfl))
                (try simp only [Act.put, List.getElem_toArray, List.getElem_cons_zero, List.getElem_cons_succ, List.setIfInBounds_toArray, List.set_cons_zero, List.set_cons_succ])
                refine heldz_take (fun _ => trivial) [] 4 (.pointer (some ⟨bi, fi + k, none⟩)) (by kernel_rfl) rfl (by kernel_rfl) (fun _ _ _ h => h) ⟨r1, c1⟩ (by kernel_rfl) ?_ ?_
                · intro wz hSw; obtain ⟨q1, q2⟩ := hSw; (go_simp; (try first | rfl | simp))
                (try simp only [Act.put, List.getElem_toArray, List.getElem_cons_zero, List.getElem_cons_succ, List.setIfInBounds_toArray, List.set_cons_zero, List.set_cons_succ])
                refine heldz_take (fun _ => trivial) [] 5 (?_) (by kernel_rfl) rfl (by kernel_rfl) (fun _ _ _ h => h) ⟨r1, c1⟩ (by kernel_rfl) ?_ ?_
                rotate_left
                · intro wz hSw; obtain ⟨q1, q2⟩ := hSw; (first | (go_simp; done) | (go_simp; with_reducible rfl))
                (try simp only [Act.put, List.getElem_toArray, List.getElem_cons_zero, List.getElem_cons_succ, List.setIfInBounds_toArray, List.set_cons_zero, List.set_cons_succ])
                refine heldz_step (fun _ => trivial) 6 (by kernel_rfl) rfl (fun K hK => ?_)
                rw [if_pos (by kernel_rfl)]
                refine wpIn_call_one 8 #[.agg (scC s), .slice (some ⟨bi, fi, none⟩) kv ca, .int .i64 x] (by first | (go_simp; done) | (go_simp; with_reducible rfl)) _ _ _ rfl HCW.out (fun e w4 hp => ?_)
                obtain ⟨vz, rfl, hoz, hb4⟩ := hp
                obtain ⟨oz, cz, rfl, iz, mz⟩ := hoz.form
                replace r1 := range_below hb4 r1
                replace c1 := keep_cell hb4 c1
                refine ⟨_, rfl, hK.out _ _ (fun _ => ⟨r1, c1⟩) ?_⟩
                clear hK K
                (try simp only [Act.put, List.getElem_toArray, List.getElem_cons_zero, List.getElem_cons_succ, List.setIfInBounds_toArray, List.set_cons_zero, List.set_cons_succ])
                refine heldz_take (fun _ => trivial) [] 7 (?_) (by kernel_rfl) rfl (by kernel_rfl) (fun _ _ _ h => h) ⟨r1, c1⟩ (by kernel_rfl) ?_ ?_
                rotate_left
                · intro wz hSw; obtain ⟨q1, q2⟩ := hSw; (first | (go_simp; done) | (go_simp; with_reducible rfl))
                (try simp only [Act.put, List.getElem_toArray, List.getElem_cons_zero, List.getElem_cons_succ, List.setIfInBounds_toArray, List.set_cons_zero, List.set_cons_succ])
                refine heldz_take (fun _ => trivial) [] 8 (?_) (by kernel_rfl) rfl (by kernel_rfl) (fun _ _ _ h => h) ⟨r1, c1⟩ (by kernel_rfl) ?_ ?_
                rotate_left
                · intro wz hSw; obtain ⟨q1, q2⟩ := hSw; (first | (go_simp; done) | (go_simp; with_reducible rfl))
                (try simp only [Act.put, List.getElem_toArray, List.getElem_cons_zero, List.getElem_cons_succ, List.setIfInBounds_toArray, List.set_cons_zero, List.set_cons_succ])
                refine heldz_take (fun _ => trivial) [] 9 (?_) (by kernel_rfl) rfl (by kernel_rfl) (fun _ _ _ h => h) ⟨r1, c1⟩ (by kernel_rfl) ?_ ?_
                rotate_left
                · intro wz hSw; obtain ⟨q1, q2⟩ := hSw; (first | (go_simp; done) | (go_simp; with_reducible rfl))
                (try simp only [Act.put, List.getElem_toArray, List.getElem_cons_zero, List.getElem_cons_succ, List.setIfInBounds_toArray, List.set_cons_zero, List.set_cons_succ])
                refine heldz_take (fun _ => trivial) [] 10 (?_) (by kernel_rfl) rfl (by kernel_rfl) (fun _ _ _ h => h) ⟨r1, c1⟩ (by kernel_rfl) ?_ ?_
                rotate_left
                · intro wz hSw; obtain ⟨q1, q2⟩ := hSw; (first | (go_simp; done) | (go_simp; with_reducible rfl))
                (try simp only [Act.put, List.getElem_toArray, List.getElem_cons_zero, List.getElem_cons_succ, List.setIfInBounds_toArray, List.set_cons_zero, List.set_cons_succ])
                refine heldz_take (fun _ => trivial) [] 11 (?_) (by kernel_rfl) rfl (by kernel_rfl) (fun _ _ _ h => h) ⟨r1, c1⟩ (by kernel_rfl) ?_ ?_
                rotate_left
                · intro wz hSw; obtain ⟨q1, q2⟩ := hSw; (first | (go_simp; done) | (go_simp; with_reducible rfl))
                (try simp only [Act.put, List.getElem_toArray, List.getElem_cons_zero, List.getElem_cons_succ, List.setIfInBounds_toArray, List.set_cons_zero, List.set_cons_succ])
                refine heldz_done (by kernel_rfl) ?_ _
                have HB4 := Lib.hid (bnext HBD.out hb4)
                have hr5 := keep_cell (bnext G12.out HB4.out) HR5.out
                have X9 := Lib.hid (zints_any Lk Lk o9 oz c9 cz w4 (HI9.out.below (bnext G12.out HB4.out)) iz HM9.out HM9.out)
                rw [eqI_refl] at X9
                unfold maxLen at m9
                generalize Lk.length = x9 at X9 HTK hr5 m9 ⊢
                have x0 : (0 : Int) ≤ (x9 : Int) := by omega
                have t4 : ¬ (kv : Int) ≤ (k : Int) := by omega
                clear hb4 r1 c1 HCW hoz iz mz m9 HI9 HM9 HR5
                go_wp2_with fail
                refine X9.out.mono ?_
                rintro e w5 ⟨rfl, hb⟩
                have HB5 := Lib.hid (bnext HB4.out hb)
                clear hb X9
                go_wp2_with fail
                go_roundg (kv - (k + 1))
                case measure => omega
                case rel => exact ⟨k + 1, max m x9, rfl, by go_num, by omega, by congr 1; omega, HTK.out.symm, HB5.out⟩
              · obtain rfl : k = kv := by omega
                have t3 : ¬ (k : Int) < (k : Int) := by omega
                have HE : Hid (m = mostN Ls) := Lib.hid (by rw [HM.out, List.take_of_length_le (by rw [HLN.out]; omega)])
                have CM := Lib.hid (PM.out _ (bnext B12.out hbl))
                rw [← HE.out] at CM
                have AM := Lib.hid (HSC.out.below (bnext B12.out hbl)).all
                clear hbl
                go_wp2_with (refine wpList_load_mid_g (by rfl) 28 (.tmp 5) rfl w.heap.size 0 rfl (scL s) _ AM.out Tryz.underlying28 rfl hall.out ?_)
                refine CM.out.mono ?_
                rintro e w13 ⟨rfl, hb⟩
                have BM := Lib.hid (bnext (bnext HB1.out (bnext B12.out HB.out)) hb)
                clear hb
                go_wp2_with fail
                go_ret
                exact ⟨rfl, BM.out⟩
end Go.Proofs.YtildnadkfonlhaaGreat.Fx
