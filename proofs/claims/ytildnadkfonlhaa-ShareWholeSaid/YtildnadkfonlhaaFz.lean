/- A list of members: the program's Members, Index and Contains; whether a scene may be dealt: walked. Dealing, in plain words: whose an object is, what each member has, what changes hands. A loop over an iterator that has memory of its own, which no round writes. A scene's objects with their owners: the program's iterator, walked. Whose an object is: the program's whose, walked. Objects that are what is asked for: the program's chosen and held, walked. Each node's objects, whose one is, what changes hands: the program's held, Owner, Of, Moved, walked. All members' objects, and how many the one has that has most: the program's All and Most, walked. The chapter's scene, as stage 8's statements make it: walked. The chapter's first examples: alive, walked. -/
import Derived.Test.YtildnadkfonlhaaProg
import Derived.Test.YtildnadkfonlhaaVd
import Derived.Test.YtildnadkfonlhaaVh
import Derived.Test.YtildnadkfonlhaaVq
import Derived.Test.YtildnadkfonlhaaVp
import Derived.Test.YtildnadkfonlhaaIt
import Derived.Test.YtildnadkfonlhaaHg
import Derived.Test.YtildnadkfonlhaaVg
import Derived.Test.YtildnadkfonlhaaMu
set_option linter.unusedVariables false
set_option linter.unusedSimpArgs false
namespace Go.Proofs.Ytildnadkfonlhaa.Fx
open Go Go.RowKit Go.Shelf
def memP (l : List Int) (i : Nat) : Bool := decide (0 ≤ l.getD i 0 ∧ l.getD i 0 ≤ 63 ∧ (0 < i → l.getD (i - 1) 0 < l.getD i 0))
def memU (l : List Int) (k : Nat) : Bool := (List.range k).all (memP l)
/-- whether numbers are members -/
def memB (l : List Int) : Bool := decide (0 < l.length) && memU l l.length
theorem memU_step (l : List Int) (k : Nat) : memU l (k + 1) = (memU l k && memP l k) := by
  unfold memU
  rw [List.range_succ, List.all_append]
  simp
theorem memU_at {l : List Int} {k j : Nat} (h : memU l k = true) (hj : j < k) : 0 ≤ l.getD j 0 ∧ l.getD j 0 ≤ 63 ∧ (0 < j → l.getD (j - 1) 0 < l.getD j 0) := by
  unfold memU at h
  exact of_decide_eq_true (List.all_eq_true.1 h j (List.mem_range.2 hj))
theorem memU_bad {l : List Int} {k : Nat} (hk : k < l.length) (h : memP l k = false) : memB l = false := by
  unfold memB memU
  rw [Bool.and_eq_false_iff]
  right
  rw [List.all_eq_false]
  exact ⟨k, List.mem_range.2 hk, by rw [h]; simp⟩
theorem memB_full {l : List Int} (h0 : 0 < l.length) (h : memU l l.length = true) : memB l = true := by
  unfold memB
  rw [h, decide_eq_true h0]
  rfl
def lo (l : List Int) (k : Nat) : Int := if k = 0 then 0 else l.getD (k - 1) 0 + 1
theorem lo_num {l : List Int} {k : Nat} (h : memU l k = true) : 0 ≤ lo l k ∧ lo l k ≤ 64 := by
  unfold lo
  split
  · omega
  · have := memU_at h (show k - 1 < k by omega)
    omega
theorem mem_next {l : List Int} {k : Nat} (h : memU l k = true) (h1 : ¬ l.getD k 0 < lo l k) (h2 : ¬ 64 ≤ l.getD k 0) : memU l (k + 1) = true ∧ l.getD k 0 + 1 = lo l (k + 1) := by
  refine ⟨?_, by simp [lo]⟩
  rw [memU_step, h, Bool.true_and]
  have hl := lo_num h
  unfold lo at h1 hl
  unfold memP
  refine decide_eq_true ⟨by omega, by omega, fun hk => ?_⟩
  rw [if_neg (by omega)] at h1
  omega
theorem mem_stop {l : List Int} {k : Nat} (hk : k < l.length) (h : memU l k = true) (h1 : l.getD k 0 < lo l k ∨ 64 ≤ l.getD k 0) : memB l = false := by
  refine memU_bad hk ?_
  unfold memP
  refine decide_eq_false fun ⟨a, b, c⟩ => ?_
  rcases h1 with h1 | h1
  · unfold lo at h1
    split at h1
    · omega
    · have := c (by omega)
      omega
  · omega
def MeRel (l : List Int) (w : World) (n g : Nat) (s3 s5 s8 : Value) (W : World) : Prop :=
  ∃ (k : Nat) (m : Int), g = n - k ∧ s3 = .int .i64 m ∧ s8 = .int .i64 (k : Int) ∧ k ≤ n ∧ Below w.heap.size w W ∧ memU l k = true ∧ m = lo l k
set_option maxRecDepth 100000 in
set_option maxHeartbeats 2000000 in
theorem pmembers_any (l : List Int) (o : Option Addr) (c : Nat) (w : World) (h : IntsAt w o l) (hl : l.length ≤ 9223372036854775807) :
    Calls Try.prog 13 #[.slice o l.length c] w (RetBool (memB l) w) := by
  obtain ⟨n, hn⟩ : ∃ n, l.length = n := ⟨_, rfl⟩
  have HN := Lib.hid hn
  have HL := Lib.hid h
  rw [hn] at hl ⊢
  have n0 : (0 : Int) ≤ (n : Int) := by omega
  have n1 : (n : Int) ≤ 9223372036854775807 := by omega
  clear hn h hl
  go_enter Try.func13, Try.ntmps13
  go_wp2_with fail
  go_loopg [3, 5, 8] n (MeRel l w n)
  case atStart => exact ⟨0, 0, rfl, rfl, rfl, by omega, Below.refl _ _, rfl, rfl⟩
  case round =>
    obtain ⟨k, m, hg, rfl, rfl, hk, hbl, ha, hm⟩ := hrel
    subst hg
    have HB := Lib.hid hbl
    have HA := Lib.hid ha
    have HM := Lib.hid hm
    have hm2 := lo_num ha
    rw [← hm] at hm2
    obtain ⟨m0, m1⟩ := hm2
    clear ha hm
    have k0 : (0 : Int) ≤ (k : Int) := by omega
    by_cases hkn : k < n
    · have t1 : (k : Int) < (n : Int) := by omega
      obtain ⟨b, off, e, hr⟩ := (HL.out.below hbl) k (by rw [HN.out]; exact hkn)
      subst e
      have HS : Hid (l.getD k 0 < m ∨ 64 ≤ l.getD k 0 → memB l = false) := Lib.hid (fun h => mem_stop (by rw [HN.out]; exact hkn) HA.out (by rw [← HM.out]; exact h))
      have HX : Hid (¬ l.getD k 0 < m → ¬ 64 ≤ l.getD k 0 → memU l (k + 1) = true ∧ l.getD k 0 + 1 = lo l (k + 1)) := Lib.hid (fun h1 h2 => mem_next HA.out (by rw [← HM.out]; exact h1) h2)
      generalize l.getD k 0 = x at hr HS HX
      clear hbl
      by_cases h1 : x < m
      · have HR := Lib.hid (HS.out (.inl h1))
        clear HS HX
        go_wp2_with fail
        go_ret
        exact ⟨by rw [HR.out]; rfl, HB.out⟩
      · by_cases h2 : (64 : Int) ≤ x
        · have HR := Lib.hid (HS.out (.inr h2))
          clear HS HX
          go_wp2_with fail
          go_ret
          exact ⟨by rw [HR.out]; rfl, HB.out⟩
        · obtain ⟨h3, h4⟩ := HX.out h1 h2
          have H3 := Lib.hid h3
          have H4 := Lib.hid h4
          have x0 : (-9223372036854775808 : Int) ≤ x + 1 := by omega
          have x1 : x + 1 ≤ 9223372036854775807 := by omega
          clear HS HX h3 h4
          go_wp2_with fail
          go_roundg (n - (k + 1))
          case measure => omega
          case rel => exact ⟨k + 1, x + 1, rfl, by go_num, by go_num, by omega, HB.out, H3.out, H4.out⟩
    · obtain rfl : k = n := by omega
      have t1 : ¬ (k : Int) < (k : Int) := by omega
      clear hbl
      by_cases h0 : 0 < k
      · have t2 : (0 : Int) < (k : Int) := by omega
        have HR : Hid (memB l = true) := Lib.hid (memB_full (by rw [HN.out]; exact h0) (by rw [HN.out]; exact HA.out))
        go_wp2_with fail
        go_ret
        exact ⟨by rw [HR.out]; rfl, HB.out⟩
      · have t2 : ¬ (0 : Int) < (k : Int) := by omega
        have HR : Hid (memB l = false) := Lib.hid (by unfold memB; rw [HN.out, decide_eq_false h0]; rfl)
        go_wp2_with fail
        go_ret
        exact ⟨by rw [HR.out]; rfl, HB.out⟩
def eqP (x : Int) : Int → Bool := fun y => decide (x = y)
theorem ints_get {l : List Int} {k : Nat} (h : k < l.length) : l[k]? = some (l.getD k 0) := by
  rw [List.getD_eq_getElem?_getD, List.getElem?_eq_getElem h]
  rfl
set_option maxRecDepth 100000 in
set_option maxHeartbeats 2000000 in
theorem pindex_any (l : List Int) (x : Int) (o : Option Addr) (c : Nat) (w : World) (h : IntsAt w o l) (hl : l.length ≤ 9223372036854775807) :
    Calls Try.prog 24 #[.slice o l.length c, .int .i64 x] w (RetIdx (idxZ (eqP x) l) w) := by
  obtain ⟨n, hn⟩ : ∃ n, l.length = n := ⟨_, rfl⟩
  have HN := Lib.hid hn
  have HL := Lib.hid h
  rw [hn] at hl ⊢
  have n0 : (0 : Int) ≤ (n : Int) := by omega
  have n1 : (n : Int) ≤ 9223372036854775807 := by omega
  clear hn h hl
  go_enter Try.func24, Try.ntmps24
  go_wp2_with fail
  go_loopg [5, 8] n (IxRel (eqP x) l w n)
  case atStart => exact ⟨0, rfl, rfl, by omega, Below.refl _ _, rfl⟩
  case round =>
    obtain ⟨k, hg, rfl, hk, hbl, ha⟩ := hrel
    subst hg
    have HB := Lib.hid hbl
    have HA := Lib.hid ha
    clear ha
    have k0 : (0 : Int) ≤ (k : Int) := by omega
    by_cases hkn : k < n
    · have t1 : (k : Int) < (n : Int) := by omega
      obtain ⟨b, off, e, hr⟩ := (HL.out.below hbl) k (by rw [HN.out]; exact hkn)
      subst e
      have HX := Lib.hid (ints_get (l := l) (k := k) (by rw [HN.out]; exact hkn))
      generalize l.getD k 0 = y at hr HX
      clear hbl
      by_cases hq : x = y
      · have HR2 := Lib.hid (idx_hit (p := eqP x) HX.out HA.out (decide_eq_true hq))
        go_wp2_with fail
        go_ret
        exact ⟨by rw [HR2.out]; rfl, HB.out⟩
      · have HR2 := Lib.hid (any_snoc (p := eqP x) HX.out HA.out (decide_eq_false hq))
        go_wp2_with fail
        go_roundg (n - (k + 1))
        case measure => omega
        case rel => exact ⟨k + 1, rfl, by go_num, by omega, HB.out, HR2.out⟩
    · obtain rfl : k = n := by omega
      have t1 : ¬ (k : Int) < (k : Int) := by omega
      have HR2 := Lib.hid (idx_none (p := eqP x) (by rw [HN.out]; omega) HA.out)
      clear hbl
      go_wp2_with fail
      go_ret
      exact ⟨by rw [HR2.out]; rfl, HB.out⟩
set_option maxRecDepth 100000 in
theorem pcontains_any (l : List Int) (x : Int) (o : Option Addr) (c : Nat) (w : World) (h : IntsAt w o l) (hl : l.length ≤ 9223372036854775807) :
    Calls Try.prog 17 #[.slice o l.length c, .int .i64 x] w (RetBool (l.any (eqP x)) w) := by
  have HC := Lib.hid (pindex_any l x o c w h hl)
  have HZ := Lib.hid (idx_any (eqP x) l)
  clear h
  generalize idxZ (eqP x) l = z at HC HZ
  generalize l.any (eqP x) = b at HZ ⊢
  generalize l.length = n at HC hl ⊢
  go_enter Try.func17, Try.ntmps17
  rcases HZ.out with ⟨rfl, hz⟩ | ⟨rfl, hz⟩
  · go_wp2_with fail
    refine HC.out.mono ?_
    rintro e w' ⟨rfl, hb⟩
    go_wp2_with fail
    go_ret
    exact ⟨rfl, hb⟩
  · have hz2 : ¬ (0 : Int) ≤ z := by omega
    go_wp2_with fail
    refine HC.out.mono ?_
    rintro e w' ⟨rfl, hb⟩
    go_wp2_with fail
    go_ret
    exact ⟨by rw [decide_eq_false (show ¬ (0 : Int) ≤ z by omega)]; rfl, hb⟩
/-- whether a scene may be dealt to members -/
def dealB (s : ScR) (l : List Int) : Bool := memB l && okZ s
set_option maxRecDepth 100000 in
theorem pmay_any (s : ScR) (l : List Int) (o : Option Addr) (c : Nat) (w : World) (hs : ScWf s) (h : ObjsAt w s.oo s.os) (hi : IntsAt w o l) (hl : l.length ≤ 9223372036854775807) :
    Calls Try.prog 16 #[.agg (scC s), .slice o l.length c] w (RetBool (dealB s l) w) := by
  obtain ⟨W1, hW1⟩ : ∃ W1, w.alloc (.cells (scC s) 32) = W1 := ⟨_, rfl⟩
  have b1 : Below w.heap.size w W1 := by rw [← hW1]; exact (Below.refl _ w).alloc (Nat.le_refl _) _
  have HALL := Lib.hid (show ScAt w.heap.size s W1 by rw [← hW1]; exact ScAt.new w s)
  have hall := Lib.hid (sizeS hs)
  have HM := Lib.hid (pmembers_any l o c W1 (hi.below b1) hl)
  have HC := Lib.hid (fun (W : World) (hW : Below w.heap.size w W) => pcheck_any s W hs (h.below hW))
  have HB1 := Lib.hid b1
  have HW1 := Lib.hid hW1
  unfold dealB
  clear b1 hW1 hs h hi hl
  generalize memB l = b at HM ⊢
  generalize okZ s = ok at HC ⊢
  generalize l.length = n at HM ⊢
  go_enter Try.func16, Try.ntmps16
  cases b with
  | false =>
    go_wp2_with (rw [HW1.out])
    refine HM.out.mono ?_
    rintro e w' ⟨rfl, hb⟩
    have HB := Lib.hid (bnext HB1.out hb)
    clear hb
    go_wp2_with fail
    go_ret
    exact ⟨rfl, HB.out⟩
  | true =>
    go_wp2_with (rw [HW1.out])
    refine HM.out.mono ?_
    rintro e w' ⟨rfl, hb⟩
    have HB := Lib.hid (bnext HB1.out hb)
    have HAL := Lib.hid ((HALL.out.below hb).all)
    have HCC := Lib.hid (HC.out _ HB.out)
    clear hb
    go_wp2_with (refine wpList_load_mid_g (by rfl) 32 (.tmp 2) rfl w.heap.size 0 rfl (scL s) _ HAL.out Try.underlying32 rfl hall.out ?_)
    refine HCC.out.mono ?_
    rintro e w2 ⟨rfl, hb2⟩
    have HB2 := Lib.hid (bnext HB.out hb2)
    clear hb2
    cases ok with
    | false =>
      go_wp2_with fail
      go_ret
      exact ⟨rfl, HB2.out⟩
    | true =>
      go_wp2_with fail
      go_ret
      exact ⟨rfl, HB2.out⟩
end Go.Proofs.Ytildnadkfonlhaa.Fx
namespace Go.Proofs.Ytildnadkfonlhaa.Fx
open Go
/-- the owner at place k -/
def ownK (l : List Int) (k : Nat) : Int := l.getD (k % l.length) 0
def chosenK (p : Int → Int → Bool) (ids l : List Int) (k : Nat) : List Int := ((List.range k).filter fun i => p (ids.getD i 0) (ownK l i)).map fun i => ids.getD i 0
def chosenZ (p : Int → Int → Bool) (ids l : List Int) : List Int := chosenK p ids l ids.length
theorem chosenK_yes {p : Int → Int → Bool} {ids l : List Int} {k : Nat} (h : p (ids.getD k 0) (ownK l k) = true) : chosenK p ids l (k + 1) = chosenK p ids l k ++ [ids.getD k 0] := by
  unfold chosenK
  rw [List.range_succ, List.filter_append, List.map_append, List.filter_cons_of_pos (p := fun i => p (ids.getD i 0) (ownK l i)) h, List.filter_nil]
  rfl
theorem chosenK_no {p : Int → Int → Bool} {ids l : List Int} {k : Nat} (h : p (ids.getD k 0) (ownK l k) = false) : chosenK p ids l (k + 1) = chosenK p ids l k := by
  unfold chosenK
  rw [List.range_succ, List.filter_append, List.map_append, List.filter_cons_of_neg (by rw [h]; simp), List.filter_nil]
  simp
theorem chosenK_len (p : Int → Int → Bool) (ids l : List Int) (k : Nat) : (chosenK p ids l k).length ≤ k := by
  unfold chosenK
  rw [List.length_map]
  exact Nat.le_trans (List.length_filter_le _ _) (by simp)
def whoseZ (ids l : List Int) (id : Int) : Option Int := (ids.findIdx? fun x => decide (x = id)).map (ownK l)
def heldZ (ids l : List Int) (m : Int) : List Int := chosenZ (fun _ o => decide (o = m)) ids l
def movedZ (ids a b : List Int) : List Int := chosenZ (fun id o => decide (o ≠ (whoseZ ids a id).getD 0)) ids b
theorem whose_step {ids : List Int} {id : Int} {k : Nat} (hk : k < ids.length) (ha : (ids.take k).findIdx? (fun x => decide (x = id)) = none) (h : ids.getD k 0 ≠ id) : (ids.take (k + 1)).findIdx? (fun x => decide (x = id)) = none := by
  rw [List.take_add_one, ints_get hk, List.findIdx?_append, ha]
  generalize ids.getD k 0 = x at h
  simp [h]
theorem whose_hit {ids l : List Int} {id : Int} {k : Nat} (hk : k < ids.length) (ha : (ids.take k).findIdx? (fun x => decide (x = id)) = none) (h : ids.getD k 0 = id) : whoseZ ids l id = some (ownK l k) := by
  unfold whoseZ
  have hx := ints_get hk
  rw [h] at hx
  obtain ⟨hkl, hx'⟩ := List.getElem?_eq_some_iff.1 hx
  have e : ids.findIdx? (fun x => decide (x = id)) = some k := by
    rw [← List.take_append_drop k ids, List.findIdx?_append, ha, List.drop_eq_getElem_cons hkl]
    simp [List.findIdx?_cons, hx', h]
    omega
  rw [e]
  rfl
theorem whose_none {ids l : List Int} {id : Int} {n : Nat} (hn : ids.length ≤ n) (h : (ids.take n).findIdx? (fun x => decide (x = id)) = none) : whoseZ ids l id = none := by
  rw [List.take_of_length_le hn] at h
  unfold whoseZ
  rw [h]
  rfl
/-- IDs that rise, each once -/
def Rise (ids : List Int) : Prop := ids.Pairwise fun x y => x < y
theorem Rise.lt {ids : List Int} (h : Rise ids) {i j : Nat} (hij : i < j) (hj : j < ids.length) : ids.getD i 0 < ids.getD j 0 := by
  have := List.pairwise_iff_getElem.1 h i j (by omega) hj hij
  rw [List.getD_eq_getElem?_getD, List.getD_eq_getElem?_getD, List.getElem?_eq_getElem hj, List.getElem?_eq_getElem (by omega)]
  exact this
theorem Rise.inj {ids : List Int} (h : Rise ids) {i j : Nat} (hi : i < ids.length) (hj : j < ids.length) (e : ids.getD i 0 = ids.getD j 0) : i = j := by
  rcases Nat.lt_trichotomy i j with c | c | c
  · have := h.lt c hj; omega
  · exact c
  · have := h.lt c hi; omega
theorem whose_at {ids l : List Int} (h : Rise ids) {k : Nat} (hk : k < ids.length) : whoseZ ids l (ids.getD k 0) = some (ownK l k) := by
  refine whose_hit hk ?_ rfl
  rw [List.findIdx?_eq_none_iff]
  intro x hx
  obtain ⟨i, hi, e⟩ := List.mem_iff_getElem.1 hx
  rw [List.length_take] at hi
  rw [List.getElem_take] at e
  have := h.lt (show i < k by omega) hk
  rw [List.getD_eq_getElem?_getD, List.getElem?_eq_getElem (by omega)] at this
  simp at this ⊢
  omega
theorem ownK_mem {l : List Int} (h : 0 < l.length) (k : Nat) : ownK l k ∈ l := by
  unfold ownK
  rw [List.getD_eq_getElem?_getD, List.getElem?_eq_getElem (Nat.mod_lt _ h)]
  exact List.getElem_mem _
theorem mem_chosen {p : Int → Int → Bool} {ids l : List Int} {n : Nat} {x : Int} : x ∈ chosenK p ids l n ↔ ∃ i, i < n ∧ p (ids.getD i 0) (ownK l i) = true ∧ ids.getD i 0 = x := by
  unfold chosenK
  rw [List.mem_map]
  constructor
  · rintro ⟨i, hi, e⟩
    rw [List.mem_filter, List.mem_range] at hi
    exact ⟨i, hi.1, hi.2, e⟩
  · rintro ⟨i, h1, h2, e⟩
    exact ⟨i, by rw [List.mem_filter, List.mem_range]; exact ⟨h1, h2⟩, e⟩
/-- what one has is his -/
theorem held_whose {ids l : List Int} {m x : Int} (hr : Rise ids) (h : x ∈ heldZ ids l m) : whoseZ ids l x = some m := by
  unfold heldZ chosenZ at h
  obtain ⟨i, h1, h2, rfl⟩ := mem_chosen.1 h
  rw [whose_at hr h1, of_decide_eq_true h2]
/-- what was chosen rises -/
theorem chosen_rise {p : Int → Int → Bool} {ids l : List Int} (hr : Rise ids) : ∀ n, n ≤ ids.length → Rise (chosenK p ids l n)
  | 0, _ => List.Pairwise.nil
  | n + 1, hn => by
    have ih := chosen_rise (p := p) (l := l) hr n (by omega)
    cases hp : p (ids.getD n 0) (ownK l n) with
    | false => rw [chosenK_no hp]; exact ih
    | true =>
      rw [chosenK_yes hp]
      unfold Rise
      rw [List.pairwise_append]
      refine ⟨ih, List.pairwise_singleton _ _, fun x hx y hy => ?_⟩
      obtain ⟨i, hi, _, rfl⟩ := mem_chosen.1 hx
      obtain rfl := List.mem_singleton.1 hy
      exact hr.lt hi (by omega)
/-- members: each once -/
theorem mem_lt {l : List Int} (h : memB l = true) {i j : Nat} (hij : i < j) (hj : j < l.length) : l.getD i 0 < l.getD j 0 := by
  unfold memB at h
  rw [Bool.and_eq_true] at h
  induction j with
  | zero => omega
  | succ j ih =>
    have h1 := (memU_at h.2 hj).2.2 (by omega)
    rw [Nat.add_sub_cancel] at h1
    by_cases e : i = j
    · subst e; exact h1
    · have := ih (by omega) (by omega)
      omega
theorem mem_pos {l : List Int} (h : memB l = true) : 0 < l.length := by
  unfold memB at h
  rw [Bool.and_eq_true] at h
  exact of_decide_eq_true h.1
theorem mem_num {l : List Int} (h : memB l = true) {i : Nat} (hi : i < l.length) : 0 ≤ l.getD i 0 ∧ l.getD i 0 ≤ 63 := by
  unfold memB at h
  rw [Bool.and_eq_true] at h
  have := memU_at h.2 hi
  omega
theorem mem_many {l : List Int} (h : memB l = true) : l.length ≤ 64 := by
  have : ∀ i, i < l.length → (i : Int) ≤ l.getD i 0 := by
    intro i
    induction i with
    | zero => intro hi; have := mem_num h hi; omega
    | succ i ih =>
      intro hi
      have := ih (by omega)
      have := mem_lt h (show i < i + 1 by omega) hi
      omega
  by_cases e : l.length = 0
  · omega
  · have h1 := this (l.length - 1) (by omega)
    have h2 := mem_num h (show l.length - 1 < l.length by omega)
    omega
theorem mem_inj {l : List Int} (h : memB l = true) {i j : Nat} (hi : i < l.length) (hj : j < l.length) (e : l.getD i 0 = l.getD j 0) : i = j := by
  rcases Nat.lt_trichotomy i j with c | c | c
  · have := mem_lt h c hj; omega
  · exact c
  · have := mem_lt h c hi; omega
theorem own_is {l : List Int} (h : memB l = true) (k : Nat) {p : Nat} (hp : p < l.length) : ownK l k = l.getD p 0 ↔ k % l.length = p := by
  have hm := Nat.mod_lt k (mem_pos h)
  unfold ownK
  constructor
  · intro e; exact mem_inj h hm hp e
  · intro e; rw [e]
theorem own_num {l : List Int} (h : memB l = true) (k : Nat) : 0 ≤ ownK l k ∧ ownK l k ≤ 63 := mem_num h (Nat.mod_lt k (mem_pos h))
/-- how many are at places that are p by the modulus -/
theorem held_count {ids l : List Int} (h : memB l = true) {p : Nat} (hp : p < l.length) (n : Nat) : (chosenK (fun _ o => decide (o = l.getD p 0)) ids l n).length = (n + (l.length - 1 - p)) / l.length := by
  have hm := mem_pos h
  induction n with
  | zero =>
    rw [Nat.div_eq_of_lt (by omega)]
    rfl
  | succ n ih =>
    have hd : (n + 1 + (l.length - 1 - p)) / l.length = (n + (l.length - 1 - p)) / l.length + if n % l.length = p then 1 else 0 := by
      have e1 := Nat.div_add_mod n l.length
      obtain ⟨q, hq⟩ : ∃ q, n / l.length = q := ⟨_, rfl⟩
      obtain ⟨r, hr⟩ : ∃ r, n % l.length = r := ⟨_, rfl⟩
      have hrl : r < l.length := by rw [← hr]; exact Nat.mod_lt _ hm
      rw [hq, hr] at e1
      rw [hr, ← e1]
      generalize l.length = m at *
      have ex : ∀ x, (m * q + r + x) / m = q + (r + x) / m := fun x => by rw [Nat.add_assoc, Nat.add_comm (m * q), Nat.add_mul_div_left _ _ hm, Nat.add_comm]
      rw [show m * q + r + 1 + (m - 1 - p) = m * q + r + (1 + (m - 1 - p)) by omega, ex, ex]
      by_cases c : r = p
      · rw [if_pos c, show r + (1 + (m - 1 - p)) = m by omega, Nat.div_self hm, Nat.div_eq_of_lt (show r + (m - 1 - p) < m by omega)]
      · rw [if_neg c]
        by_cases c2 : r < p
        · rw [Nat.div_eq_of_lt (show r + (1 + (m - 1 - p)) < m by omega), Nat.div_eq_of_lt (show r + (m - 1 - p) < m by omega)]
        · rw [show r + (1 + (m - 1 - p)) = m + (r - p) by omega, show r + (m - 1 - p) = m + (r - p - 1) by omega, Nat.add_div_left _ hm, Nat.add_div_left _ hm, Nat.div_eq_of_lt (show r - p < m by omega), Nat.div_eq_of_lt (show r - p - 1 < m by omega)]
    rw [hd, ← ih]
    by_cases c : n % l.length = p
    · rw [chosenK_yes (decide_eq_true ((own_is h n hp).2 c)), if_pos c]
      simp
    · rw [chosenK_no (decide_eq_false (fun e => c ((own_is h n hp).1 e))), if_neg c]
      simp
/-- no two are unlike by more than 1 -/
theorem held_near {ids l : List Int} (h : memB l = true) {p : Nat} (hp : p < l.length) : ids.length / l.length ≤ (heldZ ids l (l.getD p 0)).length ∧ (heldZ ids l (l.getD p 0)).length ≤ ids.length / l.length + 1 := by
  have hm := mem_pos h
  unfold heldZ chosenZ
  rw [held_count h hp]
  have e1 := Nat.div_add_mod ids.length l.length
  have e2 := Nat.mod_lt ids.length hm
  constructor
  · exact Nat.div_le_div_right (by omega)
  · rw [← Nat.add_div_right _ hm]
    exact Nat.div_le_div_right (by omega)
theorem flat_snoc {f : Int → List Int} {m0 x : Int} : ∀ {l : List Int}, l.Nodup → m0 ∈ l → (l.flatMap fun m => f m ++ if m = m0 then [x] else []).Perm (l.flatMap f ++ [x])
  | [], _, h => by simp at h
  | m :: t, hn, h => by
    rw [List.nodup_cons] at hn
    rw [List.flatMap_cons, List.flatMap_cons]
    by_cases e : m = m0
    · subst e
      rw [if_pos rfl]
      have : (t.flatMap fun m' => f m' ++ if m' = m then [x] else []) = t.flatMap f := by
        have h1 := hn.1
        clear h hn
        induction t with
        | nil => rfl
        | cons b t ih =>
          rw [List.flatMap_cons, List.flatMap_cons, if_neg (by intro e; exact h1 (by rw [e]; simp)), List.append_nil, ih (fun h => h1 (by simp [h]))]
      rw [this, List.append_assoc, List.append_assoc]
      exact List.Perm.append_left _ List.perm_append_comm
    · rw [if_neg e, List.append_nil, List.append_assoc]
      exact List.Perm.append_left _ (flat_snoc hn.2 ((List.mem_cons.1 h).resolve_left (fun h => e h.symm)))
theorem mem_nodup {l : List Int} (h : memB l = true) : l.Nodup := by
  unfold List.Nodup
  rw [List.pairwise_iff_getElem]
  intro i j hi hj hij
  have := mem_lt h hij hj
  rw [List.getD_eq_getElem?_getD, List.getD_eq_getElem?_getD, List.getElem?_eq_getElem hj, List.getElem?_eq_getElem hi] at this
  simp at this
  omega
/-- all members' objects are all objects -/
theorem deal_perm {ids l : List Int} (h : memB l = true) : ∀ n, n ≤ ids.length → (l.flatMap fun m => chosenK (fun _ o => decide (o = m)) ids l n).Perm (ids.take n)
  | 0, _ => by
    have : (l.flatMap fun m => chosenK (fun _ o => decide (o = m)) ids l 0) = [] := by
      rw [List.flatMap_eq_nil_iff]
      intro x _
      rfl
    rw [this]
    simp
  | n + 1, hn => by
    have ih := deal_perm (ids := ids) h n (by omega)
    have e : (l.flatMap fun m => chosenK (fun _ o => decide (o = m)) ids l (n + 1)) = l.flatMap fun m => chosenK (fun _ o => decide (o = m)) ids l n ++ if m = ownK l n then [ids.getD n 0] else [] := by
      congr 1
      funext m
      by_cases c : ownK l n = m
      · rw [chosenK_yes (decide_eq_true c), if_pos c.symm]
      · rw [chosenK_no (decide_eq_false c), if_neg (fun e => c e.symm), List.append_nil]
    rw [e, take_snoc (by omega)]
    exact (flat_snoc (mem_nodup h) (ownK_mem (mem_pos h) n)).trans (ih.append_right _)
theorem deal_all {ids l : List Int} (h : memB l = true) : (l.flatMap (heldZ ids l)).Perm ids := by
  have := deal_perm (ids := ids) h ids.length (Nat.le_refl _)
  rw [List.take_length] at this
  exact this
theorem rise_nodup {ids : List Int} (h : Rise ids) : ids.Nodup := List.Pairwise.imp (fun h => by omega) h
/-- where both owners are unlike -/
theorem moved_is {ids a b : List Int} (hr : Rise ids) (n : Nat) (hn : n ≤ ids.length) : chosenK (fun id o => decide (o ≠ (whoseZ ids a id).getD 0)) ids b n = ((List.range n).filter fun i => decide (ownK b i ≠ ownK a i)).map fun i => ids.getD i 0 := by
  unfold chosenK
  congr 1
  refine List.filter_congr fun i hi => ?_
  rw [List.mem_range] at hi
  show decide (ownK b i ≠ (whoseZ ids a (ids.getD i 0)).getD 0) = _
  rw [whose_at hr (by omega)]
  rfl
theorem moved_back {ids a b : List Int} (hr : Rise ids) : movedZ ids a b = movedZ ids b a := by
  unfold movedZ chosenZ
  rw [moved_is hr _ (Nat.le_refl _), moved_is hr _ (Nat.le_refl _)]
  congr 1
  refine List.filter_congr fun i _ => ?_
  rw [decide_eq_decide]
  exact ⟨Ne.symm, Ne.symm⟩
theorem moved_none {ids a : List Int} (hr : Rise ids) : movedZ ids a a = [] := by
  unfold movedZ chosenZ
  rw [moved_is hr _ (Nat.le_refl _)]
  rw [List.map_eq_nil_iff, List.filter_eq_nil_iff]
  intro i _
  simp
/-- whoever goes gives all that it had -/
theorem moved_gone {ids a b : List Int} {m x : Int} (hr : Rise ids) (hb : memB b = true) (hm : m ∉ b) (hx : x ∈ heldZ ids a m) : x ∈ movedZ ids a b := by
  unfold heldZ chosenZ at hx
  unfold movedZ chosenZ
  obtain ⟨i, h1, h2, rfl⟩ := mem_chosen.1 hx
  refine mem_chosen.2 ⟨i, h1, ?_, rfl⟩
  rw [whose_at hr h1]
  refine decide_eq_true fun e => hm ?_
  rw [Option.getD_some, of_decide_eq_true h2] at e
  rw [← e]
  exact ownK_mem (mem_pos hb) i
theorem moved_rise {ids a b : List Int} (hr : Rise ids) : Rise (movedZ ids a b) := by
  unfold movedZ chosenZ
  exact chosen_rise hr _ (Nat.le_refl _)
end Go.Proofs.Ytildnadkfonlhaa.Fx
namespace Go.Proofs.Ytildnadkfonlhaa.Fx
open Go Go.RowKit
variable {F : Fence} {n : Nat} {P : Program}
/-- as Hands; p is a block that the iterator made, which stays -/
def HandsP (F : Fence) (n : Nat) (P : Program) (gf : Nat) (lb : Array Value) (elem : Nat → Array Value) (N : Nat) (M : World → Prop) : Prop :=
  ∀ (l : Nat) (J : Option (Nat × Obj) → Nat → World → Prop) (Jx : World → Prop) (W : World),
    (∀ p k W W', J p k W → Below W.heap.size W W' → J p k W') → (∀ W W', Jx W → Below W.heap.size W W' → Jx W') →
    (∀ p k W, J p k W → M W ∧ ∀ r o, p = some (r, o) → W.heap[r]? = some o) →
    (∀ p k W1, k < N → J p k W1 → YieldAt F (n - 1) P l (elem k) W1 fun e W' => (e = .returned (.bool true) ∧ J p (k + 1) W') ∨ (e = .returned (.bool false) ∧ Jx W')) →
    M W → (∀ p W', Below W.heap.size W W' → (∀ r o, p = some (r, o) → W.heap.size ≤ r ∧ W'.heap[r]? = some o ∧ o.isCells = true) → J p 0 W') →
    CallsIn F n P gf (#[.func (.yield l) #[] #[]] ++ lb) W fun e W' => (∃ v, e = .returned v) ∧ ((∃ p, J p N W') ∨ Jx W')
theorem wpIn_range_priv {g : Operand} {ps : Array Tmp} {assign body : Code} {Q : Exit → Act → World → Prop} {a : Act} {w : World}
    (hro : F.round = none) (h1 : 1 ≤ n) {gf : Nat} {lb : Array Value} (hg : a.eval g = .func (.func gf) #[] lb) (hFg : F.fn gf) (eg : ∀ args w, (callFunc gf args).run P w = .ok (.enter gf args) w)
    {elem : Nat → Array Value} {N : Nat} {M : World → Prop} (hseq : HandsP F (n - 1) P gf lb elem N M) (hps : ∀ k, (elem k).size = ps.size)
    (cj : Code) (I : Option (Nat × Obj) → Nat → World → Prop) (Ix : World → Prop) (Ax : Option (Nat × Obj) → Nat → Act → World → Prop)
    (hI : ∀ p k W W', I p k W → Kept w.heap.size W W' → I p k W') (hIx : ∀ W W', Ix W → Kept w.heap.size W W' → Ix W') (hAx : ∀ p k a W W', Ax p k a W → Kept w.heap.size W W' → Ax p k a W')
    (hIM : ∀ p k W, I p k W → M W ∧ ∀ r o, p = some (r, o) → W.heap[r]? = some o) (hM : ∀ W', Below w.heap.size w W' → M W')
    (h0 : ∀ p W', Below w.heap.size w W' → (∀ r o, p = some (r, o) → w.heap.size ≤ r ∧ W'.heap[r]? = some o ∧ o.isCells = true) → I p 0 W')
    (hassign : ∀ (l : Nat) (p : Option (Nat × Obj)) (k : Nat) (W : World) (C : Act → World → Prop), k < N → I p k W → (∀ a' W', KeepsFrom w.heap.size W W' → Ax p k a' W' → C a' W') →
      assign.wpIn (F.inRound l) (n - 1 - 1) P (Exit.then C (fun _ _ _ => False)) { tmps := (ps.zip (elem k)).foldl (fun t (p, v) => t.setIfInBounds p v) a.tmps, defers := [] } W)
    (hbody : ∀ (l : Nat) (p : Option (Nat × Obj)) (k : Nat) (a' : Act) (W : World), k < N → Ax p k a' W → body.wpIn (F.inRound l) (n - 1 - 1) P (upPostJ w.heap.size cj (I p (k + 1)) Ix W) a' W)
    (hdone : ∀ (D : Nat) (p : Option (Nat × Obj)) (W : World), w.heap.size ≤ D → I p N W → W.heap[D]? = some (.deferred (some [])) → Q .normal { a with defers := { target := .collected D, args := #[] } :: a.defers } W)
    (hstop : ∀ (D : Nat) (W : World), w.heap.size ≤ D → Ix W → W.heap[D]? = some (.deferred (some [])) → cj.wpIn F n P Q { a with defers := { target := .collected D, args := #[] } :: a.defers } W) :
    (Code.rangeFunc g ps assign body).wpIn F n P Q a w := by
  refine wpIn_rangeFunc fun fn hfn => ?_
  rw [hro]
  obtain ⟨rc, hrc⟩ : ∃ rc : LoopState → Option Code → Loop, rc = fun st pe => { state := st, pending := pe, fn, tmps := a.tmps, params := ps, assign, body, defers := w.heap.size } := ⟨_, rfl⟩
  obtain ⟨V, hV⟩ : ∃ V, (w.alloc (.deferred (some []))).alloc (.loop (rc .ready none)) = V := ⟨_, rfl⟩
  have vL : V.heap[w.heap.size + 1]? = some (.loop (rc .ready none)) := by
    have := World.alloc_heap_new (w.alloc (.deferred (some []))) (.loop (rc .ready none))
    rw [World.size_alloc, hV] at this
    exact this
  have vD : V.heap[w.heap.size]? = some (.deferred (some [])) := by
    rw [← hV]
    exact (Below.heap_alloc _ _ _ (by simp)).trans (World.alloc_heap_new w _)
  have vB : Below w.heap.size w V := by rw [← hV]; exact ((Below.refl _ w).alloc (Nat.le_refl _) _).alloc (by simp) _
  refine ⟨w.heap.size + 1, [{ target := .collected w.heap.size, args := #[] }], V, { target := .fn (.func gf) lb, args := #[.func (.yield (w.heap.size + 1)) #[] #[]] }, V, gf, #[.func (.yield (w.heap.size + 1)) #[] #[]] ++ lb, V, ?_, ?_, ?_, ?_, fun _ => h1, ?_⟩
  · rw [← hV, hrc]; exact run_enterLoop_outer _ _ _ _ _
  · simp only [resolve, hg]
    simp [go_sem]
  · intro f' hf'
    simp [Target.leads] at hf'
    subst hf'
    exact hFg
  · simp [invoke, go_sem, eg]
  have stay : ∀ {X : World} {W W' : World} {k : Nat} {o : Obj}, W.heap[k]? = some o → Below W.heap.size W W' → W'.heap[k]? = some o := fun hk hb => by
    rw [hb.block _ (Array.getElem?_eq_some_iff.1 hk).1]; exact hk
  refine (hseq (w.heap.size + 1)
    (fun p k W => I p k W ∧ W.heap[w.heap.size + 1]? = some (.loop (rc .ready none)) ∧ W.heap[w.heap.size]? = some (.deferred (some [])))
    (fun W => Ix W ∧ W.heap[w.heap.size + 1]? = some (.loop (rc .done (some cj))) ∧ W.heap[w.heap.size]? = some (.deferred (some [])))
    V (fun p k W W' h hb => ⟨hI _ _ _ _ h.1 (Kept.of_below hb), stay (X := W) h.2.1 hb, stay (X := W) h.2.2 hb⟩) (fun W W' h hb => ⟨hIx _ _ h.1 (Kept.of_below hb), stay (X := W) h.2.1 hb, stay (X := W) h.2.2 hb⟩)
    (fun p k W h => hIM p k W h.1) ?round (hM V vB)
    (fun p W' hb hp => ⟨h0 p W' (bnext vB hb) (fun r o e => by obtain ⟨q1, q2, q3⟩ := hp r o e; exact ⟨Nat.le_trans vB.size q1, q2, q3⟩), stay (X := V) vL hb, stay (X := V) vD hb⟩)).mono ?behind
  case round =>
    rintro p k W hkN ⟨hi, hl, hd⟩
    have hlt : w.heap.size + 1 < W.heap.size := (Array.getElem?_eq_some_iff.1 hl).1
    have hy := run_yield (P := P) (args := elem k) hl (by rw [hrc]; exact hps k)
    rw [hrc] at hy
    refine ⟨fn, _, assign, body, hy, roundIn_of_wpIn hfn (hassign _ p k W _ hkN hi ?_)⟩
    intro a' W' hkf hax
    have wL := hkf.same _ _ (by omega) hl rfl
    have wD := hkf.same _ _ (Nat.le_refl _) hd rfl
    refine ⟨_, run_beginRound wL (by rw [hrc]), ?_⟩
    obtain ⟨U, hU⟩ : ∃ U, W'.putObj (w.heap.size + 1) (.loop { rc .ready none with state := .busy }) = U := ⟨_, rfl⟩
    have hlt' : w.heap.size + 1 < W'.heap.size := (Array.getElem?_eq_some_iff.1 wL).1
    have uL : U.heap[w.heap.size + 1]? = some (.loop { rc .ready none with state := .busy }) := by rw [← hU]; exact World.putObj_heap_same hlt'
    have uD : U.heap[w.heap.size]? = some (.deferred (some [])) := by rw [← hU]; exact (World.putObj_heap_other (by omega)).trans wD
    have uA : Ax p k a' U := by rw [← hU]; exact hAx _ _ _ _ _ hax (Kept.putObj _ (by omega) wL rfl)
    rw [hU]
    refine wpIn_mono (hbody _ p k a' U hkN uA) ?_
    have ends : ∀ (jump : Option Code) (X : World), KeepsFrom w.heap.size U X → X.heap[w.heap.size + 1]? = some (.loop { rc .ready none with state := .busy }) ∧
        (Instr.endRound (w.heap.size + 1) jump).run P X = .ok (.bool jump.isNone) (X.putObj (w.heap.size + 1) (.loop (rc (if jump.isNone then .ready else .done) jump))) ∧
        (X.putObj (w.heap.size + 1) (.loop (rc (if jump.isNone then .ready else .done) jump))).heap[w.heap.size + 1]? = some (.loop (rc (if jump.isNone then .ready else .done) jump)) ∧
        (X.putObj (w.heap.size + 1) (.loop (rc (if jump.isNone then .ready else .done) jump))).heap[w.heap.size]? = some (.deferred (some [])) := by
      intro jump X hX
      have xL := hX.same _ _ (by omega) uL rfl
      have xr := run_endRound (P := P) jump xL
      have xs := World.putObj_heap_same (o := .loop (rc (if jump.isNone then .ready else .done) jump)) (Array.getElem?_eq_some_iff.1 xL).1
      have xd := (World.putObj_heap_other (o := .loop (rc (if jump.isNone then .ready else .done) jump)) (show w.heap.size ≠ w.heap.size + 1 by omega)).trans (hX.same _ _ (Nat.le_refl _) uD rfl)
      refine ⟨xL, ?_, xs, xd⟩
      rw [hrc] at xr ⊢
      exact xr
    intro e b X hp
    match e, hp with
    | .normal, hp =>
      obtain ⟨hk, hi2⟩ := hp
      obtain ⟨xL, r, s, d⟩ := ends none X hk
      exact ⟨_, _, r, .inl ⟨rfl, hI _ _ _ _ hi2 (Kept.putObj _ (by omega) xL rfl), s, d⟩⟩
    | .exit c, hp =>
      obtain ⟨rfl, hk, hx⟩ := hp
      obtain ⟨xL, r, s, d⟩ := ends (some (.exit c)) X hk
      exact ⟨_, _, r, .inr ⟨rfl, hIx _ _ hx (Kept.putObj _ (by omega) xL rfl), s, d⟩⟩
    | .ret, hp =>
      obtain ⟨rfl, hk, hx⟩ := hp
      obtain ⟨xL, r, s, d⟩ := ends (some .ret) X hk
      exact ⟨_, _, r, .inr ⟨rfl, hIx _ _ hx (Kept.putObj _ (by omega) xL rfl), s, d⟩⟩
  case behind =>
    rintro e X ⟨⟨v, rfl⟩, ⟨p, hi, hl, hd⟩ | ⟨hx, hl, hd⟩⟩
    · have h := run_endLoop (P := P) hl (by rw [hrc]; simp)
      rw [hrc] at h
      exact ⟨none, _, h, hdone _ p _ (Nat.le_refl _) (hI _ _ _ _ hi (Kept.putObj _ (by omega) hl rfl)) ((World.putObj_heap_other (by omega)).trans hd)⟩
    · have h := run_endLoop (P := P) hl (by rw [hrc]; simp)
      rw [hrc] at h
      exact ⟨some cj, _, h, hstop _ _ (Nat.le_refl _) (hIx _ _ hx (Kept.putObj _ (by omega) hl rfl)) ((World.putObj_heap_other (by omega)).trans hd)⟩
end Go.Proofs.Ytildnadkfonlhaa.Fx
namespace Go.Proofs.Ytildnadkfonlhaa.Fx
open Go Go.RowKit Go.Shelf
def dealElem (ids l : List Int) (k : Nat) : Array Value := #[.int .i64 (ids.getD k 0), .int .i64 (ownK l k)]
/-- what the iterator reads -/
structure DeM (s : ScR) (l : List Int) (o : Option Addr) (c A : Nat) (X : World) : Prop where
  sc : ScAt A s X
  ms : X.heap[A + 1]? = some (.cells #[.slice o l.length c] 22 (0, 0))
  ob : ObjsAt X s.oo s.os
  me : IntsAt X o l
theorem DeM.up {s : ScR} {l : List Int} {o : Option Addr} {c A : Nat} {W X : World} (h : Below W.heap.size W X) (i : DeM s l o c A W) : DeM s l o c A X :=
  ⟨i.sc.below h, keep_row h i.ms, i.ob.below h, i.me.below h⟩
theorem IntsAt.kept {B : Nat} {W W' : World} {o : Option Addr} {l : List Int} (kp : Kept B W W') (h : IntsAt W o l) : IntsAt W' o l := fun i hi => by
  obtain ⟨b, off, e, hc⟩ := h i hi
  exact ⟨b, off, e, kp.cell hc⟩
theorem DeM.kept {s : ScR} {l : List Int} {o : Option Addr} {c A B : Nat} {W X : World} (h : Kept B W X) (i : DeM s l o c A W) : DeM s l o c A X :=
  ⟨i.sc.kept h, h.cells i.ms, i.ob.kept h, i.me.kept h⟩
theorem dealt_w (s : ScR) (n : Nat) (o : Option Addr) (c : Nat) (w : World) : Calls Try.prog 27 #[.agg (scC s), .slice o n c] w fun e w' =>
    e = .returned (.func (.func 32) #[] #[.pointer (some ⟨w.heap.size, 0, none⟩), .pointer (some ⟨w.heap.size + 1, 0, none⟩)]) ∧ w' = (w.alloc (.cells (scC s) 32)).alloc (.cells #[.slice o n c] 22) := by
  go_enter Try.func27, Try.ntmps27
  go_wp2_with fail
  go_ret
  exact ⟨rfl, rfl⟩
theorem OwnN.priv {W : World} {B : Nat} {v : Value} {l : List Int} (s : OwnN W B v l) : ∃ (o : Option Addr) (cap : Nat) (p : Option (Nat × Obj)), v = .slice o l.length cap ∧
    (∀ r ob, p = some (r, ob) → B ≤ r ∧ W.heap[r]? = some ob ∧ ob.isCells = true) ∧ ∀ X : World, (∀ r ob, p = some (r, ob) → X.heap[r]? = some ob) → IntsAt X o l := by
  obtain ⟨h1, h2⟩ := s
  rcases h2 with ⟨rfl, h0⟩ | ⟨g, cap, cur, rfl, hb, hg, h3⟩
  · exact ⟨none, 0, none, by rw [h0], fun r ob e => absurd e (by simp), fun X _ i hi => absurd hi (by omega)⟩
  · refine ⟨some ⟨g, 0, none⟩, cap, some (g, .cells cur 3 (0, 0)), rfl, fun r ob e => by cases e; exact ⟨hb, hg, rfl⟩, fun X hX => ?_⟩
    have s2 : OwnN X B (.slice (some ⟨g, 0, none⟩) l.length cap) l := ⟨h1, .inr ⟨g, cap, cur, rfl, hb, hX _ _ rfl, h3⟩⟩
    obtain ⟨o, cap2, e, ha, _⟩ := s2.form
    cases e
    exact ha
theorem wpIn_yield_any {n : Nat} {P : Program} {o : Oper} {a : Act} {w : World} {K : Act → World → Prop} {Q : Exit → Act → World → Prop} (l : Nat) {fn : FuncId} {tmps : Array Value} {assign body : Code}
    (hrun : (execOp a.eval o).run P w = .ok (.round l fn tmps assign body) w) (c : Callee) (ps : Array Operand) (ts : Array TypeId) (ho : o.op = .call { callee := c, args := ps, argTypes := ts })
    {R : Ending → World → Prop} (hR : RoundIn Fence.wide (n - 1) P l fn tmps assign body w R) (h : ∀ e w', R e w' → ∃ v, e = .returned v ∧ K (a.put o.dst v) w') : Oper.wpIn Fence.wide n P o a w K Q := by
  unfold Oper.wpIn
  refine ⟨fun f _ => trivial, ?_⟩
  rw [Oper.semAt_plain _ _ _ (by rw [ho]; intro c hc'; cases hc'), hrun]
  refine ⟨fun h => (by cases h), hR.mono fun e w' hp => ?_⟩
  obtain ⟨v, rfl, hk⟩ := h e w' hp
  exact hk
set_option maxRecDepth 100000 in
set_option maxHeartbeats 2000000 in
theorem deal_hands (s : ScR) (l : List Int) (o : Option Addr) (c A : Nat) (hs : ScWf s) (hlen : s.os.length ≤ 1000) (hl0 : 0 < l.length) (hl : l.length ≤ 1000) :
    HandsP Fence.wide 4 Try.prog 32 #[.pointer (some ⟨A, 0, none⟩), .pointer (some ⟨A + 1, 0, none⟩)] (dealElem (sortedIds s.os) l) (sortedIds s.os).length (DeM s l o c A) := by
  intro lp J Jx W hJ1 hJ2 hJM hY hM hAd
  have HALL := Lib.hid hM.sc.all
  have hall := Lib.hid (sizeS hs)
  have hid := pids_any s W hs hM.ob hlen
  have hle : (sortedIds s.os).length ≤ 1000 := by unfold sortedIds rawIds; simpa using hlen
  generalize sortedIds s.os = ids at hid hle hY ⊢
  obtain ⟨n, hn⟩ : ∃ n, ids.length = n := ⟨_, rfl⟩
  have HN := Lib.hid hn
  rw [hn] at hY hle ⊢
  have n0 : (0 : Int) ≤ (n : Int) := by omega
  have n1 : (n : Int) ≤ 1000 := by omega
  have HID := Lib.hid hid
  have HY := Lib.hid hY
  have HJ1 := Lib.hid hJ1
  have HJ2 := Lib.hid hJ2
  have HJM := Lib.hid hJM
  have HAd := Lib.hid hAd
  have HLP := Lib.hid hl0
  obtain ⟨m, hm⟩ : ∃ m, l.length = m := ⟨_, rfl⟩
  have HMM := Lib.hid hm
  rw [hm] at hl0 hl
  have m0 : (0 : Int) ≤ (m : Int) := by omega
  have m1 : (m : Int) ≤ 1000 := by omega
  have m2 : ¬ m = 0 := by omega
  clear hY hJ1 hJ2 hJM hAd hM hs hm hlen hid hn hle
  refine callsIn_of_wp Try.func32 rfl trivial ?_ rfl
  simp only [Try.ntmps32, List.size_toArray, List.length_cons, List.length_nil, Nat.reduceAdd, Nat.reduceSub, Array.replicate_succ, Array.replicate_zero, List.push_toArray, List.append_toArray, List.nil_append, List.cons_append]
  gi_wp2_with (refine wpListIn_load_mid (fun _ => trivial) rfl 32 (.tmp 1) rfl A 0 rfl (scL s) _ HALL.out Try.underlying32 rfl hall.out ?_)
  refine ⟨trivial, CallsIn.mono (callsIn_wide.2 HID.out) ?_⟩
  rintro e W1 ⟨v, rfl, ho, hb⟩
  obtain ⟨oi, ci, p, rfl, hp, hat⟩ := ho.priv
  have HAT := Lib.hid hat
  have HJ0 := Lib.hid (HAd.out p W1 hb hp)
  clear HAd HID ho hp hat hb HALL
  rw [HN.out]
  gi_wp2_with fail
  gi_loopw [4, 5, 9] (fun v4 v5 v9 wr => ∃ k : Nat, v9 = .int .i64 (k : Int) ∧ k ≤ n ∧ J p k wr) (fun _ _ v9 _ => n - (intOf v9).toNat)
  case atStart => exact ⟨0, rfl, by omega, HJ0.out⟩
  case round =>
    clear HJ0
    obtain ⟨k, rfl, hk, hJ⟩ := hrel
    have k0 : (0 : Int) ≤ (k : Int) := by omega
    by_cases hkn : k < n
    · have t1 : (k : Int) < (n : Int) := by omega
      obtain ⟨hM, hpr⟩ := HJM.out _ _ _ hJ
      obtain ⟨bi, fi, e, d1⟩ := HAT.out _ hpr k (by rw [HN.out]; exact hkn)
      subst e
      obtain ⟨fn, tmps, assign, body, hy, hR⟩ := HY.out p k _ hkn (HJ1.out p k _ _ hJ (bdrew0 _ wr 1))
      obtain ⟨bm, om, e, c2⟩ := hM.me (k % l.length) (Nat.mod_lt _ HLP.out)
      subst e
      have c1 : wr.cell? ⟨A + 1, 0, none⟩ = some (.slice (some ⟨bm, om, none⟩) m c) := by rw [cell_of_row _ _ _ _ _ _ hM.ms, HMM.out]; rfl
      unfold dealElem at hy
      unfold ownK at hy
      obtain ⟨j, hj⟩ : ∃ j, k % l.length = j := ⟨_, rfl⟩
      have HTM : Hid ((k : Int).tmod (m : Int) = (j : Int)) := Lib.hid (by rw [Int.tmod_eq_emod_of_nonneg (by omega), ← hj, HMM.out]; rfl)
      have hjm : (j : Int) < (m : Int) := by have := Nat.mod_lt k HLP.out; rw [hj, HMM.out] at this; omega
      have j0 : (0 : Int) ≤ (j : Int) := by omega
      rw [hj] at c2 hy
      generalize l.getD j 0 = z at c2 hy
      generalize ids.getD k 0 = x at d1 hy
      have HR := Lib.hid hR
      clear hM hpr hJ hj hR
      gi_wp2_with fail
      refine heldz_region (S := fun X => X.cell? ⟨A + 1, 0, none⟩ = some (.slice (some ⟨bm, om, none⟩) m c) ∧ X.cell? ⟨bm, om + j, none⟩ = some (.int .i64 z)) (Z := [9, 10]) (by kernel_rfl) ?_
      refine heldz_take (fun _ => trivial) [9, 10] 0 (?_) (by kernel_rfl) rfl (by kernel_rfl) (fun _ _ _ h => h) ⟨c1, c2⟩ (by kernel_rfl) ?_ ?_
      rotate_left
      · intro wz hSw; obtain ⟨q1, q2⟩ := hSw; (first | (go_simp; done) | (go_simp; with_reducible rfl))
      (try simp only [Act.put, List.getElem_toArray, List.getElem_cons_zero, List.getElem_cons_succ, List.setIfInBounds_toArray, List.set_cons_zero, List.set_cons_succ])
      refine heldz_take (fun _ => trivial) [9, 10] 1 (?_) (by kernel_rfl) rfl (by kernel_rfl) (fun _ _ _ h => h) ⟨c1, c2⟩ (by kernel_rfl) ?_ ?_
      rotate_left
      · intro wz hSw; obtain ⟨q1, q2⟩ := hSw; (first | (go_simp; done) | (go_simp; with_reducible rfl))
      (try simp only [Act.put, List.getElem_toArray, List.getElem_cons_zero, List.getElem_cons_succ, List.setIfInBounds_toArray, List.set_cons_zero, List.set_cons_succ])
      refine heldz_take (fun _ => trivial) [7, 8, 9, 10] 2 (?_) (by kernel_rfl) rfl (by kernel_rfl) (fun _ _ _ h => h) ⟨c1, c2⟩ (by kernel_rfl) ?_ ?_
      rotate_left
      · intro wz hSw; obtain ⟨q1, q2⟩ := hSw; (first | (go_simp; done) | (go_simp; with_reducible rfl))
      (try simp only [Act.put, List.getElem_toArray, List.getElem_cons_zero, List.getElem_cons_succ, List.setIfInBounds_toArray, List.set_cons_zero, List.set_cons_succ])
      refine heldz_take (fun _ => trivial) [6, 7, 8, 9, 10] 3 (?_) (by kernel_rfl) rfl (by kernel_rfl) (fun _ _ _ h => h) ⟨c1, c2⟩ (by kernel_rfl) ?_ ?_
      rotate_left
      · intro wz hSw; obtain ⟨q1, q2⟩ := hSw; (first | (go_simp; done) | (go_simp; with_reducible rfl))
      (try simp only [Act.put, List.getElem_toArray, List.getElem_cons_zero, List.getElem_cons_succ, List.setIfInBounds_toArray, List.set_cons_zero, List.set_cons_succ])
      refine heldz_take (fun _ => trivial) [5, 6, 7, 8, 9, 10] 4 (?_) (by kernel_rfl) rfl (by kernel_rfl) (fun _ _ _ h => h) ⟨c1, c2⟩ (by kernel_rfl) ?_ ?_
      rotate_left
      · intro wz hSw; obtain ⟨q1, q2⟩ := hSw; (first | (go_simp; done) | (go_simp; with_reducible rfl))
      (try simp only [Act.put, List.getElem_toArray, List.getElem_cons_zero, List.getElem_cons_succ, List.setIfInBounds_toArray, List.set_cons_zero, List.set_cons_succ])
      refine heldz_take (fun _ => trivial) [6, 7, 8, 9, 10] 5 (?_) (by kernel_rfl) rfl (by kernel_rfl) (fun _ _ _ h => h) ⟨c1, c2⟩ (by kernel_rfl) ?_ ?_
      rotate_left
      · intro wz hSw; obtain ⟨q1, q2⟩ := hSw; (first | (go_simp; done) | (go_simp; with_reducible rfl))
      (try simp only [Act.put, List.getElem_toArray, List.getElem_cons_zero, List.getElem_cons_succ, List.setIfInBounds_toArray, List.set_cons_zero, List.set_cons_succ])
      refine heldz_take (fun _ => trivial) [7, 8, 9, 10] 6 (.int .i64 (j : Int)) (by kernel_rfl) rfl (by kernel_rfl) (fun _ _ _ h => h) ⟨c1, c2⟩ (by kernel_rfl) ?_ ?_
      · intro wz hSw; obtain ⟨q1, q2⟩ := hSw; (go_simp; exact HTM.out)
      (try simp only [Act.put, List.getElem_toArray, List.getElem_cons_zero, List.getElem_cons_succ, List.setIfInBounds_toArray, List.set_cons_zero, List.set_cons_succ])
      refine heldz_take (fun _ => trivial) [8, 9, 10] 7 (.pointer (some ⟨bm, om + j, none⟩)) (by kernel_rfl) rfl (by kernel_rfl) (fun _ _ _ h => h) ⟨c1, c2⟩ (by kernel_rfl) ?_ ?_
      · intro wz hSw; obtain ⟨q1, q2⟩ := hSw; (go_simp; (try first | rfl | simp))
      (try simp only [Act.put, List.getElem_toArray, List.getElem_cons_zero, List.getElem_cons_succ, List.setIfInBounds_toArray, List.set_cons_zero, List.set_cons_succ])
      refine heldz_take (fun _ => trivial) [9, 10] 8 (?_) (by kernel_rfl) rfl (by kernel_rfl) (fun _ _ _ h => h) ⟨c1, c2⟩ (by kernel_rfl) ?_ ?_
      rotate_left
      · intro wz hSw; obtain ⟨q1, q2⟩ := hSw; (first | (go_simp; done) | (go_simp; with_reducible rfl))
      (try simp only [Act.put, List.getElem_toArray, List.getElem_cons_zero, List.getElem_cons_succ, List.setIfInBounds_toArray, List.set_cons_zero, List.set_cons_succ])
      refine heldz_step (fun _ => trivial) 9 (by kernel_rfl) rfl (fun K hK => ?_)
      rw [if_pos (by kernel_rfl)]
      refine wpIn_yield_any lp (by go_simp; exact hy) _ _ _ rfl HR.out (fun e w3 hp => ?_)
      rcases hp with ⟨rfl, hJ3⟩ | ⟨rfl, hJ3⟩
      · refine ⟨_, rfl, hK.out _ _ (fun h => (by cases h)) ?_⟩
        clear hK K
        (try simp only [Act.put, List.getElem_toArray, List.getElem_cons_zero, List.getElem_cons_succ, List.setIfInBounds_toArray, List.set_cons_zero, List.set_cons_succ])
        refine heldz_step (fun _ => trivial) 10 (by kernel_rfl) rfl (fun K hK => ?_)
        rw [if_pos (by kernel_rfl)]
        go_simp
        refine hK.out _ _ (fun h => (by cases h)) ?_
        clear hK K
        (try simp only [Act.put, List.getElem_toArray, List.getElem_cons_zero, List.getElem_cons_succ, List.setIfInBounds_toArray, List.set_cons_zero, List.set_cons_succ])
        refine heldz_done (by kernel_rfl) ?_ _
        gi_wp2_with fail
        go_roundw
        case rel => exact ⟨k + 1, by go_num, by omega, hJ3⟩
        case measure => simp [intOf]; omega
      · refine ⟨_, rfl, hK.out _ _ (fun h => (by cases h)) ?_⟩
        clear hK K
        (try simp only [Act.put, List.getElem_toArray, List.getElem_cons_zero, List.getElem_cons_succ, List.setIfInBounds_toArray, List.set_cons_zero, List.set_cons_succ])
        refine heldz_step (fun _ => trivial) 10 (by kernel_rfl) rfl (fun K hK => ?_)
        rw [if_pos (by kernel_rfl)]
        go_simp
        refine hK.out _ _ (fun h => (by cases h)) ?_
        clear hK K
        (try simp only [Act.put, List.getElem_toArray, List.getElem_cons_zero, List.getElem_cons_succ, List.setIfInBounds_toArray, List.set_cons_zero, List.set_cons_succ])
        refine heldz_done (by kernel_rfl) ?_ _
        gi_wp2_with fail
        refine bodyPost_ret (results_none rfl _ _ _) rfl ?_
        exact ⟨⟨_, rfl⟩, .inr hJ3⟩
    · obtain rfl : k = n := by omega
      have t1 : ¬ (k : Int) < (k : Int) := by omega
      gi_wp2_with fail
      go_end0
      exact ⟨⟨_, rfl⟩, .inl ⟨p, hJ⟩⟩
end Go.Proofs.Ytildnadkfonlhaa.Fx
namespace Go.Proofs.Ytildnadkfonlhaa.Fx
open Go Go.RowKit Go.Shelf
attribute [local go_sem] Oper.semAt_some
/-- a block of the iterator's own -/
def PrivAt (B : Nat) (p : Option (Nat × Obj)) (W : World) : Prop := ∀ r ob, p = some (r, ob) → B ≤ r ∧ W.heap[r]? = some ob ∧ ob.isCells = true
theorem PrivAt.kept {B C : Nat} {p : Option (Nat × Obj)} {W X : World} (h : Kept C W X) (i : PrivAt B p W) : PrivAt B p X := fun r ob e => by
  obtain ⟨h1, h2, h3⟩ := i r ob e
  exact ⟨h1, h.block r ob h2 (.inr h3), h3⟩
theorem PrivAt.up {B : Nat} {p : Option (Nat × Obj)} {W X : World} (h : Below W.heap.size W X) (i : PrivAt B p W) : PrivAt B p X := fun r ob e => by
  obtain ⟨h1, h2, h3⟩ := i r ob e
  exact ⟨h1, by rw [h.block r (Array.getElem?_eq_some_iff.1 h2).1]; exact h2, h3⟩
/-- the boxes of whose: scene, number, two results, the iterator's scene and members -/
structure WoS (s : ScR) (l : List Int) (o : Option Addr) (c : Nat) (id x : Int) (y : Bool) (w W : World) : Prop where
  box : ScAt w.heap.size s W
  idr : W.heap[w.heap.size + 1]? = some (.cells #[.int .i64 id] 3 (0, 0))
  r1 : W.heap[w.heap.size + 1 + 1]? = some (.cells #[.int .i64 x] 3 (0, 0))
  r2 : W.heap[w.heap.size + 1 + 1 + 1]? = some (.cells #[.bool y] 4 (0, 0))
  it : DeM s l o c (w.heap.size + 1 + 1 + 1 + 1) W
  below : Below w.heap.size w W
theorem WoS.kept {s : ScR} {l : List Int} {o : Option Addr} {c : Nat} {id x : Int} {y : Bool} {B : Nat} {w W X : World} (hB : w.heap.size ≤ B) (h : Kept B W X) (i : WoS s l o c id x y w W) : WoS s l o c id x y w X :=
  ⟨i.box.kept h, h.cells i.idr, h.cells i.r1, h.cells i.r2, i.it.kept h, h.below hB i.below⟩
theorem WoS.up {s : ScR} {l : List Int} {o : Option Addr} {c : Nat} {id x : Int} {y : Bool} {w W X : World} (h : Below W.heap.size W X) (i : WoS s l o c id x y w W) : WoS s l o c id x y w X :=
  ⟨i.box.below h, keep_row h i.idr, keep_row h i.r1, keep_row h i.r2, i.it.up h, bnext i.below h⟩
theorem WoS.drew {s : ScR} {l : List Int} {o : Option Addr} {c : Nat} {id x : Int} {y : Bool} {w W : World} (i : WoS s l o c id x y w W) : WoS s l o c id x y w W.drew := i.up (bdrew0 _ W 1)
theorem WoS.facts {s : ScR} {l : List Int} {o : Option Addr} {c : Nat} {id x : Int} {y : Bool} {w W : World} (i : WoS s l o c id x y w W) :
    W.cell? ⟨w.heap.size + 1, 0, none⟩ = some (.int .i64 id) ∧ W.cell? ⟨w.heap.size + 1 + 1, 0, none⟩ = some (.int .i64 x) ∧ W.cell? ⟨w.heap.size + 1 + 1 + 1, 0, none⟩ = some (.bool y) ∧
    W.frozen? ⟨w.heap.size + 1 + 1, 0, none⟩ = false ∧ W.frozen? ⟨w.heap.size + 1 + 1 + 1, 0, none⟩ = false :=
  ⟨by rw [cell_of_row _ _ _ _ _ _ i.idr]; rfl, by rw [cell_of_row _ _ _ _ _ _ i.r1]; rfl, by rw [cell_of_row _ _ _ _ _ _ i.r2]; rfl, frozen_row i.r1, frozen_row i.r2⟩
theorem WoS.put {s : ScR} {l : List Int} {o : Option Addr} {c : Nat} {id x x2 : Int} {y y2 : Bool} {w W : World} (hob : ObjsAt w s.oo s.os) (hme : IntsAt w o l) (i : WoS s l o c id x y w W) :
    WoS s l o c id x2 y2 w ((W.setCell ⟨w.heap.size + 1 + 1, 0, none⟩ (.int .i64 x2)).setCell ⟨w.heap.size + 1 + 1 + 1, 0, none⟩ (.bool y2)) := by
  have a1 := heap_setCell_same W _ 0 _ _ (.int .i64 x2) i.r1
  have o1 : ∀ {g : Nat} {ob : Obj}, g ≠ w.heap.size + 1 + 1 → g ≠ w.heap.size + 1 + 1 + 1 → W.heap[g]? = some ob → ((W.setCell ⟨w.heap.size + 1 + 1, 0, none⟩ (.int .i64 x2)).setCell ⟨w.heap.size + 1 + 1 + 1, 0, none⟩ (.bool y2)).heap[g]? = some ob := fun h1 h2 h => by
    rw [heap_setCell_other _ _ _ _ h2, heap_setCell_other _ _ _ _ h1]
    exact h
  have hb : Below w.heap.size w ((W.setCell ⟨w.heap.size + 1 + 1, 0, none⟩ (.int .i64 x2)).setCell ⟨w.heap.size + 1 + 1 + 1, 0, none⟩ (.bool y2)) := (i.below.setCell (p := ⟨w.heap.size + 1 + 1, 0, none⟩) (by show _ ≤ w.heap.size + 1 + 1; omega) _).setCell (p := ⟨w.heap.size + 1 + 1 + 1, 0, none⟩) (by show _ ≤ w.heap.size + 1 + 1 + 1; omega) _
  refine ⟨o1 (by omega) (by omega) i.box, o1 (by omega) (by omega) i.idr, ?_, ?_, ⟨o1 (by omega) (by omega) i.it.sc, o1 (by omega) (by omega) i.it.ms, hob.below hb, hme.below hb⟩, hb⟩
  · rw [heap_setCell_other _ _ _ _ (by show _ ≠ w.heap.size + 1 + 1 + 1; omega)]
    exact a1
  · have a2 : (W.setCell ⟨w.heap.size + 1 + 1, 0, none⟩ (.int .i64 x2)).heap[w.heap.size + 1 + 1 + 1]? = some (.cells #[.bool y] 4 (0, 0)) := by
      rw [heap_setCell_other _ _ _ _ (by show _ ≠ w.heap.size + 1 + 1; omega)]
      exact i.r2
    exact heap_setCell_same _ _ 0 _ _ (.bool y2) a2
def noneUpto (ids : List Int) (id : Int) (k : Nat) : Prop := (ids.take k).findIdx? (fun x => decide (x = id)) = none
def WoI (s : ScR) (l : List Int) (o : Option Addr) (c : Nat) (id : Int) (w : World) (p : Option (Nat × Obj)) (k : Nat) (W : World) : Prop :=
  WoS s l o c id 0 false w W ∧ noneUpto (sortedIds s.os) id k ∧ PrivAt w.heap.size p W
def WoX (s : ScR) (l : List Int) (o : Option Addr) (c : Nat) (id : Int) (w W : World) : Prop := ∃ m : Int, WoS s l o c id m true w W ∧ whoseZ (sortedIds s.os) l id = some m
def WoA (s : ScR) (l : List Int) (o : Option Addr) (c : Nat) (id : Int) (w : World) (k : Nat) (a : Act) : Prop :=
  a = { tmps := #[.agg (scC s), .slice o l.length c, .int .i64 id, .pointer (some ⟨w.heap.size, 0, none⟩), undef, .pointer (some ⟨w.heap.size + 1, 0, none⟩), .pointer (some ⟨w.heap.size + 1 + 1, 0, none⟩), .pointer (some ⟨w.heap.size + 1 + 1 + 1, 0, none⟩), .int .i64 ((sortedIds s.os).getD k 0), .int .i64 (ownK l k),
    .agg (scC s), .slice o l.length c, .func (.func 32) #[] #[.pointer (some ⟨w.heap.size + 1 + 1 + 1 + 1, 0, none⟩), .pointer (some ⟨w.heap.size + 1 + 1 + 1 + 1 + 1, 0, none⟩)], .int .i64 ((sortedIds s.os).getD k 0), .int .i64 (ownK l k), undef, undef, undef, undef, undef, undef], defers := [] }
def RetWhose (r : Option Int) (w : World) (e : Ending) (w' : World) : Prop := e = .returned (.tuple #[.int .i64 (r.getD 0), .bool r.isSome]) ∧ Below w.heap.size w w'
set_option maxRecDepth 100000 in
set_option maxHeartbeats 4000000 in
theorem pwhose_any (s : ScR) (l : List Int) (o : Option Addr) (c : Nat) (id : Int) (w : World) (hs : ScWf s) (h : ObjsAt w s.oo s.os) (hme : IntsAt w o l) (hlen : s.os.length ≤ 1000) (hl0 : 0 < l.length) (hl : l.length ≤ 1000) :
    Calls Try.prog 20 #[.agg (scC s), .slice o l.length c, .int .i64 id] w (RetWhose (whoseZ (sortedIds s.os) l id) w) := by
  obtain ⟨W1, hW1⟩ : ∃ W1, (((w.alloc (.cells (scC s) 32)).alloc (.cells #[.int .i64 id] 3)).alloc (.cells #[.int .i64 0] 3)).alloc (.cells #[.bool false] 4) = W1 := ⟨_, rfl⟩
  obtain ⟨W0, hW0⟩ : ∃ W0, (W1.alloc (.cells (scC s) 32)).alloc (.cells #[.slice o l.length c] 22) = W0 := ⟨_, rfl⟩
  have hs1 : W1.heap.size = w.heap.size + 1 + 1 + 1 + 1 := by rw [← hW1]; simp
  have b1 : Below w.heap.size w W1 := by rw [← hW1]; exact ((((Below.refl _ w).alloc (Nat.le_refl _) _).alloc (by simp) _).alloc (by simp; omega) _).alloc (by simp; omega) _
  have h12 : Below W1.heap.size W1 W0 := by rw [← hW0]; exact ((Below.refl _ W1).alloc (Nat.le_refl _) _).alloc (by simp) _
  have b0 := bnext b1 h12
  have g0 : ScAt w.heap.size s W1 := by rw [← hW1]; exact step_row (step_row (step_row (ScAt.new w s)))
  have F0 : WoS s l o c id 0 false w W0 := by
    refine ⟨g0.below h12, keep_row h12 ?_, keep_row h12 ?_, keep_row h12 ?_, ⟨?_, ?_, h.below b0, hme.below b0⟩, b0⟩
    · rw [← hW1]
      have := heap_alloc_new (w.alloc (.cells (scC s) 32)) (.cells #[.int .i64 id] 3)
      rw [World.size_alloc] at this
      exact step_row (step_row this)
    · rw [← hW1]
      have := heap_alloc_new ((w.alloc (.cells (scC s) 32)).alloc (.cells #[.int .i64 id] 3)) (.cells #[.int .i64 0] 3)
      rw [World.size_alloc, World.size_alloc] at this
      exact step_row this
    · rw [← hW1]
      have := heap_alloc_new (((w.alloc (.cells (scC s) 32)).alloc (.cells #[.int .i64 id] 3)).alloc (.cells #[.int .i64 0] 3)) (.cells #[.bool false] 4)
      rw [World.size_alloc, World.size_alloc, World.size_alloc] at this
      exact this
    · rw [← hW0, ← hs1]
      exact step_row (ScAt.new W1 s)
    · rw [← hW0, ← hs1]
      have := heap_alloc_new (W1.alloc (.cells (scC s) 32)) (.cells #[.slice o l.length c] 22)
      rw [World.size_alloc] at this
      exact this
  have HF0 := Lib.hid F0
  have HS0 : Hid (W0.heap.size = w.heap.size + 1 + 1 + 1 + 1 + 1 + 1) := Lib.hid (by rw [← hW0, World.size_alloc, World.size_alloc, hs1])
  have HS1 := Lib.hid hs1
  have HW1 := Lib.hid hW1
  have HW0 := Lib.hid hW0
  have HOB := Lib.hid h
  have HME := Lib.hid hme
  have HSW := Lib.hid hs
  have HDH := Lib.hid (deal_hands s l o c (w.heap.size + 1 + 1 + 1 + 1) hs hlen hl0 hl)
  have HALL := Lib.hid g0.all
  have hall := Lib.hid (sizeS hs)
  have HL0 := Lib.hid hl0
  clear F0 h12 b1 b0 g0 hW1 hW0 hs1 hs h hme hlen hl hl0
  refine (callsIn_wide (n := 5)).1 ?_
  refine callsIn_of_wp_marks Try.func20 rfl trivial ?_ rfl
  simp only [Try.ntmps20, List.size_toArray, List.length_cons, List.length_nil, Nat.reduceAdd, Nat.reduceSub, Array.replicate_succ, Array.replicate_zero, List.push_toArray, List.append_toArray, List.nil_append, List.cons_append]
  refine wpIn_wide.2 ?_
  go_wp2_with (first | go_step3 | (rw [HW1.out]; refine wpList_load_mid rfl 32 (.tmp 3) rfl w.heap.size 0 rfl (scL s) _ HALL.out Try.underlying32 rfl hall.out ?_))
  refine (dealt_w s l.length o c _).mono ?_
  rintro e w' ⟨rfl, rfl⟩
  rw [HS1.out, HW0.out]
  go_wp2_with (first | go_step3 | fail)
  refine wpIn_wide.1 (wpIn_range_priv (F := Fence.wide) (n := 5) rfl (by omega) (gf := 32) (lb := #[.pointer (some ⟨w.heap.size + 1 + 1 + 1 + 1, 0, none⟩), .pointer (some ⟨w.heap.size + 1 + 1 + 1 + 1 + 1, 0, none⟩)]) rfl trivial (enters_of Try.func32 (by kernel_rfl) rfl)
    HDH.out (fun _ => rfl) (.exit 0) (WoI s l o c id w) (WoX s l o c id w) (fun p k a' W => WoA s l o c id w k a' ∧ WoI s l o c id w p k W)
    ?i1 ?i2 ?i3 ?i4 ?i5 ?i6 ?assign ?body ?done ?stop)
  case i1 => rintro p k W X ⟨h1, h2, h3⟩ hk; exact ⟨h1.kept (by have := HS0.out; omega) hk, h2, h3.kept hk⟩
  case i2 => rintro W X ⟨m, h1, h2⟩ hk; exact ⟨m, h1.kept (by have := HS0.out; omega) hk, h2⟩
  case i3 => rintro p k a W X ⟨h0, h1, h2, h3⟩ hk; exact ⟨h0, h1.kept (by have := HS0.out; omega) hk, h2, h3.kept hk⟩
  case i4 => rintro p k W ⟨h1, h2, h3⟩; exact ⟨h1.it, fun r ob e => (h3 r ob e).2.1⟩
  case i5 => rintro W' hb; exact (HF0.out.up hb).it
  case i6 => rintro p W' hb hp; exact ⟨HF0.out.up hb, rfl, fun r ob e => by obtain ⟨q1, q2, q3⟩ := hp r ob e; exact ⟨by have := HS0.out; omega, q2, q3⟩⟩
  case assign =>
    intro l1 p k W C hk hI hC
    have HA : Hid (WoA s l o c id w k _) := Lib.hid rfl
    have HC := Lib.hid (hC _ _ (KeepsFrom.refl _ W) ⟨HA.out, hI⟩)
    clear hC hI
    simp only [dealElem]
    generalize (sortedIds s.os).getD k 0 = z at HC ⊢
    generalize ownK l k = x at HC ⊢
    clear hk HA
    gi_wp2
    exact HC.out
  case body =>
    rintro l1 p k a' W hk ⟨ha, fs, hpre, hpv⟩
    unfold WoA at ha
    subst ha
    obtain ⟨c1, c2, c3, f1, f2⟩ := fs.facts
    have HNX := Lib.hid (whose_step hk hpre)
    have HHIT := Lib.hid (whose_hit (l := l) hk hpre)
    have HPV := Lib.hid hpv
    have HS := Lib.hid fs
    generalize (sortedIds s.os).getD k 0 = z at HNX HHIT ⊢
    generalize ownK l k = x at HHIT ⊢
    clear hpre fs hk hpv
    by_cases hz : z = id
    · have HE : Hid (WoX s l o c id w ((W.setCell ⟨w.heap.size + 1 + 1, 0, none⟩ (.int .i64 x)).setCell ⟨w.heap.size + 1 + 1 + 1, 0, none⟩ (.bool true))) := Lib.hid ⟨x, HS.out.put HOB.out HME.out, HHIT.out hz⟩
      have HKF : Hid (KeepsFrom W0.heap.size W ((W.setCell ⟨w.heap.size + 1 + 1, 0, none⟩ (.int .i64 x)).setCell ⟨w.heap.size + 1 + 1 + 1, 0, none⟩ (.bool true))) := Lib.hid (((KeepsOthers.setCell _ _ _).trans (KeepsOthers.setCell _ _ _)).from _)
      clear HNX HHIT
      gi_wp2
      exact ⟨rfl, HKF.out, HE.out⟩
    · have HE : Hid (WoI s l o c id w p (k + 1) W) := Lib.hid ⟨HS.out, HNX.out hz, HPV.out⟩
      clear HNX HHIT
      gi_wp2
      exact ⟨KeepsFrom.refl _ _, HE.out⟩
  case done =>
    rintro D p W hD ⟨fs, hpre, hpv⟩ hdef
    have HR := Lib.hid (whose_none (l := l) (Nat.le_refl _) hpre)
    have HIW := Lib.hid fs
    have HDN : Hid (DefOk w.heap.size (D + 1) [{ target := .collected D, args := #[] }] W) := Lib.hid ((DefOk.nil w.heap.size D W).cons (by have := HS0.out; omega) (Nat.le_refl _) hdef)
    obtain ⟨c1, c2, c3, f1, f2⟩ := fs.facts
    clear fs hpre hpv hdef hD
    go_wp2_with (first | go_step3 | fail)
    refine wp_region_noPanic ?_
    refine (wpIn_wide (n := 5)).1 ?_
    refine heldz_region (S := fun X => X.cell? ⟨w.heap.size + 1 + 1, 0, none⟩ = some (.int .i64 0) ∧ X.cell? ⟨w.heap.size + 1 + 1 + 1, 0, none⟩ = some (.bool false)) (Z := []) (by kernel_rfl) ?_
    refine heldz_take (fun _ => trivial) [] 0 (?_) (by kernel_rfl) rfl (by kernel_rfl) (fun _ _ _ h => h) ⟨c2, c3⟩ (by kernel_rfl) ?_ ?_
    rotate_left
    · intro wz hSw; obtain ⟨q1, q2⟩ := hSw; (first | (go_simp; done) | (go_simp; with_reducible rfl))
    (try simp only [Act.put, List.getElem_toArray, List.getElem_cons_zero, List.getElem_cons_succ, List.setIfInBounds_toArray, List.set_cons_zero, List.set_cons_succ])
    refine heldz_take (fun _ => trivial) [] 1 (?_) (by kernel_rfl) rfl (by kernel_rfl) (fun _ _ _ h => h) ⟨c2, c3⟩ (by kernel_rfl) ?_ ?_
    rotate_left
    · intro wz hSw; obtain ⟨q1, q2⟩ := hSw; (first | (go_simp; done) | (go_simp; with_reducible rfl))
    (try simp only [Act.put, List.getElem_toArray, List.getElem_cons_zero, List.getElem_cons_succ, List.setIfInBounds_toArray, List.set_cons_zero, List.set_cons_succ])
    refine heldz_step (fun _ => trivial) 2 (by kernel_rfl) rfl (fun K hK => ?_)
    go_simp
    refine hK.out _ _ (fun _ => by constructor <;> simp [go_sem, *]) ?_
    clear hK K
    (try simp only [Act.put, List.getElem_toArray, List.getElem_cons_zero, List.getElem_cons_succ, List.setIfInBounds_toArray, List.set_cons_zero, List.set_cons_succ])
    refine heldz_step (fun _ => trivial) 3 (by kernel_rfl) rfl (fun K hK => ?_)
    go_simp
    refine hK.out _ _ (fun _ => by constructor <;> simp [go_sem, *]) ?_
    clear hK K
    (try simp only [Act.put, List.getElem_toArray, List.getElem_cons_zero, List.getElem_cons_succ, List.setIfInBounds_toArray, List.set_cons_zero, List.set_cons_succ])
    refine heldz_done (by kernel_rfl) ?_ _
    refine NoPanic.normal ?_
    go_wp2_with fail
    have HP := Lib.hid ((HIW.out.put (x2 := 0) (y2 := false) HOB.out HME.out).drew)
    refine end_ret (B := w.heap.size) (hi := D + 1) (HDN.out.keeps ((((KeepsOthers.setCell _ _ _).trans (KeepsOthers.setCell _ _ _)).from _).trans (keeps_drew _ _))) (fun X hk => ?_)
    have fs2 := HP.out.kept (Nat.le_refl _) hk
    obtain ⟨_, d1, d2, _, _⟩ := fs2.facts
    have HBL := Lib.hid fs2.below
    clear fs2 hk
    refine ⟨.tuple #[.int .i64 0, .bool false], ?_, by rw [HR.out]; rfl, HBL.out⟩
    simp [results, Try.results20, go_sem, *]
  case stop =>
    rintro D W hD ⟨m, fs, hr⟩ hdef
    have HR := Lib.hid hr
    have HIW := Lib.hid fs
    have HDN : Hid (DefOk w.heap.size (D + 1) [{ target := .collected D, args := #[] }] W) := Lib.hid ((DefOk.nil w.heap.size D W).cons (by have := HS0.out; omega) (Nat.le_refl _) hdef)
    obtain ⟨c1, c2, c3, f1, f2⟩ := fs.facts
    clear fs hr hdef hD
    refine wpIn_wide.2 ?_
    go_wp2_with (first | go_step3 | fail)
    refine wp_region_noPanic ?_
    refine (wpIn_wide (n := 5)).1 ?_
    refine heldz_region (S := fun X => X.cell? ⟨w.heap.size + 1 + 1, 0, none⟩ = some (.int .i64 m) ∧ X.cell? ⟨w.heap.size + 1 + 1 + 1, 0, none⟩ = some (.bool true)) (Z := []) (by kernel_rfl) ?_
    refine heldz_take (fun _ => trivial) [] 0 (?_) (by kernel_rfl) rfl (by kernel_rfl) (fun _ _ _ h => h) ⟨c2, c3⟩ (by kernel_rfl) ?_ ?_
    rotate_left
    · intro wz hSw; obtain ⟨q1, q2⟩ := hSw; (first | (go_simp; done) | (go_simp; with_reducible rfl))
    (try simp only [Act.put, List.getElem_toArray, List.getElem_cons_zero, List.getElem_cons_succ, List.setIfInBounds_toArray, List.set_cons_zero, List.set_cons_succ])
    refine heldz_take (fun _ => trivial) [] 1 (?_) (by kernel_rfl) rfl (by kernel_rfl) (fun _ _ _ h => h) ⟨c2, c3⟩ (by kernel_rfl) ?_ ?_
    rotate_left
    · intro wz hSw; obtain ⟨q1, q2⟩ := hSw; (first | (go_simp; done) | (go_simp; with_reducible rfl))
    (try simp only [Act.put, List.getElem_toArray, List.getElem_cons_zero, List.getElem_cons_succ, List.setIfInBounds_toArray, List.set_cons_zero, List.set_cons_succ])
    refine heldz_step (fun _ => trivial) 2 (by kernel_rfl) rfl (fun K hK => ?_)
    go_simp
    refine hK.out _ _ (fun _ => by constructor <;> simp [go_sem, *]) ?_
    clear hK K
    (try simp only [Act.put, List.getElem_toArray, List.getElem_cons_zero, List.getElem_cons_succ, List.setIfInBounds_toArray, List.set_cons_zero, List.set_cons_succ])
    refine heldz_step (fun _ => trivial) 3 (by kernel_rfl) rfl (fun K hK => ?_)
    go_simp
    refine hK.out _ _ (fun _ => by constructor <;> simp [go_sem, *]) ?_
    clear hK K
    (try simp only [Act.put, List.getElem_toArray, List.getElem_cons_zero, List.getElem_cons_succ, List.setIfInBounds_toArray, List.set_cons_zero, List.set_cons_succ])
    refine heldz_done (by kernel_rfl) ?_ _
    refine NoPanic.normal ?_
    go_wp2_with fail
    have HP := Lib.hid ((HIW.out.put (x2 := m) (y2 := true) HOB.out HME.out).drew)
    refine end_ret (B := w.heap.size) (hi := D + 1) (HDN.out.keeps ((((KeepsOthers.setCell _ _ _).trans (KeepsOthers.setCell _ _ _)).from _).trans (keeps_drew _ _))) (fun X hk => ?_)
    have fs2 := HP.out.kept (Nat.le_refl _) hk
    obtain ⟨_, d1, d2, _, _⟩ := fs2.facts
    have HBL := Lib.hid fs2.below
    clear fs2 hk
    refine ⟨.tuple #[.int .i64 m, .bool true], ?_, by rw [HR.out]; rfl, HBL.out⟩
    simp [results, Try.results20, go_sem, *]
end Go.Proofs.Ytildnadkfonlhaa.Fx
namespace Go.Proofs.Ytildnadkfonlhaa.Fx
open Go Go.RowKit Go.Shelf
attribute [local go_sem] Oper.semAt_some
/-- the boxes of chosen: scene, what is asked, the list's cell, the iterator's scene and members; B: from where on the list lies -/
structure ChS (s : ScR) (l : List Int) (o : Option Addr) (c : Nat) (q v : Value) (B : Nat) (L : List Int) (w W : World) : Prop where
  box : ScAt w.heap.size s W
  ask : W.heap[w.heap.size + 1]? = some (.cells #[q] 58 (0, 0))
  cell : W.heap[w.heap.size + 1 + 1]? = some (.cells #[v] 22 (0, 0))
  it : DeM s l o c (w.heap.size + 1 + 1 + 1) W
  own : OwnN W B v L
  lo : w.heap.size + 1 + 1 + 1 + 1 + 1 ≤ B
  hi : B ≤ W.heap.size
  below : Below w.heap.size w W
theorem ChS.kept {s : ScR} {l : List Int} {o : Option Addr} {c : Nat} {q v : Value} {B C : Nat} {L : List Int} {w W X : World} (hB : w.heap.size ≤ C) (h : Kept C W X) (i : ChS s l o c q v B L w W) : ChS s l o c q v B L w X :=
  ⟨i.box.kept h, h.cells i.ask, h.cells i.cell, i.it.kept h, i.own.kept h, i.lo, Nat.le_trans i.hi h.size, h.below hB i.below⟩
theorem ChS.up {s : ScR} {l : List Int} {o : Option Addr} {c : Nat} {q v : Value} {B : Nat} {L : List Int} {w W X : World} (h : Below W.heap.size W X) (i : ChS s l o c q v B L w W) : ChS s l o c q v B L w X :=
  ⟨i.box.below h, keep_row h i.ask, keep_row h i.cell, i.it.up h, i.own.below h, i.lo, Nat.le_trans i.hi h.size, bnext i.below h⟩
theorem ChS.facts {s : ScR} {l : List Int} {o : Option Addr} {c : Nat} {q v : Value} {B : Nat} {L : List Int} {w W : World} (i : ChS s l o c q v B L w W) :
    W.cell? ⟨w.heap.size + 1, 0, none⟩ = some q ∧ W.cell? ⟨w.heap.size + 1 + 1, 0, none⟩ = some v :=
  ⟨by rw [cell_of_row _ _ _ _ _ _ i.ask]; rfl, by rw [cell_of_row _ _ _ _ _ _ i.cell]; rfl⟩
theorem ChS.low {s : ScR} {l : List Int} {o : Option Addr} {c : Nat} {q v : Value} {B : Nat} {L : List Int} {w W X : World} (i : ChS s l o c q v B L w W) (hg : W.grownBy X v.ownBlock) {g : Nat} {ob : Obj} (hlt : g < B) (h : W.heap[g]? = some ob) : X.heap[g]? = some ob := by
  rw [hg.block _ (Array.getElem?_eq_some_iff.1 h).1 (fun e => by have := i.own.blk _ e.symm; omega)]
  exact h
theorem ChS.step {s : ScR} {l : List Int} {o : Option Addr} {c : Nat} {q v v' : Value} {B : Nat} {L L' : List Int} {w W X : World} (hob : ObjsAt w s.oo s.os) (hme : IntsAt w o l) (i : ChS s l o c q v B L w W) (ho : OwnN X B v' L') (hg : W.grownBy X v.ownBlock) :
    ChS s l o c q v' B L' w (X.setCell ⟨w.heap.size + 1 + 1, 0, none⟩ v') := by
  have hlo := i.lo
  have k2 : ∀ {g : Nat} {ob : Obj}, g ≠ w.heap.size + 1 + 1 → g < B → W.heap[g]? = some ob → (X.setCell ⟨w.heap.size + 1 + 1, 0, none⟩ v').heap[g]? = some ob := fun hne hlt h => by
    rw [heap_setCell_other _ _ _ _ hne]
    exact i.low hg hlt h
  have hb : Below w.heap.size w (X.setCell ⟨w.heap.size + 1 + 1, 0, none⟩ v') := (below_grown2 (Nat.le_refl _) i.below hg (fun k hk => by have := i.own.blk k hk; omega)).setCell (p := ⟨w.heap.size + 1 + 1, 0, none⟩) (by show _ ≤ w.heap.size + 1 + 1; omega) _
  exact ⟨k2 (by omega) (by omega) i.box, k2 (by omega) (by omega) i.ask, heap_setCell_same _ _ 0 _ _ v' (i.low hg (by omega) i.cell), ⟨k2 (by omega) (by omega) i.it.sc, k2 (by omega) (by omega) i.it.ms, hob.below hb, hme.below hb⟩, ho.cellset (by omega), i.lo, by simpa using Nat.le_trans i.hi hg.size, hb⟩
/-- the iterator's own block lies ahead of the list -/
def PrivIn (B : Nat) (p : Option (Nat × Obj)) (W : World) : Prop := ∀ r ob, p = some (r, ob) → r < B ∧ W.heap[r]? = some ob ∧ ob.isCells = true
def ChI (s : ScR) (l : List Int) (o : Option Addr) (c : Nat) (q : Value) (f : Int → Int → Bool) (w : World) (p : Option (Nat × Obj)) (k : Nat) (W : World) : Prop :=
  ∃ (v : Value) (B : Nat), ChS s l o c q v B (chosenK f (sortedIds s.os) l k) w W ∧ PrivIn B p W ∧ PrivAt (w.heap.size + 1 + 1 + 1) p W
def ChA (s : ScR) (l : List Int) (o : Option Addr) (c : Nat) (q : Value) (w : World) (k : Nat) (a : Act) : Prop :=
  a = { tmps := #[.agg (scC s), .slice o l.length c, q, .pointer (some ⟨w.heap.size, 0, none⟩), undef, .pointer (some ⟨w.heap.size + 1, 0, none⟩), .slice none 0 0, .pointer (some ⟨w.heap.size + 1 + 1, 0, none⟩), .int .i64 ((sortedIds s.os).getD k 0), .int .i64 (ownK l k),
    .agg (scC s), .slice o l.length c, .func (.func 32) #[] #[.pointer (some ⟨w.heap.size + 1 + 1 + 1, 0, none⟩), .pointer (some ⟨w.heap.size + 1 + 1 + 1 + 1, 0, none⟩)], .int .i64 ((sortedIds s.os).getD k 0), .int .i64 (ownK l k), undef, undef, undef, undef, undef, undef, undef, undef, undef], defers := [] }
set_option maxRecDepth 100000 in
set_option maxHeartbeats 4000000 in
theorem chosen_any (s : ScR) (l : List Int) (o : Option Addr) (c g : Nat) (lb : Array Value) (f : Int → Int → Bool) (w : World) (eg : ∀ args w, (callFunc g args).run Try.prog w = .ok (.enter g args) w) (hs : ScWf s) (h : ObjsAt w s.oo s.os) (hme : IntsAt w o l) (hlen : s.os.length ≤ 1000) (hl0 : 0 < l.length) (hl : l.length ≤ 1000)
    (hf : ∀ (W : World) (x y : Int), Below w.heap.size w W → Calls Try.prog g (#[.int .i64 x, .int .i64 y] ++ lb) W fun e w' => e = .returned (.bool (f x y)) ∧ Below W.heap.size W w') :
    Calls Try.prog 21 #[.agg (scC s), .slice o l.length c, .func (.func g) #[] lb] w (RetIDsP (chosenZ f (sortedIds s.os) l) w) := by
  obtain ⟨W1, hW1⟩ : ∃ W1, ((w.alloc (.cells (scC s) 32)).alloc (.cells #[.func (.func g) #[] lb] 58)).alloc (.cells #[.slice none 0 0] 22) = W1 := ⟨_, rfl⟩
  obtain ⟨W0, hW0⟩ : ∃ W0, (W1.alloc (.cells (scC s) 32)).alloc (.cells #[.slice o l.length c] 22) = W0 := ⟨_, rfl⟩
  have hs1 : W1.heap.size = w.heap.size + 1 + 1 + 1 := by rw [← hW1]; simp
  have b1 : Below w.heap.size w W1 := by rw [← hW1]; exact (((Below.refl _ w).alloc (Nat.le_refl _) _).alloc (by simp) _).alloc (by simp; omega) _
  have h12 : Below W1.heap.size W1 W0 := by rw [← hW0]; exact ((Below.refl _ W1).alloc (Nat.le_refl _) _).alloc (by simp) _
  have b0 := bnext b1 h12
  have hs0 : W0.heap.size = w.heap.size + 1 + 1 + 1 + 1 + 1 := by rw [← hW0, World.size_alloc, World.size_alloc, hs1]
  have g0 : ScAt w.heap.size s W1 := by rw [← hW1]; exact step_row (step_row (ScAt.new w s))
  have F0 : ∀ X, Below W0.heap.size W0 X → ChS s l o c (.func (.func g) #[] lb) (.slice none 0 0) X.heap.size [] w X := fun X hX => by
    refine ⟨(g0.below h12).below hX, keep_row hX (keep_row h12 ?_), keep_row hX (keep_row h12 ?_), DeM.up hX ⟨?_, ?_, h.below b0, hme.below b0⟩, ⟨rfl, .inl ⟨rfl, rfl⟩⟩, by have := hX.size; omega, Nat.le_refl _, bnext b0 hX⟩
    · rw [← hW1]
      have := heap_alloc_new (w.alloc (.cells (scC s) 32)) (.cells #[.func (.func g) #[] lb] 58)
      rw [World.size_alloc] at this
      exact step_row this
    · rw [← hW1]
      have := heap_alloc_new ((w.alloc (.cells (scC s) 32)).alloc (.cells #[.func (.func g) #[] lb] 58)) (.cells #[.slice none 0 0] 22)
      rw [World.size_alloc, World.size_alloc] at this
      exact this
    · rw [← hW0, ← hs1]
      exact step_row (ScAt.new W1 s)
    · rw [← hW0, ← hs1]
      have := heap_alloc_new (W1.alloc (.cells (scC s) 32)) (.cells #[.slice o l.length c] 22)
      rw [World.size_alloc] at this
      exact this
  have HF0 := Lib.hid F0
  have HS0 := Lib.hid hs0
  have HS1 := Lib.hid hs1
  have HW1 := Lib.hid hW1
  have HW0 := Lib.hid hW0
  have HOB := Lib.hid h
  have HME := Lib.hid hme
  have HFF := Lib.hid hf
  have HLEN := Lib.hid (show (sortedIds s.os).length ≤ 1000 by unfold sortedIds rawIds; simpa using hlen)
  have HDH := Lib.hid (deal_hands s l o c (w.heap.size + 1 + 1 + 1) hs hlen hl0 hl)
  have HALL := Lib.hid g0.all
  have hall := Lib.hid (sizeS hs)
  clear F0 h12 b1 b0 g0 hW1 hW0 hs1 hs0 hs h hme hlen hl hl0 hf
  refine (callsIn_wide (n := 5)).1 ?_
  refine callsIn_of_wp_marks Try.func21 rfl trivial ?_ rfl
  simp only [Try.ntmps21, List.size_toArray, List.length_cons, List.length_nil, Nat.reduceAdd, Nat.reduceSub, Array.replicate_succ, Array.replicate_zero, List.push_toArray, List.append_toArray, List.nil_append, List.cons_append]
  refine wpIn_wide.2 ?_
  go_wp2_with (first | (rw [HW1.out]; refine wpList_load_mid rfl 32 (.tmp 3) rfl w.heap.size 0 rfl (scL s) _ HALL.out Try.underlying32 rfl hall.out ?_))
  refine (dealt_w s l.length o c _).mono ?_
  rintro e w' ⟨rfl, rfl⟩
  rw [HS1.out, HW0.out]
  go_wp2_with fail
  refine wpIn_wide.1 (wpIn_range_priv (F := Fence.wide) (n := 5) rfl (by omega) (gf := 32) (lb := #[.pointer (some ⟨w.heap.size + 1 + 1 + 1, 0, none⟩), .pointer (some ⟨w.heap.size + 1 + 1 + 1 + 1, 0, none⟩)]) rfl trivial (enters_of Try.func32 (by kernel_rfl) rfl)
    HDH.out (fun _ => rfl) .ret (ChI s l o c (.func (.func g) #[] lb) f w) (fun _ => False) (fun p k a' W => ChA s l o c (.func (.func g) #[] lb) w k a' ∧ ChI s l o c (.func (.func g) #[] lb) f w p k W)
    ?i1 ?i2 ?i3 ?i4 ?i5 ?i6 ?assign ?body ?done ?stop)
  case i1 => rintro p k W X ⟨v, B, h1, h2, h3⟩ hk; exact ⟨v, B, h1.kept (by have := HS0.out; omega) hk, fun r ob e => ⟨(h2 r ob e).1, (h3.kept hk r ob e).2⟩, h3.kept hk⟩
  case i2 => rintro W X h; exact h.elim
  case i3 => rintro p k a W X ⟨h0, v, B, h1, h2, h3⟩ hk; exact ⟨h0, v, B, h1.kept (by have := HS0.out; omega) hk, fun r ob e => ⟨(h2 r ob e).1, (h3.kept hk r ob e).2⟩, h3.kept hk⟩
  case i4 => rintro p k W ⟨v, B, h1, h2, h3⟩; exact ⟨h1.it, fun r ob e => (h3 r ob e).2.1⟩
  case i5 => rintro W' hb; exact (HF0.out _ hb).it
  case i6 => rintro p W' hb hp; exact ⟨_, _, HF0.out _ hb, fun r ob e => by obtain ⟨q1, q2, q3⟩ := hp r ob e; exact ⟨(Array.getElem?_eq_some_iff.1 q2).1, q2, q3⟩, fun r ob e => by obtain ⟨q1, q2, q3⟩ := hp r ob e; exact ⟨by have := HS0.out; omega, q2, q3⟩⟩
  case assign =>
    intro l1 p k W C hk hI hC
    have HA : Hid (ChA s l o c (.func (.func g) #[] lb) w k _) := Lib.hid rfl
    have HC := Lib.hid (hC _ _ (KeepsFrom.refl _ W) ⟨HA.out, hI⟩)
    clear hC hI
    simp only [dealElem]
    generalize (sortedIds s.os).getD k 0 = z at HC ⊢
    generalize ownK l k = x at HC ⊢
    clear hk HA eg
    gi_wp2
    exact HC.out
  case body =>
    rintro l1 p k a' W hk ⟨ha, v, B, fs, hpi, hpa⟩
    unfold ChA at ha
    subst ha
    obtain ⟨c1, c2⟩ := fs.facts
    have HY : Hid (f ((sortedIds s.os).getD k 0) (ownK l k) = true → chosenK f (sortedIds s.os) l (k + 1) = chosenK f (sortedIds s.os) l k ++ [(sortedIds s.os).getD k 0]) := Lib.hid chosenK_yes
    have HX : Hid (f ((sortedIds s.os).getD k 0) (ownK l k) = false → chosenK f (sortedIds s.os) l (k + 1) = chosenK f (sortedIds s.os) l k) := Lib.hid chosenK_no
    have HLL : Hid ((chosenK f (sortedIds s.os) l k).length ≤ 1000000) := Lib.hid (by have := chosenK_len f (sortedIds s.os) l k; have := HLEN.out; omega)
    have HS := Lib.hid fs
    have HPI := Lib.hid hpi
    have HPA := Lib.hid hpa
    have HC := Lib.hid (HFF.out W ((sortedIds s.os).getD k 0) (ownK l k) fs.below)
    generalize (sortedIds s.os).getD k 0 = z at HY HX HC ⊢
    generalize ownK l k = x at HY HX HC ⊢
    generalize hL : chosenK f (sortedIds s.os) l k = L at HY HX HLL HS
    generalize hL1 : chosenK f (sortedIds s.os) l (k + 1) = L1 at HY HX
    have HL1 := Lib.hid hL1
    cases hq : f z x with
    | false =>
      have HE : Hid (L1 = L) := Lib.hid (HX.out hq)
      rw [hq] at HC
      clear fs hpi hpa hk hL hL1 hq HX HY
      gi_wp2
      refine ⟨trivial, CallsIn.mono (CallsIn.inRound l1 (callsIn_wide.2 HC.out)) ?_⟩
      rintro e X ⟨rfl, hb⟩
      have HKF := Lib.hid (below_keeps hb W0.heap.size)
      have HI : Hid (ChI s l o c (.func (.func g) #[] lb) f w p (k + 1) X) := Lib.hid ⟨v, B, by rw [HL1.out, HE.out]; exact HS.out.up hb, fun r ob e => ⟨(HPI.out r ob e).1, (HPA.out.up hb r ob e).2⟩, HPA.out.up hb⟩
      clear hb c1 c2
      gi_wp2
      exact ⟨HKF.out, HI.out⟩
    | true =>
      have HE : Hid (L1 = L ++ [z]) := Lib.hid (HY.out hq)
      rw [hq] at HC
      clear fs hpi hpa hk hL hL1 hq HX HY
      gi_wp2
      refine ⟨trivial, CallsIn.mono (CallsIn.inRound l1 (callsIn_wide.2 HC.out)) ?_⟩
      rintro e W2 ⟨rfl, hb⟩
      have HKF := Lib.hid (below_keeps hb W0.heap.size)
      have HS2 := Lib.hid (HS.out.up hb)
      have HP2 := Lib.hid (HPA.out.up hb)
      have HBB := Lib.hid HS2.out.hi
      obtain ⟨d1, d2⟩ := HS2.out.facts
      clear hb c1 c2 HC HS
      gi_wp2_with (refine appIn_num (fun _ => trivial) rfl (.tmp 19) (.tmp 21) rfl B v L z rfl HBB.out HS2.out.own HLL.out 1 rfl ?_)
      intro v' X ho hg
      refine Lib.hid ?_
      have HA2 : Hid (Below W2.heap.size W2 (W2.alloc (.cells #[.int .i64 z] 3))) := Lib.hid ((Below.refl _ W2).alloc (Nat.le_refl _) _)
      obtain ⟨o2, cap2, rfl, _, _⟩ := ho.form
      have HN := Lib.hid ((HS2.out.up HA2.out).step HOB.out HME.out ho hg)
      have f1 : X.frozen? ⟨w.heap.size + 1 + 1, 0, none⟩ = false ∧ X.cell? ⟨w.heap.size + 1 + 1, 0, none⟩ = some v := by
        have hr : X.heap[w.heap.size + 1 + 1]? = some (.cells #[v] 22 (0, 0)) := (HS2.out.up HA2.out).low hg (by have := HS2.out.lo; omega) (HS2.out.up HA2.out).cell
        exact ⟨frozen_row hr, by rw [cell_of_row _ _ _ _ _ _ hr]; rfl⟩
      obtain ⟨f1, e2⟩ := f1
      have HPX : Hid (∀ u, PrivIn B p (X.setCell ⟨w.heap.size + 1 + 1, 0, none⟩ u) ∧ PrivAt (w.heap.size + 1 + 1 + 1) p (X.setCell ⟨w.heap.size + 1 + 1, 0, none⟩ u)) := Lib.hid (fun u => by
        have hx : ∀ r ob, p = some (r, ob) → (X.setCell ⟨w.heap.size + 1 + 1, 0, none⟩ u).heap[r]? = some ob := fun r ob e => by
          have h1 := (HPI.out r ob e).1
          obtain ⟨h2, h3, _⟩ := HP2.out.up HA2.out r ob e
          rw [heap_setCell_other _ _ _ _ (by show r ≠ w.heap.size + 1 + 1; omega)]
          exact (HS2.out.up HA2.out).low hg h1 h3
        exact ⟨fun r ob e => ⟨(HPI.out r ob e).1, hx r ob e, (HP2.out r ob e).2.2⟩, fun r ob e => ⟨(HP2.out r ob e).1, hx r ob e, (HP2.out r ob e).2.2⟩⟩)
      have HKF2 : Hid (∀ u, KeepsFrom W0.heap.size W (X.setCell ⟨w.heap.size + 1 + 1, 0, none⟩ u)) := Lib.hid (fun u => HKF.out.trans (((below_keeps HA2.out _).trans (⟨hg.size, fun k ob _ hk ho => by
        rw [hg.block k (Array.getElem?_eq_some_iff.1 hk).1 (fun e => by
          obtain ⟨_, h2⟩ := HS2.out.own.below HA2.out
          rcases h2 with ⟨rfl, _⟩ | ⟨g, cap, cur, rfl, _, hgr, _⟩
          · cases e
          · cases e
            rw [hgr] at hk
            cases hk
            cases ho)]
        exact hk⟩ : KeepsFrom W0.heap.size _ X)).trans ((KeepsOthers.setCell _ _ _).from _)))
      obtain ⟨ml, hml⟩ : ∃ ml, (L ++ [z]).length = ml := ⟨_, rfl⟩
      rw [hml] at HN ⊢
      rw [← HE.out, ← HL1.out] at HN
      clear ho hg d1 d2 HS2 hml
      gi_wp2
      exact ⟨HKF2.out _, _, B, HN.out, (HPX.out _).1, (HPX.out _).2⟩
  case done =>
    rintro D p W hD ⟨v, B, fs, hpi, hpa⟩ hdef
    have HIW := Lib.hid fs
    have HDN : Hid (DefOk w.heap.size (D + 1) [{ target := .collected D, args := #[] }] W) := Lib.hid ((DefOk.nil w.heap.size D W).cons (by have := HS0.out; omega) (Nat.le_refl _) hdef)
    obtain ⟨c1, c2⟩ := fs.facts
    clear fs hpi hpa hdef hD eg
    go_wp2_with fail
    refine leaves_all (B := w.heap.size) _ (D + 1) _ HDN.out (fun X hk => ?_)
    have fs2 := HIW.out.kept (Nat.le_refl _) hk
    have HO := Lib.hid (fs2.own.base (show w.heap.size ≤ B by have := fs2.lo; omega))
    have HBL := Lib.hid fs2.below
    clear fs2 hk
    refine ⟨v, ?_, v, rfl, HO.out, HBL.out⟩
    simp [results, Try.results21, go_sem, *]
  case stop => rintro D W hD h; exact h.elim
end Go.Proofs.Ytildnadkfonlhaa.Fx
namespace Go.Proofs.Ytildnadkfonlhaa.Fx
open Go Go.RowKit Go.Shelf
theorem held_fn (x y m : Int) (A : Nat) (W : World) (h : W.cell? ⟨A, 0, none⟩ = some (.int .i64 m)) :
    Calls Try.prog 25 #[.int .i64 x, .int .i64 y, .pointer (some ⟨A, 0, none⟩)] W fun e w' => e = .returned (.bool (decide (y = m))) ∧ Below W.heap.size W w' := by
  go_enter Try.func25, Try.ntmps25
  go_wp2_with fail
  go_ret
  exact ⟨rfl, Below.refl _ _⟩
theorem box_at {w : World} {v u : Value} {t r : TypeId} : ((w.alloc (.cells #[v] t)).alloc (.cells #[u] r)).cell? ⟨w.heap.size, 0, none⟩ = some v := by
  rw [cell_of_row _ _ _ _ _ _ (step_row (heap_alloc_new _ _))]
  rfl
theorem OwnN.upTo {w W : World} {B : Nat} {v : Value} {l : List Int} (hb : Below w.heap.size w W) (h : OwnN W B v l) (hw : w.heap.size ≤ B) : OwnN W w.heap.size v l := h.base hw
set_option maxRecDepth 100000 in
set_option maxHeartbeats 2000000 in
theorem held_any (s : ScR) (l : List Int) (o : Option Addr) (c : Nat) (m : Int) (w : World) (hs : ScWf s) (h : ObjsAt w s.oo s.os) (hme : IntsAt w o l) (hlen : s.os.length ≤ 1000) (hl0 : 0 < l.length) (hl : l.length ≤ 1000) :
    Calls Try.prog 18 #[.agg (scC s), .slice o l.length c, .int .i64 m] w (RetIDsP (heldZ (sortedIds s.os) l m) w) := by
  obtain ⟨W1, hW1⟩ : ∃ W1, (w.alloc (.cells (scC s) 32)).alloc (.cells #[.int .i64 m] 3) = W1 := ⟨_, rfl⟩
  have b1 : Below w.heap.size w W1 := by rw [← hW1]; exact ((Below.refl _ w).alloc (Nat.le_refl _) _).alloc (by simp) _
  have hsc : ScAt w.heap.size s W1 := by rw [← hW1]; exact step_row (ScAt.new w s)
  have hc : W1.heap[w.heap.size + 1]? = some (.cells #[.int .i64 m] 3 (0, 0)) := by
    rw [← hW1]
    have := heap_alloc_new (w.alloc (.cells (scC s) 32)) (.cells #[.int .i64 m] 3)
    rw [World.size_alloc] at this
    exact this
  have HALL := Lib.hid hsc.all
  have hall := Lib.hid (sizeS hs)
  have HCH := Lib.hid (chosen_any s l o c 25 #[.pointer (some ⟨w.heap.size + 1, 0, none⟩)] (fun _ y => decide (y = m)) W1 (enters_of Try.func25 (by kernel_rfl) rfl) hs (h.below b1) (hme.below b1) hlen hl0 hl
    (fun W x y hW => held_fn x y m (w.heap.size + 1) W (by rw [cell_of_row _ _ _ _ _ _ (keep_row hW hc)]; rfl)))
  have HB1 := Lib.hid b1
  have HW1 := Lib.hid hW1
  clear b1 hsc hc hW1 hs h hme hlen hl0 hl
  generalize l.length = n at HCH ⊢
  go_enter Try.func18, Try.ntmps18
  go_wp2_with (first | (rw [HW1.out]; refine wpList_load_mid rfl 32 (.tmp 3) rfl w.heap.size 0 rfl (scL s) _ HALL.out Try.underlying32 rfl hall.out ?_))
  refine HCH.out.mono ?_
  rintro e w' ⟨v, rfl, ho, hb⟩
  have HO := Lib.hid ho
  have HB := Lib.hid hb
  clear ho hb
  go_wp2_with fail
  go_ret
  exact ⟨v, rfl, HO.out.base HB1.out.size, bnext HB1.out HB.out⟩
/-- a list that is new, and an error -/
def RetLE (L : List Int) (er : Int) (w : World) (e : Ending) (w' : World) : Prop := ∃ v, e = .returned (.tuple #[v, .int .i64 er]) ∧ OwnN w' w.heap.size v L ∧ Below w.heap.size w w'
def RetNE (z er : Int) (w : World) (e : Ending) (w' : World) : Prop := e = .returned (.tuple #[.int .i64 z, .int .i64 er]) ∧ Below w.heap.size w w'
def ownZ (s : ScR) (l : List Int) (id : Int) : Option Int := if dealB s l = true then whoseZ (sortedIds s.os) l id else none
def ofB (s : ScR) (l : List Int) (m : Int) : Bool := dealB s l && l.any (eqP m)
def ofZ (s : ScR) (l : List Int) (m : Int) : List Int := if ofB s l m = true then heldZ (sortedIds s.os) l m else []
def moB (s : ScR) (a b : List Int) : Bool := dealB s a && memB b
def moZ (s : ScR) (a b : List Int) : List Int := if moB s a b = true then movedZ (sortedIds s.os) a b else []
def errB (b : Bool) : Int := if b = true then 0 else 80
theorem deal_mem {s : ScR} {l : List Int} (h : dealB s l = true) : memB l = true := by
  unfold dealB at h
  rw [Bool.and_eq_true] at h
  exact h.1
theorem deal_many {s : ScR} {l : List Int} (h : dealB s l = true) : s.os.length ≤ 16 := by
  unfold dealB at h
  rw [Bool.and_eq_true] at h
  exact (ok_iff.1 h.2).many
/-- a scene in its box, at a function's start -/
theorem box_sc (s : ScR) (w : World) : ScAt w.heap.size s (w.alloc (.cells (scC s) 32)) := ScAt.new w s
set_option maxRecDepth 100000 in
set_option maxHeartbeats 2000000 in
theorem powner_any (s : ScR) (l : List Int) (o : Option Addr) (c : Nat) (id : Int) (w : World) (hs : ScWf s) (h : ObjsAt w s.oo s.os) (hme : IntsAt w o l) (hl : l.length ≤ 9223372036854775807) :
    Calls Try.prog 8 #[.agg (scC s), .slice o l.length c, .int .i64 id] w (RetNE ((ownZ s l id).getD 0) (errB (ownZ s l id).isSome) w) := by
  obtain ⟨W1, hW1⟩ : ∃ W1, w.alloc (.cells (scC s) 32) = W1 := ⟨_, rfl⟩
  have b1 : Below w.heap.size w W1 := by rw [← hW1]; exact (Below.refl _ w).alloc (Nat.le_refl _) _
  have hsc : ScAt w.heap.size s W1 := by rw [← hW1]; exact ScAt.new w s
  have HSC := Lib.hid hsc
  have HALL := Lib.hid hsc.all
  have hall := Lib.hid (sizeS hs)
  have HM := Lib.hid (pmay_any s l o c W1 hs (h.below b1) (hme.below b1) hl)
  have HB1 := Lib.hid b1
  have HW1 := Lib.hid hW1
  have HWH : Hid (dealB s l = true → ∀ W, Below W1.heap.size W1 W → Calls Try.prog 20 #[.agg (scC s), .slice o l.length c, .int .i64 id] W (RetWhose (ownZ s l id) W)) := Lib.hid (fun hd W hW => by
    unfold ownZ
    rw [if_pos hd]
    exact pwhose_any s l o c id W hs (h.below (bnext b1 hW)) (hme.below (bnext b1 hW)) (by have := deal_many hd; omega) (mem_pos (deal_mem hd)) (by have := mem_many (deal_mem hd); omega))
  have HNO : Hid (dealB s l = false → ownZ s l id = none) := Lib.hid (fun hd => by unfold ownZ; rw [hd]; rfl)
  clear b1 hsc hW1 hs h hme hl
  generalize l.length = n at HM HWH ⊢
  generalize dealB s l = d at HM HWH HNO
  generalize ownZ s l id = z at HWH HNO ⊢
  go_enter Try.func8, Try.ntmps8
  go_wp2_with (first | (rw [HW1.out]; refine wpList_load_mid rfl 32 (.tmp 3) rfl w.heap.size 0 rfl (scL s) _ HALL.out Try.underlying32 rfl hall.out ?_))
  refine HM.out.mono ?_
  rintro e w1 ⟨rfl, hb⟩
  have HB := Lib.hid (bnext HB1.out hb)
  have HAL := Lib.hid (HSC.out.below hb).all
  cases d with
  | false =>
    obtain rfl := HNO.out (by simp)
    clear hb HWH
    go_wp2_with fail
    go_ret2
    exact ⟨rfl, HB.out⟩
  | true =>
    have HC := Lib.hid (HWH.out (by simp) _ hb)
    clear hb HWH HNO
    go_wp2_with (refine wpList_load_mid rfl 32 (.tmp 3) rfl w.heap.size 0 rfl (scL s) _ HAL.out Try.underlying32 rfl hall.out ?_)
    refine HC.out.mono ?_
    rintro e w2 ⟨rfl, hb⟩
    have HB2 := Lib.hid (bnext HB.out hb)
    clear hb
    cases z with
    | none =>
      go_wp2_with fail
      go_ret2
      exact ⟨rfl, HB2.out⟩
    | some z =>
      go_wp2_with fail
      go_ret2
      exact ⟨rfl, HB2.out⟩
set_option maxRecDepth 100000 in
set_option maxHeartbeats 2000000 in
theorem pof_any (s : ScR) (l : List Int) (o : Option Addr) (c : Nat) (m : Int) (w : World) (hs : ScWf s) (h : ObjsAt w s.oo s.os) (hme : IntsAt w o l) (hl : l.length ≤ 9223372036854775807) :
    Calls Try.prog 6 #[.agg (scC s), .slice o l.length c, .int .i64 m] w (RetLE (ofZ s l m) (errB (ofB s l m)) w) := by
  obtain ⟨W1, hW1⟩ : ∃ W1, w.alloc (.cells (scC s) 32) = W1 := ⟨_, rfl⟩
  have b1 : Below w.heap.size w W1 := by rw [← hW1]; exact (Below.refl _ w).alloc (Nat.le_refl _) _
  have hsc : ScAt w.heap.size s W1 := by rw [← hW1]; exact ScAt.new w s
  have HSC := Lib.hid hsc
  have HALL := Lib.hid hsc.all
  have hall := Lib.hid (sizeS hs)
  have HM := Lib.hid (pmay_any s l o c W1 hs (h.below b1) (hme.below b1) hl)
  have HCN := Lib.hid (fun W (hW : Below W1.heap.size W1 W) => pcontains_any l m o c W (hme.below (bnext b1 hW)) hl)
  have HB1 := Lib.hid b1
  have HW1 := Lib.hid hW1
  have HWH : Hid (dealB s l = true → l.any (eqP m) = true → ∀ W, Below W1.heap.size W1 W → Calls Try.prog 18 #[.agg (scC s), .slice o l.length c, .int .i64 m] W (RetIDsP (ofZ s l m) W)) := Lib.hid (fun hd hm W hW => by
    unfold ofZ ofB
    rw [hd, hm]
    exact held_any s l o c m W hs (h.below (bnext b1 hW)) (hme.below (bnext b1 hW)) (by have := deal_many hd; omega) (mem_pos (deal_mem hd)) (by have := mem_many (deal_mem hd); omega))
  have HNO : Hid (ofB s l m = false → ofZ s l m = []) := Lib.hid (fun hd => by unfold ofZ; rw [hd]; rfl)
  clear b1 hsc hW1 hs h hme hl
  unfold ofB at HNO ⊢
  generalize l.length = n at HM HCN HWH ⊢
  generalize dealB s l = d at HM HWH HNO ⊢
  generalize l.any (eqP m) = q at HCN HWH HNO ⊢
  generalize ofZ s l m = z at HWH HNO ⊢
  go_enter Try.func6, Try.ntmps6
  cases d with
  | false =>
    obtain rfl := HNO.out (by simp)
    go_wp2_with (first | (rw [HW1.out]; refine wpList_load_mid rfl 32 (.tmp 3) rfl w.heap.size 0 rfl (scL s) _ HALL.out Try.underlying32 rfl hall.out ?_))
    refine HM.out.mono ?_
    rintro e w1 ⟨rfl, hb⟩
    have HB := Lib.hid (bnext HB1.out hb)
    clear hb HWH
    go_wp2_with fail
    go_ret2
    exact ⟨_, rfl, World.ownsRow_nil _ _ _ _, HB.out⟩
  | true =>
    go_wp2_with (first | (rw [HW1.out]; refine wpList_load_mid rfl 32 (.tmp 3) rfl w.heap.size 0 rfl (scL s) _ HALL.out Try.underlying32 rfl hall.out ?_))
    refine HM.out.mono ?_
    rintro e w1 ⟨rfl, hb⟩
    have HBW := Lib.hid hb
    have HC2 := Lib.hid (HCN.out _ hb)
    clear hb HCN
    go_wp2_with fail
    refine HC2.out.mono ?_
    rintro e w2 ⟨rfl, hb⟩
    have HB2 := Lib.hid (bnext HBW.out hb)
    clear hb
    cases q with
    | false =>
      obtain rfl := HNO.out (by simp)
      go_wp2_with fail
      go_ret2
      exact ⟨_, rfl, World.ownsRow_nil _ _ _ _, bnext HB1.out HB2.out⟩
    | true =>
      have HC := Lib.hid (HWH.out (by simp) (by simp) _ HB2.out)
      have HAL := Lib.hid (HSC.out.below HB2.out).all
      clear HWH HNO
      go_wp2_with (refine wpList_load_mid rfl 32 (.tmp 3) rfl w.heap.size 0 rfl (scL s) _ HAL.out Try.underlying32 rfl hall.out ?_)
      refine HC.out.mono ?_
      rintro e w3 ⟨v, rfl, ho, hb⟩
      have HO := Lib.hid ho
      have HB3 := Lib.hid (bnext (bnext HB1.out HB2.out) hb)
      have HSZ := Lib.hid ((bnext HB1.out HB2.out).size)
      clear ho hb
      go_wp2_with fail
      go_ret2
      exact ⟨_, rfl, HO.out.base HSZ.out, HB3.out⟩
/-- what asks whether an object's owner is another one -/
theorem moved_fn (s : ScR) (l : List Int) (o : Option Addr) (c A : Nat) (x y : Int) (W : World) (hs : ScWf s) (h : ObjsAt W s.oo s.os) (hme : IntsAt W o l) (hlen : s.os.length ≤ 1000) (hl0 : 0 < l.length) (hl : l.length ≤ 1000)
    (hsc : ScAt A s W) (hms : W.cell? ⟨A + 1, 0, none⟩ = some (.slice o l.length c)) :
    Calls Try.prog 22 #[.int .i64 x, .int .i64 y, .pointer (some ⟨A, 0, none⟩), .pointer (some ⟨A + 1, 0, none⟩)] W fun e w' => e = .returned (.bool (decide (y ≠ (whoseZ (sortedIds s.os) l x).getD 0))) ∧ Below W.heap.size W w' := by
  have HALL := Lib.hid hsc.all
  have hall := Lib.hid (sizeS hs)
  have HW := Lib.hid (pwhose_any s l o c x W hs h hme hlen hl0 hl)
  clear hs h hme hlen hl0 hl hsc
  generalize l.length = n at HW hms
  generalize whoseZ (sortedIds s.os) l x = z at HW ⊢
  go_enter Try.func22, Try.ntmps22
  go_wp2_with (first | (refine wpList_load_mid rfl 32 (.tmp 2) rfl A 0 rfl (scL s) _ HALL.out Try.underlying32 rfl hall.out ?_))
  refine HW.out.mono ?_
  rintro e w' ⟨rfl, hb⟩
  have HB := Lib.hid hb
  clear hb
  go_wp2_with fail
  go_ret
  exact ⟨by generalize z.getD 0 = r; by_cases e : y = r <;> simp [e], HB.out⟩
set_option maxRecDepth 100000 in
set_option maxHeartbeats 2000000 in
theorem pmoved_any (s : ScR) (a b : List Int) (oa ob : Option Addr) (ca cb : Nat) (w : World) (hs : ScWf s) (h : ObjsAt w s.oo s.os) (ha : IntsAt w oa a) (hb : IntsAt w ob b) (la : a.length ≤ 9223372036854775807) (lb : b.length ≤ 9223372036854775807) :
    Calls Try.prog 9 #[.agg (scC s), .slice oa a.length ca, .slice ob b.length cb] w (RetLE (moZ s a b) (errB (moB s a b)) w) := by
  obtain ⟨W1, hW1⟩ : ∃ W1, (w.alloc (.cells (scC s) 32)).alloc (.cells #[.slice oa a.length ca] 22) = W1 := ⟨_, rfl⟩
  have b1 : Below w.heap.size w W1 := by rw [← hW1]; exact ((Below.refl _ w).alloc (Nat.le_refl _) _).alloc (by simp) _
  have hsc : ScAt w.heap.size s W1 := by rw [← hW1]; exact step_row (ScAt.new w s)
  have hms : W1.heap[w.heap.size + 1]? = some (.cells #[.slice oa a.length ca] 22 (0, 0)) := by
    rw [← hW1]
    have := heap_alloc_new (w.alloc (.cells (scC s) 32)) (.cells #[.slice oa a.length ca] 22)
    rw [World.size_alloc] at this
    exact this
  have c1 : W1.cell? ⟨w.heap.size + 1, 0, none⟩ = some (.slice oa a.length ca) := by rw [cell_of_row _ _ _ _ _ _ hms]; rfl
  have HSC := Lib.hid hsc
  have HALL := Lib.hid hsc.all
  have hall := Lib.hid (sizeS hs)
  have HM := Lib.hid (pmay_any s a oa ca W1 hs (h.below b1) (ha.below b1) la)
  have HCN := Lib.hid (fun W (hW : Below W1.heap.size W1 W) => pmembers_any b ob cb W (hb.below (bnext b1 hW)) lb)
  have HB1 := Lib.hid b1
  have HW1 := Lib.hid hW1
  have HWH : Hid (dealB s a = true → memB b = true → ∀ W, Below W1.heap.size W1 W → Calls Try.prog 21 #[.agg (scC s), .slice ob b.length cb, .func (.func 22) #[] #[.pointer (some ⟨w.heap.size, 0, none⟩), .pointer (some ⟨w.heap.size + 1, 0, none⟩)]] W (RetIDsP (moZ s a b) W)) := Lib.hid (fun hd hm W hW => by
    unfold moZ moB
    rw [hd, hm]
    have h16 := deal_many hd
    exact chosen_any s b ob cb 22 #[.pointer (some ⟨w.heap.size, 0, none⟩), .pointer (some ⟨w.heap.size + 1, 0, none⟩)] (fun id o => decide (o ≠ (whoseZ (sortedIds s.os) a id).getD 0)) W (enters_of Try.func22 (by kernel_rfl) rfl) hs (h.below (bnext b1 hW)) (hb.below (bnext b1 hW)) (by omega) (mem_pos hm) (by have := mem_many hm; omega)
      (fun X x y hX => moved_fn s a oa ca w.heap.size x y X hs (h.below (bnext b1 (bnext hW hX))) (ha.below (bnext b1 (bnext hW hX))) (by omega) (mem_pos (deal_mem hd)) (by have := mem_many (deal_mem hd); omega) (hsc.below (bnext hW hX)) (by rw [cell_of_row _ _ _ _ _ _ (keep_row (bnext hW hX) hms)]; rfl)))
  have HNO : Hid (moB s a b = false → moZ s a b = []) := Lib.hid (fun hd => by unfold moZ; rw [hd]; rfl)
  clear b1 hsc hms hW1 hs h ha hb la lb
  unfold moB at HNO ⊢
  generalize a.length = n at HM HW1 c1 ⊢
  generalize b.length = m at HCN HWH ⊢
  generalize dealB s a = d at HM HWH HNO ⊢
  generalize memB b = q at HCN HWH HNO ⊢
  generalize moZ s a b = z at HWH HNO ⊢
  go_enter Try.func9, Try.ntmps9
  cases d with
  | false =>
    obtain rfl := HNO.out rfl
    go_wp2_with (first | (rw [HW1.out]; refine wpList_load_mid rfl 32 (.tmp 3) rfl w.heap.size 0 rfl (scL s) _ HALL.out Try.underlying32 rfl hall.out ?_))
    refine HM.out.mono ?_
    rintro e w1 ⟨rfl, hb⟩
    have HB := Lib.hid (bnext HB1.out hb)
    clear hb HWH
    go_wp2_with fail
    go_ret2
    exact ⟨_, rfl, World.ownsRow_nil _ _ _ _, HB.out⟩
  | true =>
    go_wp2_with (first | (rw [HW1.out]; refine wpList_load_mid rfl 32 (.tmp 3) rfl w.heap.size 0 rfl (scL s) _ HALL.out Try.underlying32 rfl hall.out ?_))
    refine HM.out.mono ?_
    rintro e w1 ⟨rfl, hb⟩
    have HBW := Lib.hid hb
    have HC2 := Lib.hid (HCN.out _ hb)
    clear hb HCN
    go_wp2_with fail
    refine HC2.out.mono ?_
    rintro e w2 ⟨rfl, hb⟩
    have HB2 := Lib.hid (bnext HBW.out hb)
    clear hb
    cases q with
    | false =>
      obtain rfl := HNO.out (by simp)
      go_wp2_with fail
      go_ret2
      exact ⟨_, rfl, World.ownsRow_nil _ _ _ _, bnext HB1.out HB2.out⟩
    | true =>
      have HC := Lib.hid (HWH.out (by simp) (by simp) _ HB2.out)
      have HAL := Lib.hid (HSC.out.below HB2.out).all
      clear HWH HNO
      go_wp2_with (refine wpList_load_mid rfl 32 (.tmp 3) rfl w.heap.size 0 rfl (scL s) _ HAL.out Try.underlying32 rfl hall.out ?_)
      refine HC.out.mono ?_
      rintro e w3 ⟨v, rfl, ho, hb⟩
      have HO := Lib.hid ho
      have HB3 := Lib.hid (bnext (bnext HB1.out HB2.out) hb)
      have HSZ := Lib.hid ((bnext HB1.out HB2.out).size)
      clear ho hb
      go_wp2_with fail
      go_ret2
      exact ⟨_, rfl, HO.out.base HSZ.out, HB3.out⟩
end Go.Proofs.Ytildnadkfonlhaa.Fx
namespace Go.Proofs.Ytildnadkfonlhaa.Fx
open Go Go.RowKit Go.Shelf
/-- a list of slices that a call made itself -/
def OwnV (W : World) (B : Nat) (v : Value) (vs : List Value) : Prop := W.ownsRow B 22 1 v vs.length vs
theorem OwnV.below {w W : World} {B : Nat} {v : Value} {l : List Value} (h : Below w.heap.size w W) (s : OwnV w B v l) : OwnV W B v l := by
  obtain ⟨h1, h2⟩ := s
  refine ⟨h1, ?_⟩
  rcases h2 with h2 | ⟨g, cap, cur, e, hb, hg, h3⟩
  · exact Or.inl h2
  · exact Or.inr ⟨g, cap, cur, e, hb, keep_row h hg, h3⟩
theorem OwnV.alloc {w : World} {B : Nat} {v : Value} {l : List Value} (s : OwnV w B v l) (o : Obj) : OwnV (w.alloc o) B v l := by
  obtain ⟨h1, h2⟩ := s
  refine ⟨h1, ?_⟩
  rcases h2 with h2 | ⟨g, cap, cur, e, hb, hg, h3⟩
  · exact Or.inl h2
  · exact Or.inr ⟨g, cap, cur, e, hb, step_row hg, h3⟩
theorem OwnV.blk {w : World} {B : Nat} {v : Value} {l : List Value} (s : OwnV w B v l) : ∀ k, v.ownBlock = some k → B ≤ k ∧ ∃ cur, w.heap[k]? = some (.cells cur 22 (0, 0)) := by
  intro k hk
  obtain ⟨h1, h2⟩ := s
  rcases h2 with ⟨rfl, _⟩ | ⟨g, cap, cur, rfl, hb, hg, _⟩
  · cases hk
  · cases hk
    exact ⟨hb, cur, hg⟩
theorem OwnV.base {w : World} {B C : Nat} {v : Value} {l : List Value} (hc : C ≤ B) (s : OwnV w B v l) : OwnV w C v l := by
  obtain ⟨h1, h2⟩ := s
  refine ⟨h1, ?_⟩
  rcases h2 with h2 | ⟨g, cap, cur, e, hb, hg, h3⟩
  · exact Or.inl h2
  · exact Or.inr ⟨g, cap, cur, e, Nat.le_trans hc hb, hg, h3⟩
theorem OwnV.form {W : World} {B : Nat} {v : Value} {l : List Value} (s : OwnV W B v l) : ∃ o cap, v = .slice o l.length cap ∧ (∀ i, i < l.length → ∃ b, o = some ⟨b, 0, none⟩ ∧ W.cell? ⟨b, i, none⟩ = some (l.getD i undef)) ∧ l.length ≤ maxLen := by
  obtain ⟨h1, h2⟩ := s
  rcases h2 with ⟨rfl, h0⟩ | ⟨g, cap, cur, rfl, hb, hg, hle, hm, hsz, htk⟩
  · exact ⟨none, 0, by rw [h0], fun i hi => by omega, by omega⟩
  · refine ⟨some ⟨g, 0, none⟩, cap, rfl, fun i hi => ⟨g, rfl, ?_⟩, Nat.le_trans hle hm⟩
    rw [cell_of_row _ _ _ _ _ _ hg]
    have h3 : l[i]? = some (l.getD i undef) := by
      rw [List.getD_eq_getElem?_getD, List.getElem?_eq_getElem hi]
      rfl
    rw [← htk, List.getElem?_take, if_pos (by omega)] at h3
    rw [htk] at h3
    simpa using h3
/-- a list of numbers stays where a list of slices grows -/
theorem OwnN.grown {W X : World} {B : Nat} {v : Value} {l : List Int} {row : Option Nat} (hg : W.grownBy X row) (hr : ∀ k, row = some k → ∃ cur, W.heap[k]? = some (.cells cur 22 (0, 0))) (s : OwnN W B v l) : OwnN X B v l := by
  obtain ⟨h1, h2⟩ := s
  refine ⟨h1, ?_⟩
  rcases h2 with h2 | ⟨g, cap, cur, e, hb, hh, h3⟩
  · exact Or.inl h2
  · refine Or.inr ⟨g, cap, cur, e, hb, ?_, h3⟩
    rw [hg.block g (Array.getElem?_eq_some_iff.1 hh).1 (fun e => by
      obtain ⟨cur2, h4⟩ := hr g e.symm
      rw [hh] at h4
      cases h4)]
    exact hh
/-- slices that are lists of numbers of one's own -/
def Lists (W : World) (B : Nat) (vs : List Value) (Ls : List (List Int)) : Prop := vs.length = Ls.length ∧ ∀ i, i < Ls.length → OwnN W B (vs.getD i undef) (Ls.getD i [])
theorem Lists.below {w W : World} {B : Nat} {vs : List Value} {Ls : List (List Int)} (h : Below w.heap.size w W) (s : Lists w B vs Ls) : Lists W B vs Ls := ⟨s.1, fun i hi => (s.2 i hi).below h⟩
theorem Lists.base {W : World} {B C : Nat} {vs : List Value} {Ls : List (List Int)} (h : C ≤ B) (s : Lists W B vs Ls) : Lists W C vs Ls := ⟨s.1, fun i hi => (s.2 i hi).base h⟩
theorem Lists.grown {W X : World} {B : Nat} {vs : List Value} {Ls : List (List Int)} {row : Option Nat} (hg : W.grownBy X row) (hr : ∀ k, row = some k → ∃ cur, W.heap[k]? = some (.cells cur 22 (0, 0))) (s : Lists W B vs Ls) : Lists X B vs Ls := ⟨s.1, fun i hi => (s.2 i hi).grown hg hr⟩
theorem Lists.snoc {W : World} {B : Nat} {vs : List Value} {Ls : List (List Int)} {v : Value} {L : List Int} (s : Lists W B vs Ls) (h : OwnN W B v L) : Lists W B (vs ++ [v]) (Ls ++ [L]) := by
  refine ⟨by simp [s.1], fun i hi => ?_⟩
  rw [List.length_append, List.length_singleton] at hi
  by_cases e : i < Ls.length
  · rw [List.getD_eq_getElem?_getD, List.getD_eq_getElem?_getD, List.getElem?_append_left (by rw [s.1]; exact e), List.getElem?_append_left e, ← List.getD_eq_getElem?_getD, ← List.getD_eq_getElem?_getD]
    exact s.2 i e
  · obtain rfl : i = Ls.length := by omega
    rw [List.getD_eq_getElem?_getD, List.getD_eq_getElem?_getD, List.getElem?_append_right (by rw [s.1]; exact Nat.le_refl _), List.getElem?_append_right (Nat.le_refl _), s.1]
    simpa using h
theorem infoV : (Try.prog.info? 22).map (fun i => (i.zero, i.size, i.bytes)) = some (some (.slice none 0 0), 1, 24) := by kernel_rfl
theorem app_sl {ops : Array Oper} {rest : List Oper} {o : Oper} {a : Act} {Q : Exit → Act → World → Prop} {W : World} (hgd : o.guard = none) (sx x : Operand)
    (ho : o.op = .call { callee := .builtin .append, args := #[sx, x], argTypes := #[37, 37] })
    (B : Nat) (v : Value) (L : List Value) (z : Value) (hs : a.eval sx = v) (hB : B ≤ W.heap.size) (hown : OwnV W B v L) (hL : L.length ≤ 100000) (hz1 : z.oneCell' = true) (c : Nat) (hx : a.eval x = .slice (some ⟨W.heap.size, 0, none⟩) 1 c)
    (h : ∀ v' X, OwnV X B v' (L ++ [z]) → (W.alloc (.cells #[z] 22)).grownBy X v.ownBlock → wpList Try.prog ops Q rest (a.put o.dst v') X) :
    wpList Try.prog ops Q (o :: rest) a (W.alloc (.cells #[z] 22)) := by
  obtain ⟨i0, hi, hz0, hz2, hz3⟩ := info_parts infoV
  refine wpList_append_own _ hgd sx x 37 ho B 22 i0 (.slice none 0 0) 1 24 Try.underlying37 hi hz0 hz2 hz3 rfl (by decide) v L.length L hs (hown.alloc _) ⟨W.heap.size, 0, none⟩ 1 c [z] hx rfl (cell_one_newN _ _ _) (by simpa using hz1) (by unfold maxLen; omega) (by omega) (by simp; omega) ?_
  intro v' w3 h1 h2 _
  exact h v' w3 (by unfold OwnV; rw [List.length_append]; exact h1) h2
def allZ (s : ScR) (l : List Int) : List (List Int) := if dealB s l = true then l.map (heldZ (sortedIds s.os) l) else []
def RetLL (Ls : List (List Int)) (er : Int) (w : World) (e : Ending) (w' : World) : Prop :=
  ∃ v vs, e = .returned (.tuple #[v, .int .i64 er]) ∧ OwnV w' w.heap.size v vs ∧ Lists w' w.heap.size vs Ls ∧ Below w.heap.size w w'
def AlRel (s : ScR) (l : List Int) (V : World) (n : Nat) (g : Nat) (s6 s8 s15 : Value) (W : World) : Prop :=
  ∃ (k : Nat) (vs : List Value), g = n - k ∧ s15 = .int .i64 (k : Int) ∧ k ≤ n ∧ vs.length = k ∧ Below V.heap.size V W ∧ OwnV W V.heap.size s6 vs ∧ Lists W V.heap.size vs ((l.take k).map (heldZ (sortedIds s.os) l))
set_option maxRecDepth 100000 in
set_option maxHeartbeats 2000000 in
theorem pall_any (s : ScR) (l : List Int) (o : Option Addr) (c : Nat) (w : World) (hs : ScWf s) (h : ObjsAt w s.oo s.os) (hme : IntsAt w o l) (hl : l.length ≤ 9223372036854775807) :
    Calls Try.prog 10 #[.agg (scC s), .slice o l.length c] w (RetLL (allZ s l) (errB (dealB s l)) w) := by
  obtain ⟨W1, hW1⟩ : ∃ W1, w.alloc (.cells (scC s) 32) = W1 := ⟨_, rfl⟩
  have b1 : Below w.heap.size w W1 := by rw [← hW1]; exact (Below.refl _ w).alloc (Nat.le_refl _) _
  have hsc : ScAt w.heap.size s W1 := by rw [← hW1]; exact ScAt.new w s
  have HSC := Lib.hid hsc
  have HALL := Lib.hid hsc.all
  have hall := Lib.hid (sizeS hs)
  have HM := Lib.hid (pmay_any s l o c W1 hs (h.below b1) (hme.below b1) hl)
  have HB1 := Lib.hid b1
  have HW1 := Lib.hid hW1
  have HWH : Hid (dealB s l = true → ∀ W x, Below W1.heap.size W1 W → Calls Try.prog 18 #[.agg (scC s), .slice o l.length c, .int .i64 x] W (RetIDsP (heldZ (sortedIds s.os) l x) W)) := Lib.hid (fun hd W x hW =>
    held_any s l o c x W hs (h.below (bnext b1 hW)) (hme.below (bnext b1 hW)) (by have := deal_many hd; omega) (mem_pos (deal_mem hd)) (by have := mem_many (deal_mem hd); omega))
  have HNO : Hid (dealB s l = false → allZ s l = []) := Lib.hid (fun hd => by unfold allZ; rw [hd]; rfl)
  have HYE : Hid (dealB s l = true → allZ s l = l.map (heldZ (sortedIds s.os) l) ∧ l.length ≤ 64) := Lib.hid (fun hd => ⟨by unfold allZ; rw [hd]; rfl, mem_many (deal_mem hd)⟩)
  have HME := Lib.hid (hme.below b1)
  clear b1 hsc hW1 hs h hme hl
  obtain ⟨n, hn⟩ : ∃ n, l.length = n := ⟨_, rfl⟩
  have HN := Lib.hid hn
  rw [hn] at HM HWH HYE ⊢
  clear hn
  generalize dealB s l = d at HM HWH HNO HYE ⊢
  generalize allZ s l = z at HNO HYE ⊢
  go_enter Try.func10, Try.ntmps10
  cases d with
  | false =>
    obtain rfl := HNO.out rfl
    go_wp2_with (first | (rw [HW1.out]; refine wpList_load_mid rfl 32 (.tmp 2) rfl w.heap.size 0 rfl (scL s) _ HALL.out Try.underlying32 rfl hall.out ?_))
    refine HM.out.mono ?_
    rintro e w1 ⟨rfl, hb⟩
    have HB := Lib.hid (bnext HB1.out hb)
    clear hb HWH HYE
    go_wp2_with fail
    go_ret2
    exact ⟨_, [], rfl, World.ownsRow_nil _ _ _ _, ⟨rfl, fun i hi => absurd hi (by simp)⟩, HB.out⟩
  | true =>
    obtain ⟨hz, h64⟩ := HYE.out rfl
    subst hz
    have HHE := Lib.hid (HWH.out rfl)
    have n0 : (0 : Int) ≤ (n : Int) := by omega
    have n1 : (n : Int) ≤ 64 := by omega
    clear HWH HYE HNO h64
    go_wp2_with (first | (rw [HW1.out]; refine wpList_load_mid rfl 32 (.tmp 2) rfl w.heap.size 0 rfl (scL s) _ HALL.out Try.underlying32 rfl hall.out ?_))
    refine HM.out.mono ?_
    rintro e V ⟨rfl, hb⟩
    have HBV := Lib.hid hb
    clear hb HM
    go_wp2_with fail
    go_loopg [6, 8, 15] n (AlRel s l V n)
    case atStart => exact ⟨0, [], rfl, rfl, by omega, rfl, Below.refl _ _, World.ownsRow_nil _ _ _ _, ⟨rfl, fun i hi => absurd hi (by simp)⟩⟩
    case round =>
      obtain ⟨k, vs, hg, rfl, hk, hvl, hbl, hov, hls⟩ := hrel
      subst hg
      have HB := Lib.hid hbl
      have HOV := Lib.hid hov
      have HLS := Lib.hid hls
      have HVL := Lib.hid hvl
      have k0 : (0 : Int) ≤ (k : Int) := by omega
      clear hov hls
      by_cases hkn : k < n
      · have t1 : (k : Int) < (n : Int) := by omega
        obtain ⟨b, off, e, hr⟩ := (HME.out.below (bnext HBV.out hbl)) k (by rw [HN.out]; exact hkn)
        subst e
        have HTK : Hid ((l.take (k + 1)).map (heldZ (sortedIds s.os) l) = (l.take k).map (heldZ (sortedIds s.os) l) ++ [heldZ (sortedIds s.os) l (l.getD k 0)]) := Lib.hid (by
          rw [take_snoc (by rw [HN.out]; exact hkn), List.map_append]
          rfl)
        have HC := Lib.hid (HHE.out wr (l.getD k 0) (bnext HBV.out hbl))
        have HAL := Lib.hid (HSC.out.below (bnext HBV.out hbl)).all
        generalize l.getD k 0 = x at hr HC HTK
        generalize heldZ (sortedIds s.os) l x = L at HC HTK
        clear hbl hvl
        go_wp2_with (refine wpList_load_mid rfl 32 (.tmp 2) rfl w.heap.size 0 rfl (scL s) _ HAL.out Try.underlying32 rfl hall.out ?_)
        refine HC.out.mono ?_
        rintro e w2 ⟨v, rfl, ho, hb⟩
        obtain ⟨o2, c2, rfl, _, _⟩ := ho.form
        have HO := Lib.hid ho
        have HBX := Lib.hid hb
        have HV2 := Lib.hid (HOV.out.below hb)
        have HSZ : Hid (V.heap.size ≤ wr.heap.size ∧ V.heap.size ≤ w2.heap.size) := Lib.hid ⟨HB.out.size, (bnext HB.out hb).size⟩
        generalize L.length = m at HO ⊢
        clear ho hb
        go_wp2_with (at_builtin; refine app_sl rfl _ _ rfl V.heap.size u6 vs (.slice o2 m c2) rfl HSZ.out.2 HV2.out (by have := HVL.out; omega) rfl 1 rfl ?_; intro v5 w5 ho5 hg5)
        have HO5 := Lib.hid ho5
        have HA2 : Hid (Below w2.heap.size w2 (w2.alloc (.cells #[.slice o2 m c2] 22))) := Lib.hid ((Below.refl _ w2).alloc (Nat.le_refl _) _)
        have HG5 := Lib.hid hg5
        have HBLK : Hid (∀ k, u6.ownBlock = some k → V.heap.size ≤ k ∧ ∃ cur, (w2.alloc (.cells #[.slice o2 m c2] 22)).heap[k]? = some (.cells cur 22 (0, 0))) := Lib.hid (HV2.out.below HA2.out).blk
        have HLN : Hid (Lists w5 V.heap.size (vs ++ [.slice o2 m c2]) ((l.take (k + 1)).map (heldZ (sortedIds s.os) l))) := Lib.hid (by
          rw [HTK.out]
          exact (((HLS.out.below HBX.out).snoc (HO.out.base HSZ.out.1)).below HA2.out).grown HG5.out (fun k hk => (HBLK.out k hk).2))
        have HB5 : Hid (Below V.heap.size V w5) := Lib.hid (below_grown2 (Nat.le_refl _) (bnext (bnext HB.out HBX.out) HA2.out) HG5.out (fun k hk => (HBLK.out k hk).1))
        clear ho5 hg5
        go_roundg (n - (k + 1))
        case measure => omega
        case rel => exact ⟨k + 1, _, rfl, by go_num, by omega, by rw [List.length_append, HVL.out]; rfl, HB5.out, HO5.out, HLN.out⟩
      · obtain rfl : k = n := by omega
        have t1 : ¬ (k : Int) < (k : Int) := by omega
        have HE : Hid ((l.take k).map (heldZ (sortedIds s.os) l) = l.map (heldZ (sortedIds s.os) l)) := Lib.hid (by rw [List.take_of_length_le (by rw [HN.out]; omega)])
        have HSZ : Hid (w.heap.size ≤ V.heap.size) := Lib.hid (bnext HB1.out HBV.out).size
        clear hbl hvl
        go_wp2_with fail
        go_ret2
        exact ⟨_, vs, rfl, HOV.out.base HSZ.out, by rw [← HE.out]; exact HLS.out.base HSZ.out, bnext (bnext HB1.out HBV.out) HB.out⟩
def mostN (Ls : List (List Int)) : Nat := Ls.foldl (fun m x => max m x.length) 0
theorem most_snoc (Ls : List (List Int)) (x : List Int) : mostN (Ls ++ [x]) = max (mostN Ls) x.length := by
  unfold mostN
  rw [List.foldl_append]
  rfl
def MoRel (Ls : List (List Int)) (V : World) (n : Nat) (g : Nat) (s5 s9 s18 : Value) (W : World) : Prop :=
  ∃ (k m : Nat), g = n - k ∧ s18 = .int .i64 (k : Int) ∧ k ≤ n ∧ s5 = .int .i64 (m : Int) ∧ m = mostN (Ls.take k) ∧ Below V.heap.size V W
set_option maxRecDepth 100000 in
set_option maxHeartbeats 2000000 in
theorem pmost_any (s : ScR) (l : List Int) (o : Option Addr) (c : Nat) (w : World) (hs : ScWf s) (h : ObjsAt w s.oo s.os) (hme : IntsAt w o l) (hl : l.length ≤ 9223372036854775807) :
    Calls Try.prog 14 #[.agg (scC s), .slice o l.length c] w fun e w' => e = .returned (.int .i64 (mostN (allZ s l) : Int)) ∧ Below w.heap.size w w' := by
  obtain ⟨W1, hW1⟩ : ∃ W1, w.alloc (.cells (scC s) 32) = W1 := ⟨_, rfl⟩
  have b1 : Below w.heap.size w W1 := by rw [← hW1]; exact (Below.refl _ w).alloc (Nat.le_refl _) _
  have hsc : ScAt w.heap.size s W1 := by rw [← hW1]; exact ScAt.new w s
  have HALL := Lib.hid hsc.all
  have hall := Lib.hid (sizeS hs)
  have HM := Lib.hid (pall_any s l o c W1 hs (h.below b1) (hme.below b1) hl)
  have HB1 := Lib.hid b1
  have HW1 := Lib.hid hW1
  clear b1 hsc hW1 hs h hme hl
  generalize l.length = q at HM ⊢
  generalize errB (dealB s l) = er at HM
  generalize allZ s l = Ls at HM ⊢
  go_enter Try.func14, Try.ntmps14
  go_wp2_with (first | (rw [HW1.out]; refine wpList_load_mid rfl 32 (.tmp 2) rfl w.heap.size 0 rfl (scL s) _ HALL.out Try.underlying32 rfl hall.out ?_))
  refine HM.out.mono ?_
  rintro e V ⟨v, vs, rfl, hov, hls, hb⟩
  obtain ⟨o2, c2, rfl, hat, hml⟩ := hov.form
  obtain ⟨n, hn⟩ : ∃ n, vs.length = n := ⟨_, rfl⟩
  have HLN : Hid (Ls.length = n) := Lib.hid (by rw [← hls.1, hn])
  have HBV := Lib.hid hb
  have HLS := Lib.hid hls
  have HAT := Lib.hid hat
  have HVN := Lib.hid hn
  unfold maxLen at hml
  rw [hn] at hml ⊢
  have n0 : (0 : Int) ≤ (n : Int) := by omega
  have n1 : (n : Int) ≤ 9223372036854775807 := by omega
  clear hov hls hb hn hat hml HM
  go_wp2_with fail
  go_loopg [5, 9, 18] n (MoRel Ls V n)
  case atStart => exact ⟨0, 0, rfl, rfl, by omega, rfl, rfl, Below.refl _ _⟩
  case round =>
    obtain ⟨k, m, hg, rfl, hk, rfl, hm, hbl⟩ := hrel
    subst hg
    have HB := Lib.hid hbl
    have HM := Lib.hid hm
    have k0 : (0 : Int) ≤ (k : Int) := by omega
    clear hm
    by_cases hkn : k < n
    · have t1 : (k : Int) < (n : Int) := by omega
      obtain ⟨b, e, hr⟩ := HAT.out k (by rw [HVN.out]; exact hkn)
      subst e
      obtain ⟨o3, c3, e3, _, hm3⟩ := (HLS.out.2 k (by rw [HLN.out]; exact hkn)).form
      have hr2 := keep_cell hbl hr
      rw [e3] at hr2
      have HTK : Hid (mostN (Ls.take (k + 1)) = max m (Ls.getD k []).length) := Lib.hid (by
        rw [HM.out, ← most_snoc]
        congr 1
        rw [List.take_add_one, List.getD_eq_getElem?_getD, List.getElem?_eq_getElem (by rw [HLN.out]; exact hkn)]
        rfl)
      generalize (Ls.getD k []).length = x at hr2 HTK hm3
      unfold maxLen at hm3
      have x0 : (0 : Int) ≤ (x : Int) := by omega
      have m0 : (0 : Int) ≤ (m : Int) := by omega
      clear hbl hr e3 hm3
      go_wp2_with fail
      go_roundg (n - (k + 1))
      case measure => omega
      case rel => exact ⟨k + 1, max m x, rfl, by go_num, by omega, by congr 1; omega, HTK.out.symm, HB.out⟩
    · obtain rfl : k = n := by omega
      have t1 : ¬ (k : Int) < (k : Int) := by omega
      have HE : Hid (m = mostN Ls) := Lib.hid (by rw [HM.out, List.take_of_length_le (by rw [HLN.out]; omega)])
      clear hbl
      go_wp2_with fail
      go_ret
      exact ⟨by rw [← HE.out]; rfl, bnext (bnext HB1.out HBV.out) HB.out⟩
end Go.Proofs.Ytildnadkfonlhaa.Fx
namespace Go.Proofs.Ytildnadkfonlhaa.Fx
open Go Go.RowKit Go.Shelf
def ob8 (id : Int) : ObjR := ⟨id, idl, none, [], 0, none, [], 0⟩
def some8 (bO : Nat) : ScR := ⟨1, 1, idl, some ⟨bO, 0, none⟩, [ob8 9, ob8 4, ob8 7], 3⟩
def row8 : Array Value := ([ob8 9, ob8 4, ob8 7].flatMap objL).toArray
def Some8At (bO : Nat) (W : World) : Prop := RowAt 48 bO row8 W
def RetSome8 (w : World) (e : Ending) (w' : World) : Prop := ∃ bO, e = .returned (.agg (scC (some8 bO))) ∧ Some8At bO w' ∧ w.heap.size ≤ bO ∧ Below w.heap.size w w'
theorem idl_num8 : ∀ j, Num (idl.getD j 0) := fun j => by
  by_cases h : j < 16
  · have : ∀ k : Fin 16, -9223372036854775808 ≤ idl.getD k.val 0 ∧ idl.getD k.val 0 ≤ 9223372036854775807 := by decide
    exact this ⟨j, h⟩
  · rw [List.getD_eq_getElem?_getD, List.getElem?_eq_none (by simp only [idl, scl, List.length_cons, List.length_nil]; omega)]
    exact ⟨by simp, by simp⟩
theorem ob8_wf (id : Int) (h : Num id) : ObjWf (ob8 id) := ⟨h, rfl, idl_num8, ⟨⟨Nat.le_refl _, Nat.zero_le _⟩, fun _ => rfl⟩, ⟨⟨Nat.le_refl _, Nat.zero_le _⟩, fun _ => rfl⟩⟩
theorem stop8 {P : Program} {ops : Array Oper} {rest : List Oper} {op : Oper} {a : Act} {w : World} {Q : Exit → Act → World → Prop} (d : Option Tmp) (h : op.dst = d) (k : wpList P ops Q (op :: rest) a w) : wpList P ops Q (op :: rest) a w := k
theorem stuck8 {p : Prop} (h : Hid p) : p := h.out
theorem wpList_valK {ops : Array Oper} {rest : List Oper} {o : Oper} {a : Act} {Q : Exit → Act → World → Prop} {W : World} (hgd : o.guard = none) (v : Value) (X : World) (hrun : (execOp a.eval o).run Try.prog W = .ok (.value v) X)
    (h : wpList Try.prog ops Q rest (a.put o.dst v) X) : wpList Try.prog ops Q (o :: rest) a W := by
  refine wpList_plain hgd fun K hK' => ?_
  unfold Oper.wp
  rw [hrun]
  exact hK' _ _ h
set_option maxRecDepth 100000 in
set_option maxHeartbeats 100000 in
theorem some8_any (w : World) : Calls Try.prog 7 #[] w (RetSome8 w) := by
  have HI := Lib.hid (identity_any (w.alloc (.cells #[.int .i64 0, .int .i64 0, .int .i64 0, .int .i64 0, .int .i64 0, .int .i64 0, .int .i64 0, .int .i64 0, .int .i64 0, .int .i64 0, .int .i64 0, .int .i64 0, .int .i64 0, .int .i64 0, .int .i64 0, .int .i64 0, .int .i64 0, .int .i64 0, .slice none 0 0] 32)))
  go_enter Try.func7, Try.ntmps7
  go_wp2_with fail
  refine HI.out.mono ?_
  rintro e w1 ⟨rfl, hb⟩
  obtain ⟨V, hV⟩ : ∃ V, w1.alloc (.cells (mC idl) 29) = V := ⟨_, rfl⟩
  obtain ⟨V2, hV2⟩ : ∃ V2, V.alloc (.cells row8 48) = V2 := ⟨_, rfl⟩
  obtain ⟨V3, hV3⟩ : ∃ V3, V2.setRow w.heap.size (scC (some8 V.heap.size)) = V3 := ⟨_, rfl⟩
  have hrs : RowAt 32 w.heap.size #[.int .i64 0, .int .i64 0, .int .i64 0, .int .i64 0, .int .i64 0, .int .i64 0, .int .i64 0, .int .i64 0, .int .i64 0, .int .i64 0, .int .i64 0, .int .i64 0, .int .i64 0, .int .i64 0, .int .i64 0, .int .i64 0, .int .i64 0, .int .i64 0, .slice none 0 0] V := by rw [← hV]; exact ((RowAt.below hb (RowAt.new w 32 #[.int .i64 0, .int .i64 0, .int .i64 0, .int .i64 0, .int .i64 0, .int .i64 0, .int .i64 0, .int .i64 0, .int .i64 0, .int .i64 0, .int .i64 0, .int .i64 0, .int .i64 0, .int .i64 0, .int .i64 0, .int .i64 0, .int .i64 0, .int .i64 0, .slice none 0 0])).alloc _)
  have hrm : RowAt 29 w1.heap.size (mC idl) V := by rw [← hV]; exact RowAt.new _ _ _
  have hb1 : Below w.heap.size w V := by
    rw [← hV]
    have h0 : Below w.heap.size w w1 := ((Below.refl _ w).alloc (Nat.le_refl _) _).trans (hb.mono (by simp))
    exact h0.alloc h0.size _
  have hlt := hrs.lt
  have hro : RowAt 48 V.heap.size row8 V2 := by rw [← hV2]; exact RowAt.new _ _ _
  have hrs2 : RowAt 32 w.heap.size #[.int .i64 0, .int .i64 0, .int .i64 0, .int .i64 0, .int .i64 0, .int .i64 0, .int .i64 0, .int .i64 0, .int .i64 0, .int .i64 0, .int .i64 0, .int .i64 0, .int .i64 0, .int .i64 0, .int .i64 0, .int .i64 0, .int .i64 0, .int .i64 0, .slice none 0 0] V2 := by rw [← hV2]; exact hrs.alloc _
  have hb2 : Below w.heap.size w V2 := by rw [← hV2]; exact hb1.alloc hb1.size _
  have hrs3 : RowAt 32 w.heap.size (scC (some8 V.heap.size)) V3 := by rw [← hV3]; exact hrs2.row _
  have hro3 : RowAt 48 V.heap.size row8 V3 := by rw [← hV3]; exact hro.other (by omega) _
  have hb3 : Below w.heap.size w V3 := by rw [← hV3]; exact Below.row hb2 (Nat.le_refl _) _
  have HF : Hid (RetSome8 w (.returned (.agg (scC (some8 V.heap.size)))) V3) := Lib.hid ⟨_, rfl, hro3, hb1.size, hb3⟩
  have HRF := Lib.hid hrs3
  have HRS2 := Lib.hid hrs2
  have HRR : Hid (V.rangeAt w1.heap.size 0 (idl.map encI)) := Lib.hid (fun j v hj => by
    rw [cell_of_row _ _ _ _ _ _ hrm, Nat.zero_add]
    unfold mC
    rw [List.getElem?_toArray]
    exact hj)
  have hC := Lib.hid (sizeM (m := idl) rfl)
  have HV := Lib.hid hV
  have HV2 := Lib.hid hV2
  have HV3 := Lib.hid hV3
  obtain ⟨bO, hbO⟩ : ∃ b, V.heap.size = b := ⟨_, rfl⟩
  have HBO := Lib.hid hbO
  rw [hbO] at HV3 HF HRF
  have HONE : Hid ((scC (some8 bO)).all (·.oneCell') = true) := Lib.hid (by simp [scC, scL, some8, idl, scl, encI, Value.oneCell'])
  have HSZ : Hid ((Try.prog.info? 32).map (·.size) = some 19) := Lib.hid (by kernel_rfl)
  obtain ⟨M, hM⟩ : ∃ M, mC idl = M := ⟨_, rfl⟩
  have HM := Lib.hid hM
  clear hb HI hV hV2 hV3 hrs hrm hb1 hro hrs2 hb2 hrs3 hro3 hb3 hlt hbO hM
  go_wp2_with (first | (rw [HV.out]) | (refine wpList_store_new rfl 29 (.tmp 1) (.tmp 2) rfl w1.heap.size _ _ (mC idl) rfl rfl rfl size16 rfl (mC_one _) ?_) |
    (with_reducible refine stop8 (some 3) rfl ?_; refine stuck8 ?_))
  refine Lib.hid ?_
  go_wp2_with (first | (rw [HV2.out]) | (rw [HV3.out]) |
    (with_reducible (first | refine stop8 (some 3) rfl ?_ | refine stop8 (some 4) rfl ?_ | refine stop8 (some 6) rfl ?_ | refine stop8 (some 8) rfl ?_); refine wpList_load_mid rfl 29 (.tmp 1) rfl w1.heap.size 0 rfl (idl.map encI) _ HRR.out Try.underlying29 rfl hC.out ?_) |
    (with_reducible refine stop8 (some 5) rfl ?_; refine wpList_valK rfl (.agg (objL (ob8 9)).toArray) V (by kernel_rfl) ?_) |
    (with_reducible refine stop8 (some 7) rfl ?_; refine wpList_valK rfl (.agg (objL (ob8 4)).toArray) V (by kernel_rfl) ?_) |
    (with_reducible refine stop8 (some 9) rfl ?_; refine wpList_valK rfl (.agg (objL (ob8 7)).toArray) V (by kernel_rfl) ?_) |
    (with_reducible refine stop8 (some 10) rfl ?_; refine stuck8 ?_))
  refine Lib.hid ?_
  refine wpList_valK rfl (.slice (some ⟨V.heap.size, 0, none⟩) 3 3) (V.alloc (.cells row8 48)) (by kernel_rfl) ?_
  rw [HBO.out, HV2.out]
  go_wp2_with (first | (rw [HV3.out]) |
    (with_reducible refine stop8 (some 11) rfl ?_; refine wpList_valK rfl (.agg (scC (some8 bO))) V2 (by kernel_rfl) ?_) |
    (refine wpList_store_big rfl 32 (.tmp 0) (.tmp 11) rfl w.heap.size _ _ (scC (some8 bO)) rfl rfl HRS2.out HSZ.out rfl HONE.out ?_))
  exact bodyPost_ret (v := .agg (scC (some8 bO))) (results_cell_row rfl _ _ w.heap.size _ (scC (some8 bO)) _ _ rfl HRF.out Try.underlying32 rfl (by kernel_rfl)) rfl HF.out
end Go.Proofs.Ytildnadkfonlhaa.Fx
namespace Go.Proofs.Ytildnadkfonlhaa.Fx
open Go Go.RowKit Go.Shelf
theorem Some8At.below {bO : Nat} {W X : World} (hb : Below W.heap.size W X) (s : Some8At bO W) : Some8At bO X := RowAt.below hb s
theorem some8_wf (bO : Nat) : ScWf (some8 bO) := ⟨(show Num 1 from ⟨by decide, by decide⟩), (show Num 1 from ⟨by decide, by decide⟩), rfl, idl_num8, ⟨⟨Nat.le_refl _, (by show 3 ≤ _; omega)⟩, fun h => by cases h⟩⟩
theorem row8_at (k : Nat) (x : ObjR) (hk : [ob8 9, ob8 4, ob8 7][k]? = some x) (j : Nat) (v : Value) (hj : (objL x)[j]? = some v) : row8[k * 19 + j]? = some v := by
  have hx : (objL x).length = 19 := by
    match k, hk with
    | 0, h => cases h; rfl
    | 1, h => cases h; rfl
    | 2, h => cases h; rfl
  have hlt : j < 19 := by rw [← hx]; exact (List.getElem?_eq_some_iff.1 hj).1
  unfold row8
  rw [List.getElem?_toArray]
  match k, hk with
  | 0, h =>
    cases h
    rw [List.flatMap_cons, Nat.zero_mul, Nat.zero_add, List.getElem?_append_left (by rw [hx]; exact hlt)]
    exact hj
  | 1, h =>
    cases h
    rw [List.flatMap_cons, List.getElem?_append_right (by show 19 ≤ _; omega), List.flatMap_cons, List.getElem?_append_left (by show _ - 19 < 19; omega), show 1 * 19 + j - (objL (ob8 9)).length = j from by show 1 * 19 + j - 19 = j; omega]
    exact hj
  | 2, h =>
    cases h
    rw [List.flatMap_cons, List.getElem?_append_right (by show 19 ≤ _; omega), List.flatMap_cons, List.getElem?_append_right (by show 19 ≤ _ - 19; omega), List.flatMap_cons, List.getElem?_append_left (by show _ - 19 - 19 < 19; omega), show 2 * 19 + j - (objL (ob8 9)).length - (objL (ob8 4)).length = j from by show 2 * 19 + j - 19 - 19 = j; omega]
    exact hj
theorem Some8At.objs {bO : Nat} {W : World} (s : Some8At bO W) : ObjsAt W (some8 bO).oo (some8 bO).os := fun k x hk => by
  have hw : ObjWf x ∧ VertsAt W x.vo x.vs ∧ TrisAt W x.tq x.ts := by
    have hN : ∀ z : Int, Num z → ObjWf (ob8 z) ∧ VertsAt W (ob8 z).vo (ob8 z).vs ∧ TrisAt W (ob8 z).tq (ob8 z).ts := fun z hz => ⟨ob8_wf z hz, fun k y h => by (have := (List.getElem?_eq_some_iff.1 h).1; cases this), fun k y h => by (have := (List.getElem?_eq_some_iff.1 h).1; cases this)⟩
    match k, hk with
    | 0, h => cases h; exact hN 9 ⟨by decide, by decide⟩
    | 1, h => cases h; exact hN 4 ⟨by decide, by decide⟩
    | 2, h => cases h; exact hN 7 ⟨by decide, by decide⟩
  refine ⟨bO, 0, rfl, ⟨fun j v hj => ?_, hw.2.1, hw.2.2, hw.1⟩⟩
  rw [cell_of_row _ _ _ _ _ _ s, Nat.zero_add]
  exact row8_at k x hk j v hj
theorem ok8 (bO : Nat) : okZ (some8 bO) = true := by kernel_rfl
theorem ids8 (bO : Nat) : sortedIds (some8 bO).os = [4, 7, 9] := by
  have e : rawIds (some8 bO).os = [9, 4, 7] := rfl
  unfold sortedIds
  rw [e, sort_one (show ([9, 4, 7] : List Int).Perm [4, 7, 9] by decide)]
  exact List.mergeSort_of_pairwise (by decide)
theorem of8 (bO : Nat) (l : List Int) (m : Int) : ofB (some8 bO) l m = (memB l && l.any (eqP m)) ∧ ofZ (some8 bO) l m = if (memB l && l.any (eqP m)) = true then heldZ [4, 7, 9] l m else [] := by
  unfold ofZ ofB dealB
  rw [ok8, ids8, Bool.and_true]
  exact ⟨rfl, rfl⟩
theorem own8 (bO : Nat) (l : List Int) (id : Int) : ownZ (some8 bO) l id = if memB l = true then whoseZ [4, 7, 9] l id else none := by
  unfold ownZ dealB
  rw [ok8, ids8, Bool.and_true]
theorem mo8 (bO : Nat) (a b : List Int) : moB (some8 bO) a b = (memB a && memB b) ∧ moZ (some8 bO) a b = if (memB a && memB b) = true then movedZ [4, 7, 9] a b else [] := by
  unfold moZ moB dealB
  rw [ok8, ids8, Bool.and_true]
  exact ⟨rfl, rfl⟩
theorem all8 (bO : Nat) (l : List Int) : allZ (some8 bO) l = if memB l = true then l.map (heldZ [4, 7, 9] l) else [] := by
  unfold allZ dealB
  rw [ok8, ids8, Bool.and_true]
theorem ints_new (w : World) (l : List Int) : IntsAt (w.alloc (.cells (l.map encI).toArray 3)) (some ⟨w.heap.size, 0, none⟩) l := fun i hi => by
  refine ⟨w.heap.size, 0, rfl, ?_⟩
  rw [cell_of_row _ _ _ _ _ _ (heap_alloc_new _ _), Nat.zero_add, List.getElem?_toArray, List.getElem?_map, ints_get hi]
  rfl
/-- a literal list, then Of -/
theorem ch_of (bO : Nat) (l : List Int) (m : Int) (L : List Int) (b : Bool) (w : World) (s : Some8At bO w) (hl : l.length ≤ 100) (h1 : (memB l && l.any (eqP m)) = b) (h2 : (if b = true then heldZ [4, 7, 9] l m else []) = L) :
    Calls Try.prog 6 #[.agg (scC (some8 bO)), .slice (some ⟨w.heap.size, 0, none⟩) l.length l.length, .int .i64 m] (w.alloc (.cells (l.map encI).toArray 3)) fun e w' => ∃ o c, e = .returned (.tuple #[.slice o L.length c, .int .i64 (errB b)]) ∧ IntsAt w' o L ∧ Below w.heap.size w w' := by
  have hb : Below w.heap.size w (w.alloc (.cells (l.map encI).toArray 3)) := (Below.refl _ w).alloc (Nat.le_refl _) _
  refine (pof_any (some8 bO) l (some ⟨w.heap.size, 0, none⟩) l.length m _ (some8_wf bO) (s.below hb).objs (ints_new w l) (by omega)).mono ?_
  rintro e w' ⟨v, rfl, ho, hb2⟩
  rw [(of8 bO l m).1, h1]
  rw [(of8 bO l m).2, h1, h2] at ho
  obtain ⟨o, c, rfl, hi, _⟩ := ho.form
  exact ⟨o, c, rfl, hi, bnext hb hb2⟩
/-- two lists, the second a literal -/
theorem ch_ints (a b : List Int) (o : Option Addr) (c : Nat) (w : World) (h : IntsAt w o a) (la : a.length ≤ 100) (lb : b.length ≤ 100) :
    Calls Try.prog 12 #[.slice o a.length c, .slice (some ⟨w.heap.size, 0, none⟩) b.length b.length] (w.alloc (.cells (b.map encI).toArray 3)) (fun e w' => e = .returned (.bool (eqI a b)) ∧ Below w.heap.size w w') := by
  have hb : Below w.heap.size w (w.alloc (.cells (b.map encI).toArray 3)) := (Below.refl _ w).alloc (Nat.le_refl _) _
  refine (zints_any a b o (some ⟨w.heap.size, 0, none⟩) c b.length _ (h.below hb) (ints_new w b) (by unfold maxLen; omega) (by unfold maxLen; omega)).mono ?_
  rintro e w' ⟨rfl, hb2⟩
  exact ⟨rfl, bnext hb hb2⟩
set_option maxRecDepth 100000 in
set_option maxHeartbeats 1000000 in
theorem alive8_any (w : World) : Calls Try.prog 11 #[] w (RetBool true w) := by
  go_enter Try.func11, Try.ntmps11
  go_wp2_with fail
  refine (some8_any _).mono ?_
  rintro e w1 ⟨b1, rfl, s1, g1, hb1⟩
  have S1 := Lib.hid s1
  have B1 := Lib.hid hb1
  clear s1 g1 hb1
  go_wp2_with fail
  refine (ch_of b1 [2, 5] 2 [4, 9] true w1 S1.out (by decide) (by decide) (by decide)).mono ?_
  rintro e w2 ⟨o2, c2, rfl, i2, hb2⟩
  have I2 := Lib.hid i2
  have B2 := Lib.hid (bnext B1.out hb2)
  clear i2 hb2 S1 B1
  go_wp2_with fail
  refine (some8_any _).mono ?_
  rintro e w3 ⟨b3, rfl, s3, g3, hb3⟩
  have S3 := Lib.hid s3
  have B3 := Lib.hid (bnext B2.out hb3)
  have I3 := Lib.hid (I2.out.below hb3)
  clear s3 g3 hb3 I2 B2
  go_wp2_with fail
  refine (ch_of b3 [2, 5] 5 [7] true w3 S3.out (by decide) (by decide) (by decide)).mono ?_
  rintro e w4 ⟨o4, c4, rfl, i4, hb4⟩
  have I4 := Lib.hid i4
  have B4 := Lib.hid (bnext B3.out hb4)
  have I5 := Lib.hid (I3.out.below hb4)
  clear i4 hb4 S3 B3 I3
  go_wp2_with fail
  refine (ch_ints [4, 9] [4, 9] o2 c2 w4 I5.out (by decide) (by decide)).mono ?_
  rintro e w5 ⟨rfl, hb5⟩
  rw [show eqI [4, 9] [4, 9] = true from by decide]
  have B5 := Lib.hid (bnext B4.out hb5)
  have I6 := Lib.hid (I4.out.below hb5)
  clear hb5 I4 I5 B4
  go_wp2_with fail
  refine (ch_ints [7] [7] o4 c4 w5 I6.out (by decide) (by decide)).mono ?_
  rintro e w6 ⟨rfl, hb6⟩
  rw [show eqI [7] [7] = true from by decide]
  have B6 := Lib.hid (bnext B5.out hb6)
  clear hb6 I6 B5
  go_wp2_with fail
  go_ret
  exact ⟨rfl, B6.out⟩
end Go.Proofs.Ytildnadkfonlhaa.Fx
