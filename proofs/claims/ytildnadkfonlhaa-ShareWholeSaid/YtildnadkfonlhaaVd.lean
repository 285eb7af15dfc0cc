/- The library's IndexFunc and ContainsFunc at vertices, triangles and numbers, whatever the predicate: walked. -/
import Derived.Test.YtildnadkfonlhaaProg
import Derived.Test.YtildnadkfonlhaaSg
import Derived.Shelf.Abstract
import Derived.WalkMore
set_option linter.unusedVariables false
set_option linter.unusedSimpArgs false
namespace Go.Proofs.Ytildnadkfonlhaa.Fx
open Go Go.RowKit Go.Shelf
/-- where the first is of which it holds, or -1 -/
def idxZ {α : Type} (p : α → Bool) (l : List α) : Int := ((l.findIdx? p).map Int.ofNat).getD (-1)
theorem idx_none {α : Type} {p : α → Bool} {l : List α} {n : Nat} (hn : l.length ≤ n) (h : (l.take n).any p = false) : idxZ p l = -1 := by
  rw [List.take_of_length_le hn] at h
  unfold idxZ
  rw [List.findIdx?_eq_none_iff.2 (by simpa using h)]
  rfl
theorem idx_hit {α : Type} {p : α → Bool} {l : List α} {k : Nat} {x : α} (hx : l[k]? = some x) (h : (l.take k).any p = false) (hp : p x = true) : idxZ p l = (k : Int) := by
  obtain ⟨hkl, hx'⟩ := List.getElem?_eq_some_iff.1 hx
  unfold idxZ
  have e : l.findIdx? p = some k := by
    rw [← List.take_append_drop k l, List.findIdx?_append, List.findIdx?_eq_none_iff.2 (by simpa using h), List.drop_eq_getElem_cons hkl]
    simp [List.findIdx?_cons, hx', hp]
    omega
  rw [e]
  rfl
theorem idx_any {α : Type} (p : α → Bool) (l : List α) : (l.any p = true ∧ 0 ≤ idxZ p l) ∨ (l.any p = false ∧ idxZ p l < 0) := by
  unfold idxZ
  cases h : l.findIdx? p with
  | none =>
    right
    rw [List.findIdx?_eq_none_iff] at h
    exact ⟨by simpa using h, by simp⟩
  | some k =>
    left
    have := List.findIdx?_eq_some_iff_getElem.1 h
    obtain ⟨h1, h2, _⟩ := this
    exact ⟨List.any_eq_true.2 ⟨_, List.getElem_mem h1, h2⟩, by simp⟩
def IxRel {α : Type} (p : α → Bool) (l : List α) (w : World) (n g : Nat) (s5 s8 : Value) (W : World) : Prop :=
  ∃ k : Nat, g = n - k ∧ s8 = .int .i64 (k : Int) ∧ k ≤ n ∧ Below w.heap.size w W ∧ (l.take k).any p = false
theorem any_snoc {α : Type} {p : α → Bool} {l : List α} {k : Nat} {x : α} (hx : l[k]? = some x) (h : (l.take k).any p = false) (hp : p x = false) : (l.take (k + 1)).any p = false := by
  rw [List.take_add_one, hx, List.any_append, h]
  simp [hp]
def RetIdx (z : Int) (w : World) (e : Ending) (w' : World) : Prop := e = .returned (.int .i64 z) ∧ Below w.heap.size w w'
set_option maxRecDepth 100000 in
set_option maxHeartbeats 2000000 in
theorem idx_v (p : List Int → Bool) (g : Nat) (lb : Array Value) (eg : ∀ args w, (callFunc g args).run Try.prog w = .ok (.enter g args) w) (o : Option Addr) (c : Nat) (l : List (List Int)) (w : World)
    (hl : VertsAt w o l) (hlen : l.length ≤ 9223372036854775807)
    (hp : ∀ W x, Below w.heap.size w W → x ∈ l → Calls Try.prog g (#[.agg (x.map encI).toArray] ++ lb) W fun e w' => e = .returned (.bool (p x)) ∧ Below W.heap.size W w') :
    Calls Try.prog 51 #[.slice o l.length c, .func (.func g) #[] lb] w (RetIdx (idxZ p l) w) := by
  obtain ⟨n, hn⟩ : ∃ n, l.length = n := ⟨_, rfl⟩
  have HN := Lib.hid hn
  have HL := Lib.hid hl
  have HP := Lib.hid hp
  rw [hn] at hlen ⊢
  have n0 : (0 : Int) ≤ (n : Int) := by omega
  have n1 : (n : Int) ≤ 9223372036854775807 := by omega
  clear hn hl hp hlen
  go_enter Try.func51, Try.ntmps51
  go_wp2_with fail
  go_loopg [5, 8] n (IxRel p l w n)
  case atStart => exact ⟨0, rfl, rfl, by omega, Below.refl _ _, rfl⟩
  case round =>
    obtain ⟨k, hg, rfl, hk, hbl, ha⟩ := hrel
    subst hg
    have HB := Lib.hid hbl
    have HA := Lib.hid ha
    clear ha
    have k0 : (0 : Int) ≤ (k : Int) := by omega
    by_cases hkn : k < n
    · have t1 : (k : Int) < (n : Int) := by omega
      obtain ⟨x, hx⟩ : ∃ x, l[k]? = some x := ⟨_, List.getElem?_eq_getElem (by rw [HN.out]; exact hkn)⟩
      obtain ⟨b, off, e, hr, hwf⟩ := (HL.out.below hbl) k x hx
      have hinf := Lib.hid (show (Try.prog.info? 82).map (·.size) = some (x.map encI).length by (first | (rw [List.length_map, hwf.len]; kernel_rfl) | kernel_rfl))
      have HR := Lib.hid hr
      have HC := Lib.hid (HP.out wr x hbl (List.mem_of_getElem? hx))
      have HX := Lib.hid hx
      subst e
      clear hbl hx hr hwf
      cases hq : p x with
      | true =>
        rw [hq] at HC
        have HR2 := Lib.hid (idx_hit HX.out HA.out hq)
        clear hq
        go_wp2_with (first | (go_at_fn g; refine HC.out.mono ?_; rintro e w' ⟨rfl, hb'⟩) | (refine wpList_load_mid rfl 82 (.tmp 14) rfl b (off + k * 3) rfl (x.map encI) _ HR.out Try.underlying82 rfl hinf.out ?_))
        go_ret
        exact ⟨by rw [HR2.out]; rfl, bnext HB.out hb'⟩
      | false =>
        rw [hq] at HC
        have HR2 := Lib.hid (any_snoc HX.out HA.out hq)
        clear hq
        go_wp2_with (first | (go_at_fn g; refine HC.out.mono ?_; rintro e w' ⟨rfl, hb'⟩) | (refine wpList_load_mid rfl 82 (.tmp 14) rfl b (off + k * 3) rfl (x.map encI) _ HR.out Try.underlying82 rfl hinf.out ?_))
        go_roundg (n - (k + 1))
        case measure => omega
        case rel => exact ⟨k + 1, rfl, by go_num, by omega, bnext HB.out hb', HR2.out⟩
    · obtain rfl : k = n := by omega
      have t1 : ¬ (k : Int) < (k : Int) := by omega
      have HR2 := Lib.hid (idx_none (p := p) (by rw [HN.out]; omega) HA.out)
      clear hbl
      go_wp2_with fail
      go_ret
      exact ⟨by rw [HR2.out]; rfl, HB.out⟩
set_option maxRecDepth 100000 in
theorem has_v (p : List Int → Bool) (g : Nat) (lb : Array Value) (eg : ∀ args w, (callFunc g args).run Try.prog w = .ok (.enter g args) w) (o : Option Addr) (c : Nat) (l : List (List Int)) (w : World)
    (hl : VertsAt w o l) (hlen : l.length ≤ 9223372036854775807)
    (hp : ∀ W x, Below w.heap.size w W → x ∈ l → Calls Try.prog g (#[.agg (x.map encI).toArray] ++ lb) W fun e w' => e = .returned (.bool (p x)) ∧ Below W.heap.size W w') :
    Calls Try.prog 41 #[.slice o l.length c, .func (.func g) #[] lb] w (RetBool (l.any p) w) := by
  have HC := Lib.hid (idx_v p g lb eg o c l w hl hlen hp)
  have HZ := Lib.hid (idx_any p l)
  clear hp hl eg
  generalize idxZ p l = z at HC HZ
  generalize l.any p = r at HZ ⊢
  generalize l.length = n at *
  rcases HZ.out with ⟨rfl, hz⟩ | ⟨rfl, hz⟩
  · clear HZ
    go_enter Try.func41, Try.ntmps41
    go_wp2_with fail
    refine HC.out.mono ?_
    rintro e w1 ⟨rfl, hb⟩
    have HB := Lib.hid hb
    clear hb
    go_wp2_with fail
    go_ret
    exact ⟨rfl, HB.out⟩
  · clear HZ
    have hz2 : ¬ 0 ≤ z := by omega
    go_enter Try.func41, Try.ntmps41
    go_wp2_with fail
    refine HC.out.mono ?_
    rintro e w1 ⟨rfl, hb⟩
    have HB := Lib.hid hb
    clear hb
    go_wp2_with fail
    go_ret
    exact ⟨by show Ending.returned (.bool (decide (0 ≤ z))) = _; rw [decide_eq_false (show ¬ 0 ≤ z by omega)], HB.out⟩
set_option maxRecDepth 100000 in
set_option maxHeartbeats 2000000 in
theorem idx_t (p : TriR → Bool) (g : Nat) (lb : Array Value) (eg : ∀ args w, (callFunc g args).run Try.prog w = .ok (.enter g args) w) (o : Option Addr) (c : Nat) (l : List (TriR)) (w : World)
    (hl : TrisAt w o l) (hlen : l.length ≤ 9223372036854775807)
    (hp : ∀ W x, Below w.heap.size w W → x ∈ l → Calls Try.prog g (#[.agg (triL x).toArray] ++ lb) W fun e w' => e = .returned (.bool (p x)) ∧ Below W.heap.size W w') :
    Calls Try.prog 56 #[.slice o l.length c, .func (.func g) #[] lb] w (RetIdx (idxZ p l) w) := by
  obtain ⟨n, hn⟩ : ∃ n, l.length = n := ⟨_, rfl⟩
  have HN := Lib.hid hn
  have HL := Lib.hid hl
  have HP := Lib.hid hp
  rw [hn] at hlen ⊢
  have n0 : (0 : Int) ≤ (n : Int) := by omega
  have n1 : (n : Int) ≤ 9223372036854775807 := by omega
  clear hn hl hp hlen
  go_enter Try.func56, Try.ntmps56
  go_wp2_with fail
  go_loopg [5, 8] n (IxRel p l w n)
  case atStart => exact ⟨0, rfl, rfl, by omega, Below.refl _ _, rfl⟩
  case round =>
    obtain ⟨k, hg, rfl, hk, hbl, ha⟩ := hrel
    subst hg
    have HB := Lib.hid hbl
    have HA := Lib.hid ha
    clear ha
    have k0 : (0 : Int) ≤ (k : Int) := by omega
    by_cases hkn : k < n
    · have t1 : (k : Int) < (n : Int) := by omega
      obtain ⟨x, hx⟩ : ∃ x, l[k]? = some x := ⟨_, List.getElem?_eq_getElem (by rw [HN.out]; exact hkn)⟩
      obtain ⟨b, off, e, hr, hwf⟩ := (HL.out.below hbl) k x hx
      have hinf := Lib.hid (show (Try.prog.info? 86).map (·.size) = some (triL x).length by (first | (rw [List.length_map, hwf.len]; kernel_rfl) | kernel_rfl))
      have HR := Lib.hid hr
      have HC := Lib.hid (HP.out wr x hbl (List.mem_of_getElem? hx))
      have HX := Lib.hid hx
      subst e
      clear hbl hx hr hwf
      cases hq : p x with
      | true =>
        rw [hq] at HC
        have HR2 := Lib.hid (idx_hit HX.out HA.out hq)
        clear hq
        go_wp2_with (first | (go_at_fn g; refine HC.out.mono ?_; rintro e w' ⟨rfl, hb'⟩) | (refine wpList_load_mid rfl 86 (.tmp 14) rfl b (off + k * 4) rfl (triL x) _ HR.out Try.underlying86 rfl hinf.out ?_))
        go_ret
        exact ⟨by rw [HR2.out]; rfl, bnext HB.out hb'⟩
      | false =>
        rw [hq] at HC
        have HR2 := Lib.hid (any_snoc HX.out HA.out hq)
        clear hq
        go_wp2_with (first | (go_at_fn g; refine HC.out.mono ?_; rintro e w' ⟨rfl, hb'⟩) | (refine wpList_load_mid rfl 86 (.tmp 14) rfl b (off + k * 4) rfl (triL x) _ HR.out Try.underlying86 rfl hinf.out ?_))
        go_roundg (n - (k + 1))
        case measure => omega
        case rel => exact ⟨k + 1, rfl, by go_num, by omega, bnext HB.out hb', HR2.out⟩
    · obtain rfl : k = n := by omega
      have t1 : ¬ (k : Int) < (k : Int) := by omega
      have HR2 := Lib.hid (idx_none (p := p) (by rw [HN.out]; omega) HA.out)
      clear hbl
      go_wp2_with fail
      go_ret
      exact ⟨by rw [HR2.out]; rfl, HB.out⟩
set_option maxRecDepth 100000 in
theorem has_t (p : TriR → Bool) (g : Nat) (lb : Array Value) (eg : ∀ args w, (callFunc g args).run Try.prog w = .ok (.enter g args) w) (o : Option Addr) (c : Nat) (l : List (TriR)) (w : World)
    (hl : TrisAt w o l) (hlen : l.length ≤ 9223372036854775807)
    (hp : ∀ W x, Below w.heap.size w W → x ∈ l → Calls Try.prog g (#[.agg (triL x).toArray] ++ lb) W fun e w' => e = .returned (.bool (p x)) ∧ Below W.heap.size W w') :
    Calls Try.prog 46 #[.slice o l.length c, .func (.func g) #[] lb] w (RetBool (l.any p) w) := by
  have HC := Lib.hid (idx_t p g lb eg o c l w hl hlen hp)
  have HZ := Lib.hid (idx_any p l)
  clear hp hl eg
  generalize idxZ p l = z at HC HZ
  generalize l.any p = r at HZ ⊢
  generalize l.length = n at *
  rcases HZ.out with ⟨rfl, hz⟩ | ⟨rfl, hz⟩
  · clear HZ
    go_enter Try.func46, Try.ntmps46
    go_wp2_with fail
    refine HC.out.mono ?_
    rintro e w1 ⟨rfl, hb⟩
    have HB := Lib.hid hb
    clear hb
    go_wp2_with fail
    go_ret
    exact ⟨rfl, HB.out⟩
  · clear HZ
    have hz2 : ¬ 0 ≤ z := by omega
    go_enter Try.func46, Try.ntmps46
    go_wp2_with fail
    refine HC.out.mono ?_
    rintro e w1 ⟨rfl, hb⟩
    have HB := Lib.hid hb
    clear hb
    go_wp2_with fail
    go_ret
    exact ⟨by show Ending.returned (.bool (decide (0 ≤ z))) = _; rw [decide_eq_false (show ¬ 0 ≤ z by omega)], HB.out⟩
set_option maxRecDepth 100000 in
set_option maxHeartbeats 2000000 in
theorem idx_q (p : Int → Bool) (g : Nat) (lb : Array Value) (eg : ∀ args w, (callFunc g args).run Try.prog w = .ok (.enter g args) w) (o : Option Addr) (c : Nat) (l : List (Int)) (w : World)
    (hl : IntsAt w o l) (hlen : l.length ≤ 9223372036854775807)
    (hp : ∀ W x, Below w.heap.size w W → x ∈ l → Calls Try.prog g (#[.int .i64 x] ++ lb) W fun e w' => e = .returned (.bool (p x)) ∧ Below W.heap.size W w') :
    Calls Try.prog 62 #[.slice o l.length c, .func (.func g) #[] lb] w (RetIdx (idxZ p l) w) := by
  obtain ⟨n, hn⟩ : ∃ n, l.length = n := ⟨_, rfl⟩
  have HN := Lib.hid hn
  have HL := Lib.hid hl
  have HP := Lib.hid hp
  rw [hn] at hlen ⊢
  have n0 : (0 : Int) ≤ (n : Int) := by omega
  have n1 : (n : Int) ≤ 9223372036854775807 := by omega
  clear hn hl hp hlen
  go_enter Try.func62, Try.ntmps62
  go_wp2_with fail
  go_loopg [5, 8] n (IxRel p l w n)
  case atStart => exact ⟨0, rfl, rfl, by omega, Below.refl _ _, rfl⟩
  case round =>
    obtain ⟨k, hg, rfl, hk, hbl, ha⟩ := hrel
    subst hg
    have HB := Lib.hid hbl
    have HA := Lib.hid ha
    clear ha
    have k0 : (0 : Int) ≤ (k : Int) := by omega
    by_cases hkn : k < n
    · have t1 : (k : Int) < (n : Int) := by omega
      obtain ⟨x, hx⟩ : ∃ x, l[k]? = some x := ⟨_, List.getElem?_eq_getElem (by rw [HN.out]; exact hkn)⟩
      obtain ⟨b, off, e, hr⟩ := (HL.out.below hbl) k (by rw [HN.out]; exact hkn)
      rw [List.getD_eq_getElem?_getD, hx, Option.getD_some] at hr
      have HC := Lib.hid (HP.out wr x hbl (List.mem_of_getElem? hx))
      have HX := Lib.hid hx
      subst e
      clear hbl hx 
      cases hq : p x with
      | true =>
        rw [hq] at HC
        have HR2 := Lib.hid (idx_hit HX.out HA.out hq)
        clear hq
        go_wp2_with (first | (go_at_fn g; refine HC.out.mono ?_; rintro e w' ⟨rfl, hb'⟩) | fail)
        go_ret
        exact ⟨by rw [HR2.out]; rfl, bnext HB.out hb'⟩
      | false =>
        rw [hq] at HC
        have HR2 := Lib.hid (any_snoc HX.out HA.out hq)
        clear hq
        go_wp2_with (first | (go_at_fn g; refine HC.out.mono ?_; rintro e w' ⟨rfl, hb'⟩) | fail)
        go_roundg (n - (k + 1))
        case measure => omega
        case rel => exact ⟨k + 1, rfl, by go_num, by omega, bnext HB.out hb', HR2.out⟩
    · obtain rfl : k = n := by omega
      have t1 : ¬ (k : Int) < (k : Int) := by omega
      have HR2 := Lib.hid (idx_none (p := p) (by rw [HN.out]; omega) HA.out)
      clear hbl
      go_wp2_with fail
      go_ret
      exact ⟨by rw [HR2.out]; rfl, HB.out⟩
set_option maxRecDepth 100000 in
theorem has_q (p : Int → Bool) (g : Nat) (lb : Array Value) (eg : ∀ args w, (callFunc g args).run Try.prog w = .ok (.enter g args) w) (o : Option Addr) (c : Nat) (l : List (Int)) (w : World)
    (hl : IntsAt w o l) (hlen : l.length ≤ 9223372036854775807)
    (hp : ∀ W x, Below w.heap.size w W → x ∈ l → Calls Try.prog g (#[.int .i64 x] ++ lb) W fun e w' => e = .returned (.bool (p x)) ∧ Below W.heap.size W w') :
    Calls Try.prog 52 #[.slice o l.length c, .func (.func g) #[] lb] w (RetBool (l.any p) w) := by
  have HC := Lib.hid (idx_q p g lb eg o c l w hl hlen hp)
  have HZ := Lib.hid (idx_any p l)
  clear hp hl eg
  generalize idxZ p l = z at HC HZ
  generalize l.any p = r at HZ ⊢
  generalize l.length = n at *
  rcases HZ.out with ⟨rfl, hz⟩ | ⟨rfl, hz⟩
  · clear HZ
    go_enter Try.func52, Try.ntmps52
    go_wp2_with fail
    refine HC.out.mono ?_
    rintro e w1 ⟨rfl, hb⟩
    have HB := Lib.hid hb
    clear hb
    go_wp2_with fail
    go_ret
    exact ⟨rfl, HB.out⟩
  · clear HZ
    have hz2 : ¬ 0 ≤ z := by omega
    go_enter Try.func52, Try.ntmps52
    go_wp2_with fail
    refine HC.out.mono ?_
    rintro e w1 ⟨rfl, hb⟩
    have HB := Lib.hid hb
    clear hb
    go_wp2_with fail
    go_ret
    exact ⟨by show Ending.returned (.bool (decide (0 ≤ z))) = _; rw [decide_eq_false (show ¬ 0 ≤ z by omega)], HB.out⟩
set_option maxRecDepth 100000 in
set_option maxHeartbeats 2000000 in
theorem idx_i (p : Int → Bool) (g : Nat) (lb : Array Value) (eg : ∀ args w, (callFunc g args).run Try.prog w = .ok (.enter g args) w) (o : Option Addr) (c : Nat) (l : List (Int)) (w : World)
    (hl : IntsAt w o l) (hlen : l.length ≤ 9223372036854775807)
    (hp : ∀ W x, Below w.heap.size w W → x ∈ l → Calls Try.prog g (#[.int .i64 x] ++ lb) W fun e w' => e = .returned (.bool (p x)) ∧ Below W.heap.size W w') :
    Calls Try.prog 63 #[.slice o l.length c, .func (.func g) #[] lb] w (RetIdx (idxZ p l) w) := by
  obtain ⟨n, hn⟩ : ∃ n, l.length = n := ⟨_, rfl⟩
  have HN := Lib.hid hn
  have HL := Lib.hid hl
  have HP := Lib.hid hp
  rw [hn] at hlen ⊢
  have n0 : (0 : Int) ≤ (n : Int) := by omega
  have n1 : (n : Int) ≤ 9223372036854775807 := by omega
  clear hn hl hp hlen
  go_enter Try.func63, Try.ntmps63
  go_wp2_with fail
  go_loopg [5, 8] n (IxRel p l w n)
  case atStart => exact ⟨0, rfl, rfl, by omega, Below.refl _ _, rfl⟩
  case round =>
    obtain ⟨k, hg, rfl, hk, hbl, ha⟩ := hrel
    subst hg
    have HB := Lib.hid hbl
    have HA := Lib.hid ha
    clear ha
    have k0 : (0 : Int) ≤ (k : Int) := by omega
    by_cases hkn : k < n
    · have t1 : (k : Int) < (n : Int) := by omega
      obtain ⟨x, hx⟩ : ∃ x, l[k]? = some x := ⟨_, List.getElem?_eq_getElem (by rw [HN.out]; exact hkn)⟩
      obtain ⟨b, off, e, hr⟩ := (HL.out.below hbl) k (by rw [HN.out]; exact hkn)
      rw [List.getD_eq_getElem?_getD, hx, Option.getD_some] at hr
      have HC := Lib.hid (HP.out wr x hbl (List.mem_of_getElem? hx))
      have HX := Lib.hid hx
      subst e
      clear hbl hx 
      cases hq : p x with
      | true =>
        rw [hq] at HC
        have HR2 := Lib.hid (idx_hit HX.out HA.out hq)
        clear hq
        go_wp2_with (first | (go_at_fn g; refine HC.out.mono ?_; rintro e w' ⟨rfl, hb'⟩) | fail)
        go_ret
        exact ⟨by rw [HR2.out]; rfl, bnext HB.out hb'⟩
      | false =>
        rw [hq] at HC
        have HR2 := Lib.hid (any_snoc HX.out HA.out hq)
        clear hq
        go_wp2_with (first | (go_at_fn g; refine HC.out.mono ?_; rintro e w' ⟨rfl, hb'⟩) | fail)
        go_roundg (n - (k + 1))
        case measure => omega
        case rel => exact ⟨k + 1, rfl, by go_num, by omega, bnext HB.out hb', HR2.out⟩
    · obtain rfl : k = n := by omega
      have t1 : ¬ (k : Int) < (k : Int) := by omega
      have HR2 := Lib.hid (idx_none (p := p) (by rw [HN.out]; omega) HA.out)
      clear hbl
      go_wp2_with fail
      go_ret
      exact ⟨by rw [HR2.out]; rfl, HB.out⟩
set_option maxRecDepth 100000 in
theorem has_i (p : Int → Bool) (g : Nat) (lb : Array Value) (eg : ∀ args w, (callFunc g args).run Try.prog w = .ok (.enter g args) w) (o : Option Addr) (c : Nat) (l : List (Int)) (w : World)
    (hl : IntsAt w o l) (hlen : l.length ≤ 9223372036854775807)
    (hp : ∀ W x, Below w.heap.size w W → x ∈ l → Calls Try.prog g (#[.int .i64 x] ++ lb) W fun e w' => e = .returned (.bool (p x)) ∧ Below W.heap.size W w') :
    Calls Try.prog 54 #[.slice o l.length c, .func (.func g) #[] lb] w (RetBool (l.any p) w) := by
  have HC := Lib.hid (idx_i p g lb eg o c l w hl hlen hp)
  have HZ := Lib.hid (idx_any p l)
  clear hp hl eg
  generalize idxZ p l = z at HC HZ
  generalize l.any p = r at HZ ⊢
  generalize l.length = n at *
  rcases HZ.out with ⟨rfl, hz⟩ | ⟨rfl, hz⟩
  · clear HZ
    go_enter Try.func54, Try.ntmps54
    go_wp2_with fail
    refine HC.out.mono ?_
    rintro e w1 ⟨rfl, hb⟩
    have HB := Lib.hid hb
    clear hb
    go_wp2_with fail
    go_ret
    exact ⟨rfl, HB.out⟩
  · clear HZ
    have hz2 : ¬ 0 ≤ z := by omega
    go_enter Try.func54, Try.ntmps54
    go_wp2_with fail
    refine HC.out.mono ?_
    rintro e w1 ⟨rfl, hb⟩
    have HB := Lib.hid hb
    clear hb
    go_wp2_with fail
    go_ret
    exact ⟨by show Ending.returned (.bool (decide (0 ≤ z))) = _; rw [decide_eq_false (show ¬ 0 ≤ z by omega)], HB.out⟩
end Go.Proofs.Ytildnadkfonlhaa.Fx
