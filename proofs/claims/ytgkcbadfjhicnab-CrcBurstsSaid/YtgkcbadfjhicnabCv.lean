/- CrcSeals, walked. -/
import Derived.Test.YtgkcbadfjhicnabProg
import Derived.Test.YtgkcbadfjhicnabHd
import Derived.Test.YtgkcbadfjhicnabCw
import Derived.Laws.Concat
import Derived.WalkKit
import Derived.Lib.Hide
import Derived.Outline
import Derived.Deep.LoopGhost
import Derived.Shelf.Abstract
import Derived.Shelf.RegionOpen
import Derived.OwnWalkIn
import Derived.TacticsInMore
import Derived.Deep.QuietTactic
import Derived.BigQuiet
set_option linter.unusedVariables false
set_option linter.unusedSimpArgs false
namespace Go.Proofs.Ytgkcbadfjhicnab.Fx
open Go Go.RowKit Go.Shelf
attribute [local go_sem] Oper.semAt_some
theorem bstr_add (a b : List Nat) : bstr a ++ bstr b = bstr (a ++ b) := by
  unfold bstr
  rw [ByteArray.mk_append_mk]
  simp
theorem bstr_size (l : List Nat) : (bstr l).size = l.length := by
  show (l.map UInt8.ofNat).toArray.size = _
  simp
/-- what bytes were sealed of -/
def opened (l : List Nat) : Option (List Nat) := if 4 ≤ l.length ∧ l.drop (l.length - 4) = le4 (more 0 (l.take (l.length - 4))) then some (l.take (l.length - 4)) else none
def erO (R : Option (List Nat)) : Int := if R.isSome then 0 else 40
def RetO (R : Option (List Nat)) (B : Nat) (e : Ending) (w' : World) : Prop := ∃ v, e = .returned (.tuple #[v, .int .i64 (erO R)]) ∧ Own w' B v (R.getD [])
theorem No.ret {w w' : World} {e : Ending} (h : No w e w') : RetO none w.heap.size e w' ∧ Below w.heap.size w w' := ⟨⟨_, h.1, World.ownsRow_nil _ _ _ _⟩, h.2⟩
theorem four_of {l : List Nat} {n : Nat} (h : l.length = n + 4) : l = l.take n ++ [l.getD n 0, l.getD (n + 1) 0, l.getD (n + 2) 0, l.getD (n + 3) 0] := by
  have e : l.drop n = [l.getD n 0, l.getD (n + 1) 0, l.getD (n + 2) 0, l.getD (n + 3) 0] := by
    apply List.ext_getElem?
    intro i
    rw [List.getElem?_drop]
    have g : ∀ j, j < l.length → l[j]? = some (l.getD j 0) := fun j hj => by simp [List.getD, hj]
    match i with
    | 0 => exact g _ (by omega)
    | 1 => exact g _ (by omega)
    | 2 => exact g _ (by omega)
    | 3 => exact g _ (by omega)
    | i + 4 =>
      rw [List.getElem?_eq_none (by omega)]
      rfl
  rw [← e, List.take_append_drop]
theorem opened_long {l t : List Nat} {c0 c1 c2 c3 : Nat} (h : l = t ++ [c0, c1, c2, c3]) : opened l = if ([c0, c1, c2, c3] == le4 (more 0 t)) = true then some t else none := by
  have hl : l.length = t.length + 4 := by rw [h]; simp
  have ht : l.take (l.length - 4) = t := by rw [hl, Nat.add_sub_cancel, h, List.take_left]
  have hd : l.drop (l.length - 4) = [c0, c1, c2, c3] := by rw [hl, Nat.add_sub_cancel, h, List.drop_left]
  unfold opened
  rw [ht, hd]
  by_cases hc : [c0, c1, c2, c3] = le4 (more 0 t)
  · rw [if_pos ⟨by omega, hc⟩, if_pos (by rw [hc]; exact beq_self_eq_true _)]
  · rw [if_neg (fun h => hc h.2), if_neg (fun h => hc (by simpa using h))]
theorem opened_short {l : List Nat} (h : l.length < 4) : opened l = none := by
  unfold opened
  rw [if_neg (fun h2 => by omega)]
theorem open_all (l : List Nat) (n : Nat) (hn : l.length = n) (o : Option Addr) (cap : Nat) (w : World) (hl : By l) (hlen : l.length ≤ 90000) (hcap : l.length ≤ cap) (hcap2 : cap ≤ 9223372036854775807) (hb : Bs w o l) :
    Calls Try.prog 16 #[.slice o n cap] w fun e w' => RetO (opened l) w.heap.size e w' ∧ Below w.heap.size w w' := by
  subst hn
  by_cases h4 : l.length < 4
  · rw [opened_short h4]
    exact (open_short _ o cap w h4).mono fun e w' h => h.ret
  · obtain ⟨b, off, rfl, _⟩ := hb 0 (by omega)
    have hf := four_of (l := l) (n := l.length - 4) (by omega)
    have hlt : (l.take (l.length - 4)).length + 4 = l.length := by rw [List.length_take]; omega
    rw [opened_long hf]
    have := open_at (l.take (l.length - 4)) _ _ _ _ b off cap w (hl.take _) (by omega) (by omega) hcap2 (by rw [← hf]; exact hb)
    rw [hlt] at this
    refine this.mono ?_
    intro e w' h
    split at h
    · rename_i hc
      rw [if_pos hc]
      obtain ⟨⟨v, he, ho⟩, hbel⟩ := h
      exact ⟨⟨v, he, ho⟩, hbel⟩
    · rename_i hc
      rw [if_neg hc]
      exact h.ret
theorem ropen_all (l : List Nat) (n : Nat) (hn : l.length = n) (o : Option Addr) (cap : Nat) (w : World) (hl : By l) (hlen : l.length ≤ 90000) (hcap : l.length ≤ cap) (hcap2 : cap ≤ 9223372036854775807) (hb : Bs w o l) :
    Calls Try.prog 18 #[.slice o n cap] w fun e w' => RetO (opened l) w.heap.size e w' ∧ Below w.heap.size w w' := by
  subst hn
  by_cases h4 : l.length < 4
  · rw [opened_short h4]
    exact (ropen_short _ o cap w h4).mono fun e w' h => h.ret
  · obtain ⟨b, off, rfl, _⟩ := hb 0 (by omega)
    have hf := four_of (l := l) (n := l.length - 4) (by omega)
    have hlt : (l.take (l.length - 4)).length + 4 = l.length := by rw [List.length_take]; omega
    rw [opened_long hf]
    have hlt2 : (l.take (l.length - 4)).length = l.length - 4 := by omega
    have := ropen_long (l.take (l.length - 4)) _ _ _ _ b off cap w (hl.take _) (hl.get _) (hl.get (l.length - 4 + 1)) (hl.get (l.length - 4 + 2)) (hl.get (l.length - 4 + 3)) (by omega) (by omega) hcap2 (hb.take _) (by rw [hlt2]; exact bs_at hb (by omega)) (by rw [hlt2]; exact bs_at hb (by omega)) (by rw [hlt2]; exact bs_at hb (by omega)) (by rw [hlt2]; exact bs_at hb (by omega))
    rw [hlt] at this
    refine this.mono ?_
    intro e w' h
    split at h
    · rename_i hc
      rw [if_pos hc]
      obtain ⟨⟨v, he, ho⟩, hbel⟩ := h
      exact ⟨⟨v, he, ho⟩, hbel⟩
    · rename_i hc
      rw [if_neg hc]
      exact h.ret
theorem own_apart {W1 W2 : World} {B1 B2 S : Nat} {v1 v2 : Value} {l1 l2 : List Nat} (h1 : Own W1 B1 v1 l1) (h2 : Own W2 B2 v2 l2) (hS : W1.heap.size ≤ S) (hB : S ≤ B2) : v1.ownBlock = none ∨ v1.ownBlock ≠ v2.ownBlock := by
  cases e : v1.ownBlock with
  | none => exact Or.inl rfl
  | some k =>
    right
    intro h
    have a := h1.lt k e
    have b := h2.lt k h.symm
    omega
theorem own_apart' {W1 W2 : World} {B1 B2 S : Nat} {v1 v2 : Value} {l1 l2 : List Nat} (h1 : Own W1 B1 v1 l1) (h2 : Own W2 B2 v2 l2) (hS : W1.heap.size ≤ S) (hB : S ≤ B2) : v2.ownBlock = none ∨ v2.ownBlock ≠ v1.ownBlock := by
  cases e : v2.ownBlock with
  | none => exact Or.inl rfl
  | some k =>
    right
    intro h
    have a := h2.lt k e
    have b := h1.lt k h.symm
    omega
theorem grown_trans {a b c : World} {r : Option Nat} (h1 : a.grownBy b r) (h2 : b.grownBy c r) : a.grownBy c r :=
  ⟨h2.os.trans h1.os, h2.tape.trans h1.tape, h2.output.trans h1.output, Nat.le_trans h1.size h2.size, fun k hk hr => (h2.block k (Nat.lt_of_lt_of_le hk h1.size) hr).trans (h1.block k hk hr)⟩
/-- one byte raised by one -/
theorem bump {W : World} {B g cap k : Nat} {ls : List Nat} (h : Own W B (.slice (some ⟨g, 0, none⟩) ls.length cap) ls) (c : Nat) :
    Own (W.setCell ⟨g, k, none⟩ (.int .u8 (c : Int))) B (.slice (some ⟨g, 0, none⟩) ls.length cap) (ls.set k c) ∧ W.grownBy (W.setCell ⟨g, k, none⟩ (.int .u8 (c : Int))) (some g) := by
  obtain ⟨h1, h2⟩ := World.ownsRow.stored h k (.int .u8 (c : Int))
  refine ⟨?_, h2⟩
  unfold Own
  rw [List.length_set, List.map_set]
  exact h1
/-- the loop's relation: v holds some bytes, and nothing but its row was written -/
def Bump (W0 : World) (B N : Nat) (v : Value) (wx : World) : Prop := ∃ ls, ls.length = N ∧ By ls ∧ Own wx B v ls ∧ W0.grownBy wx v.ownBlock
theorem Bump.start {W0 : World} {B : Nat} {v : Value} {l : List Nat} (h : Own W0 B v l) (hl : By l) : Bump W0 B l.length v W0 := ⟨l, rfl, hl, h, World.grownBy.refl _ _⟩
theorem Bump.facts {W0 wx : World} {B N k cap : Nat} {o : Option Addr} (h : Bump W0 B N (.slice o N cap) wx) (hk : k < N) :
    ∃ g c, o = some ⟨g, 0, none⟩ ∧ c < 256 ∧ wx.cell? ⟨g, k, none⟩ = some (.int .u8 ((c : Nat) : Int)) ∧ wx.frozen? ⟨g, k, none⟩ = false ∧
      Bump W0 B N (.slice (some ⟨g, 0, none⟩) N cap) (wx.setCell ⟨g, k, none⟩ (.int .u8 (((c + 1) % 256 : Nat) : Int))) := by
  obtain ⟨ls, hN, hby, hown, hgr⟩ := h
  obtain ⟨o2, cap2, e, hbs, _, _, _, hfr⟩ := hown.open
  cases e
  obtain ⟨b, off, e, hc⟩ := hbs k (by omega)
  obtain ⟨g, e2, _, _, hf⟩ := hfr _ e
  cases e2
  subst e
  have hb := bump (k := k) hown ((ls.getD k 0 + 1) % 256)
  refine ⟨b, ls.getD k 0, rfl, hby.get k, by simpa using hc, hf k, ls.set k ((ls.getD k 0 + 1) % 256), by simp, ?_, hb.1, grown_trans hgr hb.2⟩
  intro c hc2
  rcases List.mem_or_eq_of_mem_set hc2 with h | rfl
  · exact hby c h
  · exact Nat.mod_lt _ (by omega)
def Yes2 (w : World) (e : Ending) (w' : World) : Prop := e = .returned (.bool true) ∧ Below w.heap.size w w'
theorem after7 {W : World} {B n : Nat} {v : Value} {l : List Nat} (h : W.ownsRow B 5 1 v (n + 1) (l.map encB ++ [7].map encB)) (hn : l.length = n) :
    ∃ g cap, v = .slice (some ⟨g, 0, none⟩) (n + 1) cap ∧ n + 1 ≤ cap ∧ cap ≤ 9223372036854775807 ∧ Own W B (.slice (some ⟨g, 0, none⟩) (n + 1) cap) (l ++ [7]) ∧ Bs W (some ⟨g, 0, none⟩) (l ++ [7]) := by
  have ho : Own W B v (l ++ [7]) := by
    unfold Own
    rw [List.map_append, List.length_append, hn]
    exact h
  obtain ⟨o, cap, e, hbs, h1, h2, _, hf⟩ := ho.open
  have hl : (l ++ [7]).length = n + 1 := by rw [List.length_append, hn]; rfl
  rw [hl] at e h1
  subst e
  obtain ⟨b, off, rfl, _⟩ := hbs 0 (by omega)
  obtain ⟨g, e2, _⟩ := hf _ rfl
  cases e2
  exact ⟨b, cap, rfl, h1, h2, ho, hbs⟩
theorem own_shape {W : World} {B n : Nat} {v : Value} {l : List Nat} (ho : Own W B v l) (hl : l.length = n) (hn : 0 < n) : ∃ g cap, v = .slice (some ⟨g, 0, none⟩) n cap ∧ n ≤ cap ∧ cap ≤ 9223372036854775807 ∧ Bs W (some ⟨g, 0, none⟩) l := by
  obtain ⟨o, cap, e, hbs, h1, h2, _, hf⟩ := ho.open
  rw [hl] at e h1
  subst e
  obtain ⟨b, off, rfl, _⟩ := hbs 0 (by omega)
  obtain ⟨g, e2, _⟩ := hf _ rfl
  cases e2
  exact ⟨b, cap, rfl, h1, h2, hbs⟩
theorem own_shape0 {W : World} {B n : Nat} {v : Value} {l : List Nat} (ho : Own W B v l) (hl : l.length = n) : ∃ o cap, v = .slice o n cap ∧ Bs W o l := by
  obtain ⟨o, cap, e, hbs, _⟩ := ho.open
  rw [hl] at e
  exact ⟨o, cap, e, hbs⟩
theorem bump_byte (c : Nat) : (((c + 1) % 256 : Nat) : Int) = ((c : Int) + 1) % 256 := by omega
set_option maxRecDepth 100000 in
set_option maxHeartbeats 4000000 in
theorem seals_big (n : Nat) (o : Option Addr) (cap : Nat) (w : World) (hbig : 5000 < n) :
    Calls Try.prog 4 #[.slice o n cap] w (Yes2 w) := by
  have t1 : (5000 : Int) < (n : Int) := by omega
  go_enter Try.func4, Try.ntmps4
  go_wp2_with fail
  go_ret
  exact ⟨rfl, Below.refl _ _⟩
set_option maxRecDepth 100000 in
set_option maxHeartbeats 8000000 in
theorem seals_all (l q : List Nat) (n : Nat) (R : Option (List Nat)) (ob : Option Addr) (cb : Nat) (w : World) (hl : By l) (hn : l.length = n) (hlen : n ≤ 5000) (hcap : n ≤ cb) (hcap2 : cb ≤ 9223372036854775807) (hq0 : ob = none → cb = 0) (hb : Bs w ob l)
    (hq : l ++ le4 (more 0 l) = q) (hR : opened l = R) (hRl : (R.getD []).length ≤ 5000) (hRb : By (R.getD [])) :
    Calls Try.prog 4 #[.slice ob n cb] w (Yes2 w) := by
  obtain ⟨i0, hi, hz0, hz1, hz2⟩ := info_parts info5
  have t1 : ¬ (5000 : Int) < (n : Int) := by omega
  have t1' : (n : Int) ≤ 5000 := by omega
  have hql : q.length = n + 4 := by rw [← hq, List.length_append, hn]; rfl
  have hqb : By q := by rw [← hq]; exact hl.append (le4_by _)
  have HTW : Hid (∀ W, Bs W ob l → Calls Try.prog 14 #[.slice ob n cb] W fun e w' => (∃ v, e = .returned v ∧ Own w' W.heap.size v l) ∧ Below W.heap.size W w') :=
    Lib.hid fun W h => by have := twin_any l ob cb W (by omega) hq0 h; rwa [hn] at this
  have HSE : Hid (∀ W g cap, Bs W (some ⟨g, 0, none⟩) l → Calls Try.prog 15 #[.slice (some ⟨g, 0, none⟩) n cap] W fun e w' => (∃ v, e = .returned v ∧ Own w' W.heap.size v q) ∧ Below W.heap.size W w') :=
    Lib.hid fun W g cap h => seal_at l n hn q hq _ cap W hl (by omega) (by intro h; cases h) h
  have HOP : Hid (∀ W g cap, n ≤ cap → cap ≤ 9223372036854775807 → Bs W (some ⟨g, 0, none⟩) l → Calls Try.prog 16 #[.slice (some ⟨g, 0, none⟩) n cap] W fun e w' => RetO R W.heap.size e w' ∧ Below W.heap.size W w') :=
    Lib.hid fun W g cap h1 h2 h => by rw [← hR]; exact open_all l n hn _ cap W hl (by omega) (by omega) h2 h
  have HRS : Hid (∀ W, Bs W ob l → Calls Try.prog 17 #[.slice ob n cb] W fun e w' => (∃ v, e = .returned v ∧ Own w' W.heap.size v q) ∧ Below W.heap.size W w') :=
    Lib.hid fun W h => by have := rseal_any l ob cb W hl (by omega) hq0 h; rwa [hn, hq] at this
  have HRO : Hid (∀ W, Bs W ob l → Calls Try.prog 18 #[.slice ob n cb] W fun e w' => RetO R W.heap.size e w' ∧ Below W.heap.size W w') :=
    Lib.hid fun W h => by rw [← hR]; exact ropen_all l n hn _ cb W hl (by omega) (by omega) hcap2 h
  have HOW : Hid (∀ W g cap, n + 4 ≤ cap → cap ≤ 9223372036854775807 → Bs W (some ⟨g, 0, none⟩) q → Calls Try.prog 16 #[.slice (some ⟨g, 0, none⟩) (n + 4) cap] W fun e w' => (∃ v, e = .returned (.tuple #[v, .int .i64 0]) ∧ Own w' W.heap.size v l) ∧ Below W.heap.size W w') :=
    Lib.hid fun W g cap h1 h2 h => open_ok l _ _ _ _ g 0 (n + 4) cap W (by omega) rfl hl (by omega) h1 h2 (by rw [← hq] at h; exact h)
  have HER : Hid (erO R = 0 ∨ erO R = 40) := Lib.hid (by unfold erO; split <;> simp)
  have HBS := Lib.hid hb
  have HLB := Lib.hid hl
  have HQB := Lib.hid hqb
  have HRB := Lib.hid hRb
  have HNL := Lib.hid hn
  have HQL := Lib.hid hql
  have HL7 : Hid ((l ++ [7]).length = n + 1) := Lib.hid (by simp [hn])
  have hadd : ∀ W, (Op.stringOp .add (bstr l) { data := #[7] }).run Try.prog W = .ok (.string (bstr (l ++ [7]))) W := fun W => by
    have h := run_string_add_sum (P := Try.prog) W (bstr l) (bstr [7]) (by rw [bstr_size, bstr_size, hn]; simp; omega)
    rw [bstr_add] at h
    exact h
  clear hl hb hq hR hqb hRb hn hql
  generalize hm : (R.getD []).length = m at *
  have HM := Lib.hid hm
  clear hm
  go_enter Try.func4, Try.ntmps4
  go_wp2_with fail
  refine (HTW.out _ HBS.out).mono ?_
  rintro e w1 ⟨⟨v1, rfl, hown1⟩, hb1⟩
  have HO1 := Lib.hid hown1
  have HB1 := Lib.hid hb1
  clear hown1 hb1
  go_wp2_with (at_builtin; refine wpList_append_own _ rfl _ _ 22 rfl w.heap.size 5 i0 (.int .u8 0) 1 1 Try.underlying22 hi hz0 hz1 hz2 rfl (by decide) v1 n (l.map encB) rfl (by have := HO1.out; unfold Own at this; rw [HNL.out] at this; exact this.alloc _) ⟨w1.heap.size, 0, none⟩ 1 1 ([7].map encB) rfl (by simp) (news_of (lit_row _ [7] _ rfl _)) (news_one _) (by unfold maxLen; omega) (by omega) (by have := HB1.out.size; simp; omega) ?_; intro v2 w2 hown2 hgrow2 _; obtain ⟨g0, c0, rfl, hc0, hc1, ho2, hs2⟩ := after7 hown2 HNL.out; have hk0 : (n : Int) ≤ (c0 : Int) := by omega)
  have HB2 : Hid (Below w.heap.size w w2) := Lib.hid ((HB1.out.alloc (HB1.out.size) _).grown hgrow2 (by have := HB1.out.size; simp; omega) (fun k hk => (HO1.out.lt k hk).1))
  have HO2 := Lib.hid ho2
  have HS2 := Lib.hid hs2
  clear hgrow2 hown2 ho2 hs2
  refine (HSE.out w2 g0 c0 (bs_part HS2.out)).mono ?_
  rintro e w3 ⟨⟨vs, rfl, ho3⟩, hb3⟩
  have HB3 := Lib.hid hb3
  have HS3 := Lib.hid ho3
  clear ho3 hb3
  go_wp2_with fail
  refine (HOP.out w3 g0 c0 (by omega) hc1 ((bs_part HS2.out).below HB3.out)).mono ?_
  rintro e w4 ⟨⟨vo, rfl, ho4⟩, hb4⟩
  have HB4 := Lib.hid hb4
  have HO4 := Lib.hid ho4
  clear ho4 hb4
  go_wp2_with fail
  have HA4 : Hid (Below w.heap.size w w4) := Lib.hid (bnext (bnext HB2.out HB3.out) HB4.out)
  refine (HRS.out w4 (HBS.out.below HA4.out)).mono ?_
  rintro e w5 ⟨⟨vw, rfl, ho5⟩, hb5⟩
  have HB5 := Lib.hid hb5
  have HW5 := Lib.hid ho5
  have HA5 : Hid (Below w.heap.size w w5) := Lib.hid (bnext HA4.out hb5)
  clear ho5 hb5
  go_wp2_with fail
  refine (HRO.out w5 (HBS.out.below HA5.out)).mono ?_
  rintro e w6 ⟨⟨vb, rfl, ho6⟩, hb6⟩
  have HB6 := Lib.hid hb6
  have HK6 := Lib.hid ho6
  have HA6 : Hid (Below w.heap.size w w6) := Lib.hid (bnext HA5.out hb6)
  clear ho6 hb6
  have HS6 := Lib.hid (((HS3.out.below HB4.out).below HB5.out).below HB6.out)
  have HO6 := Lib.hid ((HO4.out.below HB5.out).below HB6.out)
  have HW6 := Lib.hid (HW5.out.below HB6.out)
  have HV6 := Lib.hid ((((HO2.out.below HB3.out).below HB4.out).below HB5.out).below HB6.out)
  have HZ6 := Lib.hid ((((HS2.out.below HB3.out).below HB4.out).below HB5.out).below HB6.out)
  obtain ⟨gs, cs, rfl, _, _, bs6⟩ := own_shape HS6.out HQL.out (by omega)
  obtain ⟨oo, co, rfl, bo6⟩ := own_shape0 HO6.out HM.out
  obtain ⟨gw, cw, rfl, hw1, hw2, bw6⟩ := own_shape HW6.out HQL.out (by omega)
  obtain ⟨ok, ck, rfl, bk6⟩ := own_shape0 HK6.out HM.out
  have s1 := conv_bs cs HQL.out bs6
  have s2 := conv_bs cw HQL.out bw6
  have s3 := conv_bs co HM.out bo6
  have s4 := conv_bs ck HM.out bk6
  have s5 := conv_bs c0 HL7.out HZ6.out
  have s6 := conv_bs cb HNL.out (HBS.out.below HA6.out)
  have HBW6 := Lib.hid bw6
  clear bs6 bo6 bw6 bk6
  obtain ⟨er, her⟩ : ∃ er, erO R = er := ⟨_, rfl⟩
  rw [her]
  clear her
  go_wp2_with (first | rw [s1] | rw [s2] | rw [s3] | rw [s4] | rw [s5] | rw [s6] | rw [hadd])
  refine (HOW.out w6 gw cw hw1 hw2 HBW6.out).mono ?_
  rintro e w7 ⟨⟨va, rfl, ho7⟩, hb7⟩
  have HB7 := Lib.hid hb7
  have HR7 := Lib.hid ho7
  have HA7 : Hid (Below w.heap.size w w7) := Lib.hid (bnext HA6.out hb7)
  clear ho7 hb7 s1 s2 s3 s4 s5 s6
  obtain ⟨oa, ca, rfl, ba7⟩ := own_shape0 HR7.out HNL.out
  have s7 := conv_bs ca HNL.out ba7
  have s8 := conv_bs cb HNL.out (HBS.out.below HA7.out)
  clear ba7
  go_wp2_with (first | rw [s7] | rw [s8])
  clear s7 s8
  have HS7 := Lib.hid (HS6.out.below HB7.out)
  have HO7 := Lib.hid (HO6.out.below HB7.out)
  have HW7 := Lib.hid (HW6.out.below HB7.out)
  have HV7 := Lib.hid (HV6.out.below HB7.out)
  have z3 := HB3.out.size
  have z4 := HB4.out.size
  have z5 := HB5.out.size
  have z6 := HB6.out.size
  have z7 := HB7.out.size
  have zw : w.heap.size ≤ w2.heap.size := HB2.out.size
  go_loopg [83] (n + 4) (fun g sl wx => ∃ k : Nat, g = n + 4 - k ∧ k ≤ n + 4 ∧ sl = .int .i64 (k : Int) ∧ Bump w7 w2.heap.size (n + 4) (.slice (some ⟨gs, 0, none⟩) (n + 4) cs) wx)
  case atStart => exact ⟨0, rfl, by omega, rfl, ⟨q, HQL.out, HQB.out, HS7.out, World.grownBy.refl _ _⟩⟩
  case round =>
    obtain ⟨k, rfl, hk, rfl, hbump⟩ := hrel
    by_cases hkn : k < n + 4
    · have tk : (k : Int) < ((n + 4 : Nat) : Int) := by omega
      have tk0 : (0 : Int) ≤ (k : Int) := by omega
      obtain ⟨gg, c, eg, hc, fc, ff, hnext⟩ := hbump.facts hkn
      rw [bump_byte] at hnext
      cases eg
      have HNX := Lib.hid hnext
      clear hnext hbump
      go_wp2_with fail
      go_roundg (n + 4 - (k + 1))
      case measure => omega
      case rel => exact ⟨k + 1, rfl, by omega, by go_num, HNX.out⟩
    · have tk : ¬ (k : Int) < ((n + 4 : Nat) : Int) := by omega
      obtain ⟨ls, _, _, _, hgr⟩ := hbump
      have HO8 := Lib.hid (HO7.out.kept hgr (own_apart' HS3.out HO4.out (Nat.le_refl _) (Nat.le_refl _)))
      have HW8 := Lib.hid (HW7.out.kept hgr (own_apart' HS3.out HW5.out (Nat.le_refl _) z4))
      have HV8 := Lib.hid (HV7.out.kept hgr (own_apart HO2.out HS3.out (Nat.le_refl _) (Nat.le_refl _)))
      have HR8 := Lib.hid (HR7.out.kept hgr (own_apart' HS3.out HR7.out (Nat.le_refl _) (by omega)))
      have HA8 : Hid (Below w.heap.size w wr) := Lib.hid (HA7.out.grown hgr HA7.out.size (fun k hk => Nat.le_trans zw (HS3.out.lt k hk).1))
      clear hgr
      go_wp2_with fail
      go_loopg [97] (m) (fun g sl wx => ∃ k : Nat, g = m - k ∧ k ≤ m ∧ sl = .int .i64 (k : Int) ∧ Bump wr w3.heap.size (m) (.slice oo m co) wx)
      case atStart => exact ⟨0, rfl, by omega, rfl, ⟨R.getD [], HM.out, HRB.out, HO8.out, World.grownBy.refl _ _⟩⟩
      case round =>
        obtain ⟨k, rfl, hk, rfl, hbump⟩ := hrel
        by_cases hkn : k < m
        · have tk : (k : Int) < ((m : Nat) : Int) := by omega
          have tk0 : (0 : Int) ≤ (k : Int) := by omega
          obtain ⟨gg, c, eg, hc, fc, ff, hnext⟩ := hbump.facts hkn
          rw [bump_byte] at hnext
          subst eg
          have HNX := Lib.hid hnext
          clear hnext hbump
          go_wp2_with fail
          go_roundg (m - (k + 1))
          case measure => omega
          case rel => exact ⟨k + 1, rfl, by omega, by go_num, HNX.out⟩
        · have tk : ¬ (k : Int) < ((m : Nat) : Int) := by omega
          obtain ⟨ls, _, _, _, hgr⟩ := hbump
          have HW9 := Lib.hid (HW8.out.kept hgr (own_apart' HO4.out HW5.out (Nat.le_refl _) (Nat.le_refl _)))
          have HV9 := Lib.hid (HV8.out.kept hgr (own_apart HO2.out HO4.out (Nat.le_refl _) z3))
          have HR9 := Lib.hid (HR8.out.kept hgr (own_apart' HO4.out HR7.out (Nat.le_refl _) (by omega)))
          have HA9 : Hid (Below w.heap.size w wr) := Lib.hid (HA8.out.grown hgr HA8.out.size (fun k hk => Nat.le_trans (Nat.le_trans zw z3) (HO4.out.lt k hk).1))
          clear hgr
          go_wp2_with fail
          go_loopg [111] (n) (fun g sl wx => ∃ k : Nat, g = n - k ∧ k ≤ n ∧ sl = .int .i64 (k : Int) ∧ Bump wr w6.heap.size (n) (.slice oa n ca) wx)
          case atStart => exact ⟨0, rfl, by omega, rfl, ⟨l, HNL.out, HLB.out, HR9.out, World.grownBy.refl _ _⟩⟩
          case round =>
            obtain ⟨k, rfl, hk, rfl, hbump⟩ := hrel
            by_cases hkn : k < n
            · have tk : (k : Int) < ((n : Nat) : Int) := by omega
              have tk0 : (0 : Int) ≤ (k : Int) := by omega
              obtain ⟨gg, c, eg, hc, fc, ff, hnext⟩ := hbump.facts hkn
              rw [bump_byte] at hnext
              subst eg
              have HNX := Lib.hid hnext
              clear hnext hbump
              go_wp2_with fail
              go_roundg (n - (k + 1))
              case measure => omega
              case rel => exact ⟨k + 1, rfl, by omega, by go_num, HNX.out⟩
            · have tk : ¬ (k : Int) < ((n : Nat) : Int) := by omega
              obtain ⟨ls, _, _, _, hgr⟩ := hbump
              have HW10 := Lib.hid (HW9.out.kept hgr (own_apart HW5.out HR7.out (Nat.le_refl _) z6))
              have HV10 := Lib.hid (HV9.out.kept hgr (own_apart HO2.out HR7.out (Nat.le_refl _) (by omega)))
              have HA10 : Hid (Below w.heap.size w wr) := Lib.hid (HA9.out.grown hgr HA9.out.size (fun k hk => Nat.le_trans (Nat.le_trans (Nat.le_trans zw (by omega)) z6) (Nat.le_trans (Nat.le_refl _) (HR7.out.lt k hk).1)))
              clear hgr
              have HBb := Lib.hid (HBS.out.below HA10.out)
              obtain ⟨_, _, ew, hbw⟩ := own_shape0 HW10.out HQL.out
              cases ew
              obtain ⟨_, _, ev, hbv⟩ := own_shape0 HV10.out HL7.out
              cases ev
              have HBw := Lib.hid hbw
              have HBv := Lib.hid hbv
              clear hbw hbv
              go_wp2_with fail
              refine (wpIn_wide (n := 5)).1 (held_region (F := Fence.wide) (S := fun X => Below wr.heap.size wr X) (by kernel_rfl) (bdrew0 _ _ 1) (fun hHeld => ?_))
              refine held_take (fun _ => trivial) (by kernel_rfl) (i := 0) (oi := _) (v := ?_) rfl (by kernel_rfl) (by kernel_rfl) (by kernel_rfl) (fun _ _ _ h => h) (by assumption) (Or.inl ⟨by kernel_rfl, ?_⟩) ?_
              rotate_left
              · intro wz hSw; have k1 := conv_bs c0 HL7.out (HBv.out.below hSw); have k2 := conv_bs cb HNL.out (HBb.out.below hSw); have k3 := conv_bs cw HQL.out (HBw.out.below hSw); (first | (go_simp; done) | (go_simp; with_reducible rfl))
              (try simp only [Act.put, List.getElem_toArray, List.getElem_cons_zero, List.getElem_cons_succ, List.setIfInBounds_toArray, List.set_cons_zero, List.set_cons_succ])
              refine held_take (fun _ => trivial) (by kernel_rfl) (i := 1) (oi := _) (v := ?_) rfl (by kernel_rfl) (by kernel_rfl) (by kernel_rfl) (fun _ _ _ h => h) (by assumption) (Or.inl ⟨by kernel_rfl, ?_⟩) ?_
              rotate_left
              · intro wz hSw; have k1 := conv_bs c0 HL7.out (HBv.out.below hSw); have k2 := conv_bs cb HNL.out (HBb.out.below hSw); have k3 := conv_bs cw HQL.out (HBw.out.below hSw); (first | (go_simp; done) | (go_simp; with_reducible rfl))
              (try simp only [Act.put, List.getElem_toArray, List.getElem_cons_zero, List.getElem_cons_succ, List.setIfInBounds_toArray, List.set_cons_zero, List.set_cons_succ])
              refine held_take (fun _ => trivial) (by kernel_rfl) (i := 2) (oi := _) (v := ?_) rfl (by kernel_rfl) (by kernel_rfl) (by kernel_rfl) (fun _ _ _ h => h) (by assumption) (Or.inl ⟨by kernel_rfl, ?_⟩) ?_
              rotate_left
              · intro wz hSw; have k1 := conv_bs c0 HL7.out (HBv.out.below hSw); have k2 := conv_bs cb HNL.out (HBb.out.below hSw); have k3 := conv_bs cw HQL.out (HBw.out.below hSw); (first | (go_simp; done) | (go_simp; with_reducible rfl))
              (try simp only [Act.put, List.getElem_toArray, List.getElem_cons_zero, List.getElem_cons_succ, List.setIfInBounds_toArray, List.set_cons_zero, List.set_cons_succ])
              refine held_take (fun _ => trivial) (by kernel_rfl) (i := 3) (oi := _) (v := ?_) rfl (by kernel_rfl) (by kernel_rfl) (by kernel_rfl) (fun _ _ _ h => h) (by assumption) (Or.inl ⟨by kernel_rfl, ?_⟩) ?_
              rotate_left
              · intro wz hSw; have k1 := conv_bs c0 HL7.out (HBv.out.below hSw); have k2 := conv_bs cb HNL.out (HBb.out.below hSw); have k3 := conv_bs cw HQL.out (HBw.out.below hSw); (first | (go_simp; done) | (go_simp; with_reducible rfl))
              (try simp only [Act.put, List.getElem_toArray, List.getElem_cons_zero, List.getElem_cons_succ, List.setIfInBounds_toArray, List.set_cons_zero, List.set_cons_succ])
              refine held_take (fun _ => trivial) (by kernel_rfl) (i := 4) (oi := _) (v := ?_) rfl (by kernel_rfl) (by kernel_rfl) (by kernel_rfl) (fun _ _ _ h => h) (by assumption) (Or.inl ⟨by kernel_rfl, ?_⟩) ?_
              rotate_left
              · intro wz hSw; have k1 := conv_bs c0 HL7.out (HBv.out.below hSw); have k2 := conv_bs cb HNL.out (HBb.out.below hSw); have k3 := conv_bs cw HQL.out (HBw.out.below hSw); (first | (go_simp; done) | (go_simp; with_reducible rfl))
              (try simp only [Act.put, List.getElem_toArray, List.getElem_cons_zero, List.getElem_cons_succ, List.setIfInBounds_toArray, List.set_cons_zero, List.set_cons_succ])
              refine held_take (fun _ => trivial) (by kernel_rfl) (i := 5) (oi := _) (v := ?_) rfl (by kernel_rfl) (by kernel_rfl) (by kernel_rfl) (fun _ _ _ h => h) (by assumption) (Or.inl ⟨by kernel_rfl, ?_⟩) ?_
              rotate_left
              · intro wz hSw; have k1 := conv_bs c0 HL7.out (HBv.out.below hSw); have k2 := conv_bs cb HNL.out (HBb.out.below hSw); have k3 := conv_bs cw HQL.out (HBw.out.below hSw); (first | (go_simp; done) | (go_simp; with_reducible rfl))
              (try simp only [Act.put, List.getElem_toArray, List.getElem_cons_zero, List.getElem_cons_succ, List.setIfInBounds_toArray, List.set_cons_zero, List.set_cons_succ])
              refine held_take (fun _ => trivial) (by kernel_rfl) (i := 6) (oi := _) (v := ?_) rfl (by kernel_rfl) (by kernel_rfl) (by kernel_rfl) (fun _ _ _ h => h) (by assumption) (Or.inl ⟨by kernel_rfl, ?_⟩) ?_
              rotate_left
              · intro wz hSw; have k1 := conv_bs c0 HL7.out (HBv.out.below hSw); have k2 := conv_bs cb HNL.out (HBb.out.below hSw); have k3 := conv_bs cw HQL.out (HBw.out.below hSw); (first | (go_simp; done) | (go_simp; with_reducible rfl))
              (try simp only [Act.put, List.getElem_toArray, List.getElem_cons_zero, List.getElem_cons_succ, List.setIfInBounds_toArray, List.set_cons_zero, List.set_cons_succ])
              refine held_take (fun _ => trivial) (by kernel_rfl) (i := 7) (oi := _) (v := ?_) rfl (by kernel_rfl) (by kernel_rfl) (by kernel_rfl) (fun _ _ _ h => h) (by assumption) (Or.inl ⟨by kernel_rfl, ?_⟩) ?_
              rotate_left
              · intro wz hSw; have k1 := conv_bs c0 HL7.out (HBv.out.below hSw); have k2 := conv_bs cb HNL.out (HBb.out.below hSw); have k3 := conv_bs cw HQL.out (HBw.out.below hSw); (first | (go_simp; done) | (go_simp; with_reducible rfl))
              (try simp only [Act.put, List.getElem_toArray, List.getElem_cons_zero, List.getElem_cons_succ, List.setIfInBounds_toArray, List.set_cons_zero, List.set_cons_succ])
              refine held_take (fun _ => trivial) (by kernel_rfl) (i := 8) (oi := _) (v := ?_) rfl (by kernel_rfl) (by kernel_rfl) (by kernel_rfl) (fun _ _ _ h => h) (by assumption) (Or.inl ⟨by kernel_rfl, ?_⟩) ?_
              rotate_left
              · intro wz hSw; have k1 := conv_bs c0 HL7.out (HBv.out.below hSw); have k2 := conv_bs cb HNL.out (HBb.out.below hSw); have k3 := conv_bs cw HQL.out (HBw.out.below hSw); (first | (go_simp; done) | (go_simp; with_reducible rfl))
              (try simp only [Act.put, List.getElem_toArray, List.getElem_cons_zero, List.getElem_cons_succ, List.setIfInBounds_toArray, List.set_cons_zero, List.set_cons_succ])
              refine held_take (fun _ => trivial) (by kernel_rfl) (i := 9) (oi := _) (v := ?_) rfl (by kernel_rfl) (by kernel_rfl) (by kernel_rfl) (fun _ _ _ h => h) (by assumption) (Or.inl ⟨by kernel_rfl, ?_⟩) ?_
              rotate_left
              · intro wz hSw; have k1 := conv_bs c0 HL7.out (HBv.out.below hSw); have k2 := conv_bs cb HNL.out (HBb.out.below hSw); have k3 := conv_bs cw HQL.out (HBw.out.below hSw); (first | (go_simp; done) | (go_simp; with_reducible rfl))
              (try simp only [Act.put, List.getElem_toArray, List.getElem_cons_zero, List.getElem_cons_succ, List.setIfInBounds_toArray, List.set_cons_zero, List.set_cons_succ])
              refine held_step (fun _ => trivial) (i := 10) (o := _) (by kernel_rfl) rfl (fun K hK => ?_)
              go_simp
              refine ⟨trivial, callsIn_wide.2 ((HRS.out _ (HBb.out.below hHeld)).mono ?_)⟩
              rintro e wz ⟨⟨vz, rfl, hoz⟩, hbz⟩
              dsimp only
              obtain ⟨oz, cz, rfl, bz⟩ := own_shape0 hoz HQL.out
              have kz := conv_bs cz HQL.out bz
              refine hK.out _ _ (bnext hHeld hbz) (fun hHeld => ?_)
              clear hK K
              (try simp only [Act.put, List.getElem_toArray, List.getElem_cons_zero, List.getElem_cons_succ, List.setIfInBounds_toArray, List.set_cons_zero, List.set_cons_succ])
              refine held_step (fun _ => trivial) (i := 11) (o := _) (by kernel_rfl) rfl (fun K hK => ?_)
              go_simp
              refine hK.out _ _ (hHeld) (fun hHeld => ?_)
              clear hK K
              (try simp only [Act.put, List.getElem_toArray, List.getElem_cons_zero, List.getElem_cons_succ, List.setIfInBounds_toArray, List.set_cons_zero, List.set_cons_succ])
              refine held_take (fun _ => trivial) (by kernel_rfl) (i := 12) (oi := _) (v := ?_) rfl (by kernel_rfl) (by kernel_rfl) (by kernel_rfl) (fun _ _ _ h => h) (by assumption) (Or.inl ⟨by kernel_rfl, ?_⟩) ?_
              rotate_left
              · intro wz hSw; (first | (go_simp; done) | (go_simp; with_reducible rfl))
              (try simp only [Act.put, List.getElem_toArray, List.getElem_cons_zero, List.getElem_cons_succ, List.setIfInBounds_toArray, List.set_cons_zero, List.set_cons_succ])
              refine held_take (fun _ => trivial) (by kernel_rfl) (i := 13) (oi := _) (v := ?_) rfl (by kernel_rfl) (by kernel_rfl) (by kernel_rfl) (fun _ _ _ h => h) (by assumption) (Or.inl ⟨by kernel_rfl, ?_⟩) ?_
              rotate_left
              · intro wz hSw; (first | (go_simp; done) | (go_simp; with_reducible rfl))
              (try simp only [Act.put, List.getElem_toArray, List.getElem_cons_zero, List.getElem_cons_succ, List.setIfInBounds_toArray, List.set_cons_zero, List.set_cons_succ])
              refine held_take (fun _ => trivial) (by kernel_rfl) (i := 14) (oi := _) (v := ?_) rfl (by kernel_rfl) (by kernel_rfl) (by kernel_rfl) (fun _ _ _ h => h) (by assumption) (Or.inl ⟨by kernel_rfl, ?_⟩) ?_
              rotate_left
              · intro wz hSw; (first | (go_simp; done) | (go_simp; with_reducible rfl))
              (try simp only [Act.put, List.getElem_toArray, List.getElem_cons_zero, List.getElem_cons_succ, List.setIfInBounds_toArray, List.set_cons_zero, List.set_cons_succ])
              refine held_done (by kernel_rfl) ?_ _
              have HF := Lib.hid (bnext HA10.out hHeld)
              clear hHeld
              go_wp2_with fail
              go_ret
              exact ⟨rfl, HF.out⟩
theorem opened_sub (l : List Nat) : ∃ k, (opened l).getD [] = l.take k := by
  unfold opened
  split
  · exact ⟨_, rfl⟩
  · exact ⟨0, rfl⟩
theorem law_crcSeals (l : List Nat) (o : Option Addr) (cap : Nat) (hl : By l) (hq : l.length ≤ cap ∧ cap ≤ 9223372036854775807 ∧ (o = none → cap = 0)) (w : World) (hb : Bs w o l) :
    Calls Try.prog 4 #[.slice o l.length cap] w (Yes2 w) := by
  by_cases hbig : 5000 < l.length
  · exact seals_big _ o cap w hbig
  · obtain ⟨k, hk⟩ := opened_sub l
    exact seals_all l _ l.length _ o cap w hl rfl (by omega) hq.1 hq.2.1 hq.2.2 hb rfl rfl (by rw [hk, List.length_take]; omega) (by rw [hk]; exact hl.take k)
end Go.Proofs.Ytgkcbadfjhicnab.Fx
