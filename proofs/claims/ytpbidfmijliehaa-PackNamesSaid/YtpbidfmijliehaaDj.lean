/- The statements' read of texts and lists, walked. -/
import Derived.Test.YtpbidfmijliehaaProg
import Derived.Test.YtpbidfmijliehaaDi
import Derived.Test.YtpbidfmijliehaaAm
set_option linter.unusedVariables false
set_option linter.unusedSimpArgs false
namespace Go.Proofs.Ytpbidfmijliehaa.Fx
open Go Go.RowKit
theorem OwnI.le {W : World} {B : Nat} {v : Value} {zs : List Int} (s : OwnI W B v zs) : zs.length ≤ 9223372036854775807 := by
  obtain ⟨h1, h2⟩ := s
  rcases h2 with ⟨e, h0⟩ | ⟨g, cap, cur, e, hb, hg, hc, hm, hs, ht⟩
  · omega
  · unfold maxLen at hm
    omega
set_option maxRecDepth 100000 in
set_option maxHeartbeats 8000000 in
theorem read_4 (o : Option Addr) (c : Nat) (oz : Option Addr) (cz : Nat) (l : List Nat) (p z : Nat) (A : AP o oz l.length p z) (hby : By l) (hlen : l.length ≤ 1000000000) (hqz : l.length ≤ cz ∧ (oz = none → cz = 0)) (hsz : 0 < cz → ∀ a, oz = some a → a.spot = none)
    (kind u i n most : Int) (is : Bool) (bo : Option Addr) (bn bc : Nat) (hmost : most ≤ 9223372036854775807) (hk : kind = 4) (w : World) (h : RE o c oz cz l p z w) :
    Calls Try.prog 22 #[.pointer (some ⟨p, 0, none⟩), .pointer (some ⟨z, 0, none⟩), .agg #[.int .i64 kind, .int .u64 u, .int .i64 i, .int .i64 n, .int .i64 most, .bool is, .slice bo bn bc]] w (ReadPost o c oz cz l p z w) := by
  obtain ⟨a0, a1, lost, rb⟩ := h
  obtain ⟨W1, hW1⟩ : ∃ W1, w.alloc (.cells #[.int .i64 kind, .int .u64 u, .int .i64 i, .int .i64 n, .int .i64 most, .bool is, .slice bo bn bc] 32) = W1 := ⟨_, rfl⟩
  have hb1 : Below w.heap.size w W1 := by rw [← hW1]; exact (Below.refl _ _).alloc (Nat.le_refl _) _
  have hrow : W1.heap[w.heap.size]? = some (.cells #[.int .i64 kind, .int .u64 u, .int .i64 i, .int .i64 n, .int .i64 most, .bool is, .slice bo bn bc] 32 (0, 0)) := by rw [← hW1]; exact heap_alloc_new _ _
  have HPZ : Hid (w.heap.size ≠ p ∧ w.heap.size ≠ z) := Lib.hid ⟨by have := rb.pr.lt; omega, by have := rb.zr.lt; omega⟩
  have HW1 := Lib.hid hW1
  have HROW := Lib.hid hrow
  have HB1 := Lib.hid hb1
  have HRB := Lib.hid (rb.below hb1)
  have HK0 : Hid (RdOk l a0) := Lib.hid ⟨hby, hlen, rb.h0⟩
  have HK1 : Hid (RdOk l a1) := Lib.hid ⟨hby, hlen, rb.h1⟩
  have HA := Lib.hid A
  clear rb hb1 hrow hW1 A hby
  have tk : kind = 4 := hk
  subst tk
  have e0 : (((4 : Int)) == 0) = false := rfl
  have e1 : (((4 : Int)) == 1) = false := rfl
  have e2 : (((4 : Int)) == 2) = false := rfl
  have e3 : (((4 : Int)) == 3) = false := rfl
  have d0 := (x_cells HROW.out).1
  have d4 := (x_cells HROW.out).2
  have HP := prtext_any o c l p a0 most lost W1 HK0.out hmost HRB.out.pr
  have HIN := Lib.hid (tx_in (lost := lost) (most := most) (l := l) HRB.out.h0)
  have HZ : Hid (∀ X, ZR oz cz l z a1 lost X → Calls Try.prog 54 #[.pointer (some ⟨z, 0, none⟩), .int .i64 most] X (TxtPost oz cz l z a1 (txR lost most l a0) X)) := Lib.hid (fun X hz => by
    have h := zrtext_any oz cz l z a1 most lost X HK1.out hmost hqz hsz hz
    rw [tx_same HRB.out.eq] at h
    exact h)
  obtain ⟨r, hr⟩ : ∃ r, txR lost most l a0 = r := ⟨_, rfl⟩
  rw [hr] at HP HZ HIN
  have HP := Lib.hid HP
  clear hr hk
  go_enter Try.func22, Try.ntmps22
  go_wp2_with fail
  (try rw [HW1.out])
  refine HP.out.mono ?_
  rintro e X ⟨⟨va, rfl, hoa⟩, hp, hg⟩
  have hz := HRB.out.left HA.out hg
  have tX : Touch p z W1 X := Touch.one hg
  have dX := (x_cells (tX.row HROW.out HPZ.out.1 HPZ.out.2)).2
  have HZX := Lib.hid (HZ.out X hz)
  have HOA := Lib.hid hoa
  have HPX := Lib.hid hp
  have HZ1 := Lib.hid hz
  have HTX := Lib.hid tX
  clear hoa hp hg hz tX HP HZ d4
  go_wp2_with fail
  refine HZX.out.mono ?_
  rintro e Y ⟨⟨vb, rfl, hob⟩, hz2, hg2⟩
  obtain ⟨m, hm⟩ : ∃ m, (r.map (·.1)).getD [] = m := ⟨_, rfl⟩
  rw [hm] at hob
  have hoa := HOA.out
  rw [hm] at hoa
  have hoa2 : Own Y W1.heap.size va m := hoa.grown hg2 (fun k hk e => hoa.apart HZ1.out.row (by decide) k hk (Option.some.inj e))
  obtain ⟨oa, ca, rfl, hba, hle9, hup9, -, -⟩ := hoa2.open
  obtain ⟨ob, cb, rfl, hbb, -, -, -, -⟩ := hob.open
  have hcva := conv_bs ca rfl hba
  have hcvb := conv_bs cb rfl hbb
  have HRE : Hid (RB o c oz cz l p z (txA r a0) (txA r a1) r.isNone Y) := Lib.hid ⟨HPX.out.right HA.out hg2, hz2, (fun hl => by
      cases r with
      | none => cases hl
      | some q =>
        cases lost with
        | true => have := HIN.out.1 rfl; cases this
        | false =>
          show a0 + q.2 = a1 + q.2
          rw [HRB.out.eq rfl]), (by
      cases r with
      | none => exact HRB.out.h0
      | some q => exact HIN.out.2 q rfl), (by
      cases r with
      | none => exact HRB.out.h1
      | some q =>
        cases lost with
        | true => have := HIN.out.1 rfl; cases this
        | false =>
          show a1 + q.2 ≤ l.length
          rw [← HRB.out.eq rfl]
          exact HIN.out.2 q rfl)⟩
  have HTY := Lib.hid ((Touch.of_below HB1.out).trans (HTX.out.trans (Touch.two hg2)))
  have HOA2 := Lib.hid hoa2
  have HRO := Lib.hid (Own.row8 rfl hoa2)
  have HBL : Hid (p < W1.heap.size ∧ z < W1.heap.size ∧ (∀ b off, o = some ⟨b, off, none⟩ → 0 < l.length → b < W1.heap.size) ∧ (∀ b off, oz = some ⟨b, off, none⟩ → 0 < l.length → b < W1.heap.size)) := Lib.hid
    ⟨HRB.out.pr.lt, HRB.out.zr.lt, fun b off e hm => by subst e; exact HRB.out.pr.bs.lt hm, fun b off e hm => by subst e; exact HRB.out.zr.bs.lt hm⟩
  clear hoa hoa2 hob hz2 hg2 hba hbb hm HZX HOA HPX HZ1 HTX HRB dX HIN
  go_wp2_with fail
  go_loopg [65] m.length (fun g s wr2 => ∃ j : Nat, g = m.length - j ∧ j ≤ m.length ∧ s = .int .i64 (j : Int) ∧ Y.grownBy wr2 (Value.slice oa m.length ca).ownBlock ∧ Row8 wr2 oa m.length)
  case atStart => exact ⟨0, rfl, by omega, rfl, World.grownBy.refl _ _, HRO.out⟩
  case round =>
    obtain ⟨j, hgj, hj, rfl, hgr, hr8⟩ := hrel
    subst hgj
    have HGR := Lib.hid hgr
    have HR8 := Lib.hid hr8
    clear hgr hr8
    have j0 : (0 : Int) ≤ (j : Int) := by omega
    by_cases hjn : j < m.length
    · have j1 : (j : Int) < ((m.length : Nat) : Int) := by omega
      obtain ⟨gg, e1, ⟨y, hy⟩, hf⟩ := HR8.out j hjn
      subst e1
      have HG2 := Lib.hid (grown_trans HGR.out (grown_cell _ gg j (.int .u8 (IntKind.u8.wrap (y + 1)))))
      have HR2 := Lib.hid (HR8.out.set (j := j) (IntKind.u8.wrap (y + 1)))
      clear HGR HR8
      go_wp2_with fail
      go_roundg (m.length - (j + 1))
      case measure => omega
      case rel => exact ⟨j + 1, rfl, by omega, by go_num, HG2.out, HR2.out⟩
    · have j1 : ¬ (j : Int) < ((m.length : Nat) : Int) := by omega
      have HGO := HGR
      clear HR8 HGR hjn hj
      have HE : Hid (ReadPost o c oz cz l p z w (.returned (.bool true)) wr) := Lib.hid ⟨rfl, ⟨_, _, _, HRE.out.pr.grown HGO.out (fun e => by have h1 := HOA2.out.blk p e.symm; have := HBL.out.1; omega) (fun b off e hm h => by have h1 := HOA2.out.blk b h.symm; have := HBL.out.2.2.1 b off e hm; omega),
          HRE.out.zr.grown HGO.out (fun e => by have h1 := HOA2.out.blk z e.symm; have := HBL.out.2.1; omega) (fun b off e hm h => by have h1 := HOA2.out.blk b h.symm; have := HBL.out.2.2.2 b off e hm; omega), HRE.out.eq, HRE.out.h0, HRE.out.h1⟩, by
        have t := HTY.out
        refine ⟨HGO.out.os.trans t.os, HGO.out.tape.trans t.tape, HGO.out.output.trans t.output, Nat.le_trans t.size HGO.out.size, fun k hk hp hz => ?_⟩
        rw [HGO.out.block k (Nat.lt_of_lt_of_le hk t.size) (fun e => by have h1 := HOA2.out.blk k e.symm; have h2 := HB1.out.size; omega)]
        exact t.block k hk hp hz⟩
      clear HGO HTY HRE
      go_wp2_with fail
      go_ret
      exact HE.out
set_option maxRecDepth 100000 in
set_option maxHeartbeats 8000000 in
theorem read_7 (o : Option Addr) (c : Nat) (oz : Option Addr) (cz : Nat) (l : List Nat) (p z : Nat) (A : AP o oz l.length p z) (hby : By l) (hlen : l.length ≤ 1000000000) (hqz : l.length ≤ cz ∧ (oz = none → cz = 0)) (hsz : 0 < cz → ∀ a, oz = some a → a.spot = none)
    (kind u i n most : Int) (is : Bool) (bo : Option Addr) (bn bc : Nat) (hmost : most ≤ 9223372036854775807) (hk : kind = 7) (w : World) (h : RE o c oz cz l p z w) :
    Calls Try.prog 22 #[.pointer (some ⟨p, 0, none⟩), .pointer (some ⟨z, 0, none⟩), .agg #[.int .i64 kind, .int .u64 u, .int .i64 i, .int .i64 n, .int .i64 most, .bool is, .slice bo bn bc]] w (ReadPost o c oz cz l p z w) := by
  obtain ⟨a0, a1, lost, rb⟩ := h
  obtain ⟨W1, hW1⟩ : ∃ W1, w.alloc (.cells #[.int .i64 kind, .int .u64 u, .int .i64 i, .int .i64 n, .int .i64 most, .bool is, .slice bo bn bc] 32) = W1 := ⟨_, rfl⟩
  have hb1 : Below w.heap.size w W1 := by rw [← hW1]; exact (Below.refl _ _).alloc (Nat.le_refl _) _
  have hrow : W1.heap[w.heap.size]? = some (.cells #[.int .i64 kind, .int .u64 u, .int .i64 i, .int .i64 n, .int .i64 most, .bool is, .slice bo bn bc] 32 (0, 0)) := by rw [← hW1]; exact heap_alloc_new _ _
  have HPZ : Hid (w.heap.size ≠ p ∧ w.heap.size ≠ z) := Lib.hid ⟨by have := rb.pr.lt; omega, by have := rb.zr.lt; omega⟩
  have HW1 := Lib.hid hW1
  have HROW := Lib.hid hrow
  have HB1 := Lib.hid hb1
  have HRB := Lib.hid (rb.below hb1)
  have HK0 : Hid (RdOk l a0) := Lib.hid ⟨hby, hlen, rb.h0⟩
  have HK1 : Hid (RdOk l a1) := Lib.hid ⟨hby, hlen, rb.h1⟩
  have HA := Lib.hid A
  clear rb hb1 hrow hW1 A hby
  have tk : kind = 7 := hk
  subst tk
  have e0 : (((7 : Int)) == 0) = false := rfl
  have e1 : (((7 : Int)) == 1) = false := rfl
  have e2 : (((7 : Int)) == 2) = false := rfl
  have e3 : (((7 : Int)) == 3) = false := rfl
  have e4 : (((7 : Int)) == 4) = false := rfl
  have e5 : (((7 : Int)) == 5) = false := rfl
  have e6 : (((7 : Int)) == 6) = false := rfl
  have d0 := (x_cells HROW.out).1
  have d4 := (x_cells HROW.out).2
  have HP := pmany_r o c l p a0 most lost W1 HK0.out hmost HRB.out.pr (fun b off e hm => by subst e; exact HRB.out.pr.bs.lt hm)
  have HZ : Hid (∀ X, ZR oz cz l z a1 lost X → Calls Try.prog 57 #[.pointer (some ⟨z, 0, none⟩), .int .i64 most] X (ManyPost oz cz l z (manyR lost most l a0) X)) := Lib.hid (fun X hz => by
    have h := many_any oz cz l z a1 most lost X HK1.out hmost hz
    rw [mn_same HRB.out.eq] at h
    exact h)
  generalize manyR lost most l a0 = r at *
  have HP := Lib.hid HP
  clear hk
  go_enter Try.func22, Try.ntmps22
  go_wp2_with fail
  (try rw [HW1.out])
  refine HP.out.mono ?_
  rintro e X ⟨hg, hno, hyes⟩
  have hz := HRB.out.left HA.out hg
  have tX : Touch p z W1 X := Touch.one hg
  have dX := (x_cells (tX.row HROW.out HPZ.out.1 HPZ.out.2)).2
  have HZX := Lib.hid (HZ.out X hz)
  have HZ1 := Lib.hid hz
  have HTX := Lib.hid tX
  clear hg hz tX HP HZ d4
  cases r with
  | none =>
    obtain ⟨rfl, a, ha, hp⟩ := hno rfl
    have HPX := Lib.hid hp
    clear hp hno hyes
    go_wp2_with fail
    refine HZX.out.mono ?_
    rintro e Y ⟨hg2, hno2, _⟩
    obtain ⟨rfl, a2, ha2, hz2⟩ := hno2 rfl
    have HE : Hid (∀ wy : World, Y = wy → ReadPost o c oz cz l p z w (.returned (.bool true)) wy) := Lib.hid (fun wy e => by subst e; exact ⟨rfl, ⟨a, a2, true, HPX.out.right HA.out hg2, hz2, (fun h => by cases h), ha, ha2⟩, (Touch.of_below HB1.out).trans (HTX.out.trans (Touch.two hg2))⟩)
    clear hg2 hno2 hz2 HPX HTX HZ1 HZX dX
    go_wp2_with fail
    go_loopg [109] 0 (fun g s wr => g = 0 ∧ s = .int .i64 0 ∧ Y = wr)
    case atStart => exact ⟨rfl, rfl, rfl⟩
    case round =>
      obtain ⟨_, rfl, rfl⟩ := hrel
      go_wp2_with fail
      go_ret
      exact HE.out _ rfl
  | some q =>
    obtain ⟨zs, a⟩ := q
    obtain ⟨⟨v1, rfl, ho1⟩, ha, hp⟩ := hyes zs a rfl
    have HPX := Lib.hid hp
    have HO1 := Lib.hid ho1
    clear hp ho1 hno hyes
    go_wp2_with fail
    refine HZX.out.mono ?_
    rintro e Y ⟨hg2, _, hyes2⟩
    obtain ⟨⟨v2, rfl, ho2⟩, ha2, hz2⟩ := hyes2 zs a rfl
    have ho1 : OwnI Y W1.heap.size v1 zs := HO1.out.grown hg2 (fun k hk e => HO1.out.apart HZ1.out.row (by decide) k hk (Option.some.inj e))
    have hzl := ho1.le
    obtain ⟨o1, c1, rfl⟩ := ho1.open
    obtain ⟨o2, c2, rfl⟩ := ho2.open
    have HE : Hid (∀ wy : World, Below Y.heap.size Y wy → ReadPost o c oz cz l p z w (.returned (.bool true)) wy) := Lib.hid (fun wy hb => ⟨rfl, ⟨a, a, false, (HPX.out.right HA.out hg2).below hb, hz2.below hb, (fun _ => rfl), ha, ha⟩, ((Touch.of_below HB1.out).trans (HTX.out.trans (Touch.two hg2))).trans (Touch.of_below hb)⟩)
    have HY1 := Lib.hid ho1
    have HY2 := Lib.hid ho2
    clear hg2 hyes2 hz2 ho1 ho2 HPX HTX HZ1 HZX dX HO1
    go_wp2_with fail
    go_loopg [109] zs.length (fun g s wr => ∃ j : Nat, g = zs.length - j ∧ j ≤ zs.length ∧ s = .int .i64 (j : Int) ∧ Below Y.heap.size Y wr)
    case atStart => exact ⟨0, rfl, by omega, rfl, Below.refl _ _⟩
    case round =>
      obtain ⟨j, hgj, hj, rfl, hbj⟩ := hrel
      subst hgj
      have HBJ := Lib.hid hbj
      clear hbj
      have j0 : (0 : Int) ≤ (j : Int) := by omega
      by_cases hjn : j < zs.length
      · have j1 : (j : Int) < (zs.length : Int) := by omega
        obtain ⟨g1, e1, q1⟩ := (HY1.out.below HBJ.out).at j hjn
        obtain ⟨g2, e2, q2⟩ := (HY2.out.below HBJ.out).at j hjn
        subst e1
        subst e2
        generalize zs.getD j 0 = y at *
        go_wp2_with fail
        rename_i K3 hK3
        refine wp_region_noPanic ?_
        refine (wpIn_wide (n := 5)).1 ?_
        refine heldz_region (S := fun X => X.cell? ⟨g1, j, none⟩ = some (.int .i64 y) ∧ X.cell? ⟨g2, j, none⟩ = some (.int .i64 y)) (Z := []) (by kernel_rfl) ?_
        refine heldz_take (fun _ => trivial) [] 0 (?_) (by kernel_rfl) rfl (by kernel_rfl) (fun _ _ _ h => h) ⟨q1, q2⟩ (by kernel_rfl) ?_ ?_
        rotate_left
        · intro wz hSw; (first | (go_simp; done) | (go_simp; with_reducible rfl))
        (try simp only [Act.put, List.getElem_toArray, List.getElem_cons_zero, List.getElem_cons_succ, List.setIfInBounds_toArray, List.set_cons_zero, List.set_cons_succ])
        refine heldz_take (fun _ => trivial) [] 1 (?_) (by kernel_rfl) rfl (by kernel_rfl) (fun _ _ _ h => h) ⟨q1, q2⟩ (by kernel_rfl) ?_ ?_
        rotate_left
        · intro wz hSw; (first | (go_simp; done) | (go_simp; with_reducible rfl))
        (try simp only [Act.put, List.getElem_toArray, List.getElem_cons_zero, List.getElem_cons_succ, List.setIfInBounds_toArray, List.set_cons_zero, List.set_cons_succ])
        refine heldz_take (fun _ => trivial) [] 2 (?_) (by kernel_rfl) rfl (by kernel_rfl) (fun _ _ _ h => h) ⟨q1, q2⟩ (by kernel_rfl) ?_ ?_
        rotate_left
        · intro wz hSw; (first | (go_simp; done) | (go_simp; with_reducible rfl))
        (try simp only [Act.put, List.getElem_toArray, List.getElem_cons_zero, List.getElem_cons_succ, List.setIfInBounds_toArray, List.set_cons_zero, List.set_cons_succ])
        refine heldz_take (fun _ => trivial) [] 3 (.int .i64 y) (by kernel_rfl) rfl (by kernel_rfl) (fun _ _ _ h => h) ⟨q1, q2⟩ (by kernel_rfl) ?_ ?_
        · intro wz hSw; obtain ⟨hS0, hS1⟩ := hSw; (first | (go_simp; done) | (go_simp; with_reducible rfl))
        (try simp only [Act.put, List.getElem_toArray, List.getElem_cons_zero, List.getElem_cons_succ, List.setIfInBounds_toArray, List.set_cons_zero, List.set_cons_succ])
        refine heldz_take (fun _ => trivial) [] 4 (?_) (by kernel_rfl) rfl (by kernel_rfl) (fun _ _ _ h => h) ⟨q1, q2⟩ (by kernel_rfl) ?_ ?_
        rotate_left
        · intro wz hSw; (first | (go_simp; done) | (go_simp; with_reducible rfl))
        (try simp only [Act.put, List.getElem_toArray, List.getElem_cons_zero, List.getElem_cons_succ, List.setIfInBounds_toArray, List.set_cons_zero, List.set_cons_succ])
        refine heldz_take (fun _ => trivial) [] 5 (?_) (by kernel_rfl) rfl (by kernel_rfl) (fun _ _ _ h => h) ⟨q1, q2⟩ (by kernel_rfl) ?_ ?_
        rotate_left
        · intro wz hSw; (first | (go_simp; done) | (go_simp; with_reducible rfl))
        (try simp only [Act.put, List.getElem_toArray, List.getElem_cons_zero, List.getElem_cons_succ, List.setIfInBounds_toArray, List.set_cons_zero, List.set_cons_succ])
        refine heldz_take (fun _ => trivial) [] 6 (?_) (by kernel_rfl) rfl (by kernel_rfl) (fun _ _ _ h => h) ⟨q1, q2⟩ (by kernel_rfl) ?_ ?_
        rotate_left
        · intro wz hSw; (first | (go_simp; done) | (go_simp; with_reducible rfl))
        (try simp only [Act.put, List.getElem_toArray, List.getElem_cons_zero, List.getElem_cons_succ, List.setIfInBounds_toArray, List.set_cons_zero, List.set_cons_succ])
        refine heldz_take (fun _ => trivial) [] 7 (.int .i64 y) (by kernel_rfl) rfl (by kernel_rfl) (fun _ _ _ h => h) ⟨q1, q2⟩ (by kernel_rfl) ?_ ?_
        · intro wz hSw; obtain ⟨hS0, hS1⟩ := hSw; (first | (go_simp; done) | (go_simp; with_reducible rfl))
        (try simp only [Act.put, List.getElem_toArray, List.getElem_cons_zero, List.getElem_cons_succ, List.setIfInBounds_toArray, List.set_cons_zero, List.set_cons_succ])
        refine heldz_take (fun _ => trivial) [] 8 (.bool false) (by kernel_rfl) rfl (by kernel_rfl) (fun _ _ _ h => h) ⟨q1, q2⟩ (by kernel_rfl) ?_ ?_
        · intro wz hSw; (first | (go_simp; done) | (go_simp; with_reducible rfl))
        (try simp only [Act.put, List.getElem_toArray, List.getElem_cons_zero, List.getElem_cons_succ, List.setIfInBounds_toArray, List.set_cons_zero, List.set_cons_succ])
        refine heldz_done (by kernel_rfl) ?_ _
        refine NoPanic.normal ?_
        refine hK3 _ _ ?_
        have HB2 := Lib.hid (bdrewN 1 HBJ.out)
        clear hK3 q1 q2
        go_wp2_with fail
        go_roundg (zs.length - (j + 1))
        case measure => omega
        case rel => exact ⟨j + 1, rfl, by omega, by go_num, HB2.out⟩
      · have j1 : ¬ (j : Int) < (zs.length : Int) := by omega
        go_wp2_with fail
        go_ret
        exact HE.out _ HBJ.out
theorem read_any (o : Option Addr) (c : Nat) (oz : Option Addr) (cz : Nat) (l : List Nat) (p z : Nat) (A : AP o oz l.length p z) (hby : By l) (hlen : l.length ≤ 1000000000) (hqz : l.length ≤ cz ∧ (oz = none → cz = 0)) (hsz : 0 < cz → ∀ a, oz = some a → a.spot = none)
    (kind u i n most : Int) (is : Bool) (bo : Option Addr) (bn bc : Nat) (hmost : most ≤ 9223372036854775807) (w : World) (h : RE o c oz cz l p z w) :
    Calls Try.prog 22 #[.pointer (some ⟨p, 0, none⟩), .pointer (some ⟨z, 0, none⟩), .agg #[.int .i64 kind, .int .u64 u, .int .i64 i, .int .i64 n, .int .i64 most, .bool is, .slice bo bn bc]] w (ReadPost o c oz cz l p z w) := by
  by_cases t0 : kind = 0
  · exact read_0 o c oz cz l p z A hby hlen hqz hsz kind u i n most is bo bn bc hmost t0 w h
  by_cases t1 : kind = 1
  · exact read_1 o c oz cz l p z A hby hlen hqz hsz kind u i n most is bo bn bc hmost t1 w h
  by_cases t2 : kind = 2
  · exact read_2 o c oz cz l p z A hby hlen hqz hsz kind u i n most is bo bn bc hmost t2 w h
  by_cases t3 : kind = 3
  · exact read_3 o c oz cz l p z A hby hlen hqz hsz kind u i n most is bo bn bc hmost t3 w h
  by_cases t4 : kind = 4
  · exact read_4 o c oz cz l p z A hby hlen hqz hsz kind u i n most is bo bn bc hmost t4 w h
  by_cases t5 : kind = 5
  · exact read_5 o c oz cz l p z A hby hlen hqz hsz kind u i n most is bo bn bc hmost t5 w h
  by_cases t6 : kind = 6
  · exact read_6 o c oz cz l p z A hby hlen hqz hsz kind u i n most is bo bn bc hmost t6 w h
  by_cases t7 : kind = 7
  · exact read_7 o c oz cz l p z A hby hlen hqz hsz kind u i n most is bo bn bc hmost t7 w h
  exact read_8 o c oz cz l p z A hby hlen hqz hsz kind u i n most is bo bn bc hmost ⟨t0, t1, t2, t3, t4, t5, t6, t7⟩ w h
end Go.Proofs.Ytpbidfmijliehaa.Fx
