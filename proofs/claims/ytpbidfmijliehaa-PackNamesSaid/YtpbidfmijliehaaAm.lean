/- Lists of numbers of 64 bits that a call made itself; the statements' many, of the document's reader, walked. -/
import Derived.Test.YtpbidfmijliehaaProg
import Derived.Test.YtpbidfmijliehaaAt
set_option linter.unusedVariables false
set_option linter.unusedSimpArgs false
namespace Go.Proofs.Ytpbidfmijliehaa.Fx
open Go Go.RowKit
def encI (x : Int) : Value := .int .i64 x
def OwnI (W : World) (B : Nat) (v : Value) (l : List Int) : Prop := W.ownsRow B 2 1 v l.length (l.map encI)
theorem OwnI.below {w W : World} {B : Nat} {v : Value} {l : List Int} (h : Below w.heap.size w W) (s : OwnI w B v l) : OwnI W B v l := by
  obtain ⟨h1, h2⟩ := s
  refine ⟨h1, ?_⟩
  rcases h2 with h2 | ⟨g, cap, cur, e, hb, hg, h3⟩
  · exact Or.inl h2
  · exact Or.inr ⟨g, cap, cur, e, hb, keep_row h hg, h3⟩
theorem OwnI.alloc {w : World} {B : Nat} {v : Value} {l : List Int} (s : OwnI w B v l) (o : Obj) : OwnI (w.alloc o) B v l := by
  obtain ⟨h1, h2⟩ := s
  refine ⟨h1, ?_⟩
  rcases h2 with h2 | ⟨g, cap, cur, e, hb, hg, h3⟩
  · exact Or.inl h2
  · exact Or.inr ⟨g, cap, cur, e, hb, step_row hg, h3⟩
theorem OwnI.blk {w : World} {B : Nat} {v : Value} {l : List Int} (s : OwnI w B v l) : ∀ k, v.ownBlock = some k → B ≤ k := by
  intro k hk
  obtain ⟨h1, h2⟩ := s
  rcases h2 with ⟨rfl, _⟩ | ⟨g, cap, cur, rfl, hb, _⟩
  · cases hk
  · cases hk
    exact hb
theorem OwnI.apart {W : World} {B p : Nat} {v : Value} {l : List Int} {cs : Array Value} {t : TypeId} {fr : Nat × Nat} (s : OwnI W B v l) (h : W.heap[p]? = some (.cells cs t fr)) (ht : t ≠ 2) : ∀ k, v.ownBlock = some k → k ≠ p := by
  intro k hk e
  subst e
  obtain ⟨h1, h2⟩ := s
  rcases h2 with ⟨rfl, _⟩ | ⟨g, cap, cur, rfl, hb, hg, _⟩
  · cases hk
  · cases hk
    rw [h] at hg
    injection hg with hg
    injection hg with _ hg
    exact ht hg
theorem OwnI.grown {W X : World} {B : Nat} {v : Value} {l : List Int} {row : Option Nat} (s : OwnI W B v l) (hg : W.grownBy X row) (hr : ∀ k, v.ownBlock = some k → some k ≠ row) : OwnI X B v l := by
  obtain ⟨h1, h2⟩ := s
  refine ⟨h1, ?_⟩
  rcases h2 with h2 | ⟨g, cap, cur, rfl, hb, hgg, h3⟩
  · exact Or.inl h2
  · exact Or.inr ⟨g, cap, cur, rfl, hb, by rw [hg.block g (Array.getElem?_eq_some_iff.1 hgg).1 (hr g rfl)]; exact hgg, h3⟩
theorem infoI : (Try.prog.info? 2).map (fun i => (i.zero, i.size, i.bytes)) = some (some (.int .i64 0), 1, 8) := by kernel_rfl
theorem cell_one_newI (w : World) (v : Value) (t : TypeId) : ∀ j u, [v][j]? = some u → (w.alloc (.cells #[v] t)).cell? ((⟨w.heap.size, 0, none⟩ : Addr).add j) = some u := cell_one_new' w v t
theorem ZR.grown {o : Option Addr} {c : Nat} {l : List Nat} {p at0 : Nat} {lost : Bool} {W X : World} {row : Option Nat} (h : ZR o c l p at0 lost W) (hg : W.grownBy X row) (hp : some p ≠ row) (hr : ∀ b off, o = some ⟨b, off, none⟩ → 0 < l.length → some b ≠ row) : ZR o c l p at0 lost X :=
  ⟨by rw [hg.block p h.lt hp]; exact h.row, h.bs.grown hg hr⟩
def M64 : Nat := 18446744073709551615
/-- so many numbers behind one another, and where they end -/
def mnF (l : List Nat) : Nat → Nat → Option (List Int × Nat)
  | 0, a => some ([], a)
  | n + 1, a => match rd M64 (l.drop a) with
    | none => none
    | some (x, j) => (mnF l n (a + j)).map fun r => (unf x :: r.1, r.2)
def manyR (lost : Bool) (most : Int) (l : List Nat) (at0 : Nat) : Option (List Int × Nat) :=
  match rz lost most (l.drop at0) with
  | none => none
  | some (n, j) => mnF l n (at0 + j)
structure ManyPost (o : Option Addr) (c : Nat) (l : List Nat) (p : Nat) (r : Option (List Int × Nat)) (w : World) (e : Ending) (w' : World) : Prop where
  grow : w.grownBy w' (some p)
  no : r = none → e = .returned (.slice none 0 0) ∧ ∃ a, a ≤ l.length ∧ ZR o c l p a true w'
  yes : ∀ zs a, r = some (zs, a) → (∃ v, e = .returned v ∧ OwnI w' w.heap.size v zs) ∧ a ≤ l.length ∧ ZR o c l p a false w'
set_option maxRecDepth 100000 in
set_option maxHeartbeats 4000000 in
theorem many_go (o : Option Addr) (c : Nat) (l : List Nat) (p at1 n : Nat) (r : Option (List Int × Nat)) (w : World) (hr : Hid (mnF l n at1 = r)) (hby : Hid (By l)) (hl : Hid (l.length ≤ 1000000000)) (ha : Hid (at1 ≤ l.length)) (hn : (n : Int) ≤ 9223372036854775807)
    (hob : Hid (∀ b off, o = some ⟨b, off, none⟩ → 0 < l.length → b < w.heap.size)) (hpw : Hid (p < w.heap.size)) (most : Int)
    (cS : Hid (Calls Try.prog 52 #[.pointer (some ⟨p, 0, none⟩), .int .i64 most] w fun e w' => e = .returned (.int .i64 (n : Int)) ∧ ZR o c l p at1 false w' ∧ w.grownBy w' (some p))) :
    Calls Try.prog 57 #[.pointer (some ⟨p, 0, none⟩), .int .i64 most] w (ManyPost o c l p r w) := by
  obtain ⟨i0, hi, hz0, hz1, hz2⟩ := info_parts infoI
  have n0 : (0 : Int) ≤ (n : Int) := by omega
  go_enter Try.func57, Try.ntmps57
  go_wp2_with fail
  refine cS.out.mono ?_
  rintro e w' ⟨rfl, hz0', hg0'⟩
  have hz := Lib.hid hz0'
  have hg := Lib.hid hg0'
  clear hz0' hg0'
  go_wp2_with fail
  go_loopg [6, 7] (n - 0) (fun g s6 s7 wr => ∃ (k a : Nat) (zs : List Int) (lost : Bool) (v6 : Value), v6 = s6 ∧ g = n - k ∧ s7 = .int .i64 (k : Int) ∧ k ≤ n ∧ zs.length = k ∧ a ≤ l.length ∧ k ≤ l.length + 1 ∧ (lost = false → at1 + k ≤ a ∧ r = (mnF l (n - k) a).map fun q => (zs ++ q.1, q.2)) ∧ (lost = true → r = none) ∧ ZR o c l p a lost wr ∧ w.grownBy wr (some p) ∧ OwnI wr w.heap.size v6 zs)
  case atStart => exact ⟨0, at1, [], false, _, rfl, rfl, rfl, by omega, rfl, ha.out, by omega, fun _ => ⟨by omega, by rw [← hr.out]; (cases mnF l (n - 0) at1 <;> rfl)⟩, (fun h => by cases h), hz.out, hg.out, World.ownsRow_nil _ _ _ _⟩
  case round =>
    obtain ⟨k, a, zs, lost, v6, rfl, hgk, rfl, hk, hzs, hal, hkl, hgo, hno, hzr, hgw, ho⟩ := hrel
    subst hgk
    obtain ⟨c0, c1, c2, f1, f2⟩ := hzr.facts
    have HZR := Lib.hid hzr
    have HGW := Lib.hid hgw
    have HO := Lib.hid ho
    have HGO := Lib.hid hgo
    have HNO := Lib.hid hno
    have HZS := Lib.hid hzs
    have k0 : (0 : Int) ≤ (k : Int) := by omega
    clear hzr hgw ho hgo hno hzs hz hg cS hr ha
    by_cases hin : k < n ∧ lost = false
    · obtain ⟨hkn, rfl⟩ := hin
      have t1 : (k : Int) < (n : Int) := by omega
      have HRD : RdOk l a := ⟨hby.out, hl.out, hal⟩
      have HI := Lib.hid (zrint_any o c l p a false wr HRD HZR.out)
      obtain ⟨R, hR⟩ : ∃ R, rq false 18446744073709551615 (l.drop a) = R := ⟨_, rfl⟩
      have hR2 : rd M64 (l.drop a) = R := hR
      rw [hR] at HI
      have HR := Lib.hid hR2
      obtain ⟨z, hz⟩ : ∃ z, unf (upV R) = z := ⟨_, rfl⟩
      rw [hz] at HI
      have HZ := Lib.hid hz
      have hlk : k ≤ l.length := by have := (HGO.out (by simp)).1; omega
      clear hR hR2 hz HRD
      go_wp2_with fail
      refine HI.out.mono ?_
      rintro e w2 ⟨rfl, hz2, hg2⟩
      have HO2 : Hid (OwnI w2 w.heap.size v6 zs) := Lib.hid (HO.out.grown hg2 (fun k hk h => HO.out.apart HZR.out.row (by decide) k hk (Option.some.inj h)))
      have HZ2 := Lib.hid hz2
      have HG2 := Lib.hid (HGW.out.trans hg2)
      have hsz := HG2.out.size
      have HSZ := Lib.hid hsz
      clear hz2 hg2 HI c0 c1 c2 f1 f2 HZR HGW HO hsz
      go_wp2_with (at_builtin; refine wpList_append_own _ rfl _ _ 58 rfl w.heap.size 2 i0 (.int .i64 0) 1 8 Try.underlying58 hi hz0 hz1 hz2 rfl (by decide) _ zs.length (zs.map encI) rfl (HO2.out.alloc _) ⟨w2.heap.size, 0, none⟩ 1 1 [.int .i64 z] rfl rfl (cell_one_newI _ _ _) (by simp [Value.oneCell']) (by have := HZS.out; have := hl.out; unfold maxLen; omega) (by have := HZS.out; have := hl.out; omega) (by have := HSZ.out; simp; omega) ?_; intro v' w3 hown hgrow _)
      have HO3 : Hid (OwnI w3 w.heap.size v' (zs ++ [z])) := Lib.hid (by unfold OwnI; rw [List.length_append, List.map_append]; exact hown)
      have hba : Below w2.heap.size w2 (w2.alloc (.cells #[.int .i64 z] 2)) := (Below.refl _ _).alloc (Nat.le_refl _) _
      have hpne : some p ≠ v6.ownBlock := fun e => by have := HO2.out.blk p e.symm; have := hpw.out; omega
      have HZ3 := Lib.hid ((HZ2.out.below hba).grown hgrow hpne (fun b off e hm h => by have := HO2.out.blk b h.symm; have := hob.out b off e hm; omega))
      have HG3 : Hid (w.grownBy w3 (some p)) := Lib.hid (by
        have h1 := HG2.out.trans (below_grown hba (some p))
        refine ⟨hgrow.os.trans h1.os, hgrow.tape.trans h1.tape, hgrow.output.trans h1.output, Nat.le_trans h1.size hgrow.size, fun q hq hqp => ?_⟩
        rw [hgrow.block q (Nat.lt_of_lt_of_le hq h1.size) (fun e => by have := HO2.out.blk q e.symm; omega)]
        exact h1.block q hq hqp)
      clear hown hgrow hba hpne HO2 HZ2 HG2
      go_roundg (n - (k + 1))
      case measure => omega
      case rel =>
        have hnk : n - k = (n - (k + 1)) + 1 := by omega
        have h1 := (HGO.out (by simp)).2
        rw [hnk, mnF, HR.out] at h1
        cases R with
        | none =>
          exact ⟨k + 1, a, zs ++ [z], true, _, rfl, rfl, by go_num, by omega, by simp [HZS.out], hal, by omega, fun h => (by cases h), fun _ => h1, HZ3.out, HG3.out, HO3.out⟩
        | some q =>
          obtain ⟨x, j⟩ := q
          have hle := rd_le HR.out
          have hdl : (l.drop a).length = l.length - a := by simp
          refine ⟨k + 1, a + j, zs ++ [z], false, _, rfl, rfl, by go_num, by omega, by simp [HZS.out], by omega, by omega, fun _ => ⟨by have := (HGO.out (by simp)).1; omega, ?_⟩, fun h => (by cases h), HZ3.out, HG3.out, HO3.out⟩
          rw [h1]
          have hzx : z = unf x := by rw [← HZ.out]; rfl
          subst hzx
          dsimp only
          cases mnF l (n - (k + 1)) (a + j) with
          | none => rfl
          | some q => simp
    · cases lost with
      | true =>
        have HE : Hid (ManyPost o c l p r w (.returned (.slice none 0 0)) wr) := Lib.hid ⟨HGW.out, fun _ => ⟨rfl, a, hal, HZR.out⟩, fun zs a h => by rw [HNO.out (by simp)] at h; cases h⟩
        by_cases t1 : (k : Int) < (n : Int)
        · go_wp2_with fail
          go_ret
          exact HE.out
        · go_wp2_with fail
          go_ret
          exact HE.out
      | false =>
        have hkn : k = n := by
          by_cases h : k < n
          · exact absurd ⟨h, rfl⟩ hin
          · omega
        have t1 : ¬ (k : Int) < (n : Int) := by omega
        have HRR : Hid (r = some (zs, a)) := Lib.hid (by
          have := (HGO.out (by simp)).2
          rw [show n - k = 0 by omega] at this
          rw [this]
          simp [mnF])
        have HE : Hid (ManyPost o c l p r w (.returned v6) wr) := Lib.hid ⟨HGW.out, (fun h => by rw [HRR.out] at h; cases h), fun zs' a' h => by rw [HRR.out] at h; cases h; exact ⟨⟨_, rfl, HO.out⟩, hal, HZR.out⟩⟩
        go_wp2_with fail
        go_ret
        exact HE.out
set_option maxRecDepth 100000 in
set_option maxHeartbeats 2000000 in
theorem many_no (o : Option Addr) (c : Nat) (l : List Nat) (p a : Nat) (w : World) (ha : a ≤ l.length) (most : Int)
    (cS : Hid (Calls Try.prog 52 #[.pointer (some ⟨p, 0, none⟩), .int .i64 most] w fun e w' => e = .returned (.int .i64 0) ∧ ZR o c l p a true w' ∧ w.grownBy w' (some p))) :
    Calls Try.prog 57 #[.pointer (some ⟨p, 0, none⟩), .int .i64 most] w (ManyPost o c l p none w) := by
  go_enter Try.func57, Try.ntmps57
  go_wp2_with fail
  refine cS.out.mono ?_
  rintro e w' ⟨rfl, hz0', hg0'⟩
  have hz := Lib.hid hz0'
  have hg := Lib.hid hg0'
  clear hz0' hg0'
  obtain ⟨c0, c1, c2, f1, f2⟩ := hz.out.facts
  have HE : Hid (ManyPost o c l p none w (.returned (.slice none 0 0)) w') := Lib.hid ⟨hg.out, fun _ => ⟨rfl, a, ha, hz.out⟩, fun zs a h => by cases h⟩
  go_wp2_with fail
  go_loopg [7] 0 (fun g s7 wr => g = 0 ∧ s7 = .int .i64 0 ∧ wr = w')
  case atStart => exact ⟨rfl, rfl, rfl⟩
  case round =>
    obtain ⟨_, rfl, rfl⟩ := hrel
    go_wp2_with fail
    go_ret
    exact HE.out
theorem mnF_le {l : List Nat} : ∀ {n a : Nat} {zs : List Int} {e : Nat}, mnF l n a = some (zs, e) → a ≤ l.length → e ≤ l.length ∧ zs.length = n
  | 0, a, zs, e, h, ha => by
    simp [mnF] at h
    obtain ⟨rfl, rfl⟩ := h
    exact ⟨ha, rfl⟩
  | n + 1, a, zs, e, h, ha => by
    rw [mnF] at h
    split at h
    · cases h
    · rename_i x j hr
      have hle := rd_le hr
      have hdl : (l.drop a).length = l.length - a := by simp
      cases hm : mnF l n (a + j) with
      | none => rw [hm] at h; cases h
      | some q =>
        obtain ⟨zs', e'⟩ := q
        rw [hm] at h
        cases h
        have := mnF_le hm (by omega)
        exact ⟨this.1, by simp [this.2]⟩
/-- the statements' many, of the document's reader -/
theorem many_any (o : Option Addr) (c : Nat) (l : List Nat) (p at0 : Nat) (most : Int) (lost : Bool) (w : World) (k : RdOk l at0) (h1 : most ≤ 9223372036854775807) (h : ZR o c l p at0 lost w) :
    Calls Try.prog 57 #[.pointer (some ⟨p, 0, none⟩), .int .i64 most] w (ManyPost o c l p (manyR lost most l at0) w) := by
  have HS := zrsmall_any o c l p at0 most lost w k h1 h
  unfold manyR
  cases hr : rz lost most (l.drop at0) with
  | none =>
    rw [hr] at HS
    exact many_no o c l p at0 w k.at' most (Lib.hid HS)
  | some q =>
    obtain ⟨n, j⟩ := q
    rw [hr] at HS
    have hq : n ≤ most.toNat ∧ 0 < j ∧ j ≤ (l.drop at0).length := by
      unfold rz at hr
      split at hr
      · cases hr
      · exact rd_le hr
    have hdl : (l.drop at0).length = l.length - at0 := by simp
    have ha := k.at'
    exact many_go o c l p (at0 + j) n _ w (Lib.hid rfl) (Lib.hid k.by') (Lib.hid k.len) (Lib.hid (by omega)) (by omega) (Lib.hid fun b off e hm => by
      have hb := h.bs
      rw [e] at hb
      exact hb.lt hm) (Lib.hid h.lt) most (Lib.hid HS)
end Go.Proofs.Ytpbidfmijliehaa.Fx
