/- Seal, walked. -/
import Derived.Test.YtgkcbadfjhicnabProg
import Derived.Test.YtgkcbadfjhicnabHd
import Derived.Test.YtgkcbadfjhicnabCq
import Derived.Test.YtgkcbadfjhicnabCt
import Derived.WalkKit
import Derived.Lib.Hide
import Derived.Outline
import Derived.Shelf.Abstract
import Derived.Shelf.RegionOpen
import Derived.OwnWalkIn
import Derived.TacticsInMore
import Derived.Deep.QuietTactic
import Derived.BigQuiet
import Derived.Deep.WholeRow
import Derived.Laws.OwnMore
set_option linter.unusedVariables false
set_option linter.unusedSimpArgs false
namespace Go.Proofs.Ytgkcbadfjhicnab.Fx
open Go Go.RowKit Go.Shelf
attribute [local go_sem] Oper.semAt_some
theorem wpIn_append_fits_any {F : Fence} {n : Nat} {P : Program} (w : World) {o : Oper} {a : Act} {K : Act → World → Prop} {Q : Exit → Act → World → Prop}
    (s x : Operand) (t : TypeId) (hop : o.op = Op.call { callee := Callee.builtin Builtin.append, args := #[s, x], argTypes := #[t, t] })
    (base : Nat) (e : TypeId) (i : TypeInfo) (size : Nat) (h1 : P.underlying t = some (.slice e)) (h2 : P.info? e = some i) (h4 : i.size = size)
    (g k cap : Nat) (xs : List Value) (hs : a.eval s = .slice (some ⟨g, 0, none⟩) k cap) (hown : w.ownsRow base e size (.slice (some ⟨g, 0, none⟩) k cap) k xs) (ao : Option Addr) (m c : Nat) (news : List Value) (hx : a.eval x = .slice ao m c) (hn : news.length = m * size)
    (hnone : ao = none → m = 0 ∧ c = 0) (hc : ∀ ad, ao = some ad → ∀ j u, news[j]? = some u → w.cell? (ad.add j) = some u) (h1c : ∀ u ∈ news, u.oneCell' = true) (b1 : k + m ≤ cap)
    (hK : ∀ w', w'.ownsRow base e size (.slice (some ⟨g, 0, none⟩) (k + m) cap) (k + m) (xs ++ news) → w.grownBy w' (some g) → K (a.put o.dst (.slice (some ⟨g, 0, none⟩) (k + m) cap)) w') :
    Oper.wpIn F n P o a w K Q := by
  unfold Oper.wpIn
  refine ⟨?_, ?_⟩
  · simp [Oper.about, hop, resolve, Target.leads, Sem.run_pure]
  · rw [Oper.semAt_plain F _ _ (by rw [hop]; intro c hc'; cases hc')]
    cases ao with
    | some ad =>
      obtain ⟨w', hrun, r1, r2⟩ := run_append_fits (P := P) w base t o.type e i size h1 h2 h4 g k cap xs hown ad m c news hn (hc ad rfl) h1c b1
      simp [execOp, hop, resolve, invoke, builtin, hs, hx, hrun, Result.andThen]
      exact hK w' r1 r2
    | none =>
      obtain ⟨rfl, rfl⟩ := hnone rfl
      have hnews : news = [] := List.eq_nil_of_length_eq_zero (by simpa using hn)
      subst hnews
      have hrun := run_append_owned_none (P := P) w base t o.type e i size h1 h2 _ k xs hown
      simp [execOp, hop, resolve, invoke, builtin, hs, hx, hrun, Result.andThen]
      have := hK w (by simpa using hown) (World.grownBy.refl _ _)
      have h9 : K (a.put o.dst (.slice (some ⟨g, 0, none⟩) k cap)) w := by simpa using this
      exact h9
theorem news_any {W : World} {o : Option Addr} {l : List Nat} (h : Bs W o l) : ∀ ad, o = some ad → ∀ j u, (l.map encB)[j]? = some u → W.cell? (ad.add j) = some u := by
  intro ad e j u hu
  have hj : j < l.length := by
    have := (List.getElem?_eq_some_iff.1 hu).1
    simpa using this
  obtain ⟨b, off, e2, hc⟩ := h j hj
  rw [e] at e2
  cases e2
  rw [Addr.add_lit, hc, ← hu]
  simp [hj, encB, List.getD]
theorem grown_below {w w' : World} {r : Option Nat} {B : Nat} (hg : w.grownBy w' r) (hB : ∀ k, r = some k → B ≤ k) (hs : B ≤ w.heap.size) : Below B w w' := (Below.refl B w).grown hg hs hB
set_option maxRecDepth 100000 in
set_option maxHeartbeats 2000000 in
theorem seal_any (l : List Nat) (o : Option Addr) (cap : Nat) (w : World) (hl : By l) (hlen : l.length ≤ 100000) (hq : o = none → cap = 0) (hb : Bs w o l) :
    Calls Try.prog 15 #[.slice o l.length cap] w fun e w' => (∃ v, e = .returned v ∧ Own w' w.heap.size v (l ++ le4 (more 0 l))) ∧ Below w.heap.size w w' := by
  obtain ⟨i0, hi, hz0, hz1, hz2⟩ := info_parts info5
  have hs := more_lt hl (show 0 < 4294967296 by omega)
  have H0 := Lib.hid (fun W h => sum_any l o cap W hl (by omega) h)
  have H1 := Lib.hid (fun W => inbytes_any (more 0 l) W hs)
  have HBS := Lib.hid hb
  have HN0 : Hid (o = none → l.length = 0) := Lib.hid (fun h => by
    rcases Nat.eq_zero_or_pos l.length with h0 | h0
    · exact h0
    · obtain ⟨b, off, e, _⟩ := hb 0 h0
      rw [h] at e; cases e)
  have HLEN : Hid ((l ++ le4 (more 0 l)).length = l.length + 4) := Lib.hid (by simp [le4])
  have HI : Hid ((Try.prog.info? 49).map (·.size) = some (bR (le4 (more 0 l))).size) := Lib.hid (by rw [bR_size]; exact size4)
  have HS : Hid ((#[.int .u8 0, .int .u8 0, .int .u8 0, .int .u8 0] : Array Value).size = (bR (le4 (more 0 l))).size) := Lib.hid (by rw [bR_size]; rfl)
  clear hb hs hl
  generalize more 0 l = s at *
  go_enter Try.func15, Try.ntmps15
  go_wp2_with fail
  refine (H0.out _ HBS.out).mono ?_
  rintro e w' ⟨rfl, rfl⟩
  go_wp2_with fail
  refine (H1.out _).mono ?_
  rintro e w2 ⟨rfl, hb2⟩
  have HB2 := Lib.hid hb2
  have HS2 := hb2.size
  clear hb2
  go_wp2_with (first | (refine wpList_store_new rfl 49 (.tmp 3) (.tmp 7) rfl w2.heap.size _ _ (bR (le4 s)) rfl rfl rfl HI.out HS.out (bR_one _) ?_) | (refine wpList_make_own _ rfl _ _ 22 rfl w'.heap.size 5 i0 (.int .u8 0) 1 Try.underlying22 hi hz0 hz1 .i64 .i64 ((l.length : Int) + 4) (l.length + 4) rfl rfl (by omega) (by rw [hz2]; omega) (by unfold maxLen; omega) (by simp; omega) ?_; intro w3 hown hgrow))
  have HG3 : Hid (Below w'.heap.size w' w3) := Lib.hid ((HB2.out.alloc (by omega) _).grown hgrow (by simp; omega) (by intro k hk; cases hk))
  have HZ : Hid (w3.heap[w2.heap.size]? = some (.cells (bR (le4 s)) 49 (0, 0))) := Lib.hid (by rw [hgrow.block _ (by simp) (by simp)]; exact heap_alloc_new w2 _)
  have HS3 : Hid (w2.heap.size + 1 ≤ w3.heap.size) := Lib.hid (by have := hgrow.size; rw [World.size_alloc] at this; exact this)
  have HW3 : Hid (Bs w3 o l) := Lib.hid (HBS.out.below HG3.out)
  (try rw [World.size_alloc] at hown)
  have HO3 := Lib.hid hown
  clear hgrow hown
  go_wp2_with fail
  refine (wpIn_wide (n := 5)).1 (held_region (F := Fence.wide) (S := fun X => True) (by kernel_rfl) trivial (fun hHeld => ?_))
  refine held_take (fun _ => trivial) (by kernel_rfl) (i := 0) (oi := _) (v := ?_) rfl (by kernel_rfl) (by kernel_rfl) (by kernel_rfl) (fun _ _ _ h => h) (by assumption) (Or.inl ⟨by kernel_rfl, ?_⟩) ?_
  rotate_left
  · intro wz hSw; (first | (go_simp; done) | (go_simp; with_reducible rfl))
  (try simp only [Act.put, List.getElem_toArray, List.getElem_cons_zero, List.getElem_cons_succ, List.setIfInBounds_toArray, List.set_cons_zero, List.set_cons_succ])
  refine held_take (fun _ => trivial) (by kernel_rfl) (i := 1) (oi := _) (v := ?_) rfl (by kernel_rfl) (by kernel_rfl) (by kernel_rfl) (fun _ _ _ h => h) (by assumption) (Or.inl ⟨by kernel_rfl, ?_⟩) ?_
  rotate_left
  · intro wz hSw; (first | (go_simp; done) | (go_simp; with_reducible rfl))
  (try simp only [Act.put, List.getElem_toArray, List.getElem_cons_zero, List.getElem_cons_succ, List.setIfInBounds_toArray, List.set_cons_zero, List.set_cons_succ])
  refine held_take (fun _ => trivial) (by kernel_rfl) (i := 3) (oi := _) (v := ?_) rfl (by kernel_rfl) (by kernel_rfl) (by kernel_rfl) (fun _ _ _ h => h) (by assumption) (Or.inl ⟨by kernel_rfl, ?_⟩) ?_
  rotate_left
  · intro wz hSw; (first | (go_simp; done) | (go_simp; with_reducible rfl))
  (try simp only [Act.put, List.getElem_toArray, List.getElem_cons_zero, List.getElem_cons_succ, List.setIfInBounds_toArray, List.set_cons_zero, List.set_cons_succ])
  refine held_step (fun _ => trivial) (i := 2) (o := _) (by kernel_rfl) rfl (fun K hK => ?_)
  rw [if_pos (by kernel_rfl)]
  refine wpIn_append_fits_any _ _ _ 22 rfl w'.heap.size 5 i0 1 Try.underlying22 hi hz1 (w2.heap.size + 1) 0 (l.length + 4) [] rfl HO3.out.drew o l.length cap (l.map encB) rfl (by simp) (fun h => ⟨HN0.out h, hq h⟩) (news_any (HW3.out.below (bdrew0 _ w3 1))) (news_one l) (by omega) ?_
  intro w4 hown4 hgrow4
  refine hK.out _ _ trivial (fun hHeld => ?_)
  clear hK K
  (try simp only [Act.put, List.getElem_toArray, List.getElem_cons_zero, List.getElem_cons_succ, List.setIfInBounds_toArray, List.set_cons_zero, List.set_cons_succ])
  rw [Nat.zero_add] at hown4
  simp only [Nat.zero_add, List.nil_append] at hown4 ⊢
  have HO4 := Lib.hid hown4
  have HZ4 : Hid (w4.heap[w2.heap.size]? = some (.cells (bR (le4 s)) 49 (0, 0))) := Lib.hid (by
    rw [hgrow4.block _ (by have := HS3.out; show _ < w3.heap.size; omega) (by simp)]; exact HZ.out)
  have HG4 : Hid (Below w'.heap.size w' w4) := Lib.hid ((bdrewN 1 HG3.out).grown hgrow4 (by have := HS3.out; show _ ≤ w3.heap.size; omega) (by intro k hk; cases hk; omega))
  clear hgrow4 hown4
  refine held_step (fun _ => trivial) (i := 4) (o := _) (by kernel_rfl) rfl (fun K hK => ?_)
  rw [if_pos (by kernel_rfl)]
  refine wpIn_append_fits_any _ _ _ 22 rfl w'.heap.size 5 i0 1 Try.underlying22 hi hz1 (w2.heap.size + 1) l.length (l.length + 4) _ rfl HO4.out (some ⟨w2.heap.size, 0, none⟩) 4 4 ((le4 s).map encB) rfl (by simp [le4]) (fun h => by cases h) (news_any (Bs.row HZ4.out)) (news_one _) (by omega) ?_
  intro w5 hown5 hgrow5
  refine hK.out _ _ trivial (fun hHeld => ?_)
  clear hK K
  (try simp only [Act.put, List.getElem_toArray, List.getElem_cons_zero, List.getElem_cons_succ, List.setIfInBounds_toArray, List.set_cons_zero, List.set_cons_succ])
  have HO5 : Hid (Own w5 w'.heap.size (.slice (some ⟨w2.heap.size + 1, 0, none⟩) (l.length + 4) (l.length + 4)) (l ++ le4 s)) := Lib.hid (by
    unfold Own
    rw [HLEN.out, List.map_append]
    exact hown5)
  have HG5 : Hid (Below w'.heap.size w' w5) := Lib.hid (HG4.out.grown hgrow5 (by have := HG4.out.size; omega) (by intro k hk; cases hk; omega))
  clear hgrow5 hown5
  refine held_take (fun _ => trivial) (by kernel_rfl) (i := 5) (oi := _) (v := ?_) rfl (by kernel_rfl) (by kernel_rfl) (by kernel_rfl) (fun _ _ _ h => h) (by assumption) (Or.inl ⟨by kernel_rfl, ?_⟩) ?_
  rotate_left
  · intro wz hSw; (first | (go_simp; done) | (go_simp; with_reducible rfl))
  (try simp only [Act.put, List.getElem_toArray, List.getElem_cons_zero, List.getElem_cons_succ, List.setIfInBounds_toArray, List.set_cons_zero, List.set_cons_succ])
  refine held_done (by kernel_rfl) ?_ _
  clear hHeld
  go_wp2_with fail
  go_ret
  exact ⟨⟨_, rfl, HO5.out⟩, HG5.out⟩
end Go.Proofs.Ytgkcbadfjhicnab.Fx
