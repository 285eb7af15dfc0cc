import Derived.Laws.Rows
import Derived.Test.YtbbhmhihpdmoiaaGreatProg
import Derived.WalkKit
import Derived.Lib.Hide
import Derived.Outline
import Derived.Shelf.Abstract
import Derived.Shelf.RegionOpen
import Derived.OwnWalkIn
import Derived.TacticsInMore
import Derived.Deep.QuietTactic
import Derived.BigQuiet
import Derived.Deep.WholeRow
import Derived.Laws.OwnMore
import Derived.Laws.StructEq
import Derived.Laws.Cover3
import Derived.Laws.BytesString
import Derived.Lib.SlBytesConst
import Derived.Test.YtbbhmhihpdmoiaaGreatMw01
import Derived.Test.YtbbhmhihpdmoiaaGreatMw31
set_option linter.unusedVariables false
set_option linter.unusedSimpArgs false
namespace Go.Proofs.YtbbhmhihpdmoiaaGreat.Cx
open Go.Proofs.YtbbhmhihpdmoiaaGreat.Fx (held_done held_region held_step held_take)
open Go Go.RowKit Go.Shelf
attribute [local go_sem] Oper.semAt_some
theorem wpIn_append_fits_any {F : Fence} {n : Nat} {P : Program} (w : World) {o : Oper} {a : Act} {K : Act → World → Prop} {Q : Exit → Act → World → Prop}
  (s x : Operand) (t : TypeId) (hop : o.op = Op.call { callee := Callee.builtin Builtin.append, args := #[s, x], argTypes := #[t, t] })
  (base : Nat) (e : TypeId) (i : TypeInfo) (size : Nat) (h1 : P.underlying t = some (.slice e)) (h2 : P.info? e = some i) (h4 : i.size = size)
  (g k cap : Nat) (xs : List Value) (hs : a.eval s = .slice (some ⟨g, 0, none⟩) k cap) (hown : w.ownsRow base e size (.slice (some ⟨g, 0, none⟩) k cap) k xs) (ao : Option Addr) (m c : Nat) (news : List Value) (hx : a.eval x = .slice ao m c) (hn : news.length = m * size)
  (hnone : ao = none → m = 0 ∧ c = 0) (hc : ∀ ad, ao = some ad → ∀ j u, news[j]? = some u → w.cell? (ad.add j) = some u) (h1c : ∀ u ∈ news, u.oneCell' = true) (b1 : k + m ≤ cap)
  (hK : ∀ w', w'.ownsRow base e size (.slice (some ⟨g, 0, none⟩) (k + m) cap) (k + m) (xs ++ news) → w.grownBy w' (some g) → K (a.put o.dst (.slice (some ⟨g, 0, none⟩) (k + m) cap)) w') :
  Oper.wpIn F n P o a w K Q := by
 unfold Oper.wpIn
 refine ⟨?_, ?_⟩
 ·simp [Oper.about, hop, resolve, Target.leads, Sem.run_pure]
 ·rw [Oper.semAt_plain F _ _ (by rw [hop]; intro c hc'; cases hc')]
  cases ao with
  | some ad =>
   obtain ⟨w', hrun, r1, r2⟩ := run_append_fits (P := P) w base t o.type e i size h1 h2 h4 g k cap xs hown ad m c news hn (hc ad rfl) h1c b1
   simp [execOp, hop, resolve, invoke, builtin, hs, hx, hrun, Result.andThen]
   exact hK w' r1 r2
  | none =>
   obtain ⟨rfl, rfl⟩ := hnone rfl
   have hnews : news = [] := List.eq_nil_of_length_eq_zero (by simpa using hn)
   subst hnews
   have hrun := run_append_owned_none (P := P) w base t o.type e i size h1 h2 _ k xs hown
   simp [execOp, hop, resolve, invoke, builtin, hs, hx, hrun, Result.andThen]
   have := hK w (by simpa using hown) (World.grownBy.refl _ _)
   have h9 : K (a.put o.dst (.slice (some ⟨g, 0, none⟩) k cap)) w := by simpa using this
   exact h9
theorem news_any {W : World} {o : Option Addr} {l : List Nat} (h : Bs W o l) : ∀ ad, o = some ad → ∀ j u, (l.map encB)[j]? = some u → W.cell? (ad.add j) = some u := by
 intro ad e j u hu
 have hj : j < l.length := by
  have := (List.getElem?_eq_some_iff.1 hu).1
  simpa using this
 obtain ⟨b, off, e2, hc⟩ := h j hj
 rw [e] at e2
 cases e2
 rw [Addr.add_lit, hc, ← hu]
 simp [hj, encB, List.getD]
set_option maxRecDepth 100000 in
set_option maxHeartbeats 2000000 in
theorem seal_any (l : List Nat) (o : Option Addr) (cap : Nat) (w : World) (hl : By l) (hlen : l.length ≤ 1000000) (hq : o = none → cap = 0) (hb : Bs w o l) :
  Calls Tryz.prog 27 #[.slice o l.length cap] w fun e w' => (∃ v, e = .returned v ∧ Own w' w.heap.size v (l ++ le4 (more 0 l))) ∧ Below w.heap.size w w' := by
 obtain ⟨i0, hi, hz0, hz1, hz2⟩ := info_parts info5
 have hs := more_lt hl (show 0 < 4294967296 by omega)
 have H0 := Lib.hid (fun W h => sum_any l o cap W hl (by omega) h)
 have H1 := Lib.hid (fun W => inbytes_any (more 0 l) W hs)
 have HBS := Lib.hid hb
 have HN0 : Hid (o = none → l.length = 0) := Lib.hid (fun h => by
  rcases Nat.eq_zero_or_pos l.length with h0 | h0
  ·exact h0
  ·obtain ⟨b, off, e, _⟩ := hb 0 h0
   rw [h] at e; cases e)
 have HLEN : Hid ((l ++ le4 (more 0 l)).length = l.length + 4) := Lib.hid (by simp [le4])
 have HI : Hid ((Tryz.prog.info? 112).map (·.size) = some (bR (le4 (more 0 l))).size) := Lib.hid (by rw [bR_size]; exact size4)
 have HS : Hid ((#[.int .u8 0, .int .u8 0, .int .u8 0, .int .u8 0] : Array Value).size = (bR (le4 (more 0 l))).size) := Lib.hid (by rw [bR_size]; rfl)
 clear hb hs hl
 generalize more 0 l = s at *
 go_enter Tryz.func27, Tryz.ntmps27
 go_wp2_with fail
 refine (H0.out _ HBS.out).mono ?_
 rintro e w' ⟨rfl, rfl⟩
 go_wp2_with fail
 refine (H1.out _).mono ?_
 rintro e w2 ⟨rfl, hb2⟩
 have HB2 := Lib.hid hb2
 have HS2 := hb2.size
 clear hb2
 go_wp2_with (first | (refine wpList_store_new rfl 112 (.tmp 3) (.tmp 7) rfl w2.heap.size _ _ (bR (le4 s)) rfl rfl rfl HI.out HS.out (bR_one _) ?_) | (refine wpList_make_own _ rfl _ _ 31 rfl w'.heap.size 5 i0 (.int .u8 0) 1 Tryz.underlying31 hi hz0 hz1 .i64 .i64 ((l.length : Int) + 4) (l.length + 4) rfl rfl (by omega) (by rw [hz2]; omega) (by unfold maxLen; omega) (by simp; omega) ?_; intro w3 hown hgrow))
 have HG3 : Hid (Below w'.heap.size w' w3) := Lib.hid ((HB2.out.alloc (by omega) _).grown hgrow (by simp; omega) (by intro k hk; cases hk))
 have HZ : Hid (w3.heap[w2.heap.size]? = some (.cells (bR (le4 s)) 112 (0, 0))) := Lib.hid (by rw [hgrow.block _ (by simp) (by simp)]; exact heap_alloc_new w2 _)
 have HS3 : Hid (w2.heap.size + 1 ≤ w3.heap.size) := Lib.hid (by have := hgrow.size; rw [World.size_alloc] at this; exact this)
 have HW3 : Hid (Bs w3 o l) := Lib.hid (HBS.out.below HG3.out)
 (try rw [World.size_alloc] at hown)
 have HO3 := Lib.hid hown
 clear hgrow hown
 go_wp2_with fail
 refine (wpIn_wide (n := 5)).1 (held_region (F := Fence.wide) (S := fun X => True) (by kernel_rfl) trivial (fun hHeld => ?_))
 refine held_take (fun _ => trivial) (by kernel_rfl) (i := 0) (oi := _) (v := ?_) rfl (by kernel_rfl) (by kernel_rfl) (by kernel_rfl) (fun _ _ _ h => h) (by assumption) (Or.inl ⟨by kernel_rfl, ?_⟩) ?_
 rotate_left
 ·intro wz hSw; (first | (go_simp; done) | (go_simp; with_reducible rfl))
 (try simp only [Act.put, List.getElem_toArray, List.getElem_cons_zero, List.getElem_cons_succ, List.setIfInBounds_toArray, List.set_cons_zero, List.set_cons_succ])
 refine held_take (fun _ => trivial) (by kernel_rfl) (i := 1) (oi := _) (v := ?_) rfl (by kernel_rfl) (by kernel_rfl) (by kernel_rfl) (fun _ _ _ h => h) (by assumption) (Or.inl ⟨by kernel_rfl, ?_⟩) ?_
 rotate_left
 ·intro wz hSw; (first | (go_simp; done) | (go_simp; with_reducible rfl))
 (try simp only [Act.put, List.getElem_toArray, List.getElem_cons_zero, List.getElem_cons_succ, List.setIfInBounds_toArray, List.set_cons_zero, List.set_cons_succ])
 refine held_take (fun _ => trivial) (by kernel_rfl) (i := 3) (oi := _) (v := ?_) rfl (by kernel_rfl) (by kernel_rfl) (by kernel_rfl) (fun _ _ _ h => h) (by assumption) (Or.inl ⟨by kernel_rfl, ?_⟩) ?_
 rotate_left
 ·intro wz hSw; (first | (go_simp; done) | (go_simp; with_reducible rfl))
 (try simp only [Act.put, List.getElem_toArray, List.getElem_cons_zero, List.getElem_cons_succ, List.setIfInBounds_toArray, List.set_cons_zero, List.set_cons_succ])
 refine held_step (fun _ => trivial) (i := 2) (o := _) (by kernel_rfl) rfl (fun K hK => ?_)
 rw [if_pos (by kernel_rfl)]
 refine wpIn_append_fits_any _ _ _ 31 rfl w'.heap.size 5 i0 1 Tryz.underlying31 hi hz1 (w2.heap.size + 1) 0 (l.length + 4) [] rfl HO3.out.drew o l.length cap (l.map encB) rfl (by simp) (fun h => ⟨HN0.out h, hq h⟩) (news_any (HW3.out.below (bdrew0 _ w3 1))) (news_one l) (by omega) ?_
 intro w4 hown4 hgrow4
 refine hK.out _ _ trivial (fun hHeld => ?_)
 clear hK K
 (try simp only [Act.put, List.getElem_toArray, List.getElem_cons_zero, List.getElem_cons_succ, List.setIfInBounds_toArray, List.set_cons_zero, List.set_cons_succ])
 rw [Nat.zero_add] at hown4
 simp only [Nat.zero_add, List.nil_append] at hown4 ⊢
 have HO4 := Lib.hid hown4
 have HZ4 : Hid (w4.heap[w2.heap.size]? = some (.cells (bR (le4 s)) 112 (0, 0))) := Lib.hid (by
  rw [hgrow4.block _ (by have := HS3.out; show _ < w3.heap.size; omega) (by simp)]; exact HZ.out)
 have HG4 : Hid (Below w'.heap.size w' w4) := Lib.hid ((bdrewN 1 HG3.out).grown hgrow4 (by have := HS3.out; show _ ≤ w3.heap.size; omega) (by intro k hk; cases hk; omega))
 clear hgrow4 hown4
 refine held_step (fun _ => trivial) (i := 4) (o := _) (by kernel_rfl) rfl (fun K hK => ?_)
 rw [if_pos (by kernel_rfl)]
 refine wpIn_append_fits_any _ _ _ 31 rfl w'.heap.size 5 i0 1 Tryz.underlying31 hi hz1 (w2.heap.size + 1) l.length (l.length + 4) _ rfl HO4.out (some ⟨w2.heap.size, 0, none⟩) 4 4 ((le4 s).map encB) rfl (by simp [le4]) (fun h => by cases h) (news_any (Bs.row HZ4.out)) (news_one _) (by omega) ?_
 intro w5 hown5 hgrow5
 refine hK.out _ _ trivial (fun hHeld => ?_)
 clear hK K
 (try simp only [Act.put, List.getElem_toArray, List.getElem_cons_zero, List.getElem_cons_succ, List.setIfInBounds_toArray, List.set_cons_zero, List.set_cons_succ])
 have HO5 : Hid (Own w5 w'.heap.size (.slice (some ⟨w2.heap.size + 1, 0, none⟩) (l.length + 4) (l.length + 4)) (l ++ le4 s)) := Lib.hid (by
  unfold Own
  rw [HLEN.out, List.map_append]
  exact hown5)
 have HG5 : Hid (Below w'.heap.size w' w5) := Lib.hid (HG4.out.grown hgrow5 (by have := HG4.out.size; omega) (by intro k hk; cases hk; omega))
 clear hgrow5 hown5
 refine held_take (fun _ => trivial) (by kernel_rfl) (i := 5) (oi := _) (v := ?_) rfl (by kernel_rfl) (by kernel_rfl) (by kernel_rfl) (fun _ _ _ h => h) (by assumption) (Or.inl ⟨by kernel_rfl, ?_⟩) ?_
 rotate_left
 ·intro wz hSw; (first | (go_simp; done) | (go_simp; with_reducible rfl))
 (try simp only [Act.put, List.getElem_toArray, List.getElem_cons_zero, List.getElem_cons_succ, List.setIfInBounds_toArray, List.set_cons_zero, List.set_cons_succ])
 refine held_done (by kernel_rfl) ?_ _
 clear hHeld
 go_wp2_with fail
 go_ret
 exact ⟨⟨_, rfl, HO5.out⟩, HG5.out⟩
end Go.Proofs.YtbbhmhihpdmoiaaGreat.Cx

set_option linter.unusedVariables false
set_option linter.unusedSimpArgs false
namespace Go.Proofs.YtbbhmhihpdmoiaaGreat.Cx
open Go.Proofs.YtbbhmhihpdmoiaaGreat.Fx (held_done held_region held_step held_take)
open Go Go.RowKit Go.Shelf
attribute [local go_sem] Oper.semAt_some
theorem all_range_nat : ∀ (xs ys : List Nat), xs.length = ys.length → ((List.range xs.length).all fun i => xs.getD i 0 == ys.getD i 0) = (xs == ys)
 | [], [], _ => rfl
 | x :: xs, y :: ys, h => by
  have ih := all_range_nat xs ys (by simpa using h)
  rw [List.length_cons, List.range_succ_eq_map, List.all_cons, List.all_map]
  simp only [List.getD_cons_zero, Function.comp_def, List.getD_cons_succ, ih]
  simp [List.cons_beq_cons]
 | [], _ :: _, h => by simp at h
 | _ :: _, [], h => by simp at h
set_option maxRecDepth 100000 in
theorem eqIn_four (w : World) (d : Nat) (xs ys : List Nat) (hx : xs.length = 4) (hy : ys.length = 4) :
  (Op.equalIn (d + 2) 112 (.agg (xs.map encB).toArray) (.agg (ys.map encB).toArray)).run Tryz.prog w = .ok (xs == ys) w := by
 have ht := Tryz.underlying112
 have he := Tryz.underlying5
 have hsz := Tryz.sizeOf5
 rw [← all_range_nat xs ys (hx.trans hy.symm), hx, List.range_eq_range', Op.equalIn]
 simp only [Sem.run_bind, run_underlying ht, Result.andThen_ok, hsz, Std.Legacy.Range.forIn_eq_forIn_range', Std.Legacy.Range.size, Nat.sub_zero, Nat.add_sub_cancel, Nat.div_one]
 have hl : ∀ i ∈ List.range' 0 4 1, i < 4 := fun i hi => by simpa using (List.mem_range'_1.1 hi).2
 generalize List.range' 0 4 1 = l at hl ⊢
 induction l with
 | nil => simp
 | cons i l ih =>
  have hi : i < 4 := hl i (by simp)
  have px : (part 5 (xs.map encB).toArray (i * 1)).run Tryz.prog w = .ok (encB (xs.getD i 0)) w := by
   simp [part, isAgg, run_underlying he, List.getD, List.getElem?_eq_getElem (show i < xs.length by omega)]
  have py : (part 5 (ys.map encB).toArray (i * 1)).run Tryz.prog w = .ok (encB (ys.getD i 0)) w := by
   simp [part, isAgg, run_underlying he, List.getD, List.getElem?_eq_getElem (show i < ys.length by omega)]
  have pe : (Op.equalIn (d + 1) 5 (encB (xs.getD i 0)) (encB (ys.getD i 0))).run Tryz.prog w = .ok (xs.getD i 0 == ys.getD i 0) w := by
   rw [encB, encB, run_equalIn_int w d 5 .u8 .u8 _ _ he]
   congr 1
   rw [Bool.eq_iff_iff, beq_iff_eq, beq_iff_eq]
   omega
  simp only [List.forIn_cons, Sem.run_bind, px, py, pe, Result.andThen_ok, List.all_cons]
  cases hb : (xs.getD i 0 == ys.getD i 0)
  ·simp
  ·simp only [Bool.not_true, Bool.false_eq_true, if_false, Sem.run_pure, Result.andThen_ok, Bool.true_and]
   exact ih fun j hj => hl j (by simp [hj])
theorem neq_four (w : World) (c0 c1 c2 c3 : Nat) (ys : List Nat) (hy : ys.length = 4) :
  (binOp .neq 112 (.agg #[.int .u8 (c0 : Int), .int .u8 (c1 : Int), .int .u8 (c2 : Int), .int .u8 (c3 : Int)]) (.agg (bR ys))).run Tryz.prog w = .ok (.bool (!([c0, c1, c2, c3] == ys))) w := by
 have h := eqIn_four w 9998 [c0, c1, c2, c3] ys rfl hy
 show ((do pure (.bool (!(← Op.equal 112 _ _)))) : Sem Value).run Tryz.prog w = _
 have h2 : (Op.equal 112 (.agg #[.int .u8 (c0 : Int), .int .u8 (c1 : Int), .int .u8 (c2 : Int), .int .u8 (c3 : Int)]) (.agg (bR ys))).run Tryz.prog w = .ok ([c0, c1, c2, c3] == ys) w := h
 simp only [Sem.run_bind, h2, Result.andThen_ok, Sem.run_pure]
def No (w : World) (e : Ending) (w' : World) : Prop := e = .returned (.tuple #[.slice none 0 0, .int .i64 40]) ∧ Below w.heap.size w w'
set_option maxRecDepth 100000 in
set_option maxHeartbeats 2000000 in
theorem open_short (n : Nat) (o : Option Addr) (cap : Nat) (w : World) (hn : n < 4) :
  Calls Tryz.prog 71 #[.slice o n cap] w (No w) := by
 have t1 : (n : Int) - 4 < 0 := by omega
 go_enter Tryz.func71, Tryz.ntmps71
 go_wp2_with fail
 refine (wpIn_wide (n := 5)).1 (held_region (F := Fence.wide) (S := fun X => Below w.heap.size w X) (by kernel_rfl) (bdrew0 _ _ 1) (fun hHeld => ?_))
 refine held_take (fun _ => trivial) (by kernel_rfl) (i := 0) (oi := _) (v := ?_) rfl (by kernel_rfl) (by kernel_rfl) (by kernel_rfl) (fun _ _ _ h => h) (by assumption) (Or.inl ⟨by kernel_rfl, ?_⟩) ?_
 rotate_left
 ·intro wz hSw; (first | (go_simp; done) | (go_simp; with_reducible rfl))
 (try simp only [Act.put, List.getElem_toArray, List.getElem_cons_zero, List.getElem_cons_succ, List.setIfInBounds_toArray, List.set_cons_zero, List.set_cons_succ])
 refine held_take (fun _ => trivial) (by kernel_rfl) (i := 1) (oi := _) (v := ?_) rfl (by kernel_rfl) (by kernel_rfl) (by kernel_rfl) (fun _ _ _ h => h) (by assumption) (Or.inl ⟨by kernel_rfl, ?_⟩) ?_
 rotate_left
 ·intro wz hSw; (first | (go_simp; done) | (go_simp; with_reducible rfl))
 (try simp only [Act.put, List.getElem_toArray, List.getElem_cons_zero, List.getElem_cons_succ, List.setIfInBounds_toArray, List.set_cons_zero, List.set_cons_succ])
 refine held_take (fun _ => trivial) (by kernel_rfl) (i := 2) (oi := _) (v := ?_) rfl (by kernel_rfl) (by kernel_rfl) (by kernel_rfl) (fun _ _ _ h => h) (by assumption) (Or.inl ⟨by kernel_rfl, ?_⟩) ?_
 rotate_left
 ·intro wz hSw; (first | (go_simp; done) | (go_simp; with_reducible rfl))
 (try simp only [Act.put, List.getElem_toArray, List.getElem_cons_zero, List.getElem_cons_succ, List.setIfInBounds_toArray, List.set_cons_zero, List.set_cons_succ])
 refine held_take (fun _ => trivial) (by kernel_rfl) (i := 3) (oi := _) (v := undef) rfl (by kernel_rfl) (by kernel_rfl) (by kernel_rfl) (fun _ _ _ h => h) (by assumption) (Or.inr ⟨by kernel_rfl, rfl⟩) ?_
 (try simp only [Act.put, List.getElem_toArray, List.getElem_cons_zero, List.getElem_cons_succ, List.setIfInBounds_toArray, List.set_cons_zero, List.set_cons_succ])
 refine held_take (fun _ => trivial) (by kernel_rfl) (i := 4) (oi := _) (v := undef) rfl (by kernel_rfl) (by kernel_rfl) (by kernel_rfl) (fun _ _ _ h => h) (by assumption) (Or.inr ⟨by kernel_rfl, rfl⟩) ?_
 (try simp only [Act.put, List.getElem_toArray, List.getElem_cons_zero, List.getElem_cons_succ, List.setIfInBounds_toArray, List.set_cons_zero, List.set_cons_succ])
 refine held_take (fun _ => trivial) (by kernel_rfl) (i := 5) (oi := _) (v := undef) rfl (by kernel_rfl) (by kernel_rfl) (by kernel_rfl) (fun _ _ _ h => h) (by assumption) (Or.inr ⟨by kernel_rfl, rfl⟩) ?_
 (try simp only [Act.put, List.getElem_toArray, List.getElem_cons_zero, List.getElem_cons_succ, List.setIfInBounds_toArray, List.set_cons_zero, List.set_cons_succ])
 refine held_take (fun _ => trivial) (by kernel_rfl) (i := 6) (oi := _) (v := undef) rfl (by kernel_rfl) (by kernel_rfl) (by kernel_rfl) (fun _ _ _ h => h) (by assumption) (Or.inr ⟨by kernel_rfl, rfl⟩) ?_
 (try simp only [Act.put, List.getElem_toArray, List.getElem_cons_zero, List.getElem_cons_succ, List.setIfInBounds_toArray, List.set_cons_zero, List.set_cons_succ])
 refine held_take (fun _ => trivial) (by kernel_rfl) (i := 7) (oi := _) (v := undef) rfl (by kernel_rfl) (by kernel_rfl) (by kernel_rfl) (fun _ _ _ h => h) (by assumption) (Or.inr ⟨by kernel_rfl, rfl⟩) ?_
 (try simp only [Act.put, List.getElem_toArray, List.getElem_cons_zero, List.getElem_cons_succ, List.setIfInBounds_toArray, List.set_cons_zero, List.set_cons_succ])
 refine held_take (fun _ => trivial) (by kernel_rfl) (i := 8) (oi := _) (v := undef) rfl (by kernel_rfl) (by kernel_rfl) (by kernel_rfl) (fun _ _ _ h => h) (by assumption) (Or.inr ⟨by kernel_rfl, rfl⟩) ?_
 (try simp only [Act.put, List.getElem_toArray, List.getElem_cons_zero, List.getElem_cons_succ, List.setIfInBounds_toArray, List.set_cons_zero, List.set_cons_succ])
 refine held_take (fun _ => trivial) (by kernel_rfl) (i := 9) (oi := _) (v := undef) rfl (by kernel_rfl) (by kernel_rfl) (by kernel_rfl) (fun _ _ _ h => h) (by assumption) (Or.inr ⟨by kernel_rfl, rfl⟩) ?_
 (try simp only [Act.put, List.getElem_toArray, List.getElem_cons_zero, List.getElem_cons_succ, List.setIfInBounds_toArray, List.set_cons_zero, List.set_cons_succ])
 refine held_take (fun _ => trivial) (by kernel_rfl) (i := 10) (oi := _) (v := undef) rfl (by kernel_rfl) (by kernel_rfl) (by kernel_rfl) (fun _ _ _ h => h) (by assumption) (Or.inr ⟨by kernel_rfl, rfl⟩) ?_
 (try simp only [Act.put, List.getElem_toArray, List.getElem_cons_zero, List.getElem_cons_succ, List.setIfInBounds_toArray, List.set_cons_zero, List.set_cons_succ])
 refine held_step (fun _ => trivial) (i := 11) (o := _) (by kernel_rfl) rfl (fun K hK => ?_)
 go_simp
 refine hK.out _ _ (hHeld) (fun hHeld => ?_)
 clear hK K
 (try simp only [Act.put, List.getElem_toArray, List.getElem_cons_zero, List.getElem_cons_succ, List.setIfInBounds_toArray, List.set_cons_zero, List.set_cons_succ])
 refine held_step (fun _ => trivial) (i := 12) (o := _) (by kernel_rfl) rfl (fun K hK => ?_)
 go_simp
 refine hK.out _ _ (hHeld) (fun hHeld => ?_)
 clear hK K
 (try simp only [Act.put, List.getElem_toArray, List.getElem_cons_zero, List.getElem_cons_succ, List.setIfInBounds_toArray, List.set_cons_zero, List.set_cons_succ])
 refine held_take (fun _ => trivial) (by kernel_rfl) (i := 13) (oi := _) (v := undef) rfl (by kernel_rfl) (by kernel_rfl) (by kernel_rfl) (fun _ _ _ h => h) (by assumption) (Or.inr ⟨by kernel_rfl, rfl⟩) ?_
 (try simp only [Act.put, List.getElem_toArray, List.getElem_cons_zero, List.getElem_cons_succ, List.setIfInBounds_toArray, List.set_cons_zero, List.set_cons_succ])
 refine held_take (fun _ => trivial) (by kernel_rfl) (i := 14) (oi := _) (v := ?_) rfl (by kernel_rfl) (by kernel_rfl) (by kernel_rfl) (fun _ _ _ h => h) (by assumption) (Or.inl ⟨by kernel_rfl, ?_⟩) ?_
 rotate_left
 ·intro wz hSw; (first | (go_simp; done) | (go_simp; with_reducible rfl))
 (try simp only [Act.put, List.getElem_toArray, List.getElem_cons_zero, List.getElem_cons_succ, List.setIfInBounds_toArray, List.set_cons_zero, List.set_cons_succ])
 refine held_done (by kernel_rfl) ?_ _
 have HH := Lib.hid hHeld
 clear hHeld
 go_wp2_with fail
 go_ret2
 exact ⟨rfl, HH.out⟩
set_option maxRecDepth 100000 in
set_option maxHeartbeats 2000000 in
theorem open_long (l : List Nat) (c0 c1 c2 c3 b off cap : Nat) (w : World) (hl : By l) (hlen : l.length ≤ 1000000) (hcap : l.length + 4 ≤ cap) (hcap2 : cap ≤ 9223372036854775807) (hb : Bs w (some ⟨b, off, none⟩) l)
  (h0 : w.cell? ⟨b, off + l.length, none⟩ = some (.int .u8 (c0 : Int))) (h1 : w.cell? ⟨b, off + l.length + 1, none⟩ = some (.int .u8 (c1 : Int))) (h2 : w.cell? ⟨b, off + l.length + 2, none⟩ = some (.int .u8 (c2 : Int))) (h3 : w.cell? ⟨b, off + l.length + 3, none⟩ = some (.int .u8 (c3 : Int))) :
  Calls Tryz.prog 71 #[.slice (some ⟨b, off, none⟩) (l.length + 4) cap] w fun e w' =>
   if ([c0, c1, c2, c3] == le4 (more 0 l)) = true then (∃ v, e = .returned (.tuple #[v, .int .i64 0]) ∧ Own w' w.heap.size v l) ∧ Below w.heap.size w w' else No w e w' := by
 have hs := more_lt hl (show 0 < 4294967296 by omega)
 have H0 := Lib.hid (fun W h => sum_any l (some ⟨b, off, none⟩) cap W hl (by omega) h)
 have H1 := Lib.hid (fun W => inbytes_any (more 0 l) W hs)
 have H2 := Lib.hid (fun W h => clone_any l b off cap W (by omega) h)
 have HBS := Lib.hid hb
 have HC0 := Lib.hid h0; have HC1 := Lib.hid h1; have HC2 := Lib.hid h2; have HC3 := Lib.hid h3
 have hck : ¬ cap = l.length := by omega
 have hc1 : (l.length : Int) ≤ (cap : Int) := by omega
 have hc2 : (l.length : Int) + 4 ≤ (cap : Int) := by omega
 have hc3 : (l.length : Int) ≤ (l.length : Int) + 4 := by omega
 have hat : ∀ W, (Instr.arrayAt 112 (.slice (some ⟨b, off + l.length, none⟩) 4 (cap - l.length))).run Tryz.prog W = .ok (.pointer (some ⟨b, off + l.length, none⟩)) W := fun W => run_arrayAt W 112 _ 4 _ 4 _ Tryz.underlying112 (by omega)
 have hneq := fun W => neq_four W c0 c1 c2 c3 (le4 (more 0 l)) rfl
 clear hb h0 h1 h2 h3 hs hl
 generalize more 0 l = s at *
 generalize ([c0, c1, c2, c3] == le4 s) = q at *
 go_enter Tryz.func71, Tryz.ntmps71
 go_wp2_with fail
 refine (wpIn_wide (n := 5)).1 (held_region (F := Fence.wide) (S := fun X => Below w.heap.size w X) (by kernel_rfl) (bdrew0 _ _ 1) (fun hHeld => ?_))
 refine held_take (fun _ => trivial) (by kernel_rfl) (i := 0) (oi := _) (v := ?_) rfl (by kernel_rfl) (by kernel_rfl) (by kernel_rfl) (fun _ _ _ h => h) (by assumption) (Or.inl ⟨by kernel_rfl, ?_⟩) ?_
 rotate_left
 ·intro wz hSw; (first | (go_simp; done) | (go_simp; with_reducible rfl))
 (try simp only [Act.put, List.getElem_toArray, List.getElem_cons_zero, List.getElem_cons_succ, List.setIfInBounds_toArray, List.set_cons_zero, List.set_cons_succ])
 refine held_take (fun _ => trivial) (by kernel_rfl) (i := 1) (oi := _) (v := ?_) rfl (by kernel_rfl) (by kernel_rfl) (by kernel_rfl) (fun _ _ _ h => h) (by assumption) (Or.inl ⟨by kernel_rfl, ?_⟩) ?_
 rotate_left
 ·intro wz hSw; (first | (go_simp; done) | (go_simp; with_reducible rfl))
 (try simp only [Act.put, List.getElem_toArray, List.getElem_cons_zero, List.getElem_cons_succ, List.setIfInBounds_toArray, List.set_cons_zero, List.set_cons_succ])
 refine held_take (fun _ => trivial) (by kernel_rfl) (i := 2) (oi := _) (v := ?_) rfl (by kernel_rfl) (by kernel_rfl) (by kernel_rfl) (fun _ _ _ h => h) (by assumption) (Or.inl ⟨by kernel_rfl, ?_⟩) ?_
 rotate_left
 ·intro wz hSw; (first | (go_simp; done) | (go_simp; with_reducible rfl))
 (try simp only [Act.put, List.getElem_toArray, List.getElem_cons_zero, List.getElem_cons_succ, List.setIfInBounds_toArray, List.set_cons_zero, List.set_cons_succ])
 refine held_take (fun _ => trivial) (by kernel_rfl) (i := 3) (oi := _) (v := ?_) rfl (by kernel_rfl) (by kernel_rfl) (by kernel_rfl) (fun _ _ _ h => h) (by assumption) (Or.inl ⟨by kernel_rfl, ?_⟩) ?_
 rotate_left
 ·intro wz hSw; (first | (go_simp; done) | (go_simp; with_reducible rfl))
 (try simp only [Act.put, List.getElem_toArray, List.getElem_cons_zero, List.getElem_cons_succ, List.setIfInBounds_toArray, List.set_cons_zero, List.set_cons_succ])
 refine held_take (fun _ => trivial) (by kernel_rfl) (i := 4) (oi := _) (v := ?_) rfl (by kernel_rfl) (by kernel_rfl) (by kernel_rfl) (fun _ _ _ h => h) (by assumption) (Or.inl ⟨by kernel_rfl, ?_⟩) ?_
 rotate_left
 ·intro wz hSw; (first | (go_simp; done) | (go_simp; with_reducible rfl))
 (try simp only [Act.put, List.getElem_toArray, List.getElem_cons_zero, List.getElem_cons_succ, List.setIfInBounds_toArray, List.set_cons_zero, List.set_cons_succ])
 refine held_take (fun _ => trivial) (by kernel_rfl) (i := 5) (oi := _) (v := ?_) rfl (by kernel_rfl) (by kernel_rfl) (by kernel_rfl) (fun _ _ _ h => h) (by assumption) (Or.inl ⟨by kernel_rfl, ?_⟩) ?_
 rotate_left
 ·intro wz hSw; (first | (go_simp; done) | (go_simp; with_reducible rfl))
 (try simp only [Act.put, List.getElem_toArray, List.getElem_cons_zero, List.getElem_cons_succ, List.setIfInBounds_toArray, List.set_cons_zero, List.set_cons_succ])
 refine held_take (fun _ => trivial) (by kernel_rfl) (i := 6) (oi := _) (v := ?_) rfl (by kernel_rfl) (by kernel_rfl) (by kernel_rfl) (fun _ _ _ h => h) (by assumption) (Or.inl ⟨by kernel_rfl, ?_⟩) ?_
 rotate_left
 ·intro wz hSw; (first | (go_simp; done) | (go_simp; with_reducible rfl))
 (try simp only [Act.put, List.getElem_toArray, List.getElem_cons_zero, List.getElem_cons_succ, List.setIfInBounds_toArray, List.set_cons_zero, List.set_cons_succ])
 refine held_take (fun _ => trivial) (by kernel_rfl) (i := 7) (oi := _) (v := ?_) rfl (by kernel_rfl) (by kernel_rfl) (by kernel_rfl) (fun _ _ _ h => h) (by assumption) (Or.inl ⟨by kernel_rfl, ?_⟩) ?_
 rotate_left
 ·intro wz hSw; have d0 := keep_cell hSw HC0.out; have d1 := keep_cell hSw HC1.out; have d2 := keep_cell hSw HC2.out; have d3 := keep_cell hSw HC3.out; (first | (go_simp; done) | (go_simp; with_reducible rfl))
 (try simp only [Act.put, List.getElem_toArray, List.getElem_cons_zero, List.getElem_cons_succ, List.setIfInBounds_toArray, List.set_cons_zero, List.set_cons_succ])
 refine held_take (fun _ => trivial) (by kernel_rfl) (i := 8) (oi := _) (v := ?_) rfl (by kernel_rfl) (by kernel_rfl) (by kernel_rfl) (fun _ _ _ h => h) (by assumption) (Or.inl ⟨by kernel_rfl, ?_⟩) ?_
 rotate_left
 ·intro wz hSw; (first | (go_simp; done) | (go_simp; with_reducible rfl))
 (try simp only [Act.put, List.getElem_toArray, List.getElem_cons_zero, List.getElem_cons_succ, List.setIfInBounds_toArray, List.set_cons_zero, List.set_cons_succ])
 refine held_take (fun _ => trivial) (by kernel_rfl) (i := 9) (oi := _) (v := ?_) rfl (by kernel_rfl) (by kernel_rfl) (by kernel_rfl) (fun _ _ _ h => h) (by assumption) (Or.inl ⟨by kernel_rfl, ?_⟩) ?_
 rotate_left
 ·intro wz hSw; (first | (go_simp; done) | (go_simp; with_reducible rfl))
 (try simp only [Act.put, List.getElem_toArray, List.getElem_cons_zero, List.getElem_cons_succ, List.setIfInBounds_toArray, List.set_cons_zero, List.set_cons_succ])
 refine held_take (fun _ => trivial) (by kernel_rfl) (i := 10) (oi := _) (v := ?_) rfl (by kernel_rfl) (by kernel_rfl) (by kernel_rfl) (fun _ _ _ h => h) (by assumption) (Or.inl ⟨by kernel_rfl, ?_⟩) ?_
 rotate_left
 ·intro wz hSw; (first | (go_simp; done) | (go_simp; with_reducible rfl))
 (try simp only [Act.put, List.getElem_toArray, List.getElem_cons_zero, List.getElem_cons_succ, List.setIfInBounds_toArray, List.set_cons_zero, List.set_cons_succ])
 refine held_step (fun _ => trivial) (i := 11) (o := _) (by kernel_rfl) rfl (fun K hK => ?_)
 go_simp
 refine ⟨trivial, callsIn_wide.2 ((H0.out _ (HBS.out.below hHeld)).mono ?_)⟩
 rintro e wz ⟨rfl, rfl⟩
 dsimp only
 refine hK.out _ _ (hHeld) (fun hHeld => ?_)
 clear hK K
 (try simp only [Act.put, List.getElem_toArray, List.getElem_cons_zero, List.getElem_cons_succ, List.setIfInBounds_toArray, List.set_cons_zero, List.set_cons_succ])
 refine held_step (fun _ => trivial) (i := 12) (o := _) (by kernel_rfl) rfl (fun K hK => ?_)
 go_simp
 refine ⟨trivial, callsIn_wide.2 ((H1.out _).mono ?_)⟩
 rintro e wz ⟨rfl, hbz⟩
 dsimp only
 refine hK.out _ _ (bnext hHeld hbz) (fun hHeld => ?_)
 clear hK K
 (try simp only [Act.put, List.getElem_toArray, List.getElem_cons_zero, List.getElem_cons_succ, List.setIfInBounds_toArray, List.set_cons_zero, List.set_cons_succ])
 refine held_take (fun _ => trivial) (by kernel_rfl) (i := 13) (oi := _) (v := ?_) rfl (by kernel_rfl) (by kernel_rfl) (by kernel_rfl) (fun _ _ _ h => h) (by assumption) (Or.inl ⟨by kernel_rfl, ?_⟩) ?_
 rotate_left
 ·intro wz hSw; (first | (go_simp; done) | (go_simp; with_reducible rfl))
 (try simp only [Act.put, List.getElem_toArray, List.getElem_cons_zero, List.getElem_cons_succ, List.setIfInBounds_toArray, List.set_cons_zero, List.set_cons_succ])
 refine held_take (fun _ => trivial) (by kernel_rfl) (i := 14) (oi := _) (v := ?_) rfl (by kernel_rfl) (by kernel_rfl) (by kernel_rfl) (fun _ _ _ h => h) (by assumption) (Or.inl ⟨by kernel_rfl, ?_⟩) ?_
 rotate_left
 ·intro wz hSw; (first | (go_simp; done) | (go_simp; with_reducible rfl))
 (try simp only [Act.put, List.getElem_toArray, List.getElem_cons_zero, List.getElem_cons_succ, List.setIfInBounds_toArray, List.set_cons_zero, List.set_cons_succ])
 refine held_done (by kernel_rfl) ?_ _
 have HH := Lib.hid hHeld
 have HBZ := Lib.hid (HBS.out.below hHeld)
 clear hHeld
 rw [show decide ((l.length : Int) < 0) = false from decide_eq_false (by omega)]
 cases q
 ·go_wp2_with fail
  go_ret2
  exact ⟨rfl, HH.out⟩
 ·go_wp2_with fail
  refine (H2.out _ HBZ.out).mono ?_
  rintro e w5 ⟨⟨v, rfl, hown⟩, hb5⟩
  go_wp2_with fail
  go_ret2
  exact ⟨⟨_, rfl, Own.mono HH.out.size hown⟩, bnext HH.out hb5⟩
end Go.Proofs.YtbbhmhihpdmoiaaGreat.Cx

set_option linter.unusedVariables false
set_option linter.unusedSimpArgs false
namespace Go.Proofs.YtbbhmhihpdmoiaaGreat.Cx
open Go Go.RowKit
def bstr (l : List Nat) : ByteArray := ⟨(l.map UInt8.ofNat).toArray⟩
theorem push_all (l : List Nat) : ∀ (b : ByteArray), (l.map fun x : Nat => (x : Int)).foldl (fun r n => r.push (UInt8.ofNat n.toNat)) b = ⟨b.data ++ (l.map UInt8.ofNat).toArray⟩ := by
 induction l with
 | nil => intro b; simp
 | cons x l ih =>
  intro b
  simp only [List.map_cons, List.foldl_cons]
  rw [ih]
  simp [ByteArray.push]
theorem conv_bs {W : World} {o : Option Addr} {l : List Nat} {n : Nat} (cap : Nat) (hn : l.length = n) (h : Bs W o l) : (convert 31 9 (.slice o n cap)).run Tryz.prog W = .ok (.string (bstr l)) W := by
 subst hn
 rw [run_convert_bytes_string W _ _ _ _ _ _ Tryz.underlying31 Tryz.underlying5 Tryz.underlying9]
 cases o with
 | none =>
  have : l = [] := by
   cases l with
   | nil => rfl
   | cons x l => obtain ⟨_, _, e, _⟩ := h 0 (by simp); cases e
  subst this
  rfl
 | some a =>
  have hl := run_loadCells_list (P := Tryz.prog) (w := W) a (l.map encB) (news_any h a rfl)
  rw [List.length_map] at hl
  have hm : l.map encB = (l.map fun x : Nat => (x : Int)).map (Value.int .u8) := by simp [encB]
  rw [hm] at hl
  rw [run_bytesToString W _ _ _ _ hl, push_all]
  simp [bstr, ByteArray.empty, ByteArray.emptyWithCapacity]
  rfl
theorem bs_part {W : World} {b off : Nat} {l m : List Nat} (h : Bs W (some ⟨b, off, none⟩) (l ++ m)) : Bs W (some ⟨b, off, none⟩) l := by
 have := h.take l.length
 rwa [List.take_left] at this
theorem bs_at {W : World} {b off : Nat} {l : List Nat} (h : Bs W (some ⟨b, off, none⟩) l) {j : Nat} (hj : j < l.length) : W.cell? ⟨b, off + j, none⟩ = some (.int .u8 ((l.getD j 0 : Nat) : Int)) := by
 obtain ⟨_, _, e, hc⟩ := h j hj
 cases e
 exact hc
theorem open_at (l : List Nat) (c0 c1 c2 c3 b off cap : Nat) (w : World) (hl : By l) (hlen : l.length ≤ 1000000) (hcap : l.length + 4 ≤ cap) (hcap2 : cap ≤ 9223372036854775807) (hb : Bs w (some ⟨b, off, none⟩) (l ++ [c0, c1, c2, c3])) :
  Calls Tryz.prog 71 #[.slice (some ⟨b, off, none⟩) (l.length + 4) cap] w fun e w' =>
   if ([c0, c1, c2, c3] == le4 (more 0 l)) = true then (∃ v, e = .returned (.tuple #[v, .int .i64 0]) ∧ Own w' w.heap.size v l) ∧ Below w.heap.size w w' else No w e w' := by
 have g0 := bs_at hb (j := l.length) (by simp)
 have g1 := bs_at hb (j := l.length + 1) (by simp)
 have g2 := bs_at hb (j := l.length + 2) (by simp)
 have g3 := bs_at hb (j := l.length + 3) (by simp)
 simp [List.getD] at g0 g1 g2 g3
 exact open_long l c0 c1 c2 c3 b off cap w hl hlen hcap hcap2 (bs_part hb) g0 (by rw [Nat.add_assoc]; exact g1) (by rw [Nat.add_assoc]; exact g2) (by rw [Nat.add_assoc]; exact g3)
theorem lit_row (w : World) (l : List Nat) (C : Array Value) (hC : C = bR l) (fr : Nat × Nat) : Bs (w.alloc (.cells C 5 fr)) (some ⟨w.heap.size, 0, none⟩) l := by
 subst hC
 exact Bs.row (heap_alloc_new w _)
theorem seal_at (l : List Nat) (n : Nat) (hn : l.length = n) (q : List Nat) (hq : l ++ le4 (more 0 l) = q) (o : Option Addr) (cap : Nat) (w : World) (hl : By l) (hlen : l.length ≤ 1000000) (ho : o = none → cap = 0) (hb : Bs w o l) :
  Calls Tryz.prog 27 #[.slice o n cap] w fun e w' => (∃ v, e = .returned v ∧ Own w' w.heap.size v q) ∧ Below w.heap.size w w' := by
 subst hn; subst hq
 exact seal_any l o cap w hl hlen ho hb
end Go.Proofs.YtbbhmhihpdmoiaaGreat.Cx
