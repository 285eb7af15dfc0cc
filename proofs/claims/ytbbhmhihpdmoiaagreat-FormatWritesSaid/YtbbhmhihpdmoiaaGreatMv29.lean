import Derived.Laws.Rows
import Derived.Test.YtbbhmhihpdmoiaaGreatProg
import Derived.Shelf.Abstract
import Derived.Shelf.RegionOpen
import Derived.OwnWalkIn
import Derived.TacticsInMore
import Derived.LoopNIn
import Derived.LoopIn
import Derived.WalkMore
import Derived.Test.YtbbhmhihpdmoiaaGreatMv01
import Derived.Test.YtbbhmhihpdmoiaaGreatMv17
import Derived.Test.YtbbhmhihpdmoiaaGreatMv28
set_option linter.unusedVariables false
set_option linter.unusedSimpArgs false
namespace Go.Proofs.YtbbhmhihpdmoiaaGreat.Pk
open Go.Proofs.YtbbhmhihpdmoiaaGreat.Fx (Kept heldz_done heldz_region heldz_step heldz_take wpIn_range_jump)
open Go Go.RowKit Go.Shelf
attribute [local go_sem] Oper.semAt_some
structure WS (B b p : Nat) (v : Value) (m : List Nat) (X : World) : Prop where
 box : X.heap[b]? = some (.cells #[.pointer (some ⟨p, 0, none⟩)] 75 (0, 0))
 row : X.heap[p]? = some (.cells #[.bool true, .bool false, v] 120 (0, 0))
 own : Own X B v m
theorem WS.below {B b p : Nat} {v : Value} {m : List Nat} {X Y : World} (s : WS B b p v m X) (h : Below X.heap.size X Y) : WS B b p v m Y := ⟨keep_row h s.box, keep_row h s.row, s.own.below h⟩
theorem WS.alloc {B b p : Nat} {v : Value} {m : List Nat} {X : World} (s : WS B b p v m X) (o : Obj) : WS B b p v m (X.alloc o) := ⟨step_row s.box, step_row s.row, s.own.alloc o⟩
theorem WS.facts {B b p : Nat} {v : Value} {m : List Nat} {X : World} (s : WS B b p v m X) : X.cell? ⟨b, 0, none⟩ = some (.pointer (some ⟨p, 0, none⟩)) ∧ X.cell? ⟨p, 2, none⟩ = some v :=
 ⟨by rw [cell_of_row _ _ _ _ _ _ s.box]; rfl, by rw [cell_of_row _ _ _ _ _ _ s.row]; rfl⟩
structure WT (B b p : Nat) (v v' : Value) (m : List Nat) (W X : World) : Prop where
 box : X.heap[b]? = some (.cells #[.pointer (some ⟨p, 0, none⟩)] 75 (0, 0))
 row : X.heap[p]? = some (.cells #[.bool true, .bool false, v] 120 (0, 0))
 own : Own X B v' m
 turn : Turn p v v' W X
 keeps : KeepsOthers W X
theorem WT.facts {B b p : Nat} {v v2 : Value} {m : List Nat} {W X : World} (s : WT B b p v v2 m W X) : X.cell? ⟨b, 0, none⟩ = some (.pointer (some ⟨p, 0, none⟩)) ∧ X.cell? ⟨p, 2, none⟩ = some v :=
 ⟨by rw [cell_of_row _ _ _ _ _ _ s.box]; rfl, by rw [cell_of_row _ _ _ _ _ _ s.row]; rfl⟩
theorem WT.free {B b p : Nat} {v v' : Value} {m : List Nat} {W X : World} (s : WT B b p v v' m W X) : X.frozen? ⟨p, 2, none⟩ = false := frozen_row s.row
theorem keeps_below {W X : World} (h : Below W.heap.size W X) : KeepsOthers W X :=
 ⟨h.size, fun k o hk _ => by rw [h.block k (Array.getElem?_eq_some_iff.1 hk).1]; exact hk⟩
theorem keeps_grown {W X : World} {v : Value} {B : Nat} {m : List Nat} (ho : Own W B v m) (h : W.grownBy X v.ownBlock) : KeepsOthers W X :=
 ⟨h.size, fun k o hk hc => by
  rw [h.block k (Array.getElem?_eq_some_iff.1 hk).1 (fun e => ?_)]
  ·exact hk
  ·obtain ⟨_, h2⟩ := ho
   rcases h2 with ⟨rfl, _⟩ | ⟨g, cap, cur, rfl, hb, hg, _⟩
   ·cases e
   ·cases e
    rw [hg] at hk
    cases hk
    cases hc⟩
theorem WS.step {B b p : Nat} {v v' : Value} {m m' : List Nat} {W X Y : World} (s : WS B b p v m X) (hb : Below W.heap.size W X) (ho : Own Y B v' m') (hg : X.grownBy Y v.ownBlock) (hn : ∀ k, v'.ownBlock = some k → v.ownBlock = some k ∨ X.heap.size ≤ k) : WT B b p v v' m' W Y :=
 ⟨(hg.block b (Array.getElem?_eq_some_iff.1 s.box).1 (fun e => s.own.apart s.box (by decide) b e.symm rfl)).trans s.box, (hg.block p (Array.getElem?_eq_some_iff.1 s.row).1 (fun e => s.own.apart s.row (by decide) p e.symm rfl)).trans s.row, ho,
  (Turn.of_below hb).trans (Turn.of_grown hg hn), (keeps_below hb).trans (keeps_grown s.own hg)⟩
theorem WT.below {B b p : Nat} {v v' : Value} {m : List Nat} {W X Y : World} (s : WT B b p v v' m W X) (h : Below X.heap.size X Y) : WT B b p v v' m W Y :=
 ⟨keep_row h s.box, keep_row h s.row, s.own.below h, s.turn.trans (Turn.of_below h), s.keeps.trans (keeps_below h)⟩
structure WD (B b p : Nat) (v v' : Value) (m : List Nat) (W X : World) : Prop where
 ws : WS B b p v' m X
 turn : Turn p v v' W X
 keeps : KeepsOthers W X
theorem WT.put {B b p : Nat} {v v' : Value} {m : List Nat} {W X Y : World} (s : WT B b p v v' m W X) (h : Below (X.setCell ⟨p, 2, none⟩ v').heap.size (X.setCell ⟨p, 2, none⟩ v') Y) : WD B b p v v' m W Y := by
 have hne : b ≠ p := by
  rintro rfl
  have h1 := s.box
  rw [s.row] at h1
  cases h1
 have a1 := heap_setCell_same _ _ 2 _ _ v' s.row
 have a0 : (X.setCell ⟨p, 2, none⟩ v').heap[b]? = some (.cells #[.pointer (some ⟨p, 0, none⟩)] 75 (0, 0)) := by rw [heap_setCell_other _ _ _ _ hne]; exact s.box
 have ao : Own (X.setCell ⟨p, 2, none⟩ v') B v' m := s.own.grown (grown_cell _ _ _ _) (fun k hk e => s.own.apart s.row (by decide) k hk (Option.some.inj e))
 exact ⟨(WS.below ⟨a0, a1, ao⟩ h), (s.turn.trans (Turn.set p 2 v' v' X)).trans (Turn.of_below h), (s.keeps.trans (KeepsOthers.setCell _ _ _)).trans (keeps_below h)⟩
def UI (B p n : Nat) (v0 : Value) (l : List Nat) (w : World) (k : Nat) (W : World) : Prop :=
 ∃ v, WS B w.heap.size p v (l ++ (form n).take k) W ∧ Turn p v0 v w W ∧ W.heap[w.heap.size + 1]? = some (.cells #[.int .u64 (n : Int)] 89 (0, 0))
theorem Turn.kept {p B : Nat} {v v' : Value} {w W X : World} (s : Turn p v v' w W) (hB : w.heap.size ≤ B) (k : Kept B W X) : Turn p v v' w X :=
 ⟨k.os.trans s.os, k.tape.trans s.tape, k.output.trans s.output, Nat.le_trans s.size k.size, fun i hi hp hv => by
  have h := s.block i hi hp hv
  rw [← h]
  have hi2 : i < W.heap.size := Nat.lt_of_lt_of_le hi s.size
  rw [Array.getElem?_eq_getElem hi2]
  exact k.block i _ (Array.getElem?_eq_getElem hi2) (.inl (by omega)), s.own⟩
theorem Own.kept {B C : Nat} {v : Value} {m : List Nat} {W X : World} (s : Own W C v m) (k : Kept B W X) : Own X C v m := by
 obtain ⟨h1, h2⟩ := s
 refine ⟨h1, ?_⟩
 rcases h2 with h2 | ⟨g, cap, cur, e, hb, hg, h3⟩
 ·exact .inl h2
 ·exact .inr ⟨g, cap, cur, e, hb, k.cells hg, h3⟩
theorem UI.kept {B p n k C : Nat} {v0 : Value} {l : List Nat} {w W X : World} (hC : w.heap.size ≤ C) (s : UI B p n v0 l w k W) (hk : Kept C W X) : UI B p n v0 l w k X := by
 obtain ⟨v, ws, t, c⟩ := s
 exact ⟨v, ⟨hk.cells ws.box, hk.cells ws.row, ws.own.kept hk⟩, t.kept hC hk, hk.cells c⟩
theorem UI.reads {B p n k : Nat} {v0 : Value} {l : List Nat} {w W : World} (s : UI B p n v0 l w k W) : FrmM n (w.heap.size + 1) W := by
 obtain ⟨v, ws, t, c⟩ := s
 unfold FrmM
 rw [cell_of_row _ _ _ _ _ _ c]
 rfl
def UA (p n : Nat) (w : World) (k : Nat) (a : Act) : Prop :=
 a = { tmps := #[.pointer (some ⟨p, 0, none⟩), .int .u64 (n : Int), .pointer (some ⟨w.heap.size, 0, none⟩), undef, .int .u8 (((form n).getD k 0 : Nat) : Int), .pointer (some ⟨p, 0, none⟩), .int .i64 0, .bool false, .int .u64 (n : Int),
  .func (.func 139) #[] #[.pointer (some ⟨w.heap.size + 1, 0, none⟩)], .int .u8 (((form n).getD k 0 : Nat) : Int), undef, undef, undef, undef, undef, undef, undef, undef, undef, undef, undef, undef], defers := [] }
theorem take_get {m : List Nat} {k : Nat} (h : k < m.length) : m.take (k + 1) = m.take k ++ [m.getD k 0] := by
 rw [List.take_add_one]
 simp [h, List.getD]
def PCall (B p : Nat) (v : Value) (l : List Nat) (lost : Bool) (w : World) (e : Ending) (w' : World) : Prop := e = .returned undef ∧ ∃ v', PW B p v' l lost w' ∧ Turn p v v' w w'
set_option maxRecDepth 100000 in
set_option maxHeartbeats 2000000 in
theorem puint_on (B p n : Nat) (v0 : Value) (l : List Nat) (w : World) (hB : B ≤ w.heap.size) (hn : n < 18446744073709551616) (hlen : l.length ≤ 100000000) (hw : PW B p v0 l false w) :
  Calls Tryz.prog 93 #[.pointer (some ⟨p, 0, none⟩), .int .u64 (n : Int)] w (PCall B p v0 (l ++ form n) false w) := by
 have hp : p < w.heap.size := (Array.getElem?_eq_some_iff.1 hw.row).1
 obtain ⟨W0, hW0⟩ : ∃ W0, (w.alloc (.cells #[.pointer (some ⟨p, 0, none⟩)] 75)).alloc (.cells #[.int .u64 (n : Int)] 89) = W0 := ⟨_, rfl⟩
 have d0 : (w.alloc (.cells #[.pointer (some ⟨p, 0, none⟩)] 75)).cell? ⟨p, 0, none⟩ = some (.bool true) := by rw [cell_of_row _ _ _ _ _ _ (step_row hw.row)]; rfl
 have d1 : (w.alloc (.cells #[.pointer (some ⟨p, 0, none⟩)] 75)).cell? ⟨p, 1, none⟩ = some (.bool false) := by rw [cell_of_row _ _ _ _ _ _ (step_row hw.row)]; rfl
 have HF := Lib.hid (writer_fault p true false _ d0 d1)
 have hB0 : Below w.heap.size w W0 := by rw [← hW0]; exact ((Below.refl _ w).alloc (Nat.le_refl _) _).alloc (by simp) _
 have hs0 : W0.heap.size = w.heap.size + 2 := by rw [← hW0]; simp
 have U0 : UI B p n v0 l w 0 W0 := ⟨v0, ⟨by rw [← hW0]; exact step_row (heap_alloc_new _ _), keep_row hB0 hw.row, by rw [List.take_zero, List.append_nil]; exact hw.own.below hB0⟩, Turn.of_below hB0, by
  rw [← hW0]
  have := heap_alloc_new (w.alloc (.cells #[.pointer (some ⟨p, 0, none⟩)] 75)) (.cells #[.int .u64 (n : Int)] 89)
  rw [World.size_alloc] at this
  exact this⟩
 have HB0 := Lib.hid hB0
 have HS0 := Lib.hid hs0
 have HU0 := Lib.hid U0
 have HLEN0 := Lib.hid hlen
 have HFL := Lib.hid (form_len n).2
 clear hw d0 d1 hB0 hs0 U0 hlen
 refine (callsIn_wide (n := 5)).1 ?_
 refine callsIn_of_wp_marks Tryz.func93 rfl trivial ?_ rfl
 simp only [Tryz.ntmps93, List.size_toArray, List.length_cons, List.length_nil, Nat.reduceAdd, Nat.reduceSub, Array.replicate_succ, Array.replicate_zero, List.push_toArray, List.append_toArray, List.nil_append, List.cons_append]
 refine wpIn_wide.2 ?_
 go_wp2_with fail
 refine HF.out.mono ?_
 rintro e w1 ⟨rfl, rfl⟩
 simp only [fl, if_true, Bool.false_eq_true, if_false]
 clear HF
 go_wp2_with fail
 refine (form_w _ _).mono ?_
 rintro e w' ⟨rfl, rfl⟩
 go_wp2_with fail
 (try rw [hW0])
 clear hW0
 refine wpIn_wide.1 (wpIn_range_jump (F := Fence.wide) (n := 5) rfl (by omega) (gf := 139) (lb := #[.pointer (some ⟨w.heap.size + 1, 0, none⟩)]) rfl trivial (enters_of Tryz.func139 (by kernel_rfl) rfl)
  (form_hands n (w.heap.size + 1) hn) (fun _ => rfl) .ret (UI B p n v0 l w) (fun _ => False) (fun j a' W => UA p n w j a' ∧ UI B p n v0 l w j W)
  ?i1 ?i2 ?i3 ?i4 ?i5 HU0.out ?assign ?body ?done ?stop)
 case i1 => rintro j W X h hk; exact UI.kept (by have := HS0.out; omega) h hk
 case i2 => rintro W X h; exact h.elim
 case i3 => rintro j a W X ⟨h0, h4⟩ hk; exact ⟨h0, UI.kept (by have := HS0.out; omega) h4 hk⟩
 case i4 => rintro j W h4; exact UI.reads h4
 case i5 => rintro W h; exact h.elim
 case assign =>
  intro l1 j W C hk hI hC
  obtain ⟨x, hx⟩ : ∃ x, (form n).getD j 0 = x := ⟨_, rfl⟩
  simp only [frmElem]
  rw [hx]
  have HX := Lib.hid hx
  clear hx
  gi_wp2
  exact hC _ _ (KeepsFrom.refl _ _) ⟨by unfold UA; rw [HX.out], hI⟩
 case body =>
  rintro l1 j a' W hk ⟨ha, v, ws, ht, hc⟩
  unfold UA at ha
  subst ha
  have hx : (form n).getD j 0 < 256 := (form_bytes hn).get j
  have HTK := Lib.hid (take_get hk)
  have HTL : Hid (((form n).take j).length ≤ 11) := Lib.hid (by have := (form_len n).2; simp; omega)
  generalize (form n).getD j 0 = x at *
  obtain ⟨m, hm⟩ : ∃ m, l ++ (form n).take j = m := ⟨_, rfl⟩
  have HLEN : Hid (m.length ≤ 100000011) := Lib.hid (by rw [← hm]; have := HTL.out; have := HLEN0.out; simp at *; omega)
  have HM := Lib.hid hm
  rw [hm] at ws
  obtain ⟨o1, cap1, rfl, _, _, _, _, _⟩ := ws.own.open
  have HS := Lib.hid ws
  have HT := Lib.hid ht
  have HCB := Lib.hid hc
  have HBS : Hid (B ≤ W.heap.size) := Lib.hid (by have := ht.size; omega)
  clear ws ht hc hm HTL
  gi_wp2
  refine heldz_region (S := fun X => X.cell? ⟨w.heap.size, 0, none⟩ = some (.pointer (some ⟨p, 0, none⟩)) ∧ X.cell? ⟨p, 2, none⟩ = some (.slice o1 m.length cap1)) (Z := [12]) (by kernel_rfl) ?_
  have SD := Lib.hid (WS.below HS.out (bdrew0 _ W 1))
  refine heldz_take (fun _ => trivial) [12] 0 (.pointer (some ⟨p, 0, none⟩)) (by kernel_rfl) rfl (by kernel_rfl) (fun _ _ _ h => h) SD.out.facts (by kernel_rfl) ?_ ?_
  ·intro wz hSw; obtain ⟨cb, cp⟩ := hSw; (first | (go_simp; done) | (go_simp; with_reducible rfl))
  (try simp only [Act.put, List.getElem_toArray, List.getElem_cons_zero, List.getElem_cons_succ, List.setIfInBounds_toArray, List.set_cons_zero, List.set_cons_succ])
  refine heldz_take (fun _ => trivial) [12] 1 (.pointer (some ⟨p, 0, none⟩)) (by kernel_rfl) rfl (by kernel_rfl) (fun _ _ _ h => h) SD.out.facts (by kernel_rfl) ?_ ?_
  ·intro wz hSw; obtain ⟨cb, cp⟩ := hSw; (first | (go_simp; done) | (go_simp; with_reducible rfl))
  (try simp only [Act.put, List.getElem_toArray, List.getElem_cons_zero, List.getElem_cons_succ, List.setIfInBounds_toArray, List.set_cons_zero, List.set_cons_succ])
  refine heldz_take (fun _ => trivial) [12] 2 (?_) (by kernel_rfl) rfl (by kernel_rfl) (fun _ _ _ h => h) SD.out.facts (by kernel_rfl) ?_ ?_
  rotate_left
  ·intro wz hSw; (first | (go_simp; done) | (go_simp; with_reducible rfl))
  (try simp only [Act.put, List.getElem_toArray, List.getElem_cons_zero, List.getElem_cons_succ, List.setIfInBounds_toArray, List.set_cons_zero, List.set_cons_succ])
  refine heldz_take (fun _ => trivial) [12] 3 (?_) (by kernel_rfl) rfl (by kernel_rfl) (fun _ _ _ h => h) SD.out.facts (by kernel_rfl) ?_ ?_
  rotate_left
  ·intro wz hSw; (first | (go_simp; done) | (go_simp; with_reducible rfl))
  (try simp only [Act.put, List.getElem_toArray, List.getElem_cons_zero, List.getElem_cons_succ, List.setIfInBounds_toArray, List.set_cons_zero, List.set_cons_succ])
  refine heldz_take (fun _ => trivial) [12] 4 (?_) (by kernel_rfl) rfl (by kernel_rfl) (fun _ _ _ h => h) SD.out.facts (by kernel_rfl) ?_ ?_
  rotate_left
  ·intro wz hSw; (first | (go_simp; done) | (go_simp; with_reducible rfl))
  (try simp only [Act.put, List.getElem_toArray, List.getElem_cons_zero, List.getElem_cons_succ, List.setIfInBounds_toArray, List.set_cons_zero, List.set_cons_succ])
  refine heldz_take (fun _ => trivial) [12] 5 (.slice o1 m.length cap1) (by kernel_rfl) rfl (by kernel_rfl) (fun _ _ _ h => h) SD.out.facts (by kernel_rfl) ?_ ?_
  ·intro wz hSw; obtain ⟨cb, cp⟩ := hSw; (first | (go_simp; done) | (go_simp; with_reducible rfl))
  (try simp only [Act.put, List.getElem_toArray, List.getElem_cons_zero, List.getElem_cons_succ, List.setIfInBounds_toArray, List.set_cons_zero, List.set_cons_succ])
  refine heldz_take (fun _ => trivial) [12] 6 (?_) (by kernel_rfl) rfl (by kernel_rfl) (fun _ _ _ h => h) SD.out.facts (by kernel_rfl) ?_ ?_
  rotate_left
  ·intro wz hSw; (first | (go_simp; done) | (go_simp; with_reducible rfl))
  (try simp only [Act.put, List.getElem_toArray, List.getElem_cons_zero, List.getElem_cons_succ, List.setIfInBounds_toArray, List.set_cons_zero, List.set_cons_succ])
  refine heldz_step (fun _ => trivial) 7 (by kernel_rfl) rfl (fun K hK => ?_)
  go_simp
  have SA := Lib.hid (SD.out.alloc (.cells #[.int .u8 (x : Int)] 5))
  have NB := Lib.hid (lit_row (W.drewN 1) [x] #[.int .u8 (x : Int)] rfl (0, 0))
  have HB1 := Lib.hid ((bdrew0 W.heap.size W 1).alloc (Nat.le_refl _) (.cells #[.int .u8 (x : Int)] 5))
  refine hK.out _ _ (fun _ => SA.out.facts) ?_
  clear hK K
  (try simp only [Act.put, List.getElem_toArray, List.getElem_cons_zero, List.getElem_cons_succ, List.setIfInBounds_toArray, List.set_cons_zero, List.set_cons_succ])
  refine heldz_step (fun _ => trivial) 8 (by kernel_rfl) rfl (fun K hK => ?_)
  rw [if_pos (by kernel_rfl)]
  refine wpIn_appT (fun _ => trivial) (.tmp 16) (.tmp 18) rfl B (.slice o1 m.length cap1) m rfl SA.out.own (some ⟨W.heap.size, 0, none⟩) [x] 1 rfl (fun h => by cases h) NB.out (by have := HLEN.out; simp; omega) (Nat.le_trans HBS.out HB1.out.size) ?_
  intro v2 w2 ho2 hg2 hn2
  have S2 := Lib.hid (SA.out.step HB1.out ho2 hg2 hn2)
  clear ho2 hg2 hn2 SA SD NB HB1
  refine hK.out _ _ (fun _ => S2.out.facts) ?_
  clear hK K
  (try simp only [Act.put, List.getElem_toArray, List.getElem_cons_zero, List.getElem_cons_succ, List.setIfInBounds_toArray, List.set_cons_zero, List.set_cons_succ])
  obtain ⟨q, hq⟩ : ∃ q, m ++ [x] = q := ⟨_, rfl⟩
  rw [hq] at S2
  have HQ := Lib.hid hq
  clear hq
  obtain ⟨o2, cap2, rfl, _, _, _, _, _⟩ := S2.out.own.open
  have f2 := S2.out.free
  have c2 := S2.out.facts.2
  refine heldz_take (fun _ => trivial) [10, 11, 12] 9 (?_) (by kernel_rfl) rfl (by kernel_rfl) (fun _ _ _ h => h) S2.out.facts (by kernel_rfl) ?_ ?_
  rotate_left
  ·intro wz hSw; (first | (go_simp; done) | (go_simp; with_reducible rfl))
  (try simp only [Act.put, List.getElem_toArray, List.getElem_cons_zero, List.getElem_cons_succ, List.setIfInBounds_toArray, List.set_cons_zero, List.set_cons_succ])
  refine heldz_take (fun _ => trivial) [11, 12] 10 (?_) (by kernel_rfl) rfl (by kernel_rfl) (fun _ _ _ h => h) S2.out.facts (by kernel_rfl) ?_ ?_
  rotate_left
  ·intro wz hSw; (first | (go_simp; done) | (go_simp; with_reducible rfl))
  (try simp only [Act.put, List.getElem_toArray, List.getElem_cons_zero, List.getElem_cons_succ, List.setIfInBounds_toArray, List.set_cons_zero, List.set_cons_succ])
  refine heldz_take (fun _ => trivial) [12] 11 (?_) (by kernel_rfl) rfl (by kernel_rfl) (fun _ _ _ h => h) S2.out.facts (by kernel_rfl) ?_ ?_
  rotate_left
  ·intro wz hSw; (first | (go_simp; done) | (go_simp; with_reducible rfl))
  (try simp only [Act.put, List.getElem_toArray, List.getElem_cons_zero, List.getElem_cons_succ, List.setIfInBounds_toArray, List.set_cons_zero, List.set_cons_succ])
  refine heldz_step (fun _ => trivial) 12 (by kernel_rfl) rfl (fun K hK => ?_)
  go_simp
  refine hK.out _ _ (fun h => by cases h) ?_
  clear hK K
  (try simp only [Act.put, List.getElem_toArray, List.getElem_cons_zero, List.getElem_cons_succ, List.setIfInBounds_toArray, List.set_cons_zero, List.set_cons_succ])
  refine heldz_done (by kernel_rfl) ?_ _
  have S4 := Lib.hid (S2.out.put (Below.refl _ _))
  clear f2 c2 S2
  refine ⟨S4.out.keeps.from _, _, ?_, HT.out.trans S4.out.turn, ?_⟩
  ·have e : q = l ++ (form n).take (j + 1) := by rw [← HQ.out, ← HM.out, List.append_assoc, ← HTK.out]
   rw [← e]
   exact S4.out.ws
  ·rw [S4.out.turn.block _ (by have := (Array.getElem?_eq_some_iff.1 HCB.out).1; omega) (by omega) (fun e => HS.out.own.apart HCB.out (by decide) _ e rfl)]
   exact HCB.out
 case done =>
  rintro D W hD ⟨v, ws, ht, hc⟩ hdef
  rw [List.take_length] at ws
  have HE : Hid (PCall B p v0 (l ++ form n) false w (.returned undef) (W.putObj D (.deferred none))) := Lib.hid (by
   have hk : Kept w.heap.size W (W.putObj D (.deferred none)) := Kept.putObj _ (by have := HS0.out; omega) hdef rfl
   exact ⟨rfl, v, ⟨hk.cells ws.row, ws.own.kept hk⟩, ht.kept (Nat.le_refl _) hk⟩)
  clear ws ht hc
  go_wp2_with fail
  refine ⟨by simp, .inl ⟨_, _, rfl, run_takeDeferred hdef, ?_⟩⟩
  exact ⟨_, results_none rfl _ _ _, HE.out⟩
 case stop =>
  rintro D W hD h hdef
  exact h.elim
end Go.Proofs.YtbbhmhihpdmoiaaGreat.Pk

set_option linter.unusedVariables false
set_option linter.unusedSimpArgs false
namespace Go.Proofs.YtbbhmhihpdmoiaaGreat.Pk
open Go Go.RowKit
theorem PW.cells {B p : Nat} {v : Value} {l : List Nat} {lost : Bool} {W : World} (h : PW B p v l lost W) : W.cell? ⟨p, 0, none⟩ = some (.bool true) ∧ W.cell? ⟨p, 1, none⟩ = some (.bool lost) ∧ W.cell? ⟨p, 2, none⟩ = some v ∧ W.frozen? ⟨p, 1, none⟩ = false ∧ W.frozen? ⟨p, 2, none⟩ = false :=
 ⟨by rw [cell_of_row _ _ _ _ _ _ h.row]; rfl, by rw [cell_of_row _ _ _ _ _ _ h.row]; rfl, by rw [cell_of_row _ _ _ _ _ _ h.row]; rfl, frozen_row h.row, frozen_row h.row⟩
theorem PW.below {B p : Nat} {v : Value} {l : List Nat} {lost : Bool} {W X : World} (h : PW B p v l lost W) (hb : Below W.heap.size W X) : PW B p v l lost X := ⟨keep_row hb h.row, h.own.below hb⟩
theorem PW.spoil {B p : Nat} {v : Value} {l : List Nat} {lost : Bool} {W : World} (h : PW B p v l lost W) : PW B p v l true (W.setCell ⟨p, 1, none⟩ (.bool true)) :=
 ⟨heap_setCell_same _ _ 1 _ _ (.bool true) h.row, h.own.grown (grown_cell _ _ _ _) (fun k hk e => h.own.apart h.row (by decide) k hk (Option.some.inj e))⟩
theorem PW.lt {B p : Nat} {v : Value} {l : List Nat} {lost : Bool} {W : World} (h : PW B p v l lost W) : p < W.heap.size := (Array.getElem?_eq_some_iff.1 h.row).1
theorem puint_off (B p n : Nat) (v : Value) (l : List Nat) (w : World) (hw : PW B p v l true w) :
  Calls Tryz.prog 93 #[.pointer (some ⟨p, 0, none⟩), .int .u64 (n : Int)] w (PCall B p v l true w) := by
 have hb : Below w.heap.size w (w.alloc (.cells #[.pointer (some ⟨p, 0, none⟩)] 75)) := (Below.refl _ w).alloc (Nat.le_refl _) _
 obtain ⟨d0, d1, _⟩ := (hw.below hb).cells
 have HF := Lib.hid (writer_fault p true true _ d0 d1)
 have HE : Hid (PCall B p v l true w (.returned undef) (w.alloc (.cells #[.pointer (some ⟨p, 0, none⟩)] 75))) := Lib.hid ⟨rfl, v, hw.below hb, Turn.of_below hb⟩
 clear hw hb d0 d1
 refine (callsIn_wide (n := 5)).1 ?_
 refine callsIn_of_wp_marks Tryz.func93 rfl trivial ?_ rfl
 simp only [Tryz.ntmps93, List.size_toArray, List.length_cons, List.length_nil, Nat.reduceAdd, Nat.reduceSub, Array.replicate_succ, Array.replicate_zero, List.push_toArray, List.append_toArray, List.nil_append, List.cons_append]
 refine wpIn_wide.2 ?_
 go_wp2_with fail
 refine HF.out.mono ?_
 rintro e w1 ⟨rfl, rfl⟩
 simp only [fl, if_true]
 clear HF
 go_wp2_with fail
 exact ⟨_, results_none rfl _ _ _, HE.out⟩
theorem puint_any (B p n : Nat) (v : Value) (l : List Nat) (lost : Bool) (w : World) (hB : B ≤ w.heap.size) (hn : n < 18446744073709551616) (hlen : l.length ≤ 100000000) (hw : PW B p v l lost w) :
  Calls Tryz.prog 93 #[.pointer (some ⟨p, 0, none⟩), .int .u64 (n : Int)] w (PCall B p v (putL l (form n) lost true) (putB lost true) w) := by
 cases lost with
 | true => exact puint_off B p n v l w hw
 | false => exact puint_on B p n v l w hB hn hlen hw
theorem unsigned_any (z : Int) (w : World) (h0 : -9223372036854775808 ≤ z) (h1 : z ≤ 9223372036854775807) :
  Calls Tryz.prog 132 #[.int .i64 z] w fun e w' => e = .returned (.int .u64 ((fold z : Nat) : Int)) ∧ w = w' := by
 by_cases h : 0 ≤ z
 ·have e : ((fold z : Nat) : Int) = 2 * z := by unfold fold; rw [if_pos h]; omega
  rw [e]
  have h2 : ¬ z < 0 := by omega
  go_enter Tryz.func132, Tryz.ntmps132
  go_wp2_with fail
  go_ret
  refine ⟨congrArg _ ?_, rfl⟩
  show Value.int .u64 _ = _
  congr 1
  (try simp only [IntKind.wrap_u64])
  (try omega)
 ·have e : ((fold z : Nat) : Int) = 2 * (-(z + 1)) + 1 := by unfold fold; rw [if_neg h]; omega
  rw [e]
  have h2 : z < 0 := by omega
  go_enter Tryz.func132, Tryz.ntmps132
  go_wp2_with fail
  go_ret
  refine ⟨congrArg _ ?_, rfl⟩
  show Value.int .u64 _ = _
  congr 1
  (try simp only [IntKind.wrap_u64])
  (try omega)
set_option maxRecDepth 100000 in
set_option maxHeartbeats 1000000 in
theorem pint_any (B p : Nat) (z : Int) (v : Value) (l : List Nat) (lost : Bool) (w : World) (hB : B ≤ w.heap.size) (h0 : -9223372036854775808 ≤ z) (h1 : z ≤ 9223372036854775807) (hlen : l.length ≤ 100000000) (hw : PW B p v l lost w) :
  Calls Tryz.prog 103 #[.pointer (some ⟨p, 0, none⟩), .int .i64 z] w (PCall B p v (putL l (form (fold z)) lost true) (putB lost true) w) := by
 have HF := Lib.hid (fun w => unsigned_any z w h0 h1)
 have HP := Lib.hid (puint_any B p (fold z) v l lost w hB (fold_lt h0 h1) hlen hw)
 clear hw h0 h1 hlen
 generalize fold z = n at *
 go_enter Tryz.func103, Tryz.ntmps103
 go_wp2_with fail
 refine (HF.out _).mono ?_
 rintro e w0 ⟨rfl, rfl⟩
 go_wp2_with fail
 refine HP.out.mono ?_
 rintro e w2 ⟨rfl, hz⟩
 have HE := Lib.hid hz
 clear hz HP
 go_wp2_with fail
 exact bodyPost_ret (results_none rfl _ _ _) rfl ⟨rfl, HE.out⟩
end Go.Proofs.YtbbhmhihpdmoiaaGreat.Pk

set_option linter.unusedVariables false
set_option linter.unusedSimpArgs false
namespace Go.Proofs.YtbbhmhihpdmoiaaGreat.Pk
open Go Go.RowKit
set_option maxRecDepth 100000 in
set_option maxHeartbeats 2000000 in
theorem psmall_any (B p : Nat) (n most : Int) (v : Value) (l : List Nat) (lost : Bool) (w : World) (hB : B ≤ w.heap.size) (h0 : -9223372036854775808 ≤ n) (h1 : n ≤ 9223372036854775807) (hlen : l.length ≤ 100000000) (hw : PW B p v l lost w) :
  Calls Tryz.prog 52 #[.pointer (some ⟨p, 0, none⟩), .int .i64 n, .int .i64 most] w (PCall B p v (putL l (form n.toNat) lost (mayB n most)) (putB lost (mayB n most)) w) := by
 obtain ⟨c0, c1, _, f1, _⟩ := hw.cells
 have HF := Lib.hid (writer_fault p true lost w c0 c1)
 obtain ⟨N, hN⟩ : ∃ N : Nat, IntKind.u64.wrap n = (N : Int) := ⟨(n % 18446744073709551616).toNat, by rw [IntKind.wrap_u64]; omega⟩
 have hN64 : N < 18446744073709551616 := by rw [IntKind.wrap_u64] at hN; omega
 have hNn : 0 ≤ n → N = n.toNat := fun h => by rw [IntKind.wrap_u64] at hN; omega
 cases lost with
 | true =>
  have HP := Lib.hid (puint_any B p N v l true w hB hN64 hlen hw)
  have e1 : putL l (form n.toNat) true (mayB n most) = l := by unfold putL; simp
  have e2 : putB true (mayB n most) = true := rfl
  have e3 : putL l (form N) true true = l := by unfold putL; simp
  have e4 : putB true true = true := rfl
  rw [e1, e2]
  rw [e3, e4] at HP
  clear hw hN64 hNn e1 e2 e3 e4
  go_enter Tryz.func52, Tryz.ntmps52
  go_wp2_with fail
  refine HF.out.mono ?_
  rintro e w0 ⟨rfl, rfl⟩
  simp only [fl, if_true]
  go_wp2_with fail
  refine HP.out.mono ?_
  rintro e w2 ⟨rfl, hz⟩
  have HE := Lib.hid hz
  clear hz HP
  go_wp2_with fail
  exact bodyPost_ret (results_none rfl _ _ _) rfl ⟨rfl, HE.out⟩
 | false =>
  have HG := Lib.hid hw
  by_cases g : 0 ≤ n ∧ n ≤ most
  ·have hm : mayB n most = true := decide_eq_true g
   have HP := Lib.hid (puint_any B p N v l false w hB hN64 hlen hw)
   rw [hm, ← hNn g.1]
   obtain ⟨g0, g1⟩ := g
   have d0 : ¬ n < 0 := by omega
   have d1 : ¬ most < n := by omega
   clear hw hN64 hNn hm HG
   go_enter Tryz.func52, Tryz.ntmps52
   go_wp2_with fail
   refine HF.out.mono ?_
   rintro e w0 ⟨rfl, rfl⟩
   simp only [fl, if_true, Bool.false_eq_true, if_false]
   go_wp2_with fail
   refine HP.out.mono ?_
   rintro e w2 ⟨rfl, hz⟩
   have HE := Lib.hid hz
   clear hz HP
   go_wp2_with fail
   exact bodyPost_ret (results_none rfl _ _ _) rfl ⟨rfl, HE.out⟩
  ·have hm : mayB n most = false := decide_eq_false g
   have hs := hw.spoil
   have HP := Lib.hid (puint_any B p N v l true _ (by simpa using hB) hN64 hlen hs)
   have e3 : putL l (form N) true true = l := by unfold putL; simp
   have e4 : putB true true = true := rfl
   have e5 : putL l (form n.toNat) false false = l := by unfold putL; simp
   have e6 : putB false false = true := rfl
   rw [hm, e5, e6]
   rw [e3, e4] at HP
   have HT := Lib.hid (Turn.set p 1 v (.bool true) w)
   clear hw hN64 hNn hm hs e3 e4 e5 e6
   by_cases g0 : n < 0
   ·clear g
    go_enter Tryz.func52, Tryz.ntmps52
    go_wp2_with fail
    refine HF.out.mono ?_
    rintro e w0 ⟨rfl, rfl⟩
    simp only [fl, if_true, Bool.false_eq_true, if_false]
    go_wp2_with fail
    refine HP.out.mono ?_
    rintro e w2 ⟨rfl, v2, h2, t2⟩
    have HE : Hid (∃ v', PW B p v' l true w2 ∧ Turn p v v' w w2) := Lib.hid ⟨v2, h2, HT.out.trans t2⟩
    clear h2 t2 HP HT
    go_wp2_with fail
    exact bodyPost_ret (results_none rfl _ _ _) rfl ⟨rfl, HE.out⟩
   ·have d1 : most < n := by omega
    clear g
    go_enter Tryz.func52, Tryz.ntmps52
    go_wp2_with fail
    refine HF.out.mono ?_
    rintro e w0 ⟨rfl, rfl⟩
    simp only [fl, if_true, Bool.false_eq_true, if_false]
    go_wp2_with fail
    refine HP.out.mono ?_
    rintro e w2 ⟨rfl, v2, h2, t2⟩
    have HE : Hid (∃ v', PW B p v' l true w2 ∧ Turn p v v' w w2) := Lib.hid ⟨v2, h2, HT.out.trans t2⟩
    clear h2 t2 HP HT
    go_wp2_with fail
    exact bodyPost_ret (results_none rfl _ _ _) rfl ⟨rfl, HE.out⟩
theorem own_empty (w : World) : Own (w.alloc (.cells #[] 5)) w.heap.size (.slice (some ⟨w.heap.size, 0, none⟩) 0 0) [] :=
 ⟨rfl, .inr ⟨w.heap.size, 0, #[], rfl, Nat.le_refl _, heap_alloc_new _ _, Nat.le_refl _, by unfold maxLen; omega, rfl, rfl⟩⟩
set_option maxRecDepth 100000 in
set_option maxHeartbeats 2000000 in
theorem clone_any (o : Option Addr) (c : Nat) (m : List Nat) (w : World) (hc : o = none → c = 0) (hlen : m.length ≤ 1000000000) (hb : Bs w o m) :
  Calls Tryz.prog 96 #[.slice o m.length c] w fun e w' => (∃ v, e = .returned v ∧ Own w' w.heap.size v m) ∧ Below w.heap.size w w' := by
 cases o with
 | none =>
  obtain rfl := nil_of hb
  obtain rfl := hc rfl
  clear hb hc
  have ee : ∀ w, (binOp .eql 31 (.slice none 0 0) (.slice none 0 0)).run Tryz.prog w = .ok (.bool true) w := fun w => run_eql_nil w 31 5 none 0 0 Tryz.underlying31
  simp only [List.length_nil]
  go_enter Tryz.func96, Tryz.ntmps96
  go_wp2_with fail
  go_ret
  exact ⟨⟨_, rfl, World.ownsRow_nil _ _ _ _⟩, Below.refl _ _⟩
 | some a =>
  have HB := Lib.hid hb
  have HL := Lib.hid hlen
  clear hb hc hlen
  have ee : ∀ w, (binOp .eql 31 (.slice (some a) m.length c) (.slice none 0 0)).run Tryz.prog w = .ok (.bool false) w := fun w => run_eql_nil w 31 5 (some a) m.length c Tryz.underlying31
  go_enter Tryz.func96, Tryz.ntmps96
  have HO := Lib.hid (own_empty w)
  have HB2 := Lib.hid (HB.out.below ((Below.refl _ w).alloc (Nat.le_refl _) (.cells #[] 5)))
  have HN := Lib.hid ((Below.refl w.heap.size w).alloc (Nat.le_refl _) (.cells #[] 5))
  go_wp2_with (at_builtin; refine app_at rfl (.tmp 5) (.tmp 6) rfl w.heap.size _ [] rfl HO.out (some a) m c rfl (fun h => by cases h) HB2.out (by have := HL.out; simp; omega) (by simp) ?_; intro v1 w1 ho1 hg1 _)
  have HE : Hid (Own w1 w.heap.size v1 m ∧ Below w.heap.size w w1) := Lib.hid ⟨ho1, HN.out.grown hg1 (by simp) (fun k hk => by cases hk; exact Nat.le_refl _)⟩
  clear ho1 hg1 HO HB HB2 HN HL
  go_ret
  exact ⟨⟨v1, rfl, HE.out.1⟩, HE.out.2⟩
def BytesPost (p : Nat) (l : List Nat) (lost : Bool) (w : World) (e : Ending) (w' : World) : Prop :=
 (∃ v, e = .returned (.tuple #[v, .int .i64 (fl true lost)]) ∧ Own w' w.heap.size v (if lost then [] else l)) ∧ Below w.heap.size w w'
set_option maxRecDepth 100000 in
set_option maxHeartbeats 2000000 in
theorem pbytes_any (B p : Nat) (v : Value) (l : List Nat) (lost : Bool) (w : World) (hlen : l.length ≤ 100000000) (hw : PW B p v l lost w) :
  Calls Tryz.prog 64 #[.pointer (some ⟨p, 0, none⟩)] w (BytesPost p l lost w) := by
 obtain ⟨c0, c1, c2, _, _⟩ := hw.cells
 have HF := Lib.hid (writer_fault p true lost w c0 c1)
 cases lost with
 | true =>
  clear hw
  go_enter Tryz.func64, Tryz.ntmps64
  go_wp2_with fail
  refine HF.out.mono ?_
  rintro e w0 ⟨rfl, rfl⟩
  simp only [fl, if_true]
  go_wp2_with fail
  exact bodyPost_ret (results_tmp2 rfl _ _ _) rfl ⟨⟨_, rfl, World.ownsRow_nil _ _ _ _⟩, Below.refl _ _⟩
 | false =>
  obtain ⟨o, cap, rfl, hbs, _, _, hn0, _⟩ := hw.own.open
  have HC := Lib.hid (clone_any o cap l w hn0 (by omega) hbs)
  clear hw hbs hn0
  go_enter Tryz.func64, Tryz.ntmps64
  go_wp2_with fail
  refine HF.out.mono ?_
  rintro e w0 ⟨rfl, rfl⟩
  simp only [fl, if_true, Bool.false_eq_true, if_false]
  go_wp2_with fail
  refine HC.out.mono ?_
  rintro e w1 ⟨⟨v1, rfl, ho⟩, hb⟩
  have HE : Hid (Own w1 w.heap.size v1 l ∧ Below w.heap.size w w1) := Lib.hid ⟨ho, hb⟩
  clear ho hb HC
  go_wp2_with fail
  exact bodyPost_ret (results_tmp2 rfl _ _ _) rfl ⟨⟨v1, rfl, HE.out.1⟩, HE.out.2⟩
theorem Bs.turn {W X : World} {o : Option Addr} {m : List Nat} {p : Nat} {v v' : Value} (hb : Bs W o m) (t : Turn p v v' W X) (h : ∀ b off, o = some ⟨b, off, none⟩ → 0 < m.length → b ≠ p ∧ v.ownBlock ≠ some b) : Bs X o m := fun i hi => by
 obtain ⟨b, off, e, hc⟩ := hb i hi
 refine ⟨b, off, e, ?_⟩
 obtain ⟨h1, h2⟩ := h b off e (by omega)
 rw [World.cell?_of_block (t.block b (block_lt_of_cell hc) h1 h2)]
 exact hc
end Go.Proofs.YtbbhmhihpdmoiaaGreat.Pk

set_option linter.unusedVariables false
set_option linter.unusedSimpArgs false
namespace Go.Proofs.YtbbhmhihpdmoiaaGreat.Pk
open Go Go.RowKit
end Go.Proofs.YtbbhmhihpdmoiaaGreat.Pk
