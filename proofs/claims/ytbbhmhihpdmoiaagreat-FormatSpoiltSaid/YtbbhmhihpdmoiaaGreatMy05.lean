import Derived.Laws.Rows
import Derived.Test.YtbbhmhihpdmoiaaGreatProg
import Derived.Shelf.Abstract
import Derived.Shelf.RegionOpen
import Derived.OwnWalkIn
import Derived.TacticsInMore
import Derived.LoopNIn
import Derived.LoopIn
import Derived.WalkMore
import Derived.Deep.RegionHeld3
import Derived.Test.YtbbhmhihpdmoiaaGreatMy00
import Derived.Test.YtbbhmhihpdmoiaaGreatMy01
import Derived.Test.YtbbhmhihpdmoiaaGreatMy03
import Derived.Test.YtbbhmhihpdmoiaaGreatMy04
/- pack.first, walked: the number whose form stands at the head. -/
set_option linter.unusedVariables false
set_option linter.unusedSimpArgs false
namespace Go.Proofs.YtbbhmhihpdmoiaaGreat.Pk
open Go.Proofs.YtbbhmhihpdmoiaaGreat.Fx (Kept heldz_done heldz_region heldz_step heldz_take wpIn_range_jump)
open Go Go.RowKit Go.Shelf
attribute [local go_sem] Oper.semAt_some
/-- the boxes of pack.first: the bytes, the two results, how far it is, the number -/
structure FS (o : Option Addr) (c : Nat) (l : List Nat) (n k : Nat) (x y : Int) (w W : World) : Prop where
  box : W.heap[w.heap.size]? = some (.cells #[.slice o l.length c] 31 (0, 0))
  r1 : W.heap[w.heap.size + 1]? = some (.cells #[.int .u64 x] 89 (0, 0))
  r2 : W.heap[w.heap.size + 1 + 1]? = some (.cells #[.int .i64 y] 3 (0, 0))
  len : W.heap[w.heap.size + 1 + 1 + 1]? = some (.cells #[.int .i64 (k : Int)] 3 (0, 0))
  frm : W.heap[w.heap.size + 1 + 1 + 1 + 1]? = some (.cells #[.int .u64 (n : Int)] 89 (0, 0))
  below : Below w.heap.size w W
theorem FS.kept {o : Option Addr} {c : Nat} {l : List Nat} {n k B : Nat} {x y : Int} {w W X : World} (hB : w.heap.size ≤ B) (h : Kept B W X) (s : FS o c l n k x y w W) : FS o c l n k x y w X :=
  ⟨h.cells s.box, h.cells s.r1, h.cells s.r2, h.cells s.len, h.cells s.frm, h.below hB s.below⟩
theorem FS.drew {o : Option Addr} {c : Nat} {l : List Nat} {n k : Nat} {x y : Int} {w W : World} (s : FS o c l n k x y w W) : FS o c l n k x y w W.drew := ⟨s.box, s.r1, s.r2, s.len, s.frm, ⟨s.below.os, s.below.tape, s.below.output, s.below.size, s.below.block⟩⟩
theorem FS.facts {o : Option Addr} {c : Nat} {l : List Nat} {n k : Nat} {x y : Int} {w W : World} (s : FS o c l n k x y w W) :
    W.cell? ⟨w.heap.size, 0, none⟩ = some (.slice o l.length c) ∧ W.cell? ⟨w.heap.size + 1, 0, none⟩ = some (.int .u64 x) ∧ W.cell? ⟨w.heap.size + 1 + 1, 0, none⟩ = some (.int .i64 y) ∧ W.cell? ⟨w.heap.size + 1 + 1 + 1, 0, none⟩ = some (.int .i64 (k : Int)) ∧
    W.frozen? ⟨w.heap.size + 1, 0, none⟩ = false ∧ W.frozen? ⟨w.heap.size + 1 + 1, 0, none⟩ = false ∧ W.frozen? ⟨w.heap.size + 1 + 1 + 1, 0, none⟩ = false :=
  ⟨by rw [cell_of_row _ _ _ _ _ _ s.box]; rfl, by rw [cell_of_row _ _ _ _ _ _ s.r1]; rfl, by rw [cell_of_row _ _ _ _ _ _ s.r2]; rfl, by rw [cell_of_row _ _ _ _ _ _ s.len]; rfl, frozen_row s.r1, frozen_row s.r2, frozen_row s.len⟩
theorem FS.reads {o : Option Addr} {c : Nat} {l : List Nat} {n k : Nat} {x y : Int} {w W : World} (s : FS o c l n k x y w W) : FrmM n (w.heap.size + 1 + 1 + 1 + 1) W := by
  unfold FrmM
  rw [cell_of_row _ _ _ _ _ _ s.frm]
  rfl
theorem FS.next {o : Option Addr} {c : Nat} {l : List Nat} {n k : Nat} {x y : Int} {w W : World} (s : FS o c l n k x y w W) (j : Nat) (z : Int) (hz : z = (j : Int)) : FS o c l n j x y w (W.setCell ⟨w.heap.size + 1 + 1 + 1, 0, none⟩ (.int .i64 z)) := by
  subst hz
  exact ⟨by rw [heap_setCell_other _ _ _ _ (by show _ ≠ w.heap.size + 1 + 1 + 1; omega)]; exact s.box, by rw [heap_setCell_other _ _ _ _ (by show _ ≠ w.heap.size + 1 + 1 + 1; omega)]; exact s.r1, by rw [heap_setCell_other _ _ _ _ (by show _ ≠ w.heap.size + 1 + 1 + 1; omega)]; exact s.r2,
    heap_setCell_same _ _ 0 _ _ _ s.len, by rw [heap_setCell_other _ _ _ _ (by show _ ≠ w.heap.size + 1 + 1 + 1; omega)]; exact s.frm, s.below.setCell (p := ⟨w.heap.size + 1 + 1 + 1, 0, none⟩) (by show _ ≤ w.heap.size + 1 + 1 + 1; omega) _⟩
theorem FS.put {o : Option Addr} {c : Nat} {l : List Nat} {n k : Nat} {x y x2 y2 : Int} {w W : World} (s : FS o c l n k x y w W) : FS o c l n k x2 y2 w ((W.setCell ⟨w.heap.size + 1, 0, none⟩ (.int .u64 x2)).setCell ⟨w.heap.size + 1 + 1, 0, none⟩ (.int .i64 y2)) := by
  have a1 := heap_setCell_same W _ 0 _ _ (.int .u64 x2) s.r1
  have o1 : ∀ {g : Nat} {ob : Obj}, g ≠ w.heap.size + 1 → g ≠ w.heap.size + 1 + 1 → W.heap[g]? = some ob → ((W.setCell ⟨w.heap.size + 1, 0, none⟩ (.int .u64 x2)).setCell ⟨w.heap.size + 1 + 1, 0, none⟩ (.int .i64 y2)).heap[g]? = some ob := fun h1 h2 h => by
    rw [heap_setCell_other _ _ _ _ h2, heap_setCell_other _ _ _ _ h1]
    exact h
  refine ⟨o1 (by omega) (by omega) s.box, ?_, ?_, o1 (by omega) (by omega) s.len, o1 (by omega) (by omega) s.frm, (s.below.setCell (p := ⟨w.heap.size + 1, 0, none⟩) (by show _ ≤ w.heap.size + 1; omega) _).setCell (p := ⟨w.heap.size + 1 + 1, 0, none⟩) (by show _ ≤ w.heap.size + 1 + 1; omega) _⟩
  · rw [heap_setCell_other _ _ _ _ (by show _ ≠ w.heap.size + 1 + 1; omega)]
    exact a1
  · have a2 : (W.setCell ⟨w.heap.size + 1, 0, none⟩ (.int .u64 x2)).heap[w.heap.size + 1 + 1]? = some (.cells #[.int .i64 y] 3 (0, 0)) := by
      rw [heap_setCell_other _ _ _ _ (by show _ ≠ w.heap.size + 1; omega)]
      exact s.r2
    exact heap_setCell_same _ _ 0 _ _ (.int .i64 y2) a2
/-- behind k rounds; left -/
def FI (o : Option Addr) (c : Nat) (l : List Nat) (n : Nat) (w : World) (k : Nat) (W : World) : Prop := FS o c l n k 0 0 w W ∧ k ≤ l.length ∧ l.take k = (form n).take k
def FX (o : Option Addr) (c : Nat) (l : List Nat) (n : Nat) (w : World) (W : World) : Prop := (∃ k, FS o c l n k 0 0 w W) ∧ (form n).isPrefixOf l = false
def FA (o : Option Addr) (c : Nat) (l : List Nat) (n : Nat) (w : World) (k : Nat) (a : Act) : Prop :=
  a = { tmps := #[.slice o l.length c, .pointer (some ⟨w.heap.size, 0, none⟩), .pointer (some ⟨w.heap.size + 1, 0, none⟩), .pointer (some ⟨w.heap.size + 1 + 1, 0, none⟩), .int .u64 (n : Int), .pointer (some ⟨w.heap.size + 1 + 1 + 1, 0, none⟩), .int .u8 (((form n).getD k 0 : Nat) : Int),
    .slice o l.length c, .int .u64 (n : Int), .int .u64 (n : Int), .func (.func 139) #[] #[.pointer (some ⟨w.heap.size + 1 + 1 + 1 + 1, 0, none⟩)], .int .u8 (((form n).getD k 0 : Nat) : Int), undef, undef, undef, undef, undef, undef, undef, undef, undef, undef, undef, undef, undef, undef, undef, undef], defers := [] }
theorem pre_all {l m : List Nat} {k : Nat} (hk : k = m.length) (h : l.take k = m.take k) : m.isPrefixOf l = true := by
  subst hk
  rw [List.take_length] at h
  exact List.isPrefixOf_iff_prefix.2 ⟨l.drop m.length, by
    have := List.take_append_drop m.length l
    rw [h] at this
    exact this⟩
theorem pre_short {l m : List Nat} {k : Nat} (hk : k < m.length) (h : k = l.length) : m.isPrefixOf l = false := by
  rw [Bool.eq_false_iff]
  intro hp
  have := (List.isPrefixOf_iff_prefix.1 hp).length_le
  omega
theorem pre_ne {l m : List Nat} {k : Nat} (hk : k < m.length) (hl : k < l.length) (h : l.getD k 0 ≠ m.getD k 0) : m.isPrefixOf l = false := by
  rw [Bool.eq_false_iff]
  intro hp
  obtain ⟨t, rfl⟩ := List.isPrefixOf_iff_prefix.1 hp
  apply h
  simp [List.getD, List.getElem?_append_left hk]
theorem take_eq {l m : List Nat} {k : Nat} (hk : k < m.length) (hl : k < l.length) (h : l.getD k 0 = m.getD k 0) (ht : l.take k = m.take k) : l.take (k + 1) = m.take (k + 1) := by
  rw [take_get hk, take_get hl, h, ht]
/-- what pack.first answers -/
def fsV (r : Option (Nat × Nat)) : Value := .tuple #[.int .u64 ((upV r : Nat) : Int), .int .i64 (((r.map (·.2)).getD 0 : Nat) : Int)]
def FirstPost (l : List Nat) (w : World) (e : Ending) (w' : World) : Prop := e = .returned (fsV (rd M64 l)) ∧ Below w.heap.size w w'
set_option maxRecDepth 100000 in
set_option maxHeartbeats 4000000 in
theorem first_any (o : Option Addr) (c : Nat) (l : List Nat) (w : World) (hby : By l) (hlen : l.length ≤ 1000000000) (hc : l.length ≤ c ∧ c ≤ 9223372036854775807 ∧ (o = none → c = 0)) (hb : Bs w o l) :
    Calls Tryz.prog 114 #[.slice o l.length c] w (FirstPost l w) := by
  have hrd := rd_val l hby
  obtain ⟨n, hn⟩ : ∃ n, valN l = n := ⟨_, rfl⟩
  have hn64 : n < 18446744073709551616 := by rw [← hn]; exact valN_lt l
  have HVAL : Hid (∀ W : World, Below w.heap.size w W → Calls Tryz.prog 138 #[.slice o l.length c] W fun e w' => e = .returned (.int .u64 (n : Int)) ∧ W = w') := Lib.hid (fun W h => by
    have := value_any o c l W hby hlen hc (hb.below h)
    rw [hn] at this
    exact this)
  rw [hn] at hrd
  have HRD := Lib.hid hrd
  have HBS := Lib.hid hb
  have HBY := Lib.hid hby
  have HLEN := Lib.hid hlen
  clear hrd hn hb hby hlen hc
  obtain ⟨W1, hW1⟩ : ∃ W1, ((w.alloc (.cells #[.slice o l.length c] 31)).alloc (.cells #[.int .u64 0] 89)).alloc (.cells #[.int .i64 0] 3) = W1 := ⟨_, rfl⟩
  have b1 : Below w.heap.size w W1 := by rw [← hW1]; exact (((Below.refl _ w).alloc (Nat.le_refl _) _).alloc (by simp) _).alloc (by simp; omega) _
  have HV := Lib.hid (HVAL.out W1 b1)
  obtain ⟨W0, hW0⟩ : ∃ W0, (W1.alloc (.cells #[.int .i64 0] 3)).alloc (.cells #[.int .u64 (n : Int)] 89) = W0 := ⟨_, rfl⟩
  have hs1 : W1.heap.size = w.heap.size + 1 + 1 + 1 := by rw [← hW1]; simp
  have h12 : Below W1.heap.size W1 W0 := by rw [← hW0]; exact ((Below.refl _ W1).alloc (Nat.le_refl _) _).alloc (by simp) _
  have F0 : FS o c l n 0 0 0 w W0 := by
    obtain ⟨x1, x2, x3⟩ := block3s w (.cells #[.slice o l.length c] 31) (.cells #[.int .u64 0] 89) (.cells #[.int .i64 0] 3)
    rw [hW1] at x1 x2 x3
    refine ⟨keep_row h12 x1, keep_row h12 x2, keep_row h12 x3, ?_, ?_, bnext b1 h12⟩
    · rw [← hW0, ← hs1]
      exact step_row (heap_alloc_new _ _)
    · rw [← hW0, ← hs1]
      have := heap_alloc_new (W1.alloc (.cells #[.int .i64 0] 3)) (.cells #[.int .u64 (n : Int)] 89)
      rw [World.size_alloc] at this
      exact this
  have HF0 : Hid (FI o c l n w 0 W0) := Lib.hid ⟨F0, Nat.zero_le _, rfl⟩
  have HS0 : Hid (W0.heap.size = w.heap.size + 5) := Lib.hid (by rw [← hW0]; simp [hs1])
  have HW1 := Lib.hid hW1
  have HW0 := Lib.hid hW0
  clear F0 h12 b1 HVAL hW1 hW0
  refine (callsIn_wide (n := 5)).1 ?_
  refine callsIn_of_wp_marks Tryz.func114 rfl trivial ?_ rfl
  simp only [Tryz.ntmps114, List.size_toArray, List.length_cons, List.length_nil, Nat.reduceAdd, Nat.reduceSub, Array.replicate_succ, Array.replicate_zero, List.push_toArray, List.append_toArray, List.nil_append, List.cons_append]
  refine wpIn_wide.2 ?_
  go_wp2_with fail
  rw [HW1.out]
  refine HV.out.mono ?_
  rintro e w1 ⟨rfl, rfl⟩
  clear HV
  go_wp2_with fail
  refine (form_w _ _).mono ?_
  rintro e w' ⟨rfl, rfl⟩
  go_wp2_with fail
  rw [HW0.out]
  refine wpIn_wide.1 (wpIn_range_jump (F := Fence.wide) (n := 5) rfl (by omega) (gf := 139) (lb := #[.pointer (some ⟨w.heap.size + 1 + 1 + 1 + 1, 0, none⟩)]) rfl trivial (enters_of Tryz.func139 (by kernel_rfl) rfl)
    (form_hands n (w.heap.size + 1 + 1 + 1 + 1) hn64) (fun _ => rfl) .ret (FI o c l n w) (FX o c l n w) (fun j a' W => FA o c l n w j a' ∧ FI o c l n w j W)
    ?i1 ?i2 ?i3 ?i4 ?i5 HF0.out ?assign ?body ?done ?stop)
  case i1 => rintro j W X ⟨h1, h2⟩ hk; exact ⟨h1.kept (by have := HS0.out; omega) hk, h2⟩
  case i2 => rintro W X ⟨⟨k, h1⟩, h2⟩ hk; exact ⟨⟨k, h1.kept (by have := HS0.out; omega) hk⟩, h2⟩
  case i3 => rintro j a W X ⟨h0, h1, h2⟩ hk; exact ⟨h0, h1.kept (by have := HS0.out; omega) hk, h2⟩
  case i4 => rintro j W h4; exact h4.1.reads
  case i5 => rintro W ⟨⟨k, h⟩, _⟩; exact h.reads
  case assign =>
    intro l1 j W C hk hI hC
    obtain ⟨x, hx⟩ : ∃ x, (form n).getD j 0 = x := ⟨_, rfl⟩
    simp only [frmElem]
    rw [hx]
    have HX := Lib.hid hx
    clear hx
    gi_wp2
    exact hC _ _ (KeepsFrom.refl _ _) ⟨by unfold FA; rw [HX.out], hI⟩
  case body =>
    rintro l1 j a' W hk ⟨ha, fs, hjl, htk⟩
    unfold FA at ha
    subst ha
    obtain ⟨y, hy⟩ : ∃ y, (form n).getD j 0 = y := ⟨_, rfl⟩
    rw [hy]
    obtain ⟨c0, c1, c2, c3, f1, f2, f3⟩ := fs.facts
    have HK := Lib.hid hk
    have HY := Lib.hid hy
    have HT := Lib.hid htk
    have HS := Lib.hid fs
    have HB := Lib.hid (HBS.out.below fs.below)
    have hl9 := HLEN.out
    clear hk hy htk fs
    have j0 : (0 : Int) ≤ (j : Int) := by omega
    by_cases hj : j = l.length
    · have t1 : (j : Int) = (l.length : Int) := by omega
      have HE : Hid (FX o c l n w ((W.setCell ⟨w.heap.size + 1, 0, none⟩ (.int .u64 0)).setCell ⟨w.heap.size + 1 + 1, 0, none⟩ (.int .i64 0))) := Lib.hid ⟨⟨j, HS.out.put⟩, pre_short HK.out hj⟩
      have HKF : Hid (KeepsFrom W0.heap.size W ((W.setCell ⟨w.heap.size + 1, 0, none⟩ (.int .u64 0)).setCell ⟨w.heap.size + 1 + 1, 0, none⟩ (.int .i64 0))) := Lib.hid (((KeepsOthers.setCell _ _ _).trans (KeepsOthers.setCell _ _ _)).from _)
      clear hj HS HB
      gi_wp2
      exact ⟨rfl, HKF.out, HE.out⟩
    · have hj2 : j < l.length := by omega
      have t1 : ¬ (j : Int) = (l.length : Int) := by omega
      have t2 : (j : Int) < (l.length : Int) := by omega
      obtain ⟨b, off, rfl, hcell⟩ := HB.out j hj2
      obtain ⟨x, hx⟩ : ∃ x, l.getD j 0 = x := ⟨_, rfl⟩
      rw [hx] at hcell
      have HX := Lib.hid hx
      clear hx
      by_cases hxy : x = y
      · subst hxy
        have HE : Hid (∀ z : Int, z = ((j + 1 : Nat) : Int) → FI (some ⟨b, off, none⟩) c l n w (j + 1) (W.setCell ⟨w.heap.size + 1 + 1 + 1, 0, none⟩ (.int .i64 z))) := Lib.hid (fun z hz => ⟨HS.out.next (j + 1) z hz, by omega, take_eq HK.out hj2 (by rw [HX.out, HY.out]) HT.out⟩)
        have hw : IntKind.i64.wrap ((j : Int) + 1) = (j : Int) + 1 := by rw [IntKind.wrap_i64]; omega
        clear HS HB hj
        gi_wp2
        exact ⟨(KeepsOthers.setCell _ _ _).from _, HE.out _ (by omega)⟩
      · have hxy2 : ¬ (x : Int) = (y : Int) := by omega
        have hne : ((x : Int) != (y : Int)) = true := by simpa using hxy2
        have hbq : ((j : Int) == (l.length : Int)) = false := by simpa using t1
        have HE : Hid (FX (some ⟨b, off, none⟩) c l n w ((W.setCell ⟨w.heap.size + 1, 0, none⟩ (.int .u64 0)).setCell ⟨w.heap.size + 1 + 1, 0, none⟩ (.int .i64 0))) := Lib.hid ⟨⟨j, HS.out.put⟩, pre_ne HK.out hj2 (by rw [HX.out, HY.out]; exact hxy)⟩
        have HKF : Hid (KeepsFrom W0.heap.size W ((W.setCell ⟨w.heap.size + 1, 0, none⟩ (.int .u64 0)).setCell ⟨w.heap.size + 1 + 1, 0, none⟩ (.int .i64 0))) := Lib.hid (((KeepsOthers.setCell _ _ _).trans (KeepsOthers.setCell _ _ _)).from _)
        clear hj HS HB
        gi_wp2
        exact ⟨rfl, HKF.out, HE.out⟩
  case done =>
    rintro D W hD ⟨fs, hjl, htk⟩ hdef
    have hr : rd M64 l = some (n, (form n).length) := by rw [HRD.out, if_pos (pre_all rfl htk)]
    obtain ⟨L, hL⟩ : ∃ L, (form n).length = L := ⟨_, rfl⟩
    rw [hL] at fs hr
    obtain ⟨c0, c1, c2, c3, f1, f2, f3⟩ := fs.facts
    have HS := Lib.hid fs
    have HR := Lib.hid hr
    have HDD : Hid (w.heap.size + 5 ≤ D) := Lib.hid (by have := HS0.out; omega)
    clear fs hjl htk hr hL hD
    go_wp2_with fail
    refine wp_region_noPanic ?_
    refine (wpIn_wide (n := 5)).1 ?_
    refine heldz_region (S := fun X => X.cell? ⟨w.heap.size + 1 + 1 + 1, 0, none⟩ = some (.int .i64 (L : Int))) (Z := []) (by kernel_rfl) ?_
    refine heldz_take (fun _ => trivial) [] 0 (?_) (by kernel_rfl) rfl (by kernel_rfl) (fun _ _ _ h => h) c3 (by kernel_rfl) ?_ ?_
    rotate_left
    · intro wz hSw; (first | (go_simp; done) | (go_simp; with_reducible rfl))
    (try simp only [Act.put, List.getElem_toArray, List.getElem_cons_zero, List.getElem_cons_succ, List.setIfInBounds_toArray, List.set_cons_zero, List.set_cons_succ])
    refine heldz_take (fun _ => trivial) [] 1 (.int .i64 (L : Int)) (by kernel_rfl) rfl (by kernel_rfl) (fun _ _ _ h => h) c3 (by kernel_rfl) ?_ ?_
    · intro wz hSw; (first | (go_simp; done) | (go_simp; with_reducible rfl))
    (try simp only [Act.put, List.getElem_toArray, List.getElem_cons_zero, List.getElem_cons_succ, List.setIfInBounds_toArray, List.set_cons_zero, List.set_cons_succ])
    refine heldz_step (fun _ => trivial) 2 (by kernel_rfl) rfl (fun K hK => ?_)
    go_simp
    refine hK.out _ _ (fun _ => by simp [go_sem, *]) ?_
    clear hK K
    (try simp only [Act.put, List.getElem_toArray, List.getElem_cons_zero, List.getElem_cons_succ, List.setIfInBounds_toArray, List.set_cons_zero, List.set_cons_succ])
    refine heldz_step (fun _ => trivial) 3 (by kernel_rfl) rfl (fun K hK => ?_)
    go_simp
    refine hK.out _ _ (fun _ => by simp [go_sem, *]) ?_
    clear hK K
    (try simp only [Act.put, List.getElem_toArray, List.getElem_cons_zero, List.getElem_cons_succ, List.setIfInBounds_toArray, List.set_cons_zero, List.set_cons_succ])
    refine heldz_done (by kernel_rfl) ?_ _
    refine NoPanic.normal ?_
    go_wp2_with fail
    have hdf : (((W.setCell ⟨w.heap.size + 1, 0, none⟩ (.int .u64 (n : Int))).setCell ⟨w.heap.size + 1 + 1, 0, none⟩ (.int .i64 (L : Int))).drew).heap[D]? = some (.deferred (some [])) := (((KeepsOthers.setCell W ⟨w.heap.size + 1, 0, none⟩ (.int .u64 (n : Int))).trans (KeepsOthers.setCell _ ⟨w.heap.size + 1 + 1, 0, none⟩ (.int .i64 (L : Int)))).same D _ hdef rfl)
    have fs2 := ((HS.out.put (x2 := (n : Int)) (y2 := (L : Int))).drew).kept (B := w.heap.size) (Nat.le_refl _) (Kept.putObj (.deferred none) (by have := HDD.out; omega) hdf rfl)
    refine ⟨by simp, .inl ⟨_, _, rfl, run_takeDeferred hdf, ?_⟩⟩
    have hv : fsV (rd M64 l) = .tuple #[.int .u64 (n : Int), .int .i64 (L : Int)] := by rw [HR.out]; rfl
    generalize ((((W.setCell ⟨w.heap.size + 1, 0, none⟩ (.int .u64 (n : Int))).setCell ⟨w.heap.size + 1 + 1, 0, none⟩ (.int .i64 (L : Int))).drew).putObj D (.deferred none)) = Y at fs2 ⊢
    obtain ⟨_, d1, d2, _, _, _, _⟩ := fs2.facts
    have HBL := Lib.hid fs2.below
    clear fs2 hdf hdef c0 c1 c2 c3 f1 f2 f3
    refine ⟨.tuple #[.int .u64 (n : Int), .int .i64 (L : Int)], ?_, by rw [hv], HBL.out⟩
    clear hv
    simp [results, Tryz.results114, go_sem, *]
  case stop =>
    rintro D W hD ⟨⟨k, fs⟩, hpre⟩ hdef
    have hr : rd M64 l = none := by rw [HRD.out, hpre]; rfl
    have HR := Lib.hid hr
    have HS := Lib.hid fs
    have HDD : Hid (w.heap.size + 5 ≤ D) := Lib.hid (by have := HS0.out; omega)
    clear fs hr hpre hD
    refine wpIn_wide.2 ?_
    go_wp2_with fail
    have fs2 := HS.out.kept (B := w.heap.size) (Nat.le_refl _) (Kept.putObj (.deferred none) (by have := HDD.out; omega) hdef rfl)
    refine ⟨by simp, .inl ⟨_, _, rfl, run_takeDeferred hdef, ?_⟩⟩
    have hv : fsV (rd M64 l) = .tuple #[.int .u64 0, .int .i64 0] := by rw [HR.out]; rfl
    generalize W.putObj D (.deferred none) = Y at fs2 ⊢
    obtain ⟨_, d1, d2, _, _, _, _⟩ := fs2.facts
    have HBL := Lib.hid fs2.below
    clear fs2 hdef
    refine ⟨.tuple #[.int .u64 0, .int .i64 0], ?_, by rw [hv], HBL.out⟩
    clear hv
    simp [results, Tryz.results114, go_sem, *]
end Go.Proofs.YtbbhmhihpdmoiaaGreat.Pk


/- pack's reader: its state; what is left. -/
set_option linter.unusedVariables false
set_option linter.unusedSimpArgs false
namespace Go.Proofs.YtbbhmhihpdmoiaaGreat.Pk
open Go.Proofs.YtbbhmhihpdmoiaaGreat.Fx (HeldG Sound below_mono give_done give_pure give_region give_take okTake)
open Go Go.RowKit
/-- a slice that a call made itself, or none -/
structure Sok (o : Option Addr) (c : Nat) (l : List Nat) : Prop where
  le : l.length ≤ c
  up : c ≤ 9223372036854775807
  nil : o = none → c = 0
  spot : ∀ a, o = some a → a.spot = none
/-- pack's reader at p: its bytes, its place, whether it is spoilt -/
structure PR (o : Option Addr) (c : Nat) (l : List Nat) (p at0 : Nat) (lost : Bool) (W : World) : Prop where
  row : W.heap[p]? = some (.cells #[.bool true, .bool lost, .slice o l.length c, .int .i64 (at0 : Int)] 144 (0, 0))
  bs : Bs W o l
  ok : Sok o c l
theorem PR.below {o : Option Addr} {c : Nat} {l : List Nat} {p at0 : Nat} {lost : Bool} {W X : World} (h : PR o c l p at0 lost W) (hb : Below W.heap.size W X) : PR o c l p at0 lost X := ⟨keep_row hb h.row, h.bs.below hb, h.ok⟩
theorem PR.facts {o : Option Addr} {c : Nat} {l : List Nat} {p at0 : Nat} {lost : Bool} {W : World} (h : PR o c l p at0 lost W) :
    W.cell? ⟨p, 0, none⟩ = some (.bool true) ∧ W.cell? ⟨p, 1, none⟩ = some (.bool lost) ∧ W.cell? ⟨p, 2, none⟩ = some (.slice o l.length c) ∧ W.cell? ⟨p, 3, none⟩ = some (.int .i64 (at0 : Int)) ∧ W.frozen? ⟨p, 1, none⟩ = false ∧ W.frozen? ⟨p, 3, none⟩ = false :=
  ⟨by rw [cell_of_row _ _ _ _ _ _ h.row]; rfl, by rw [cell_of_row _ _ _ _ _ _ h.row]; rfl, by rw [cell_of_row _ _ _ _ _ _ h.row]; rfl, by rw [cell_of_row _ _ _ _ _ _ h.row]; rfl, frozen_row h.row, frozen_row h.row⟩
theorem PR.lt {o : Option Addr} {c : Nat} {l : List Nat} {p at0 : Nat} {lost : Bool} {W : World} (h : PR o c l p at0 lost W) : p < W.heap.size := (Array.getElem?_eq_some_iff.1 h.row).1
theorem PR.apart {o : Option Addr} {c : Nat} {l : List Nat} {p at0 : Nat} {lost : Bool} {W : World} (h : PR o c l p at0 lost W) : ∀ b off, o = some ⟨b, off, none⟩ → 0 < l.length → b ≠ p := by
  rintro b off e hm rfl
  obtain ⟨b', off', e', hc⟩ := h.bs 0 hm
  rw [e] at e'
  cases e'
  rw [cell_of_row _ _ _ _ _ _ h.row] at hc
  obtain h0 | h0 | h0 | h0 | h0 : off + 0 = 0 ∨ off + 0 = 1 ∨ off + 0 = 2 ∨ off + 0 = 3 ∨ 4 ≤ off + 0 := by omega
  · rw [h0] at hc
    simp at hc
  · rw [h0] at hc
    simp at hc
  · rw [h0] at hc
    simp at hc
  · rw [h0] at hc
    simp at hc
  · rw [Array.getElem?_eq_none (by simpa using h0)] at hc
    cases hc
theorem PR.goto {o : Option Addr} {c : Nat} {l : List Nat} {p at0 : Nat} {lost : Bool} {W : World} (h : PR o c l p at0 lost W) (a : Nat) (z : Int) (hz : z = (a : Int)) : PR o c l p a lost (W.setCell ⟨p, 3, none⟩ (.int .i64 z)) := by
  subst hz
  exact ⟨heap_setCell_same _ _ 3 _ _ (.int .i64 (a : Int)) h.row, h.bs.set _ h.apart, h.ok⟩
theorem PR.spoil {o : Option Addr} {c : Nat} {l : List Nat} {p at0 : Nat} {lost : Bool} {W : World} (h : PR o c l p at0 lost W) : PR o c l p at0 true (W.setCell ⟨p, 1, none⟩ (.bool true)) :=
  ⟨heap_setCell_same _ _ 1 _ _ (.bool true) h.row, h.bs.set _ h.apart, h.ok⟩
theorem PR.grown {o : Option Addr} {c : Nat} {l : List Nat} {p at0 : Nat} {lost : Bool} {W X : World} {row : Option Nat} (h : PR o c l p at0 lost W) (hg : W.grownBy X row) (hp : some p ≠ row) (hr : ∀ b off, o = some ⟨b, off, none⟩ → 0 < l.length → some b ≠ row) : PR o c l p at0 lost X :=
  ⟨by rw [hg.block p h.lt hp]; exact h.row, h.bs.grown hg hr, h.ok⟩

set_option maxRecDepth 100000 in
theorem pspoil_any (o : Option Addr) (c : Nat) (l : List Nat) (p at0 : Nat) (lost : Bool) (w : World) (h : PR o c l p at0 lost w) :
    Calls Tryz.prog 76 #[.pointer (some ⟨p, 0, none⟩)] w fun e w' => e = .returned undef ∧ PR o c l p at0 true w' ∧ w.grownBy w' (some p) := by
  obtain ⟨c0, c1, c2, c3, f1, f3⟩ := h.facts
  have HF := Lib.hid (reader_fault p true lost w c0 c1)
  cases lost with
  | true =>
    have HH := Lib.hid h
    clear h
    go_enter Tryz.func76, Tryz.ntmps76
    go_wp2_with fail
    refine HF.out.mono ?_
    rintro e w1 ⟨rfl, rfl⟩
    simp only [fl, if_true]
    go_wp2_with fail
    go_end0
    exact ⟨rfl, HH.out, World.grownBy.refl _ _⟩
  | false =>
    have HH := Lib.hid h.spoil
    clear h
    go_enter Tryz.func76, Tryz.ntmps76
    go_wp2_with fail
    refine HF.out.mono ?_
    rintro e w1 ⟨rfl, rfl⟩
    simp only [fl, if_true, Bool.false_eq_true, if_false]
    go_wp2_with fail
    go_end0
    exact ⟨rfl, HH.out, grown_cell _ _ _ _⟩
/-- how many bytes are left -/
def lfV (lost : Bool) (l : List Nat) (at0 : Nat) : Nat := if lost = true then 0 else l.length - at0
set_option maxRecDepth 100000 in
set_option maxHeartbeats 1000000 in
theorem pleft_any (o : Option Addr) (c : Nat) (l : List Nat) (p at0 : Nat) (lost : Bool) (w : World) (k : RdOk l at0) (h : PR o c l p at0 lost w) :
    Calls Tryz.prog 84 #[.pointer (some ⟨p, 0, none⟩)] w fun e w' => e = .returned (.int .i64 ((lfV lost l at0 : Nat) : Int)) ∧ Below w.heap.size w w' := by
  obtain ⟨c0, c1, c2, c3, _, _⟩ := h.facts
  have HF := Lib.hid (reader_fault p true lost w c0 c1)
  have HR := Lib.hid h
  have k1 := k.len
  have k2 := k.at'
  clear h k
  cases lost with
  | true =>
    go_enter Tryz.func84, Tryz.ntmps84
    go_wp2_with fail
    refine HF.out.mono ?_
    rintro e w1 ⟨rfl, rfl⟩
    simp only [fl, if_true]
    go_wp2_with fail
    go_ret
    exact ⟨rfl, Below.refl _ _⟩
  | false =>
    have hlf : ((lfV false l at0 : Nat) : Int) = (l.length : Int) - (at0 : Int) := by unfold lfV; simp; omega
    rw [hlf]
    have HEK : Hid (IntKind.i64.wrap ((l.length : Int) - (at0 : Int)) = (l.length : Int) - (at0 : Int)) := Lib.hid (by rw [IntKind.wrap_i64]; omega)
    clear hlf
    go_enter Tryz.func84, Tryz.ntmps84
    go_wp2_with fail
    refine HF.out.mono ?_
    rintro e w1 ⟨rfl, rfl⟩
    simp only [fl, if_true, Bool.false_eq_true, if_false]
    clear HF c0 c1 c2 c3
    go_wp2_with fail
    rename_i K3 hK3
    refine (wpIn_wide (n := 5)).1 (give_region (S := fun X => Below w.heap.size w X) (Z := []) (by kernel_rfl) (by kernel_rfl) below_mono (fun d _ _ _ _ h => by cases d <;> exact h) (bdrew0 _ _ 1) (fun hG vw0 hw0 => ?_))
    refine give_pure [] 0 (?_) hG rfl (by kernel_rfl) hw0 (by kernel_rfl) ?_ ?_
    rotate_left
    · intro wz hSw; (first | (go_simp; done) | (go_simp; with_reducible rfl))
    intro vw1 hw1
    clear hw0 vw0
    (try simp only [Act.put, List.getElem_toArray, List.getElem_cons_zero, List.getElem_cons_succ, List.setIfInBounds_toArray, List.set_cons_zero, List.set_cons_succ])
    refine give_pure [] 1 (?_) hG rfl (by kernel_rfl) hw1 (by kernel_rfl) ?_ ?_
    rotate_left
    · intro wz hSw; (first | (go_simp; done) | (go_simp; with_reducible rfl))
    intro vw2 hw2
    clear hw1 vw1
    (try simp only [Act.put, List.getElem_toArray, List.getElem_cons_zero, List.getElem_cons_succ, List.setIfInBounds_toArray, List.set_cons_zero, List.set_cons_succ])
    refine give_pure [] 2 (?_) hG rfl (by kernel_rfl) hw2 (by kernel_rfl) ?_ ?_
    rotate_left
    · intro wz hSw; (first | (go_simp; done) | (go_simp; with_reducible rfl))
    intro vw3 hw3
    clear hw2 vw2
    (try simp only [Act.put, List.getElem_toArray, List.getElem_cons_zero, List.getElem_cons_succ, List.setIfInBounds_toArray, List.set_cons_zero, List.set_cons_succ])
    refine give_pure [] 3 (?_) hG rfl (by kernel_rfl) hw3 (by kernel_rfl) ?_ ?_
    rotate_left
    · intro wz hSw; (first | (go_simp; done) | (go_simp; with_reducible rfl))
    intro vw4 hw4
    clear hw3 vw3
    (try simp only [Act.put, List.getElem_toArray, List.getElem_cons_zero, List.getElem_cons_succ, List.setIfInBounds_toArray, List.set_cons_zero, List.set_cons_succ])
    refine give_pure [] 4 (.slice o l.length c) hG rfl (by kernel_rfl) hw4 (by kernel_rfl) ?_ ?_
    · intro wz hSw; obtain ⟨c0, c1, c2, c3, _, _⟩ := (HR.out.below hSw).facts; (first | (go_simp; done) | (go_simp; with_reducible rfl))
    intro vw5 hw5
    clear hw4 vw4
    (try simp only [Act.put, List.getElem_toArray, List.getElem_cons_zero, List.getElem_cons_succ, List.setIfInBounds_toArray, List.set_cons_zero, List.set_cons_succ])
    refine give_pure [] 5 (?_) hG rfl (by kernel_rfl) hw5 (by kernel_rfl) ?_ ?_
    rotate_left
    · intro wz hSw; (first | (go_simp; done) | (go_simp; with_reducible rfl))
    intro vw6 hw6
    clear hw5 vw5
    (try simp only [Act.put, List.getElem_toArray, List.getElem_cons_zero, List.getElem_cons_succ, List.setIfInBounds_toArray, List.set_cons_zero, List.set_cons_succ])
    refine give_pure [] 6 (?_) hG rfl (by kernel_rfl) hw6 (by kernel_rfl) ?_ ?_
    rotate_left
    · intro wz hSw; (first | (go_simp; done) | (go_simp; with_reducible rfl))
    intro vw7 hw7
    clear hw6 vw6
    (try simp only [Act.put, List.getElem_toArray, List.getElem_cons_zero, List.getElem_cons_succ, List.setIfInBounds_toArray, List.set_cons_zero, List.set_cons_succ])
    refine give_pure [] 7 (?_) hG rfl (by kernel_rfl) hw7 (by kernel_rfl) ?_ ?_
    rotate_left
    · intro wz hSw; (first | (go_simp; done) | (go_simp; with_reducible rfl))
    intro vw8 hw8
    clear hw7 vw7
    (try simp only [Act.put, List.getElem_toArray, List.getElem_cons_zero, List.getElem_cons_succ, List.setIfInBounds_toArray, List.set_cons_zero, List.set_cons_succ])
    refine give_pure [] 8 (?_) hG rfl (by kernel_rfl) hw8 (by kernel_rfl) ?_ ?_
    rotate_left
    · intro wz hSw; (first | (go_simp; done) | (go_simp; with_reducible rfl))
    intro vw9 hw9
    clear hw8 vw8
    (try simp only [Act.put, List.getElem_toArray, List.getElem_cons_zero, List.getElem_cons_succ, List.setIfInBounds_toArray, List.set_cons_zero, List.set_cons_succ])
    refine give_pure [] 9 (.int .i64 (at0 : Int)) hG rfl (by kernel_rfl) hw9 (by kernel_rfl) ?_ ?_
    · intro wz hSw; obtain ⟨c0, c1, c2, c3, _, _⟩ := (HR.out.below hSw).facts; (first | (go_simp; done) | (go_simp; with_reducible rfl))
    intro vw10 hw10
    clear hw9 vw9
    (try simp only [Act.put, List.getElem_toArray, List.getElem_cons_zero, List.getElem_cons_succ, List.setIfInBounds_toArray, List.set_cons_zero, List.set_cons_succ])
    refine give_pure [] 10 (.int .i64 ((l.length : Int) - (at0 : Int))) hG rfl (by kernel_rfl) hw10 (by kernel_rfl) ?_ ?_
    · intro wz hSw; have ee := HEK.out; (first | (go_simp; done) | (go_simp; rw [ee]) | (go_simp; with_reducible rfl))
    intro vw11 hw11
    clear hw10 vw10
    (try simp only [Act.put, List.getElem_toArray, List.getElem_cons_zero, List.getElem_cons_succ, List.setIfInBounds_toArray, List.set_cons_zero, List.set_cons_succ])
    refine give_pure [] 11 (?_) hG rfl (by kernel_rfl) hw11 (by kernel_rfl) ?_ ?_
    rotate_left
    · intro wz hSw; (first | (go_simp; done) | (go_simp; with_reducible rfl))
    intro vw12 hw12
    clear hw11 vw11
    (try simp only [Act.put, List.getElem_toArray, List.getElem_cons_zero, List.getElem_cons_succ, List.setIfInBounds_toArray, List.set_cons_zero, List.set_cons_succ])
    refine give_done (by kernel_rfl) (?_) _
    refine hK3 _ _ ?_
    have HB := Lib.hid hw12
    clear hK3 hG hw12
    go_wp2_with fail
    go_ret
    exact ⟨rfl, HB.out⟩
/-- a call that only makes memory, in worlds that meet S -/
theorem give_callS {n : Nat} {P : Program} {ops : Array Oper} {Q : Exit → Act → World → Prop} {md : Region.Mode} {S : World → Prop} {Z : List Nat} (D : List Nat) (i : Nat) (f : FuncId) (args : Array Value) (v : Value) (s : Sound P ops Q S) {oi : Oper} {fuel : Nat} {listed : Array Bool} {a : Act} {w : World} (hi : ops[i]? = some oi)
    (hk : okTake md ops Z listed i D = true) (hS : S w) (hw : Region.wanted oi (yielded ops a.tmps) = true) (hv : ∀ w, (execOp a.eval oi).run P w = .ok (.enter f args) w)
    (hc : ∀ w, S w → Calls P f args w fun e w' => e = .returned v ∧ Below w.heap.size w w')
    (h : ∀ w3, S w3 → HeldG n P md ops Q S Z fuel (listed.setIfInBounds i true) (a.put oi.dst v) w3) : HeldG n P md ops Q S Z (fuel + 1) listed a w :=
  give_take D i v s hi hk hS (Or.inl ⟨hw, fun w hS => Or.inr ⟨f, args, hv w, hc w hS⟩⟩) h
theorem exec_low {o : Oper} {a : Act} {W : World} (x y : Operand) (ho : o.op = .slice 31 x (some y) none none) (oa : Option Addr) (n c l : Nat) (i : Int) (hi : i = (l : Int)) (hx : a.eval x = .slice oa n c) (hy : a.eval y = .int .i64 i)
    (hl : l ≤ n) (hnc : n ≤ c) (hn : oa = none → c = 0) (hs : 0 < c → ∀ a, oa = some a → a.spot = none) :
    (execOp a.eval o).run Tryz.prog W = .ok (.value (.slice (cutA oa c l) (n - l) (c - l))) W := by
  subst hi
  have ht' : Tryz.prog.underlying 31 = some (.slice (Tryz.prog.elem 31)) := by simp [Program.elem, Tryz.underlying31]
  have h1 := run_cut W oa n c l n hl hnc hn hs
  have h2 := run_slice_l W 31 oa n c ht' .i64 (l : Int) (by omega) (by omega)
  have h3 := run_slice_lh W 31 oa n c ht' .i64 .i64 (l : Int) (n : Int) (by omega) (by omega) (by omega)
  have h4 : (Instr.slice 31 (.slice oa n c) (some (.int .i64 (l : Int))) none none).run Tryz.prog W = .ok (.slice (cutA oa c l) (n - l) (c - l)) W := by
    rw [h2, ← h1, h3]
    simp
  unfold execOp
  simp only [ho, hx, hy, Option.map_some, Option.map_none, Sem.run_bind, run_sliceAt_slice W 31 _ _ _ _ ht', h4, Result.andThen_ok, Sem.run_pure]
end Go.Proofs.YtbbhmhihpdmoiaaGreat.Pk

