/- Rows of bytes that a call made itself; inBytes and bytes.Clone, walked. -/
import Derived.Test.YtgkcbadfjhicnabProg
import Derived.Test.YtgkcbadfjhicnabCa
import Derived.Test.YtgkcbadfjhicnabCb
import Derived.Test.YtgkcbadfjhicnabCp
import Derived.WalkKit
import Derived.Lib.Hide
import Derived.Outline
import Derived.Deep.LoopGhost
import Derived.Deep.QuietTactic
import Derived.BigQuiet
import Derived.Deep.WholeRow
import Derived.Laws.ResultCell
import Derived.Laws.Cover3
import Derived.Laws.OwnMore
set_option linter.unusedVariables false
set_option linter.unusedSimpArgs false
namespace Go.Proofs.Ytgkcbadfjhicnab.Fx
open Go Go.RowKit
def encB (x : Nat) : Value := .int .u8 (x : Int)
/-- v holds the bytes l, in memory of its own, from block B on -/
def Own (W : World) (B : Nat) (v : Value) (l : List Nat) : Prop := W.ownsRow B 5 1 v l.length (l.map encB)
theorem Own.below {w W : World} {B : Nat} {v : Value} {l : List Nat} (h : Below w.heap.size w W) (s : Own w B v l) : Own W B v l := by
  obtain ⟨h1, h2⟩ := s
  refine ⟨h1, ?_⟩
  rcases h2 with h2 | ⟨g, cap, cur, e, hb, hg, h3⟩
  · exact Or.inl h2
  · exact Or.inr ⟨g, cap, cur, e, hb, keep_row h hg, h3⟩
theorem Own.mono {W : World} {B C : Nat} {v : Value} {l : List Nat} (hB : B ≤ C) (s : Own W C v l) : Own W B v l := by
  obtain ⟨h1, h2⟩ := s
  refine ⟨h1, ?_⟩
  rcases h2 with h2 | ⟨g, cap, cur, e, hb, h3⟩
  · exact Or.inl h2
  · exact Or.inr ⟨g, cap, cur, e, Nat.le_trans hB hb, h3⟩
/-- its shape, what it holds, and how long it is -/
theorem Own.open {W : World} {B : Nat} {v : Value} {l : List Nat} (s : Own W B v l) : ∃ o cap, v = .slice o l.length cap ∧ Bs W o l ∧ l.length ≤ cap ∧ cap ≤ 9223372036854775807 ∧ (o = none → cap = 0) ∧ (∀ a, o = some a → ∃ g, a = ⟨g, 0, none⟩ ∧ B ≤ g ∧ g < W.heap.size ∧ ∀ j, W.frozen? ⟨g, j, none⟩ = false) := by
  obtain ⟨h1, h2⟩ := s
  rcases h2 with ⟨rfl, h0⟩ | ⟨g, cap, cur, rfl, hb, hg, hc, hm, hs, ht⟩
  · have : l = [] := List.length_eq_zero_iff.1 h0
    subst this
    exact ⟨none, 0, rfl, Bs.none, by simp, by omega, fun _ => rfl, fun a h => by cases h⟩
  · refine ⟨some ⟨g, 0, none⟩, cap, rfl, fun j hj => ⟨g, 0, rfl, ?_⟩, hc, by unfold maxLen at hm; omega, (fun h => by cases h), fun a h => ⟨g, (Option.some.inj h).symm, hb, (Array.getElem?_eq_some_iff.1 hg).1, fun j => frozen_row hg⟩⟩
    rw [Nat.zero_add, cell_of_row _ _ _ _ _ _ hg]
    have h3 : (cur.toList.take (l.length * 1))[j]? = some (encB (l.getD j 0)) := by rw [ht]; simp [hj, List.getD]
    rw [List.getElem?_take, if_pos (by omega)] at h3
    simpa [encB] using h3
theorem news_of {W : World} {b off : Nat} {l : List Nat} (h : Bs W (some ⟨b, off, none⟩) l) : ∀ j u, (l.map encB)[j]? = some u → W.cell? ((⟨b, off, none⟩ : Addr).add j) = some u := by
  intro j u hu
  have hj : j < l.length := by
    have := (List.getElem?_eq_some_iff.1 hu).1
    simpa using this
  obtain ⟨b', off', e, hc⟩ := h j hj
  cases e
  rw [Addr.add_lit, hc, ← hu]
  simp [hj, encB, List.getD]
theorem news_one (l : List Nat) : ∀ u ∈ l.map encB, u.oneCell' = true := by
  intro u hu
  obtain ⟨x, _, rfl⟩ := List.mem_map.1 hu
  rfl
theorem info5 : (Try.prog.info? 5).map (fun i => (i.zero, i.size, i.bytes)) = some (some (.int .u8 0), 1, 1) := by kernel_rfl
theorem run_eql_nil (w : World) (t e : TypeId) (a : Option Addr) (l c : Nat) (h : Try.prog.underlying t = some (.slice e)) : (binOp .eql t (.slice a l c) (.slice none 0 0)).run Try.prog w = .ok (.bool a.isNone) w := by
  show ((do pure (.bool (← Op.equal t (.slice a l c) (.slice none 0 0)))) : Sem Value).run Try.prog w = _
  simp [run_equal_slice_nil w t e a l c h]
set_option maxHeartbeats 1600000 in
/-- bytes.Clone of what begins at an address -/
theorem clone_any (l : List Nat) (b off cap : Nat) (w : World) (hlen : l.length ≤ 140737488355328) (hb : Bs w (some ⟨b, off, none⟩) l) :
    Calls Try.prog 27 #[.slice (some ⟨b, off, none⟩) l.length cap] w fun e w' => (∃ v, e = .returned v ∧ Own w' w.heap.size v l) ∧ Below w.heap.size w w' := by
  obtain ⟨i0, hi, hz0, hz1, hz2⟩ := info_parts info5
  have hE : (w.alloc (.cells #[] 5)).ownsRow w.heap.size 5 1 (.slice (some ⟨w.heap.size, 0, none⟩) 0 0) 0 [] := World.ownsRow_lit w #[] 0 (Nat.le_refl _) (by unfold maxLen; omega) rfl
  have HN := Lib.hid (news_of (hb.below (W := w.alloc (.cells #[] 5)) (by go_grown)))
  have HBel : Hid (Below w.heap.size w (w.alloc (.cells #[] 5))) := Lib.hid (by go_grown)
  clear hb
  have hq := fun W => run_eql_nil W 22 5 (some ⟨b, off, none⟩) l.length cap Try.underlying22
  go_enter Try.func27, Try.ntmps27
  go_wp2_with (at_builtin; refine wpList_append_own _ rfl _ _ 22 rfl w.heap.size 5 i0 (.int .u8 0) 1 1 Try.underlying22 hi hz0 hz1 hz2 rfl (by decide) _ _ _ rfl hE ⟨b, off, none⟩ l.length cap (l.map encB) rfl (by simp) HN.out (news_one l) (by unfold maxLen; omega) (by omega) (by simp) ?_; intro v' w1 hown hgrow _)
  have HO : Hid (Own w1 w.heap.size v' l) := Lib.hid (by
    unfold Own
    rw [Nat.zero_add, List.nil_append] at hown
    exact hown)
  have HB : Hid (Below w.heap.size w w1) := Lib.hid (HBel.out.grown hgrow (by simp) (by intro k hk; cases hk; exact Nat.le_refl _))
  clear hown hgrow
  go_ret
  exact ⟨⟨v', rfl, HO.out⟩, HB.out⟩
/-- a sum in bytes, the lowest first -/
def le4 (s : Nat) : List Nat := [s % 256, s / 256 % 256, s / 65536 % 256, s / 16777216 % 256]
theorem le4_by (s : Nat) : By (le4 s) := by
  intro c hc
  simp only [le4, List.mem_cons, List.not_mem_nil, or_false] at hc
  rcases hc with rfl | rfl | rfl | rfl <;> exact Nat.mod_lt _ (by omega)
/-- the first k of them -/
def fil (s k : Nat) : List Nat := (List.range 4).map fun i => if i < k then (le4 s).getD i 0 else 0
theorem fil_full (s : Nat) : fil s 4 = le4 s := rfl
theorem fil_len (s k : Nat) : (fil s k).length = 4 := by simp [fil]
theorem size4 : (Try.prog.info? 49).map (·.size) = some 4 := by kernel_rfl
theorem bR_one (l : List Nat) : (bR l).all (·.oneCell') = true := by
  simp only [bR, List.all_toArray, List.all_map, List.all_eq_true]
  intro i _
  rfl
theorem fil_put (s k : Nat) (hk : k < 4) : (bR (fil s k)).setIfInBounds k (.int .u8 (((le4 s).getD k 0 : Nat) : Int)) = bR (fil s (k + 1)) := by
  obtain rfl | rfl | rfl | rfl : k = 0 ∨ k = 1 ∨ k = 2 ∨ k = 3 := by omega
  all_goals rfl
structure FB (s r b k : Nat) (w W : World) : Prop where
  z : W.heap[r]? = some (.cells (bR (fil s 0)) 49 (0, 0))
  a : W.heap[b]? = some (.cells (bR (fil s k)) 49 (0, 0))
  ne : r ≠ b
  lo : w.heap.size ≤ r ∧ w.heap.size ≤ b
  below : Below w.heap.size w W
theorem FB.facts {s r b k : Nat} {w W : World} (h : FB s r b k w W) (hk : k < 4) : (∃ v, W.cell? ⟨b, k, none⟩ = some v) ∧ W.frozen? ⟨b, k, none⟩ = false :=
  ⟨⟨_, by rw [cell_of_row _ _ _ _ _ _ h.a, bR_get _ (by rw [fil_len]; exact hk)]⟩, frozen_row h.a⟩
theorem FB.set {s r b k : Nat} {w W : World} (h : FB s r b k w W) (hk : k < 4) : FB s r b (k + 1) w (W.setCell ⟨b, k, none⟩ (.int .u8 (((le4 s).getD k 0 : Nat) : Int))) := by
  refine ⟨?_, ?_, h.ne, h.lo, h.below.setCell (p := ⟨b, k, none⟩) h.lo.2 _⟩
  · rw [heap_setCell_other _ _ _ _ h.ne]; exact h.z
  · rw [heap_setCell_same _ _ _ _ _ _ h.a, fil_put _ _ hk]
set_option maxRecDepth 100000 in
set_option maxHeartbeats 2000000 in
theorem inbytes_any (s : Nat) (w : World) (hs : s < 4294967296) :
    Calls Try.prog 26 #[.int .u32 (s : Int)] w fun e w' => e = .returned (.agg (bR (le4 s))) ∧ Below w.heap.size w w' := by
  have S0 : FB s w.heap.size (w.heap.size + 1) 0 w ((w.alloc (.cells #[.int .u8 0, .int .u8 0, .int .u8 0, .int .u8 0] 49)).alloc (.cells #[.int .u8 0, .int .u8 0, .int .u8 0, .int .u8 0] 49)) := by
    refine ⟨step_row (heap_alloc_new w _), ?_, by omega, by omega, by go_grown⟩
    have := heap_alloc_new (w.alloc (.cells #[.int .u8 0, .int .u8 0, .int .u8 0, .int .u8 0] 49)) (.cells #[.int .u8 0, .int .u8 0, .int .u8 0, .int .u8 0] 49)
    rw [World.size_alloc] at this
    exact this
  have HS0 := Lib.hid S0
  clear S0
  go_enter Try.func26, Try.ntmps26
  go_wp2_with fail
  generalize ((w.alloc (.cells #[.int .u8 0, .int .u8 0, .int .u8 0, .int .u8 0] 49)).alloc (.cells #[.int .u8 0, .int .u8 0, .int .u8 0, .int .u8 0] 49)) = W0 at HS0 ⊢
  go_loopg [5] 4 (fun g s5 wx => ∃ k : Nat, g = 4 - k ∧ k ≤ 4 ∧ s5 = .int .i64 (k : Int) ∧ FB s w.heap.size (w.heap.size + 1) k w wx)
  case atStart => exact ⟨0, rfl, by omega, rfl, HS0.out⟩
  case round =>
    clear HS0
    obtain ⟨k, rfl, hk, rfl, pb⟩ := hrel
    obtain rfl | rfl | rfl | rfl | rfl : k = 0 ∨ k = 1 ∨ k = 2 ∨ k = 3 ∨ k = 4 := by omega
    · obtain ⟨⟨v, fc⟩, ff⟩ := pb.facts (by omega)
      have ps := pb.set (by omega)
      rw [show (((le4 s).getD 0 0 : Nat) : Int) = (s : Int) % 256 by simp [le4]] at ps
      have PS := Lib.hid ps
      clear pb ps
      go_wp2_with fail
      go_roundg 3
      case measure => omega
      case rel => exact ⟨1, rfl, by omega, by go_num, PS.out⟩
    · obtain ⟨⟨v, fc⟩, ff⟩ := pb.facts (by omega)
      have ps := pb.set (by omega)
      rw [show (((le4 s).getD 1 0 : Nat) : Int) = (s : Int) / 256 % 256 by simp [le4]] at ps
      have PS := Lib.hid ps
      clear pb ps
      go_wp2_with fail
      go_roundg 2
      case measure => omega
      case rel => exact ⟨2, rfl, by omega, by go_num, PS.out⟩
    · obtain ⟨⟨v, fc⟩, ff⟩ := pb.facts (by omega)
      have ps := pb.set (by omega)
      rw [show (((le4 s).getD 2 0 : Nat) : Int) = (s : Int) / 65536 % 256 by simp [le4]] at ps
      have PS := Lib.hid ps
      clear pb ps
      go_wp2_with fail
      go_roundg 1
      case measure => omega
      case rel => exact ⟨3, rfl, by omega, by go_num, PS.out⟩
    · obtain ⟨⟨v, fc⟩, ff⟩ := pb.facts (by omega)
      have ps := pb.set (by omega)
      rw [show (((le4 s).getD 3 0 : Nat) : Int) = (s : Int) / 16777216 by simp [le4]; omega] at ps
      have PS := Lib.hid ps
      clear pb ps
      go_wp2_with fail
      go_roundg 0
      case measure => omega
      case rel => exact ⟨4, rfl, by omega, by go_num, PS.out⟩
    · have HZ := Lib.hid pb.z
      have HA : Hid (wr.heap[w.heap.size + 1]? = some (.cells (bR (le4 s)) 49 (0, 0))) := Lib.hid pb.a
      have HB := Lib.hid pb.below
      have HI : Hid ((Try.prog.info? 49).map (·.size) = some (bR (le4 s)).size) := Lib.hid (by rw [bR_size]; exact size4)
      have HS : Hid ((bR (fil s 0)).size = (bR (le4 s)).size) := Lib.hid (by rw [bR_size, bR_size]; rfl)
      clear pb
      go_wp2_with (first | (refine wpList_load_row rfl 49 (.tmp 3) rfl (w.heap.size + 1) rfl _ _ _ _ HA.out Try.underlying49 rfl HI.out ?_) | (refine wpList_store_big rfl 49 (.tmp 2) (.tmp 16) rfl (w.heap.size) _ _ (bR (le4 s)) rfl rfl HZ.out HI.out HS.out (bR_one _) ?_))
      refine bodyPost_ret (v := .agg (bR (le4 s))) (results_cell_row rfl _ _ (w.heap.size) _ _ _ _ rfl (setRow_heap _ _ _ _ _ _ HZ.out) Try.underlying49 rfl HI.out) rfl ?_
      exact ⟨rfl, Below.row HB.out (by omega) _⟩
end Go.Proofs.Ytgkcbadfjhicnab.Fx
