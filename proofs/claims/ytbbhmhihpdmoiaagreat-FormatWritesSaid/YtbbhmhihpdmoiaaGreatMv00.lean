import Derived.Laws.Rows
import Derived.Test.YtbbhmhihpdmoiaaGreatProg
import Derived.WalkKit
import Derived.Lib.Hide
import Derived.Outline
import Derived.Deep.LoopGhost
import Derived.Deep.QuietTactic
import Derived.BigQuiet
import Derived.Deep.WholeRow
import Derived.Laws.ResultCell
import Derived.Laws.Cover3
import Derived.Laws.OwnMore
import Derived.Laws.BytesString
import Derived.Lib.ConvBytes
import Derived.Lib.SmallJoins
import Derived.ProofKit
import Derived.Laws.AppendOwnNone
set_option linter.unusedVariables false
set_option linter.unusedSimpArgs false
namespace Go.Proofs.YtbbhmhihpdmoiaaGreat.Pk
open Go Go.RowKit
theorem bdrew {B : Nat} {w w' : World} (n : Nat) (h : Below B (w.drewN n) w') : Below B w w' := ⟨h.os, h.tape, h.output, h.size, h.block⟩
theorem bdrew0 (B : Nat) (w : World) (n : Nat) : Below B w (w.drewN n) := bdrew n (Below.refl _ _)
theorem bdrewN {B : Nat} {a w : World} (n : Nat) (h : Below B a w) : Below B a (w.drewN n) := ⟨h.os, h.tape, h.output, h.size, h.block⟩
theorem bnext {w W1 W2 : World} (h : Below w.heap.size w W1) (k : Below W1.heap.size W1 W2) : Below w.heap.size w W2 := h.trans (k.mono h.size)
theorem keep_cell {w w' : World} {a : Addr} {v : Value} (hb : Below w.heap.size w w') (h : w.cell? a = some v) : w'.cell? a = some v := by
 rw [hb.cell]
 ·exact h
 ·exact block_lt_of_cell h
theorem keep_free {w w' : World} {b o : Nat} (hb : Below w.heap.size w w') (hs : b < w.heap.size) (h : w.frozen? ⟨b, o, none⟩ = false) : w'.frozen? ⟨b, o, none⟩ = false := by
 rw [hb.frozen (p := ⟨b, o, none⟩) hs]
 exact h
theorem keep_row {w w' : World} {b : Nat} {o : Obj} (hb : Below w.heap.size w w') (h : w.heap[b]? = some o) : w'.heap[b]? = some o := by
 rw [hb.block _ (Array.getElem?_eq_some_iff.1 h).1]; exact h
theorem frozen_row {w : World} {g j : Nat} {cs : Array Value} {t : TypeId} (hg : w.heap[g]? = some (.cells cs t (0, 0))) : w.frozen? ⟨g, j, none⟩ = false := by
 simp [World.frozen?, hg]
theorem step_row {w : World} {o : Obj} {b : Nat} {x : Obj} (h : w.heap[b]? = some x) : (w.alloc o).heap[b]? = some x := by
 rw [heap_alloc_old _ _ (Array.getElem?_eq_some_iff.1 h).1]
 exact h
theorem block3s (w : World) (A B C : Obj) : (((w.alloc A).alloc B).alloc C).heap[w.heap.size]? = some A ∧ (((w.alloc A).alloc B).alloc C).heap[w.heap.size + 1]? = some B ∧ (((w.alloc A).alloc B).alloc C).heap[w.heap.size + 1 + 1]? = some C := by
 have h0 := heap_alloc_new w A
 have h1 := heap_alloc_new (w.alloc A) B
 have h2 := heap_alloc_new ((w.alloc A).alloc B) C
 simp only [World.size_alloc] at h1 h2
 exact ⟨step_row (step_row h0), step_row h1, h2⟩
def Bs (W : World) (o : Option Addr) (l : List Nat) : Prop :=
 ∀ j, j < l.length → ∃ b off, o = some ⟨b, off, none⟩ ∧ W.cell? ⟨b, off + j, none⟩ = some (.int .u8 ((l.getD j 0 : Nat) : Int))
theorem Bs.below {w W : World} (h : Below w.heap.size w W) {o : Option Addr} {l : List Nat} (s : Bs w o l) : Bs W o l := fun j hj => by
 obtain ⟨b, off, e, hc⟩ := s j hj
 exact ⟨b, off, e, keep_cell h hc⟩
def By (l : List Nat) : Prop := ∀ c ∈ l, c < 256
theorem By.get {l : List Nat} (h : By l) (k : Nat) : l.getD k 0 < 256 := by
 by_cases hk : k < l.length
 ·have : l.getD k 0 = l[k] := by simp [List.getD, hk]
  rw [this]
  exact h _ (List.getElem_mem hk)
 ·simp [List.getD, hk]
theorem By.take {l : List Nat} (h : By l) (k : Nat) : By (l.take k) := fun c hc => h c (List.mem_of_mem_take hc)
theorem By.drop {l : List Nat} (h : By l) (k : Nat) : By (l.drop k) := fun c hc => h c (List.mem_of_mem_drop hc)
theorem By.append {l m : List Nat} (h : By l) (h2 : By m) : By (l ++ m) := fun c hc => (List.mem_append.1 hc).elim (h c) (h2 c)
theorem Bs.take {W : World} {o : Option Addr} {l : List Nat} (h : Bs W o l) (k : Nat) : Bs W o (l.take k) := fun j hj => by
 have hj2 : j < k ∧ j < l.length := by rw [List.length_take] at hj; omega
 obtain ⟨b, off, e, hc⟩ := h j hj2.2
 refine ⟨b, off, e, hc.trans ?_⟩
 simp [List.getD, List.getElem?_take, hj2.1]
theorem Bs.drop {W : World} {b off cap k : Nat} {l : List Nat} (hcap : l.length ≤ cap) (h : Bs W (some ⟨b, off, none⟩) l) : Bs W (if cap = k then some ⟨b, off, none⟩ else some ⟨b, off + k, none⟩) (l.drop k) := fun j hj => by
 rw [List.length_drop] at hj
 rw [if_neg (by omega)]
 obtain ⟨b', off', e, hc⟩ := h (k + j) (by omega)
 cases e
 refine ⟨b, off + k, rfl, ?_⟩
 rw [show off + k + j = off + (k + j) by omega, hc]
 simp [List.getD]
theorem Bs.nought {W : World} {o : Option Addr} : Bs W o [] := fun j hj => absurd hj (by simp)
def bR (l : List Nat) : Array Value := (l.map fun x : Nat => Value.int .u8 (x : Int)).toArray
theorem bR_size (l : List Nat) : (bR l).size = l.length := by simp [bR]
theorem bR_get (l : List Nat) {j : Nat} (h : j < l.length) : (bR l)[j]? = some (.int .u8 ((l.getD j 0 : Nat) : Int)) := by simp [bR, h, List.getD]
theorem Bs.row {W : World} {b : Nat} {l : List Nat} {t : TypeId} {fr : Nat × Nat} (h : W.heap[b]? = some (.cells (bR l) t fr)) : Bs W (some ⟨b, 0, none⟩) l := fun j hj =>
 ⟨b, 0, rfl, by rw [Nat.zero_add, cell_of_row _ _ _ _ _ _ h, bR_get l hj]⟩
theorem By.of {l : List Nat} (h : l.all (fun c => decide (c < 256)) = true) : By l := fun c hc => by
 have := List.all_eq_true.1 h c hc
 simpa using this
def encB (x : Nat) : Value := .int .u8 (x : Int)
def Own (W : World) (B : Nat) (v : Value) (l : List Nat) : Prop := W.ownsRow B 5 1 v l.length (l.map encB)
theorem Own.below {w W : World} {B : Nat} {v : Value} {l : List Nat} (h : Below w.heap.size w W) (s : Own w B v l) : Own W B v l := by
 obtain ⟨h1, h2⟩ := s
 refine ⟨h1, ?_⟩
 rcases h2 with h2 | ⟨g, cap, cur, e, hb, hg, h3⟩
 ·exact Or.inl h2
 ·exact Or.inr ⟨g, cap, cur, e, hb, keep_row h hg, h3⟩
theorem Own.mono {W : World} {B C : Nat} {v : Value} {l : List Nat} (hB : B ≤ C) (s : Own W C v l) : Own W B v l := by
 obtain ⟨h1, h2⟩ := s
 refine ⟨h1, ?_⟩
 rcases h2 with h2 | ⟨g, cap, cur, e, hb, h3⟩
 ·exact Or.inl h2
 ·exact Or.inr ⟨g, cap, cur, e, Nat.le_trans hB hb, h3⟩
theorem Own.open {W : World} {B : Nat} {v : Value} {l : List Nat} (s : Own W B v l) : ∃ o cap, v = .slice o l.length cap ∧ Bs W o l ∧ l.length ≤ cap ∧ cap ≤ 9223372036854775807 ∧ (o = none → cap = 0) ∧ (∀ a, o = some a → ∃ g, a = ⟨g, 0, none⟩ ∧ B ≤ g ∧ g < W.heap.size ∧ ∀ j, W.frozen? ⟨g, j, none⟩ = false) := by
 obtain ⟨h1, h2⟩ := s
 rcases h2 with ⟨rfl, h0⟩ | ⟨g, cap, cur, rfl, hb, hg, hc, hm, hs, ht⟩
 ·have : l = [] := List.length_eq_zero_iff.1 h0
  subst this
  exact ⟨none, 0, rfl, Bs.nought, by simp, by omega, fun _ => rfl, fun a h => by cases h⟩
 ·refine ⟨some ⟨g, 0, none⟩, cap, rfl, fun j hj => ⟨g, 0, rfl, ?_⟩, hc, by unfold maxLen at hm; omega, (fun h => by cases h), fun a h => ⟨g, (Option.some.inj h).symm, hb, (Array.getElem?_eq_some_iff.1 hg).1, fun j => frozen_row hg⟩⟩
  rw [Nat.zero_add, cell_of_row _ _ _ _ _ _ hg]
  have h3 : (cur.toList.take (l.length * 1))[j]? = some (encB (l.getD j 0)) := by rw [ht]; simp [hj, List.getD]
  rw [List.getElem?_take, if_pos (by omega)] at h3
  simpa [encB] using h3
theorem news_of {W : World} {b off : Nat} {l : List Nat} (h : Bs W (some ⟨b, off, none⟩) l) : ∀ j u, (l.map encB)[j]? = some u → W.cell? ((⟨b, off, none⟩ : Addr).add j) = some u := by
 intro j u hu
 have hj : j < l.length := by
  have := (List.getElem?_eq_some_iff.1 hu).1
  simpa using this
 obtain ⟨b', off', e, hc⟩ := h j hj
 cases e
 rw [Addr.add_lit, hc, ← hu]
 simp [hj, encB, List.getD]
theorem news_one (l : List Nat) : ∀ u ∈ l.map encB, u.oneCell' = true := by
 intro u hu
 obtain ⟨x, _, rfl⟩ := List.mem_map.1 hu
 rfl
theorem info5 : (Tryz.prog.info? 5).map (fun i => (i.zero, i.size, i.bytes)) = some (some (.int .u8 0), 1, 1) := by kernel_rfl
theorem run_eql_nil (w : World) (t e : TypeId) (a : Option Addr) (l c : Nat) (h : Tryz.prog.underlying t = some (.slice e)) : (binOp .eql t (.slice a l c) (.slice none 0 0)).run Tryz.prog w = .ok (.bool a.isNone) w := by
 show ((do pure (.bool (← Op.equal t (.slice a l c) (.slice none 0 0)))) : Sem Value).run Tryz.prog w = _
 simp [run_equal_slice_nil w t e a l c h]
theorem bR_one (l : List Nat) : (bR l).all (·.oneCell') = true := by
 simp only [bR, List.all_toArray, List.all_map, List.all_eq_true]
 intro i _
 rfl
def bstr (l : List Nat) : ByteArray := ⟨(l.map UInt8.ofNat).toArray⟩
theorem push_all (l : List Nat) : ∀ (b : ByteArray), (l.map fun x : Nat => (x : Int)).foldl (fun r n => r.push (UInt8.ofNat n.toNat)) b = ⟨b.data ++ (l.map UInt8.ofNat).toArray⟩ := by
 induction l with
 | nil => intro b; simp
 | cons x l ih =>
  intro b
  simp only [List.map_cons, List.foldl_cons]
  rw [ih]
  simp [ByteArray.push]
theorem news_any {W : World} {o : Option Addr} {l : List Nat} (h : Bs W o l) : ∀ ad, o = some ad → ∀ j u, (l.map encB)[j]? = some u → W.cell? (ad.add j) = some u := by
 intro ad e j u hu
 have hj : j < l.length := by
  have := (List.getElem?_eq_some_iff.1 hu).1
  simpa using this
 obtain ⟨b, off, e2, hc⟩ := h j hj
 rw [e] at e2
 cases e2
 rw [Addr.add_lit, hc, ← hu]
 simp [hj, encB, List.getD]
theorem nil_of {W : World} {l : List Nat} (h : Bs W none l) : l = [] := by
 cases l with
 | nil => rfl
 | cons x l => obtain ⟨_, _, e, _⟩ := h 0 (by simp); cases e
theorem conv_bs {W : World} {o : Option Addr} {l : List Nat} {n : Nat} (cap : Nat) (hn : l.length = n) (h : Bs W o l) : (convert 31 9 (.slice o n cap)).run Tryz.prog W = .ok (.string (bstr l)) W := by
 subst hn
 rw [run_convert_bytes_string W _ _ _ _ _ _ Tryz.underlying31 Tryz.underlying5 Tryz.underlying9]
 cases o with
 | none =>
  have : l = [] := by
   cases l with
   | nil => rfl
   | cons x l => obtain ⟨_, _, e, _⟩ := h 0 (by simp); cases e
  subst this
  rfl
 | some a =>
  have hl := run_loadCells_list (P := Tryz.prog) (w := W) a (l.map encB) (news_any h a rfl)
  rw [List.length_map] at hl
  have hm : l.map encB = (l.map fun x : Nat => (x : Int)).map (Value.int .u8) := by simp [encB]
  rw [hm] at hl
  rw [run_bytesToString W _ _ _ _ hl, push_all]
  simp [bstr, ByteArray.empty, ByteArray.emptyWithCapacity]
  rfl
theorem bs_at {W : World} {b off : Nat} {l : List Nat} (h : Bs W (some ⟨b, off, none⟩) l) {j : Nat} (hj : j < l.length) : W.cell? ⟨b, off + j, none⟩ = some (.int .u8 ((l.getD j 0 : Nat) : Int)) := by
 obtain ⟨_, _, e, hc⟩ := h j hj
 cases e
 exact hc
theorem lit_row (w : World) (l : List Nat) (C : Array Value) (hC : C = bR l) (fr : Nat × Nat) : Bs (w.alloc (.cells C 5 fr)) (some ⟨w.heap.size, 0, none⟩) l := by
 subst hC
 exact Bs.row (heap_alloc_new w _)
end Go.Proofs.YtbbhmhihpdmoiaaGreat.Pk

set_option linter.unusedVariables false
set_option linter.unusedSimpArgs false
namespace Go.Proofs.YtbbhmhihpdmoiaaGreat.Pk
open Go Go.RowKit
def formF : Nat → Nat → List Nat
 | 0, n => [n]
 | f + 1, n => if n < 128 then [n] else (128 + n % 128) :: formF f (n / 128)
def form (n : Nat) : List Nat := formF 10 n
theorem formF_more : ∀ (f m : Nat), 1 ≤ f → m < 128 ^ f → formF f m = formF (f + 1) m
 | 0, _, h, _ => by omega
 | f + 1, m, _, h => by
  by_cases h1 : m < 128
  ·simp only [formF, if_pos h1]
  ·have e : ∀ g, formF (g + 1) m = (128 + m % 128) :: formF g (m / 128) := fun g => by simp only [formF, if_neg h1]
   rw [e, e]
   congr 1
   have hf : 1 ≤ f := by
    rcases Nat.eq_zero_or_pos f with rfl | h0
    ·simp at h; omega
    ·exact h0
   exact formF_more f (m / 128) hf (by rw [Nat.pow_succ] at h; omega)
theorem form_small {n : Nat} (h : n < 128) : form n = [n] := by unfold form; simp only [formF, if_pos h]
theorem form_big {n : Nat} (h : ¬ n < 128) (hn : n < 18446744073709551616) : form n = (128 + n % 128) :: form (n / 128) := by
 unfold form
 have e : formF 10 n = (128 + n % 128) :: formF 9 (n / 128) := by rw [formF, if_neg h]
 rw [e, formF_more 9 _ (by omega) (by have : (128 : Nat) ^ 9 = 9223372036854775808 := by decide
                                      omega)]
theorem formF_len : ∀ (f n : Nat), 1 ≤ (formF f n).length ∧ (formF f n).length ≤ f + 1
 | 0, n => by simp [formF]
 | f + 1, n => by
  simp only [formF]
  split
  ·simp
  ·have := formF_len f (n / 128)
   simp
   omega
theorem form_len (n : Nat) : 1 ≤ (form n).length ∧ (form n).length ≤ 11 := formF_len 10 n
theorem form_by : ∀ (f n : Nat), n < 128 ^ (f + 1) → By (formF f n)
 | 0, n, h => by
  intro c hc
  simp [formF] at hc
  subst hc
  simp at h
  omega
 | f + 1, n, h => by
  simp only [formF]
  split
  ·intro c hc
   simp at hc
   subst hc
   omega
  ·intro c hc
   rcases List.mem_cons.1 hc with rfl | hc
   ·omega
   ·exact form_by f (n / 128) (by rw [Nat.pow_succ] at h; omega) c hc
theorem form_bytes {n : Nat} (hn : n < 18446744073709551616) : By (form n) := form_by 10 n (by
 have h : (128 : Nat) ^ (10 + 1) = 151115727451828646838272 := by decide
 rw [h]
 omega)
theorem Own.alloc {w : World} {B : Nat} {v : Value} {l : List Nat} (s : Own w B v l) (o : Obj) : Own (w.alloc o) B v l := by
 obtain ⟨h1, h2⟩ := s
 refine ⟨h1, ?_⟩
 rcases h2 with h2 | ⟨g, cap, cur, e, hb, hg, h3⟩
 ·exact Or.inl h2
 ·exact Or.inr ⟨g, cap, cur, e, hb, step_row hg, h3⟩
theorem Own.more {w : World} {B : Nat} {v : Value} {l m : List Nat} (h : w.ownsRow B 5 1 v (l.length + m.length) (l.map encB ++ m.map encB)) : Own w B v (l ++ m) := by
 unfold Own
 rw [List.length_append, List.map_append]
 exact h
theorem Own.blk {w : World} {B : Nat} {v : Value} {l : List Nat} (s : Own w B v l) : ∀ k, v.ownBlock = some k → B ≤ k := by
 intro k hk
 obtain ⟨h1, h2⟩ := s
 rcases h2 with ⟨rfl, _⟩ | ⟨g, cap, cur, rfl, hb, _⟩
 ·cases hk
 ·cases hk
  exact hb
theorem pow_cut (k : Nat) (hk : k < 9) : (2 : Nat) ^ (64 - 7 * k) = 128 * 2 ^ (64 - 7 * (k + 1)) := by
 rw [show 64 - 7 * k = 7 + (64 - 7 * (k + 1)) by omega, Nat.pow_add]
theorem cell_one_new' (w : World) (v : Value) (t : TypeId) : ∀ j u, [v][j]? = some u → (w.alloc (.cells #[v] t)).cell? ((⟨w.heap.size, 0, none⟩ : Addr).add j) = some u := by
 intro j u hu
 have hj : j = 0 := by
  have := (List.getElem?_eq_some_iff.1 hu).1
  simp at this
  omega
 subst hj
 rw [Addr.add_lit, cell_of_row _ _ _ _ _ _ (heap_alloc_new _ _)]
 exact hu
set_option maxRecDepth 100000 in
set_option maxHeartbeats 2000000 in
theorem zform_any (n : Nat) (hn : n < 18446744073709551616) (w : World) :
  Calls Tryz.prog 67 #[.int .u64 (n : Int)] w fun e w' => (∃ v, e = .returned v ∧ Own w' w.heap.size v (form n)) ∧ Below w.heap.size w w' := by
 obtain ⟨i0, hi, hz0, hz1, hz2⟩ := info_parts info5
 have HN := Lib.hid hn
 clear hn
 go_enter Tryz.func67, Tryz.ntmps67
 go_wp2_with fail
 go_loopg [0, 3, 4] 9 (fun g s0 s3 s4 wr => ∃ (k m : Nat) (l : List Nat), g = 9 - k ∧ k ≤ 9 ∧ s4 = .int .i64 (k : Int) ∧ s0 = .int .u64 (m : Int) ∧ l.length = k ∧ l ++ form m = form n ∧ m < 2 ^ (64 - 7 * k) ∧ Own wr w.heap.size s3 l ∧ Below w.heap.size w wr)
 case atStart => exact ⟨0, n, [], rfl, by omega, rfl, rfl, rfl, rfl, HN.out, World.ownsRow_nil _ _ _ _, Below.refl _ _⟩
 case round =>
  obtain ⟨k, m, l, hg, hk, rfl, rfl, hl, hf, hm, ho, hb⟩ := hrel
  have HO := Lib.hid ho
  have HB := Lib.hid hb
  have HF := Lib.hid hf
  have HL := Lib.hid hl
  have HM := Lib.hid hm
  have hs := hb.size
  have HS := Lib.hid hs
  subst hg
  clear ho hb hf hl hm hs
  have HOA := fun o => HO.out.alloc o
  have HOAH := Lib.hid HOA
  clear HOA
  by_cases h128 : m < 128
  ·have t2 : ¬ (128 : Int) ≤ (m : Int) := by omega
   have hk10 : (k : Int) < 10 := by omega
   have hnm : Hid (form m = [m]) := Lib.hid (form_small h128)
   have m0 : (0 : Int) ≤ (m : Int) := by omega
   have m1 : (m : Int) < 128 := by omega
   go_wp2_with (at_builtin; refine wpList_append_own _ rfl _ _ 31 rfl w.heap.size 5 i0 (.int .u8 0) 1 1 Tryz.underlying31 hi hz0 hz1 hz2 rfl (by decide) _ l.length (l.map encB) rfl (HOAH.out _) ⟨wr.heap.size, 0, none⟩ 1 1 [.int .u8 (m : Int)] rfl rfl (cell_one_new' _ _ _) (by simp [Value.oneCell']) (by have := HL.out; unfold maxLen; omega) (by have := HL.out; omega) (by have := HS.out; simp; omega) ?_; intro v' w1 hown hgrow _)
   have HO2 : Hid (Own w1 w.heap.size v' (form n)) := Lib.hid (by
    rw [← HF.out, hnm.out]
    exact Own.more hown)
   have HB2 : Hid (Below w.heap.size w w1) := Lib.hid ((HB.out.alloc HB.out.size _).grown hgrow (by have := HS.out; simp; omega) (fun k hk => HO.out.blk k hk))
   clear hown hgrow
   go_ret
   exact ⟨⟨v', rfl, HO2.out⟩, HB2.out⟩
  ·have hk9 : k < 9 := by
    rcases Nat.lt_or_ge k 9 with h | h
    ·exact h
    ·have := HM.out
     have e : k = 9 := by omega
     subst e
     simp at this
     omega
   have t1 : (k : Int) < 10 := by omega
   have t2 : (128 : Int) ≤ (m : Int) := by omega
   have hm64 : m < 18446744073709551616 := by
    have h1 := HM.out
    have h2 : (2 : Nat) ^ (64 - 7 * k) ≤ 2 ^ 64 := Nat.pow_le_pow_right (by omega) (by omega)
    have h3 : (2 : Nat) ^ 64 = 18446744073709551616 := by decide
    omega
   have hnm : Hid (form m = (128 + m % 128) :: form (m / 128)) := Lib.hid (form_big h128 hm64)
   have HM2 : Hid (m / 128 < 2 ^ (64 - 7 * (k + 1))) := Lib.hid (by
    have h1 := HM.out
    rw [pow_cut k hk9] at h1
    exact Nat.div_lt_of_lt_mul h1)
   have hc : (128 + (m : Int) % 128) = ((128 + m % 128 : Nat) : Int) := by omega
   have HC := Lib.hid hc
   have HW : Hid (IntKind.u64.wrap ((m : Int) / 128) = (m : Int) / 128) := Lib.hid (by rw [IntKind.wrap_u64]; omega)
   clear hm64 hc
   go_wp2_with (at_builtin; refine wpList_append_own _ rfl _ _ 31 rfl w.heap.size 5 i0 (.int .u8 0) 1 1 Tryz.underlying31 hi hz0 hz1 hz2 rfl (by decide) _ l.length (l.map encB) rfl (HOAH.out _) ⟨wr.heap.size, 0, none⟩ 1 1 [.int .u8 (128 + (m : Int) % 128)] rfl rfl (cell_one_new' _ _ _) (by simp [Value.oneCell']) (by have := HL.out; unfold maxLen; omega) (by have := HL.out; omega) (by have := HS.out; simp; omega) ?_; intro v' w1 hown hgrow _)
   have HO2 : Hid (Own w1 w.heap.size v' (l ++ [128 + m % 128])) := Lib.hid (by
    rw [HC.out] at hown
    exact Own.more (m := [128 + m % 128]) hown)
   have HB2 : Hid (Below w.heap.size w w1) := Lib.hid ((HB.out.alloc HB.out.size _).grown hgrow (by have := HS.out; simp; omega) (fun k hk => HO.out.blk k hk))
   clear hown hgrow
   go_roundg (9 - (k + 1))
   case measure => omega
   case rel => exact ⟨k + 1, m / 128, l ++ [128 + m % 128], rfl, by omega, by go_num, by rw [HW.out]; go_num, by have := HL.out; simp; omega, by rw [← HF.out, hnm.out]; simp, HM2.out, HO2.out, HB2.out⟩
end Go.Proofs.YtbbhmhihpdmoiaaGreat.Pk

set_option linter.unusedVariables false
set_option linter.unusedSimpArgs false
namespace Go.Proofs.YtbbhmhihpdmoiaaGreat.Pk
open Go Go.RowKit
theorem app_bs {ops : Array Oper} {rest : List Oper} {o : Oper} {a : Act} {Q : Exit → Act → World → Prop} {w : World} (hgd : o.guard = none) (s x : Operand)
  (ho : o.op = .call { callee := .builtin .append, args := #[s, x], argTypes := #[31, 31] })
  (B : Nat) (v : Value) (l : List Nat) (hs : a.eval s = v) (hown : Own w B v l) (ox : Option Addr) (m : List Nat) (c : Nat) (hx : a.eval x = .slice ox m.length c) (hc : ox = none → c = 0) (hb : Bs w ox m)
  (hlen : l.length + m.length ≤ 1000000000) (hbase : B ≤ w.heap.size)
  (h : ∀ v' w', Own w' B v' (l ++ m) → w.grownBy w' v.ownBlock → wpList Tryz.prog ops Q rest (a.put o.dst v') w') : wpList Tryz.prog ops Q (o :: rest) a w := by
 obtain ⟨i0, hi, hz0, hz1, hz2⟩ := info_parts info5
 cases ox with
 | none =>
  obtain rfl := nil_of hb
  obtain rfl := hc rfl
  refine wpList_append_own_none hgd s x 31 ho B 5 i0 1 Tryz.underlying31 hi v l.length (l.map encB) hs hown hx ?_
  exact h v w (by rw [List.append_nil]; exact hown) (World.grownBy.refl _ _)
 | some ad =>
  refine wpList_append_own w hgd s x 31 ho B 5 i0 (.int .u8 0) 1 1 Tryz.underlying31 hi hz0 hz1 hz2 rfl (by decide) v l.length (l.map encB) hs hown ad m.length c (m.map encB) hx (by simp) (news_any hb ad rfl) (news_one m) (by unfold maxLen; omega) (by omega) hbase ?_
  intro v' w' hown' hgrow _
  exact h v' w' (by unfold Own; rw [List.length_append, List.map_append]; exact hown') hgrow
def ZW (B p : Nat) (l : List Nat) (lost : Bool) (W : World) : Prop := ∃ v, W.heap[p]? = some (.cells #[v, .bool lost] 81 (0, 0)) ∧ Own W B v l
theorem ZW.lt {B p : Nat} {l : List Nat} {lost : Bool} {W : World} (h : ZW B p l lost W) : p < W.heap.size := by
 obtain ⟨v, h, _⟩ := h
 exact (Array.getElem?_eq_some_iff.1 h).1
theorem ZW.below {B p : Nat} {l : List Nat} {lost : Bool} {W X : World} (h : ZW B p l lost W) (hb : Below W.heap.size W X) : ZW B p l lost X := by
 obtain ⟨v, h, o⟩ := h
 exact ⟨v, keep_row hb h, o.below hb⟩
theorem Own.apart {W : World} {B p : Nat} {v : Value} {l : List Nat} {cs : Array Value} {t : TypeId} {fr : Nat × Nat} (s : Own W B v l) (h : W.heap[p]? = some (.cells cs t fr)) (ht : t ≠ 5) : ∀ k, v.ownBlock = some k → k ≠ p := by
 intro k hk e
 subst e
 obtain ⟨h1, h2⟩ := s
 rcases h2 with ⟨rfl, _⟩ | ⟨g, cap, cur, rfl, hb, hg, _⟩
 ·cases hk
 ·cases hk
  rw [h] at hg
  injection hg with hg
  injection hg with _ hg
  exact ht hg
theorem Own.grown {W X : World} {B : Nat} {v : Value} {l : List Nat} {row : Option Nat} (s : Own W B v l) (hg : W.grownBy X row) (hr : ∀ k, v.ownBlock = some k → some k ≠ row) : Own X B v l := by
 obtain ⟨h1, h2⟩ := s
 refine ⟨h1, ?_⟩
 rcases h2 with h2 | ⟨g, cap, cur, rfl, hb, hgg, h3⟩
 ·exact Or.inl h2
 ·exact Or.inr ⟨g, cap, cur, rfl, hb, by rw [hg.block g (Array.getElem?_eq_some_iff.1 hgg).1 (hr g rfl)]; exact hgg, h3⟩
theorem below_grown {w w' : World} (h : Below w.heap.size w w') (row : Option Nat) : w.grownBy w' row := ⟨h.os, h.tape, h.output, h.size, fun k hk _ => h.block k hk⟩
theorem grown_cell (W : World) (b j : Nat) (v : Value) : W.grownBy (W.setCell ⟨b, j, none⟩ v) (some b) :=
 ⟨rfl, rfl, rfl, by simp, fun k hk hne => heap_setCell_other _ _ _ _ (by intro e; exact hne (by rw [e]))⟩
def PutPost (p : Nat) (l m : List Nat) (lost may : Bool) (w : World) (e : Ending) (w' : World) : Prop :=
 e = .returned undef ∧ (lost = false → may = true → ZW w.heap.size p (l ++ m) false w') ∧ (lost = true ∨ may = false → w' = w.setCell ⟨p, 1, none⟩ (.bool true)) ∧ w.grownBy w' (some p)
theorem bs_apart {W : World} {p : Nat} {v : Value} {lost : Bool} {t : TypeId} {b off : Nat} {m : List Nat} (h : W.heap[p]? = some (.cells #[v, .bool lost] t (0, 0))) (hv : ∀ x : Int, v ≠ .int .u8 x) (hb : Bs W (some ⟨b, off, none⟩) m) (hm : 0 < m.length) : b ≠ p := by
 rintro rfl
 obtain ⟨b', off', e, hc⟩ := hb 0 hm
 cases e
 rw [cell_of_row _ _ _ _ _ _ h] at hc
 obtain h0 | h0 | h0 : off + 0 = 0 ∨ off + 0 = 1 ∨ 2 ≤ off + 0 := by omega
 ·rw [h0] at hc
  simp at hc
  exact hv _ hc
 ·rw [h0] at hc
  simp at hc
 ·rw [Array.getElem?_eq_none (by simpa using h0)] at hc
  cases hc
theorem Bs.set {W : World} {o : Option Addr} {m : List Nat} (hb : Bs W o m) {p j : Nat} (v : Value) (h : ∀ b off, o = some ⟨b, off, none⟩ → 0 < m.length → b ≠ p) : Bs (W.setCell ⟨p, j, none⟩ v) o m := fun i hi => by
 obtain ⟨b, off, e, hc⟩ := hb i hi
 refine ⟨b, off, e, ?_⟩
 have hne := h b off e (by omega)
 rw [World.cell?_of_block (show (W.setCell ⟨p, j, none⟩ v).heap[b]? = W.heap[b]? from heap_setCell_other _ _ _ _ hne)]
 exact hc
theorem Bs.grown {W X : World} {o : Option Addr} {m : List Nat} {row : Option Nat} (hb : Bs W o m) (hg : W.grownBy X row) (h : ∀ b off, o = some ⟨b, off, none⟩ → 0 < m.length → some b ≠ row) : Bs X o m := fun i hi => by
 obtain ⟨b, off, e, hc⟩ := hb i hi
 exact ⟨b, off, e, hg.cell hc (h b off e (by omega))⟩
theorem Bs.lt {W : World} {b off : Nat} {m : List Nat} (hb : Bs W (some ⟨b, off, none⟩) m) (hm : 0 < m.length) : b < W.heap.size := by
 obtain ⟨b', off', e, hc⟩ := hb 0 hm
 cases e
 rcases Nat.lt_or_ge b W.heap.size with h | h
 ·exact h
 ·rw [World.cell?, Array.getElem?_eq_none h] at hc
  cases hc
set_option maxRecDepth 100000 in
set_option maxHeartbeats 2000000 in
theorem zput_off (B p : Nat) (l m : List Nat) (lost may : Bool) (o : Option Addr) (c : Nat) (w : World) (h : lost = true ∨ may = false) (hw : ZW B p l lost w) :
  Calls Tryz.prog 66 #[.pointer (some ⟨p, 0, none⟩), .slice o m.length c, .bool may] w (PutPost p l m lost may w) := by
 obtain ⟨v, hrow, ho⟩ := hw
 have c0 : w.cell? ⟨p, 0, none⟩ = some v := by rw [cell_of_row _ _ _ _ _ _ hrow]; rfl
 have c1 : w.cell? ⟨p, 1, none⟩ = some (.bool lost) := by rw [cell_of_row _ _ _ _ _ _ hrow]; rfl
 have f1 : w.frozen? ⟨p, 1, none⟩ = false := frozen_row hrow
 have HP : Hid (PutPost p l m lost may w (.returned undef) (w.setCell ⟨p, 1, none⟩ (.bool true))) := Lib.hid ⟨rfl, fun h1 h2 => by rcases h with h | h <;> simp_all, fun _ => rfl, grown_cell _ _ _ _⟩
 clear hrow ho
 cases lost with
 | true =>
  clear h
  go_enter Tryz.func66, Tryz.ntmps66
  go_wp2_with fail
  exact bodyPost_ret (results_none rfl _ _ _) rfl HP.out
 | false =>
  obtain rfl : may = false := by
   rcases h with h | h
   ·cases h
   ·exact h
  clear h
  go_enter Tryz.func66, Tryz.ntmps66
  go_wp2_with fail
  exact bodyPost_ret (results_none rfl _ _ _) rfl HP.out
set_option maxRecDepth 100000 in
set_option maxHeartbeats 2000000 in
theorem zput_on (B p : Nat) (l m : List Nat) (o : Option Addr) (c : Nat) (w : World) (hc : o = none → c = 0) (hb : Bs w o m) (hlen : l.length + m.length ≤ 1000000000) (hw : ZW B p l false w) :
  Calls Tryz.prog 66 #[.pointer (some ⟨p, 0, none⟩), .slice o m.length c, .bool true] w (PutPost p l m false true w) := by
 have hp := hw.lt
 obtain ⟨v, hrow, ho⟩ := hw
 obtain ⟨o1, cap1, rfl, hb1, _, _, hn1, _⟩ := ho.open
 have c0 : w.cell? ⟨p, 0, none⟩ = some (.slice o1 l.length cap1) := by rw [cell_of_row _ _ _ _ _ _ hrow]; rfl
 have c1 : w.cell? ⟨p, 1, none⟩ = some (.bool false) := by rw [cell_of_row _ _ _ _ _ _ hrow]; rfl
 have f0 : w.frozen? ⟨p, 0, none⟩ = false := frozen_row hrow
 have f1 : w.frozen? ⟨p, 1, none⟩ = false := frozen_row hrow
 have R1 : (w.setCell ⟨p, 1, none⟩ (.bool false)).heap[p]? = some (.cells #[.slice o1 l.length cap1, .bool false] 81 (0, 0)) := heap_setCell_same _ _ 1 _ _ (.bool false) hrow
 have B1 : Bs (w.setCell ⟨p, 1, none⟩ (.bool false)) o1 l := hb1.set _ fun b off e hm => by subst e; exact bs_apart hrow (by intro x h; cases h) hb1 hm
 have B2 : Bs (w.setCell ⟨p, 1, none⟩ (.bool false)) o m := hb.set _ fun b off e hm => by subst e; exact bs_apart hrow (by intro x h; cases h) hb hm
 have G1 := grown_cell w p 1 (.bool false)
 have HR1 := Lib.hid R1
 have HB1 := Lib.hid B1
 have HB2 := Lib.hid B2
 have HG1 := Lib.hid G1
 have HN1 := Lib.hid hn1
 have HC := Lib.hid hc
 have HLEN := Lib.hid hlen
 clear hrow ho hb1 hn1 R1 B1 B2 G1 hc hb hlen
 go_enter Tryz.func66, Tryz.ntmps66
 go_wp2_with (first
  | (at_builtin; refine app_bs rfl (.tmp 22) (.tmp 26) rfl w.heap.size _ [] rfl (World.ownsRow_nil _ _ _ _) o1 l cap1 rfl HN1.out HB1.out (by have := HLEN.out; simp; omega) (by simp) ?_; intro v1 w1 ho1 hg1; have HO1 := Lib.hid ho1; have HGR1 := Lib.hid hg1; clear ho1 hg1)
  | (at_builtin; refine app_bs rfl (.tmp 29) (.tmp 30) rfl w.heap.size v1 l rfl HO1.out o m c rfl HC.out (HB2.out.grown HGR1.out (fun b off e hm h => by cases h)) HLEN.out (by have := HGR1.out.size; simp at this; omega) ?_; intro v2 w2 ho2 hg2
     obtain ⟨q, hq⟩ : ∃ q, l ++ m = q := ⟨_, rfl⟩
     rw [hq] at ho2
     have HQ := Lib.hid hq
     clear hq
     obtain ⟨o2, cap2, rfl, _, _, _, _, _⟩ := ho2.open
     have R2 : w1.heap[p]? = some (.cells #[.slice o1 l.length cap1, .bool false] 81 (0, 0)) := (HGR1.out.block p (by simpa using hp) (by intro h; cases h)).trans HR1.out
     have AP := HO1.out.apart R2 (by decide)
     have R3 : w2.heap[p]? = some (.cells #[.slice o1 l.length cap1, .bool false] 81 (0, 0)) := (hg2.block p (Array.getElem?_eq_some_iff.1 R2).1 (by intro h; exact AP p h.symm rfl)).trans R2
     have d0 : w2.cell? ⟨p, 0, none⟩ = some (.slice o1 l.length cap1) := by rw [cell_of_row _ _ _ _ _ _ R3]; rfl
     have e0 : w2.frozen? ⟨p, 0, none⟩ = false := frozen_row R3
     have HO2 := Lib.hid ho2
     have HG2 := Lib.hid hg2
     have HR3 := Lib.hid R3
     have HAP := Lib.hid AP
     clear ho2 hg2 R2 R3 AP))
 have hne : ∀ k, (Value.slice o2 q.length cap2).ownBlock = some k → k ≠ p := HO2.out.apart HR3.out (by decide)
 have R4 := heap_setCell_same _ _ 0 _ _ (.slice o2 q.length cap2) HR3.out
 have GG : w.grownBy (w2.setCell ⟨p, 0, none⟩ (.slice o2 q.length cap2)) (some p) := by
  refine ⟨?_, ?_, ?_, ?_, ?_⟩
  ·exact (HG2.out.os.trans HGR1.out.os)
  ·exact (HG2.out.tape.trans HGR1.out.tape)
  ·exact (HG2.out.output.trans HGR1.out.output)
  ·have h1 := HGR1.out.size
   have h2 := HG2.out.size
   simp at h1 ⊢
   omega
  ·intro k hk hkp
   have hkp' : k ≠ p := fun e => hkp (by rw [e])
   have h1 := HGR1.out.size
   simp at h1
   rw [heap_setCell_other _ _ _ _ hkp', HG2.out.block k (by omega) (fun e => by have := HO1.out.blk k e.symm; omega), HGR1.out.block k (by simpa using hk) (by intro h; cases h), heap_setCell_other _ _ _ _ hkp']
 refine bodyPost_ret (results_none rfl _ _ _) rfl ⟨rfl, fun _ _ => ⟨_, R4, ?_⟩, fun (h : false = true ∨ true = false) => (by rcases h with h | h <;> cases h), GG⟩
 rw [HQ.out]
 exact HO2.out.grown (grown_cell _ _ _ _) (fun k hk h => hne k hk (Option.some.inj h))
end Go.Proofs.YtbbhmhihpdmoiaaGreat.Pk
