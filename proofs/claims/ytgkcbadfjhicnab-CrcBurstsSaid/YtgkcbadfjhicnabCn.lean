/- Bytes as strings; Open and Sum of rows; CrcNames, walked. -/
import Derived.Test.YtgkcbadfjhicnabProg
import Derived.Test.YtgkcbadfjhicnabCx
import Derived.Laws.BytesString
import Derived.Lib.SlBytesConst
import Derived.WalkKit
import Derived.Lib.Hide
import Derived.Outline
import Derived.Deep.QuietTactic
import Derived.BigQuiet
set_option linter.unusedVariables false
set_option linter.unusedSimpArgs false
namespace Go.Proofs.Ytgkcbadfjhicnab.Fx
open Go Go.RowKit
/-- the string that bytes make -/
def bstr (l : List Nat) : ByteArray := ⟨(l.map UInt8.ofNat).toArray⟩
theorem push_all (l : List Nat) : ∀ (b : ByteArray), (l.map fun x : Nat => (x : Int)).foldl (fun r n => r.push (UInt8.ofNat n.toNat)) b = ⟨b.data ++ (l.map UInt8.ofNat).toArray⟩ := by
  induction l with
  | nil => intro b; simp
  | cons x l ih =>
    intro b
    simp only [List.map_cons, List.foldl_cons]
    rw [ih]
    simp [ByteArray.push]
theorem conv_bs {W : World} {o : Option Addr} {l : List Nat} {n : Nat} (cap : Nat) (hn : l.length = n) (h : Bs W o l) : (convert 22 9 (.slice o n cap)).run Try.prog W = .ok (.string (bstr l)) W := by
  subst hn
  rw [run_convert_bytes_string W _ _ _ _ _ _ Try.underlying22 Try.underlying5 Try.underlying9]
  cases o with
  | none =>
    have : l = [] := by
      cases l with
      | nil => rfl
      | cons x l => obtain ⟨_, _, e, _⟩ := h 0 (by simp); cases e
    subst this
    rfl
  | some a =>
    have hl := run_loadCells_list (P := Try.prog) (w := W) a (l.map encB) (news_any h a rfl)
    rw [List.length_map] at hl
    have hm : l.map encB = (l.map fun x : Nat => (x : Int)).map (Value.int .u8) := by simp [encB]
    rw [hm] at hl
    rw [run_bytesToString W _ _ _ _ hl, push_all]
    simp [bstr, ByteArray.empty, ByteArray.emptyWithCapacity]
    rfl
/-- Sum, the world behind it a new letter -/
theorem sum_new (l : List Nat) (n : Nat) (hn : l.length = n) (m : Nat) (hm : more 0 l = m) (o : Option Addr) (cap : Nat) (w : World) (hl : By l) (hlen : l.length ≤ 100000) (hb : Bs w o l) :
    Calls Try.prog 8 #[.slice o n cap] w fun e w' => e = .returned (.int .u32 (m : Int)) ∧ Below w.heap.size w w' := by
  subst hn; subst hm
  refine (sum_any l o cap w hl (by omega) hb).mono ?_
  rintro e w' ⟨rfl, rfl⟩
  exact ⟨rfl, Below.refl _ _⟩
theorem bs_part {W : World} {b off : Nat} {l m : List Nat} (h : Bs W (some ⟨b, off, none⟩) (l ++ m)) : Bs W (some ⟨b, off, none⟩) l := by
  have := h.take l.length
  rwa [List.take_left] at this
theorem bs_at {W : World} {b off : Nat} {l : List Nat} (h : Bs W (some ⟨b, off, none⟩) l) {j : Nat} (hj : j < l.length) : W.cell? ⟨b, off + j, none⟩ = some (.int .u8 ((l.getD j 0 : Nat) : Int)) := by
  obtain ⟨_, _, e, hc⟩ := h j hj
  cases e
  exact hc
/-- Open of bytes with four behind -/
theorem open_at (l : List Nat) (c0 c1 c2 c3 b off cap : Nat) (w : World) (hl : By l) (hlen : l.length ≤ 100000) (hcap : l.length + 4 ≤ cap) (hcap2 : cap ≤ 9223372036854775807) (hb : Bs w (some ⟨b, off, none⟩) (l ++ [c0, c1, c2, c3])) :
    Calls Try.prog 16 #[.slice (some ⟨b, off, none⟩) (l.length + 4) cap] w fun e w' =>
      if ([c0, c1, c2, c3] == le4 (more 0 l)) = true then (∃ v, e = .returned (.tuple #[v, .int .i64 0]) ∧ Own w' w.heap.size v l) ∧ Below w.heap.size w w' else No w e w' := by
  have g0 := bs_at hb (j := l.length) (by simp)
  have g1 := bs_at hb (j := l.length + 1) (by simp)
  have g2 := bs_at hb (j := l.length + 2) (by simp)
  have g3 := bs_at hb (j := l.length + 3) (by simp)
  simp [List.getD] at g0 g1 g2 g3
  exact open_long l c0 c1 c2 c3 b off cap w hl hlen hcap hcap2 (bs_part hb) g0 (by rw [Nat.add_assoc]; exact g1) (by rw [Nat.add_assoc]; exact g2) (by rw [Nat.add_assoc]; exact g3)
/-- the bytes are sealed ones -/
theorem open_ok (l : List Nat) (c0 c1 c2 c3 b off n cap : Nat) (w : World) (hn : l.length + 4 = n) (hs : [c0, c1, c2, c3] = le4 (more 0 l)) (hl : By l) (hlen : l.length ≤ 100000) (hcap : n ≤ cap) (hcap2 : cap ≤ 9223372036854775807) (hb : Bs w (some ⟨b, off, none⟩) (l ++ [c0, c1, c2, c3])) :
    Calls Try.prog 16 #[.slice (some ⟨b, off, none⟩) n cap] w fun e w' => (∃ v, e = .returned (.tuple #[v, .int .i64 0]) ∧ Own w' w.heap.size v l) ∧ Below w.heap.size w w' := by
  subst hn
  refine (open_at l c0 c1 c2 c3 b off cap w hl hlen hcap hcap2 hb).mono ?_
  intro e w' h
  rwa [if_pos (by rw [hs]; exact beq_self_eq_true _)] at h
/-- they are none -/
theorem open_no (l : List Nat) (c0 c1 c2 c3 b off n cap : Nat) (w : World) (hn : l.length + 4 = n) (hs : [c0, c1, c2, c3] ≠ le4 (more 0 l)) (hl : By l) (hlen : l.length ≤ 100000) (hcap : n ≤ cap) (hcap2 : cap ≤ 9223372036854775807) (hb : Bs w (some ⟨b, off, none⟩) (l ++ [c0, c1, c2, c3])) :
    Calls Try.prog 16 #[.slice (some ⟨b, off, none⟩) n cap] w (No w) := by
  subst hn
  refine (open_at l c0 c1 c2 c3 b off cap w hl hlen hcap hcap2 hb).mono ?_
  intro e w' h
  rwa [if_neg (by intro hc; exact hs (by simpa using hc))] at h
theorem lit_row (w : World) (l : List Nat) (C : Array Value) (hC : C = bR l) (fr : Nat × Nat) : Bs (w.alloc (.cells C 5 fr)) (some ⟨w.heap.size, 0, none⟩) l := by
  subst hC
  exact Bs.row (heap_alloc_new w _)
theorem seal_at (l : List Nat) (n : Nat) (hn : l.length = n) (q : List Nat) (hq : l ++ le4 (more 0 l) = q) (o : Option Addr) (cap : Nat) (w : World) (hl : By l) (hlen : l.length ≤ 100000) (ho : o = none → cap = 0) (hb : Bs w o l) :
    Calls Try.prog 15 #[.slice o n cap] w fun e w' => (∃ v, e = .returned v ∧ Own w' w.heap.size v q) ∧ Below w.heap.size w w' := by
  subst hn; subst hq
  exact seal_any l o cap w hl hlen ho hb
theorem both_val (a b : Nat) (n : Int) (m : Nat) (hm : (if n < 0 then 0 else both a b n.toNat) = m) (w : World) (ha : a < 4294967296) (hb : b < 4294967296) (hn : n ≤ 9223372036854775807) (hn0 : -9223372036854775808 ≤ n) :
    Calls Try.prog 12 #[.int .u32 (a : Int), .int .u32 (b : Int), .int .i64 n] w fun e w' => e = .returned (.int .u32 (m : Int)) ∧ Below w.heap.size w w' := by
  subst hm
  exact both_any a b n w ha hb hn hn0
set_option maxRecDepth 100000 in
set_option maxHeartbeats 4000000 in
theorem walk_crcNames (w : World) : Calls Try.prog 5 #[] w fun e w' => e = .returned (.bool true) ∧ Below w.heap.size w w' := by
  have kc := fun (w : World) (C : Array Value) (n c : Nat) => Lib.run_convert_bytes_const (P := Try.prog) w 22 5 C n c Try.underlying22 Try.underlying5
  go_enter Try.func5, Try.ntmps5
  go_wp2_with fail
  refine (seal_at [97] 1 rfl [97, 67, 190, 183, 232] (by kernel_rfl) _ 1 _ (By.of (by decide)) (by decide) (by intro h; cases h) (lit_row _ [97] _ rfl _)).mono ?_
  rintro e w1 ⟨⟨vs, rfl, hs1⟩, hb1⟩
  have HB1 : Hid (Below w.heap.size w w1) := Lib.hid (bnext (by go_grown) hb1)
  clear hb1
  go_wp2_with fail
  refine (open_ok [97] 67 190 183 232 _ _ 5 5 _ rfl (by kernel_rfl) (By.of (by decide)) (by decide) (by decide) (by decide) (lit_row _ [97, 67, 190, 183, 232] _ rfl _)).mono ?_
  rintro e w2 ⟨⟨va, rfl, ha2⟩, hb2⟩
  have hg2 : Below w1.heap.size w1 w2 := bnext (by go_grown) hb2
  have HB2 : Hid (Below w.heap.size w w2) := Lib.hid (bnext HB1.out hg2)
  have HS2 := Lib.hid (hs1.below hg2)
  have HA2 := Lib.hid ha2
  clear hb2 hg2 ha2 hs1
  go_wp2_with fail
  refine (open_no [97] 67 190 183 233 _ _ 5 5 _ rfl (by decide) (By.of (by decide)) (by decide) (by decide) (by decide) (lit_row _ [97, 67, 190, 183, 233] _ rfl _)).mono ?_
  rintro e w3 ⟨rfl, hb3⟩
  have hg3 : Below w2.heap.size w2 w3 := bnext (by go_grown) hb3
  have HB3 : Hid (Below w.heap.size w w3) := Lib.hid (bnext HB2.out hg3)
  have HS3 := Lib.hid (HS2.out.below hg3)
  have HA3 := Lib.hid (HA2.out.below hg3)
  clear hb3 hg3
  go_wp2_with fail
  refine (open_short 3 _ _ _ (by omega)).mono ?_
  rintro e w4 ⟨rfl, hb4⟩
  have hg4 : Below w3.heap.size w3 w4 := bnext (by go_grown) hb4
  have HB4 : Hid (Below w.heap.size w w4) := Lib.hid (bnext HB3.out hg4)
  have HS4 := Lib.hid (HS3.out.below hg4)
  have HA4 := Lib.hid (HA3.out.below hg4)
  clear hb4 hg4
  go_wp2_with fail
  refine (open_ok [] 0 0 0 0 _ _ 4 4 _ rfl (by kernel_rfl) (By.of (by decide)) (by decide) (by decide) (by decide) (lit_row _ [0, 0, 0, 0] _ rfl _)).mono ?_
  rintro e w5 ⟨⟨vc, rfl, hc5⟩, hb5⟩
  have hg5 : Below w4.heap.size w4 w5 := bnext (by go_grown) hb5
  have HB5 : Hid (Below w.heap.size w w5) := Lib.hid (bnext HB4.out hg5)
  have HS5 := Lib.hid (HS4.out.below hg5)
  have HA5 := Lib.hid (HA4.out.below hg5)
  have HC5 := Lib.hid hc5
  clear hb5 hg5 hc5
  go_wp2_with fail
  refine (sum_new [49, 50, 51, 52, 53] 5 rfl _ rfl _ 5 _ (By.of (by decide)) (by decide) (lit_row _ [49, 50, 51, 52, 53] _ rfl _)).mono ?_
  rintro e w6 ⟨rfl, hb6⟩
  have hg6 : Below w5.heap.size w5 w6 := bnext (by go_grown) hb6
  have HB6 : Hid (Below w.heap.size w w6) := Lib.hid (bnext HB5.out hg6)
  have HS6 := Lib.hid (HS5.out.below hg6)
  have HA6 := Lib.hid (HA5.out.below hg6)
  have HC6 := Lib.hid (HC5.out.below hg6)
  clear hb6 hg6
  obtain ⟨s1, hs1⟩ : ∃ s1, more 0 [49, 50, 51, 52, 53] = s1 := ⟨_, rfl⟩
  rw [hs1]
  have HV1 := Lib.hid hs1
  clear hs1
  go_wp2_with fail
  refine (sum_new [54, 55, 56, 57] 4 rfl _ rfl _ 4 _ (By.of (by decide)) (by decide) (lit_row _ [54, 55, 56, 57] _ rfl _)).mono ?_
  rintro e w7 ⟨rfl, hb7⟩
  have hg7 : Below w6.heap.size w6 w7 := bnext (by go_grown) hb7
  have HB7 : Hid (Below w.heap.size w w7) := Lib.hid (bnext HB6.out hg7)
  have HS7 := Lib.hid (HS6.out.below hg7)
  have HA7 := Lib.hid (HA6.out.below hg7)
  have HC7 := Lib.hid (HC6.out.below hg7)
  clear hb7 hg7
  obtain ⟨s2, hs2⟩ : ∃ s2, more 0 [54, 55, 56, 57] = s2 := ⟨_, rfl⟩
  rw [hs2]
  have HV2 := Lib.hid hs2
  clear hs2
  go_wp2_with fail
  refine (both_val s1 s2 4 3421780262 (by rw [← HV1.out, ← HV2.out]; kernel_rfl) _ (by rw [← HV1.out]; exact more_lt (By.of (by decide)) (by omega)) (by rw [← HV2.out]; exact more_lt (By.of (by decide)) (by omega)) (by omega) (by omega)).mono ?_
  rintro e w8 ⟨rfl, hg8⟩
  have HB8 : Hid (Below w.heap.size w w8) := Lib.hid (bnext HB7.out hg8)
  have HS8 := Lib.hid (HS7.out.below hg8)
  have HA8 := Lib.hid (HA7.out.below hg8)
  have HC8 := Lib.hid (HC7.out.below hg8)
  clear hg8
  go_wp2_with fail
  refine (alive_any _).mono ?_
  rintro e w9 ⟨rfl, hg9⟩
  have HB9 : Hid (Below w.heap.size w w9) := Lib.hid (bnext HB8.out hg9)
  have HS9 := Lib.hid (HS8.out.below hg9)
  have HA9 := Lib.hid (HA8.out.below hg9)
  have HC9 := Lib.hid (HC8.out.below hg9)
  clear hg9
  obtain ⟨os, cs, rfl, ts, _⟩ := HS9.out.open
  obtain ⟨oa, ca, rfl, ta, _⟩ := HA9.out.open
  obtain ⟨oc, cc, rfl, tc, _⟩ := HC9.out.open
  have vs1 := conv_bs cs rfl ts
  have va1 := conv_bs ca rfl ta
  simp only [show bstr [97, 67, 190, 183, 232] = { data := #[97, 67, 190, 183, 232] } from rfl, show bstr [97] = { data := #[97] } from rfl, List.length_cons, List.length_nil, Nat.reduceAdd] at vs1 va1
  simp only [List.length_cons, List.length_nil, Nat.reduceAdd]
  clear ts ta tc
  go_wp2_with fail
  refine (both_val 5 6 0 3 (by kernel_rfl) _ (by omega) (by omega) (by omega) (by omega)).mono ?_
  rintro e w10 ⟨rfl, hg10⟩
  have HB10 : Hid (Below w.heap.size w w10) := Lib.hid (bnext HB9.out hg10)
  clear hg10
  go_wp2_with fail
  refine (both_val 5 6 (-1) 0 (by kernel_rfl) _ (by omega) (by omega) (by omega) (by omega)).mono ?_
  rintro e w11 ⟨rfl, hg11⟩
  have HB11 : Hid (Below w.heap.size w w11) := Lib.hid (bnext HB10.out hg11)
  clear hg11
  go_wp2_with fail
  go_ret
  exact ⟨rfl, HB11.out⟩
end Go.Proofs.Ytgkcbadfjhicnab.Fx
