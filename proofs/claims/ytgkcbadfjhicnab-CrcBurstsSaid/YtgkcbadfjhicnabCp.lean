/- CrcParts, walked. -/
import Derived.Test.YtgkcbadfjhicnabProg
import Derived.Test.YtgkcbadfjhicnabHd
import Derived.Test.YtgkcbadfjhicnabCr
import Derived.Test.YtgkcbadfjhicnabCt
import Derived.Test.YtgkcbadfjhicnabCa
import Derived.WalkKit
import Derived.Lib.Hide
import Derived.Outline
import Derived.Shelf.Abstract
import Derived.Shelf.RegionOpen
import Derived.OwnWalkIn
import Derived.TacticsInMore
import Derived.Deep.QuietTactic
import Derived.BigQuiet
set_option linter.unusedVariables false
set_option linter.unusedSimpArgs false
namespace Go.Proofs.Ytgkcbadfjhicnab.Fx
open Go Go.RowKit Go.Shelf
attribute [local go_sem] Oper.semAt_some
theorem Bs.take {W : World} {o : Option Addr} {l : List Nat} (h : Bs W o l) (k : Nat) : Bs W o (l.take k) := fun j hj => by
  have hj2 : j < k ∧ j < l.length := by rw [List.length_take] at hj; omega
  obtain ⟨b, off, e, hc⟩ := h j hj2.2
  refine ⟨b, off, e, hc.trans ?_⟩
  simp [List.getD, List.getElem?_take, hj2.1]
theorem Bs.drop {W : World} {b off cap k : Nat} {l : List Nat} (hcap : l.length ≤ cap) (h : Bs W (some ⟨b, off, none⟩) l) : Bs W (if cap = k then some ⟨b, off, none⟩ else some ⟨b, off + k, none⟩) (l.drop k) := fun j hj => by
  rw [List.length_drop] at hj
  rw [if_neg (by omega)]
  obtain ⟨b', off', e, hc⟩ := h (k + j) (by omega)
  cases e
  refine ⟨b, off + k, rfl, ?_⟩
  rw [show off + k + j = off + (k + j) by omega, hc]
  simp [List.getD]
theorem Bs.none {W : World} {o : Option Addr} : Bs W o [] := fun j hj => absurd hj (by simp)
theorem sum_len (l : List Nat) (n : Nat) (hn : l.length = n) (o : Option Addr) (cap : Nat) (w : World) (hl : By l) (hlen : l.length ≤ 9223372036854775807) (hb : Bs w o l) :
    Calls Try.prog 8 #[.slice o n cap] w fun e w' => e = .returned (.int .u32 ((more 0 l : Nat) : Int)) ∧ w' = w := by
  subst hn
  exact sum_any l o cap w hl hlen hb
theorem more_len (s : Nat) (l : List Nat) (n : Nat) (hn : l.length = n) (o : Option Addr) (cap : Nat) (w : World) (hs : s < 4294967296) (hl : By l) (hlen : l.length ≤ 9223372036854775807) (hb : Bs w o l) :
    Calls Try.prog 10 #[.int .u32 (s : Int), .slice o n cap] w fun e w' => e = .returned (.int .u32 ((more s l : Nat) : Int)) ∧ w' = w := by
  subst hn
  exact more_any s l o cap w hs hl hlen hb
theorem both_cut (l : List Nat) (k : Nat) (hk : k ≤ l.length) (hl : By l) (hlen : l.length ≤ 9223372036854775807) (w : World) :
    Calls Try.prog 12 #[.int .u32 ((more 0 (l.take k) : Nat) : Int), .int .u32 ((more 0 (l.drop k) : Nat) : Int), .int .i64 ((l.length : Int) - (k : Int))] w (RetU (more 0 l) w) := by
  have h := both_any (more 0 (l.take k)) (more 0 (l.drop k)) ((l.length : Int) - (k : Int)) w (more_lt (hl.take k) (by omega)) (more_lt (hl.drop k) (by omega)) (by omega) (by omega)
  rw [if_neg (by omega), show ((l.length : Int) - (k : Int)).toNat = (l.drop k).length by rw [List.length_drop]; omega, both_append, List.take_append_drop] at h
  exact h
theorem more_cut (l : List Nat) (k : Nat) : more (more 0 (l.take k)) (l.drop k) = more 0 l := by rw [more_append, List.take_append_drop]
set_option maxRecDepth 100000 in
set_option maxHeartbeats 4000000 in
theorem parts_big (l : List Nat) (o : Option Addr) (cap at0 : Nat) (w : World) (hbig : 5000 < l.length) :
    Calls Try.prog 6 #[.slice o l.length cap, .int .u16 (at0 : Int)] w fun e w' => e = .returned (.bool true) ∧ Below w.heap.size w w' := by
  have t1 : (5000 : Int) < (l.length : Int) := by omega
  go_enter Try.func6, Try.ntmps6
  go_wp2_with fail
  refine (alive_any _).mono ?_
  rintro e w1 ⟨rfl, hb1⟩
  go_wp2_with fail
  go_ret
  exact ⟨rfl, hb1⟩
set_option maxRecDepth 100000 in
set_option maxHeartbeats 4000000 in
theorem parts_some (l : List Nat) (b off cap at0 k : Nat) (w : World) (hl : By l) (hlen : l.length ≤ 5000) (hcap : l.length ≤ cap ∧ cap ≤ 9223372036854775807) (hck : ¬ cap = k) (hk : (at0 : Int) % ((l.length : Int) + 1) = (k : Int)) (ha : at0 ≤ 65535)
    (hb : Bs w (some ⟨b, off, none⟩) l) :
    Calls Try.prog 6 #[.slice (some ⟨b, off, none⟩) l.length cap, .int .u16 (at0 : Int)] w fun e w' => e = .returned (.bool true) ∧ Below w.heap.size w w' := by
  have t1 : (l.length : Int) ≤ 5000 := by omega
  have t1' : ¬ (5000 : Int) < (l.length : Int) := by omega
  have hkl : k ≤ l.length := by
    have := Int.emod_lt_of_pos (at0 : Int) (show (0 : Int) < (l.length : Int) + 1 by omega)
    omega
  have htm : (at0 : Int).tmod ((l.length : Int) + 1) = (k : Int) := by rw [Int.tmod_eq_emod_of_nonneg (by omega), hk]
  obtain ⟨c0, c1⟩ := hcap
  have t2 : ¬ ((l.length : Int) + 1 = 0) := by omega
  have k0 : (k : Int) ≤ (l.length : Int) := by omega
  have k1 : (k : Int) ≤ (cap : Int) := by omega
  have k2 : (l.length : Int) ≤ (cap : Int) := by omega
  have S3 := fun W (h : Bs W (some ⟨b, off, none⟩) l) => sum_len (l.take k) k (by rw [List.length_take]; omega) (some ⟨b, off, none⟩) cap W (hl.take k) (by rw [List.length_take]; omega) (h.take k)
  have S7 := fun W (h : Bs W (some ⟨b, off, none⟩) l) => sum_len (l.drop k) (l.length - k) (by rw [List.length_drop]) (some ⟨b, off + k, none⟩) (cap - k) W (hl.drop k) (by rw [List.length_drop]; omega) (by have := h.drop (k := k) c0; rwa [if_neg hck] at this)
  have SA := fun W (h : Bs W (some ⟨b, off, none⟩) l) => sum_any l (some ⟨b, off, none⟩) cap W hl (by omega) h
  have SM := fun W (h : Bs W (some ⟨b, off, none⟩) l) => more_len (more 0 (l.take k)) (l.drop k) (l.length - k) (by rw [List.length_drop]) (some ⟨b, off + k, none⟩) (cap - k) W (more_lt (hl.take k) (by omega)) (hl.drop k) (by rw [List.length_drop]; omega) (by have := h.drop (k := k) c0; rwa [if_neg hck] at this)
  have SB := both_cut l k hkl hl (by omega)
  rw [more_cut] at SM
  have HS3 := Lib.hid S3; have HS7 := Lib.hid S7; have HSA := Lib.hid SA; have HSM := Lib.hid SM; have HSB := Lib.hid SB; have HBS := Lib.hid hb
  clear hk S3 S7 SA SM SB hb hl
  generalize more 0 (l.take k) = m1 at *
  generalize more 0 (l.drop k) = m2 at *
  generalize more 0 l = m at *
  go_enter Try.func6, Try.ntmps6
  go_wp2_with fail
  refine (alive_any _).mono ?_
  rintro e w1 ⟨rfl, hb1⟩
  have HB1 := Lib.hid hb1
  have HBW := Lib.hid (HBS.out.below hb1)
  clear hb1
  go_wp2_with fail
  refine (wpIn_wide (n := 5)).1 (held_region (F := Fence.wide) (S := fun X => Below w1.heap.size w1 X) (by kernel_rfl) (bdrew0 _ _ 1) (fun hHeld => ?_))
  refine held_take (fun _ => trivial) (by kernel_rfl) (i := 0) (oi := _) (v := ?_) rfl (by kernel_rfl) (by kernel_rfl) (by kernel_rfl) (fun _ _ _ h => h) (by assumption) (Or.inl ⟨by kernel_rfl, ?_⟩) ?_
  rotate_left
  · intro wz hSw; (first | (go_simp; done) | (go_simp; with_reducible rfl))
  (try simp only [Act.put, List.getElem_toArray, List.getElem_cons_zero, List.getElem_cons_succ, List.setIfInBounds_toArray, List.set_cons_zero, List.set_cons_succ])
  refine held_take (fun _ => trivial) (by kernel_rfl) (i := 1) (oi := _) (v := ?_) rfl (by kernel_rfl) (by kernel_rfl) (by kernel_rfl) (fun _ _ _ h => h) (by assumption) (Or.inl ⟨by kernel_rfl, ?_⟩) ?_
  rotate_left
  · intro wz hSw; (first | (go_simp; done) | (go_simp; with_reducible rfl))
  (try simp only [Act.put, List.getElem_toArray, List.getElem_cons_zero, List.getElem_cons_succ, List.setIfInBounds_toArray, List.set_cons_zero, List.set_cons_succ])
  refine held_take (fun _ => trivial) (by kernel_rfl) (i := 2) (oi := _) (v := ?_) rfl (by kernel_rfl) (by kernel_rfl) (by kernel_rfl) (fun _ _ _ h => h) (by assumption) (Or.inl ⟨by kernel_rfl, ?_⟩) ?_
  rotate_left
  · intro wz hSw; (first | (go_simp; done) | (go_simp; with_reducible rfl))
  (try simp only [Act.put, List.getElem_toArray, List.getElem_cons_zero, List.getElem_cons_succ, List.setIfInBounds_toArray, List.set_cons_zero, List.set_cons_succ])
  refine held_take (fun _ => trivial) (by kernel_rfl) (i := 4) (oi := _) (v := ?_) rfl (by kernel_rfl) (by kernel_rfl) (by kernel_rfl) (fun _ _ _ h => h) (by assumption) (Or.inl ⟨by kernel_rfl, ?_⟩) ?_
  rotate_left
  · intro wz hSw; (first | (go_simp; done) | (go_simp; with_reducible rfl))
  (try simp only [Act.put, List.getElem_toArray, List.getElem_cons_zero, List.getElem_cons_succ, List.setIfInBounds_toArray, List.set_cons_zero, List.set_cons_succ])
  refine held_take (fun _ => trivial) (by kernel_rfl) (i := 5) (oi := _) (v := ?_) rfl (by kernel_rfl) (by kernel_rfl) (by kernel_rfl) (fun _ _ _ h => h) (by assumption) (Or.inl ⟨by kernel_rfl, ?_⟩) ?_
  rotate_left
  · intro wz hSw; (first | (go_simp; done) | (go_simp; with_reducible rfl))
  (try simp only [Act.put, List.getElem_toArray, List.getElem_cons_zero, List.getElem_cons_succ, List.setIfInBounds_toArray, List.set_cons_zero, List.set_cons_succ])
  refine held_take (fun _ => trivial) (by kernel_rfl) (i := 6) (oi := _) (v := ?_) rfl (by kernel_rfl) (by kernel_rfl) (by kernel_rfl) (fun _ _ _ h => h) (by assumption) (Or.inl ⟨by kernel_rfl, ?_⟩) ?_
  rotate_left
  · intro wz hSw; (first | (go_simp; done) | (go_simp; with_reducible rfl))
  (try simp only [Act.put, List.getElem_toArray, List.getElem_cons_zero, List.getElem_cons_succ, List.setIfInBounds_toArray, List.set_cons_zero, List.set_cons_succ])
  refine held_step (fun _ => trivial) (i := 3) (o := _) (by kernel_rfl) rfl (fun K hK => ?_)
  go_simp
  refine ⟨trivial, callsIn_wide.2 ((HS3.out _ (HBW.out.below hHeld)).mono ?_)⟩
  rintro e wz ⟨rfl, rfl⟩
  dsimp only
  refine hK.out _ _ (hHeld) (fun hHeld => ?_)
  clear hK K
  (try simp only [Act.put, List.getElem_toArray, List.getElem_cons_zero, List.getElem_cons_succ, List.setIfInBounds_toArray, List.set_cons_zero, List.set_cons_succ])
  refine held_step (fun _ => trivial) (i := 7) (o := _) (by kernel_rfl) rfl (fun K hK => ?_)
  go_simp
  refine ⟨trivial, callsIn_wide.2 ((HS7.out _ (HBW.out.below hHeld)).mono ?_)⟩
  rintro e wz ⟨rfl, rfl⟩
  dsimp only
  refine hK.out _ _ (hHeld) (fun hHeld => ?_)
  clear hK K
  (try simp only [Act.put, List.getElem_toArray, List.getElem_cons_zero, List.getElem_cons_succ, List.setIfInBounds_toArray, List.set_cons_zero, List.set_cons_succ])
  refine held_take (fun _ => trivial) (by kernel_rfl) (i := 8) (oi := _) (v := ?_) rfl (by kernel_rfl) (by kernel_rfl) (by kernel_rfl) (fun _ _ _ h => h) (by assumption) (Or.inl ⟨by kernel_rfl, ?_⟩) ?_
  rotate_left
  · intro wz hSw; (first | (go_simp; done) | (go_simp; with_reducible rfl))
  (try simp only [Act.put, List.getElem_toArray, List.getElem_cons_zero, List.getElem_cons_succ, List.setIfInBounds_toArray, List.set_cons_zero, List.set_cons_succ])
  refine held_take (fun _ => trivial) (by kernel_rfl) (i := 9) (oi := _) (v := ?_) rfl (by kernel_rfl) (by kernel_rfl) (by kernel_rfl) (fun _ _ _ h => h) (by assumption) (Or.inl ⟨by kernel_rfl, ?_⟩) ?_
  rotate_left
  · intro wz hSw; (first | (go_simp; done) | (go_simp; with_reducible rfl))
  (try simp only [Act.put, List.getElem_toArray, List.getElem_cons_zero, List.getElem_cons_succ, List.setIfInBounds_toArray, List.set_cons_zero, List.set_cons_succ])
  refine held_done (by kernel_rfl) ?_ _
  have HBZ := Lib.hid (HBW.out.below hHeld)
  have HBE := Lib.hid (bnext HB1.out hHeld)
  clear hHeld
  go_wp2_with fail
  refine (HSA.out _ HBZ.out).mono ?_
  rintro e wz ⟨rfl, rfl⟩
  go_wp2_with fail
  refine (HSM.out _ HBZ.out).mono ?_
  rintro e wz ⟨rfl, rfl⟩
  go_wp2_with fail
  refine (HSB.out _).mono ?_
  rintro e wz ⟨rfl, hbz⟩
  go_wp2_with fail
  go_ret
  exact ⟨rfl, bnext HBE.out hbz⟩
set_option maxRecDepth 100000 in
set_option maxHeartbeats 4000000 in
theorem parts_full (l : List Nat) (b off at0 : Nat) (w : World) (hl : By l) (hlen : l.length ≤ 5000) (hk : (at0 : Int) % ((l.length : Int) + 1) = (l.length : Int)) (ha : at0 ≤ 65535)
    (hb : Bs w (some ⟨b, off, none⟩) l) :
    Calls Try.prog 6 #[.slice (some ⟨b, off, none⟩) l.length l.length, .int .u16 (at0 : Int)] w fun e w' => e = .returned (.bool true) ∧ Below w.heap.size w w' := by
  have t1 : (l.length : Int) ≤ 5000 := by omega
  have t1' : ¬ (5000 : Int) < (l.length : Int) := by omega
  have hkl : l.length ≤ l.length := by
    have := Int.emod_lt_of_pos (at0 : Int) (show (0 : Int) < (l.length : Int) + 1 by omega)
    omega
  have htm : (at0 : Int).tmod ((l.length : Int) + 1) = (l.length : Int) := by rw [Int.tmod_eq_emod_of_nonneg (by omega), hk]
  have t2 : ¬ ((l.length : Int) + 1 = 0) := by omega
  have k0 : (l.length : Int) ≤ (l.length : Int) := by omega
  have k1 : (l.length : Int) ≤ (l.length : Int) := by omega
  have k2 : (l.length : Int) ≤ (l.length : Int) := by omega
  have S3 := fun W (h : Bs W (some ⟨b, off, none⟩) l) => sum_len (l.take l.length) l.length (by rw [List.length_take]; omega) (some ⟨b, off, none⟩) l.length W (hl.take l.length) (by rw [List.length_take]; omega) (h.take l.length)
  have S7 := fun W (h : Bs W (some ⟨b, off, none⟩) l) => sum_len (l.drop l.length) 0 (by rw [List.length_drop]; omega) (some ⟨b, off, none⟩) 0 W (hl.drop l.length) (by rw [List.length_drop]; omega) (by rw [List.drop_length]; exact Bs.none)
  have SA := fun W (h : Bs W (some ⟨b, off, none⟩) l) => sum_any l (some ⟨b, off, none⟩) l.length W hl (by omega) h
  have SM := fun W (h : Bs W (some ⟨b, off, none⟩) l) => more_len (more 0 (l.take l.length)) (l.drop l.length) 0 (by rw [List.length_drop]; omega) (some ⟨b, off, none⟩) 0 W (more_lt (hl.take l.length) (by omega)) (hl.drop l.length) (by rw [List.length_drop]; omega) (by rw [List.drop_length]; exact Bs.none)
  have SB := both_cut l l.length hkl hl (by omega)
  rw [more_cut] at SM
  simp only [Int.sub_self] at SB
  have HS3 := Lib.hid S3; have HS7 := Lib.hid S7; have HSA := Lib.hid SA; have HSM := Lib.hid SM; have HSB := Lib.hid SB; have HBS := Lib.hid hb
  clear hk S3 S7 SA SM SB hb hl
  generalize more 0 (l.take l.length) = m1 at *
  generalize more 0 (l.drop l.length) = m2 at *
  generalize more 0 l = m at *
  go_enter Try.func6, Try.ntmps6
  go_wp2_with fail
  refine (alive_any _).mono ?_
  rintro e w1 ⟨rfl, hb1⟩
  have HB1 := Lib.hid hb1
  have HBW := Lib.hid (HBS.out.below hb1)
  clear hb1
  go_wp2_with fail
  refine (wpIn_wide (n := 5)).1 (held_region (F := Fence.wide) (S := fun X => Below w1.heap.size w1 X) (by kernel_rfl) (bdrew0 _ _ 1) (fun hHeld => ?_))
  refine held_take (fun _ => trivial) (by kernel_rfl) (i := 0) (oi := _) (v := ?_) rfl (by kernel_rfl) (by kernel_rfl) (by kernel_rfl) (fun _ _ _ h => h) (by assumption) (Or.inl ⟨by kernel_rfl, ?_⟩) ?_
  rotate_left
  · intro wz hSw; (first | (go_simp; done) | (go_simp; with_reducible rfl))
  (try simp only [Act.put, List.getElem_toArray, List.getElem_cons_zero, List.getElem_cons_succ, List.setIfInBounds_toArray, List.set_cons_zero, List.set_cons_succ])
  refine held_take (fun _ => trivial) (by kernel_rfl) (i := 1) (oi := _) (v := ?_) rfl (by kernel_rfl) (by kernel_rfl) (by kernel_rfl) (fun _ _ _ h => h) (by assumption) (Or.inl ⟨by kernel_rfl, ?_⟩) ?_
  rotate_left
  · intro wz hSw; (first | (go_simp; done) | (go_simp; with_reducible rfl))
  (try simp only [Act.put, List.getElem_toArray, List.getElem_cons_zero, List.getElem_cons_succ, List.setIfInBounds_toArray, List.set_cons_zero, List.set_cons_succ])
  refine held_take (fun _ => trivial) (by kernel_rfl) (i := 2) (oi := _) (v := ?_) rfl (by kernel_rfl) (by kernel_rfl) (by kernel_rfl) (fun _ _ _ h => h) (by assumption) (Or.inl ⟨by kernel_rfl, ?_⟩) ?_
  rotate_left
  · intro wz hSw; (first | (go_simp; done) | (go_simp; with_reducible rfl))
  (try simp only [Act.put, List.getElem_toArray, List.getElem_cons_zero, List.getElem_cons_succ, List.setIfInBounds_toArray, List.set_cons_zero, List.set_cons_succ])
  refine held_take (fun _ => trivial) (by kernel_rfl) (i := 4) (oi := _) (v := ?_) rfl (by kernel_rfl) (by kernel_rfl) (by kernel_rfl) (fun _ _ _ h => h) (by assumption) (Or.inl ⟨by kernel_rfl, ?_⟩) ?_
  rotate_left
  · intro wz hSw; (first | (go_simp; done) | (go_simp; with_reducible rfl))
  (try simp only [Act.put, List.getElem_toArray, List.getElem_cons_zero, List.getElem_cons_succ, List.setIfInBounds_toArray, List.set_cons_zero, List.set_cons_succ])
  refine held_take (fun _ => trivial) (by kernel_rfl) (i := 5) (oi := _) (v := ?_) rfl (by kernel_rfl) (by kernel_rfl) (by kernel_rfl) (fun _ _ _ h => h) (by assumption) (Or.inl ⟨by kernel_rfl, ?_⟩) ?_
  rotate_left
  · intro wz hSw; (first | (go_simp; done) | (go_simp; with_reducible rfl))
  (try simp only [Act.put, List.getElem_toArray, List.getElem_cons_zero, List.getElem_cons_succ, List.setIfInBounds_toArray, List.set_cons_zero, List.set_cons_succ])
  refine held_take (fun _ => trivial) (by kernel_rfl) (i := 6) (oi := _) (v := ?_) rfl (by kernel_rfl) (by kernel_rfl) (by kernel_rfl) (fun _ _ _ h => h) (by assumption) (Or.inl ⟨by kernel_rfl, ?_⟩) ?_
  rotate_left
  · intro wz hSw; (first | (go_simp; done) | (go_simp; with_reducible rfl))
  (try simp only [Act.put, List.getElem_toArray, List.getElem_cons_zero, List.getElem_cons_succ, List.setIfInBounds_toArray, List.set_cons_zero, List.set_cons_succ])
  refine held_step (fun _ => trivial) (i := 3) (o := _) (by kernel_rfl) rfl (fun K hK => ?_)
  go_simp
  refine ⟨trivial, callsIn_wide.2 ((HS3.out _ (HBW.out.below hHeld)).mono ?_)⟩
  rintro e wz ⟨rfl, rfl⟩
  dsimp only
  refine hK.out _ _ (hHeld) (fun hHeld => ?_)
  clear hK K
  (try simp only [Act.put, List.getElem_toArray, List.getElem_cons_zero, List.getElem_cons_succ, List.setIfInBounds_toArray, List.set_cons_zero, List.set_cons_succ])
  refine held_step (fun _ => trivial) (i := 7) (o := _) (by kernel_rfl) rfl (fun K hK => ?_)
  go_simp
  refine ⟨trivial, callsIn_wide.2 ((HS7.out _ (HBW.out.below hHeld)).mono ?_)⟩
  rintro e wz ⟨rfl, rfl⟩
  dsimp only
  refine hK.out _ _ (hHeld) (fun hHeld => ?_)
  clear hK K
  (try simp only [Act.put, List.getElem_toArray, List.getElem_cons_zero, List.getElem_cons_succ, List.setIfInBounds_toArray, List.set_cons_zero, List.set_cons_succ])
  refine held_take (fun _ => trivial) (by kernel_rfl) (i := 8) (oi := _) (v := ?_) rfl (by kernel_rfl) (by kernel_rfl) (by kernel_rfl) (fun _ _ _ h => h) (by assumption) (Or.inl ⟨by kernel_rfl, ?_⟩) ?_
  rotate_left
  · intro wz hSw; (first | (go_simp; done) | (go_simp; with_reducible rfl))
  (try simp only [Act.put, List.getElem_toArray, List.getElem_cons_zero, List.getElem_cons_succ, List.setIfInBounds_toArray, List.set_cons_zero, List.set_cons_succ])
  refine held_take (fun _ => trivial) (by kernel_rfl) (i := 9) (oi := _) (v := ?_) rfl (by kernel_rfl) (by kernel_rfl) (by kernel_rfl) (fun _ _ _ h => h) (by assumption) (Or.inl ⟨by kernel_rfl, ?_⟩) ?_
  rotate_left
  · intro wz hSw; (first | (go_simp; done) | (go_simp; with_reducible rfl))
  (try simp only [Act.put, List.getElem_toArray, List.getElem_cons_zero, List.getElem_cons_succ, List.setIfInBounds_toArray, List.set_cons_zero, List.set_cons_succ])
  refine held_done (by kernel_rfl) ?_ _
  have HBZ := Lib.hid (HBW.out.below hHeld)
  have HBE := Lib.hid (bnext HB1.out hHeld)
  clear hHeld
  go_wp2_with fail
  refine (HSA.out _ HBZ.out).mono ?_
  rintro e wz ⟨rfl, rfl⟩
  go_wp2_with fail
  refine (HSM.out _ HBZ.out).mono ?_
  rintro e wz ⟨rfl, rfl⟩
  go_wp2_with fail
  refine (HSB.out _).mono ?_
  rintro e wz ⟨rfl, hbz⟩
  go_wp2_with fail
  go_ret
  exact ⟨rfl, bnext HBE.out hbz⟩
set_option maxRecDepth 100000 in
set_option maxHeartbeats 4000000 in
theorem parts_nil  (at0 : Nat) (w : World) (ha : at0 ≤ 65535) :
    Calls Try.prog 6 #[.slice none 0 0, .int .u16 (at0 : Int)] w fun e w' => e = .returned (.bool true) ∧ Below w.heap.size w w' := by
  have htm : (at0 : Int).tmod 1 = 0 := by rw [Int.tmod_eq_emod_of_nonneg (by omega)]; omega
  have S0 := fun (o : Option Addr) (cap : Nat) W => sum_len [] 0 rfl o cap W (by intro c hc; cases hc) (by simp) Bs.none
  have SM := fun (o : Option Addr) (cap : Nat) W => more_len 0 [] 0 rfl o cap W (by omega) (by intro c hc; cases hc) (by simp) Bs.none
  have SB := both_any 0 0 0
  rw [val_nil] at S0 SM
  rw [if_neg (by omega), show both 0 0 (0 : Int).toNat = 0 by kernel_rfl] at SB
  have HS0 := Lib.hid S0; have HSM := Lib.hid SM; have HSB := Lib.hid SB
  clear S0 SM SB
  go_enter Try.func6, Try.ntmps6
  go_wp2_with fail
  refine (alive_any _).mono ?_
  rintro e w1 ⟨rfl, hb1⟩
  have HB1 := Lib.hid hb1
  clear hb1
  go_wp2_with fail
  refine (wpIn_wide (n := 5)).1 (held_region (F := Fence.wide) (S := fun X => Below w1.heap.size w1 X) (by kernel_rfl) (bdrew0 _ _ 1) (fun hHeld => ?_))
  refine held_take (fun _ => trivial) (by kernel_rfl) (i := 0) (oi := _) (v := ?_) rfl (by kernel_rfl) (by kernel_rfl) (by kernel_rfl) (fun _ _ _ h => h) (by assumption) (Or.inl ⟨by kernel_rfl, ?_⟩) ?_
  rotate_left
  · intro wz hSw; (first | (go_simp; done) | (go_simp; with_reducible rfl))
  (try simp only [Act.put, List.getElem_toArray, List.getElem_cons_zero, List.getElem_cons_succ, List.setIfInBounds_toArray, List.set_cons_zero, List.set_cons_succ])
  refine held_take (fun _ => trivial) (by kernel_rfl) (i := 1) (oi := _) (v := ?_) rfl (by kernel_rfl) (by kernel_rfl) (by kernel_rfl) (fun _ _ _ h => h) (by assumption) (Or.inl ⟨by kernel_rfl, ?_⟩) ?_
  rotate_left
  · intro wz hSw; (first | (go_simp; done) | (go_simp; with_reducible rfl))
  (try simp only [Act.put, List.getElem_toArray, List.getElem_cons_zero, List.getElem_cons_succ, List.setIfInBounds_toArray, List.set_cons_zero, List.set_cons_succ])
  refine held_take (fun _ => trivial) (by kernel_rfl) (i := 2) (oi := _) (v := ?_) rfl (by kernel_rfl) (by kernel_rfl) (by kernel_rfl) (fun _ _ _ h => h) (by assumption) (Or.inl ⟨by kernel_rfl, ?_⟩) ?_
  rotate_left
  · intro wz hSw; (first | (go_simp; done) | (go_simp; with_reducible rfl))
  (try simp only [Act.put, List.getElem_toArray, List.getElem_cons_zero, List.getElem_cons_succ, List.setIfInBounds_toArray, List.set_cons_zero, List.set_cons_succ])
  refine held_take (fun _ => trivial) (by kernel_rfl) (i := 4) (oi := _) (v := ?_) rfl (by kernel_rfl) (by kernel_rfl) (by kernel_rfl) (fun _ _ _ h => h) (by assumption) (Or.inl ⟨by kernel_rfl, ?_⟩) ?_
  rotate_left
  · intro wz hSw; (first | (go_simp; done) | (go_simp; with_reducible rfl))
  (try simp only [Act.put, List.getElem_toArray, List.getElem_cons_zero, List.getElem_cons_succ, List.setIfInBounds_toArray, List.set_cons_zero, List.set_cons_succ])
  refine held_take (fun _ => trivial) (by kernel_rfl) (i := 5) (oi := _) (v := ?_) rfl (by kernel_rfl) (by kernel_rfl) (by kernel_rfl) (fun _ _ _ h => h) (by assumption) (Or.inl ⟨by kernel_rfl, ?_⟩) ?_
  rotate_left
  · intro wz hSw; (first | (go_simp; done) | (go_simp; with_reducible rfl))
  (try simp only [Act.put, List.getElem_toArray, List.getElem_cons_zero, List.getElem_cons_succ, List.setIfInBounds_toArray, List.set_cons_zero, List.set_cons_succ])
  refine held_take (fun _ => trivial) (by kernel_rfl) (i := 6) (oi := _) (v := ?_) rfl (by kernel_rfl) (by kernel_rfl) (by kernel_rfl) (fun _ _ _ h => h) (by assumption) (Or.inl ⟨by kernel_rfl, ?_⟩) ?_
  rotate_left
  · intro wz hSw; (first | (go_simp; done) | (go_simp; with_reducible rfl))
  (try simp only [Act.put, List.getElem_toArray, List.getElem_cons_zero, List.getElem_cons_succ, List.setIfInBounds_toArray, List.set_cons_zero, List.set_cons_succ])
  refine held_step (fun _ => trivial) (i := 3) (o := _) (by kernel_rfl) rfl (fun K hK => ?_)
  go_simp
  refine ⟨trivial, callsIn_wide.2 ((HS0.out _ _ _).mono ?_)⟩
  rintro e wz ⟨rfl, rfl⟩
  dsimp only
  refine hK.out _ _ (hHeld) (fun hHeld => ?_)
  clear hK K
  (try simp only [Act.put, List.getElem_toArray, List.getElem_cons_zero, List.getElem_cons_succ, List.setIfInBounds_toArray, List.set_cons_zero, List.set_cons_succ])
  refine held_step (fun _ => trivial) (i := 7) (o := _) (by kernel_rfl) rfl (fun K hK => ?_)
  go_simp
  refine ⟨trivial, callsIn_wide.2 ((HS0.out _ _ _).mono ?_)⟩
  rintro e wz ⟨rfl, rfl⟩
  dsimp only
  refine hK.out _ _ (hHeld) (fun hHeld => ?_)
  clear hK K
  (try simp only [Act.put, List.getElem_toArray, List.getElem_cons_zero, List.getElem_cons_succ, List.setIfInBounds_toArray, List.set_cons_zero, List.set_cons_succ])
  refine held_take (fun _ => trivial) (by kernel_rfl) (i := 8) (oi := _) (v := ?_) rfl (by kernel_rfl) (by kernel_rfl) (by kernel_rfl) (fun _ _ _ h => h) (by assumption) (Or.inl ⟨by kernel_rfl, ?_⟩) ?_
  rotate_left
  · intro wz hSw; (first | (go_simp; done) | (go_simp; with_reducible rfl))
  (try simp only [Act.put, List.getElem_toArray, List.getElem_cons_zero, List.getElem_cons_succ, List.setIfInBounds_toArray, List.set_cons_zero, List.set_cons_succ])
  refine held_take (fun _ => trivial) (by kernel_rfl) (i := 9) (oi := _) (v := ?_) rfl (by kernel_rfl) (by kernel_rfl) (by kernel_rfl) (fun _ _ _ h => h) (by assumption) (Or.inl ⟨by kernel_rfl, ?_⟩) ?_
  rotate_left
  · intro wz hSw; (first | (go_simp; done) | (go_simp; with_reducible rfl))
  (try simp only [Act.put, List.getElem_toArray, List.getElem_cons_zero, List.getElem_cons_succ, List.setIfInBounds_toArray, List.set_cons_zero, List.set_cons_succ])
  refine held_done (by kernel_rfl) ?_ _
  have HBE := Lib.hid (bnext HB1.out hHeld)
  clear hHeld
  go_wp2_with fail
  refine (HS0.out _ _ _).mono ?_
  rintro e wz ⟨rfl, rfl⟩
  go_wp2_with fail
  refine (HSM.out _ _ _).mono ?_
  rintro e wz ⟨rfl, rfl⟩
  go_wp2_with fail
  refine (HSB.out _ (by omega) (by omega) (by omega) (by omega)).mono ?_
  rintro e wz ⟨rfl, hbz⟩
  go_wp2_with fail
  go_ret
  exact ⟨rfl, bnext HBE.out hbz⟩
set_option maxRecDepth 100000 in
set_option maxHeartbeats 4000000 in
theorem parts_empty (a : Addr) (cap : Nat) (c1 : cap ≤ 9223372036854775807) (at0 : Nat) (w : World) (ha : at0 ≤ 65535) :
    Calls Try.prog 6 #[.slice (some a) 0 cap, .int .u16 (at0 : Int)] w fun e w' => e = .returned (.bool true) ∧ Below w.heap.size w w' := by
  have htm : (at0 : Int).tmod 1 = 0 := by rw [Int.tmod_eq_emod_of_nonneg (by omega)]; omega
  have S0 := fun (o : Option Addr) (cap : Nat) W => sum_len [] 0 rfl o cap W (by intro c hc; cases hc) (by simp) Bs.none
  have SM := fun (o : Option Addr) (cap : Nat) W => more_len 0 [] 0 rfl o cap W (by omega) (by intro c hc; cases hc) (by simp) Bs.none
  have SB := both_any 0 0 0
  rw [val_nil] at S0 SM
  rw [if_neg (by omega), show both 0 0 (0 : Int).toNat = 0 by kernel_rfl] at SB
  have HS0 := Lib.hid S0; have HSM := Lib.hid SM; have HSB := Lib.hid SB
  clear S0 SM SB
  go_enter Try.func6, Try.ntmps6
  go_wp2_with fail
  refine (alive_any _).mono ?_
  rintro e w1 ⟨rfl, hb1⟩
  have HB1 := Lib.hid hb1
  clear hb1
  go_wp2_with fail
  refine (wpIn_wide (n := 5)).1 (held_region (F := Fence.wide) (S := fun X => Below w1.heap.size w1 X) (by kernel_rfl) (bdrew0 _ _ 1) (fun hHeld => ?_))
  refine held_take (fun _ => trivial) (by kernel_rfl) (i := 0) (oi := _) (v := ?_) rfl (by kernel_rfl) (by kernel_rfl) (by kernel_rfl) (fun _ _ _ h => h) (by assumption) (Or.inl ⟨by kernel_rfl, ?_⟩) ?_
  rotate_left
  · intro wz hSw; (first | (go_simp; done) | (go_simp; with_reducible rfl))
  (try simp only [Act.put, List.getElem_toArray, List.getElem_cons_zero, List.getElem_cons_succ, List.setIfInBounds_toArray, List.set_cons_zero, List.set_cons_succ])
  refine held_take (fun _ => trivial) (by kernel_rfl) (i := 1) (oi := _) (v := ?_) rfl (by kernel_rfl) (by kernel_rfl) (by kernel_rfl) (fun _ _ _ h => h) (by assumption) (Or.inl ⟨by kernel_rfl, ?_⟩) ?_
  rotate_left
  · intro wz hSw; (first | (go_simp; done) | (go_simp; with_reducible rfl))
  (try simp only [Act.put, List.getElem_toArray, List.getElem_cons_zero, List.getElem_cons_succ, List.setIfInBounds_toArray, List.set_cons_zero, List.set_cons_succ])
  refine held_take (fun _ => trivial) (by kernel_rfl) (i := 2) (oi := _) (v := ?_) rfl (by kernel_rfl) (by kernel_rfl) (by kernel_rfl) (fun _ _ _ h => h) (by assumption) (Or.inl ⟨by kernel_rfl, ?_⟩) ?_
  rotate_left
  · intro wz hSw; (first | (go_simp; done) | (go_simp; with_reducible rfl))
  (try simp only [Act.put, List.getElem_toArray, List.getElem_cons_zero, List.getElem_cons_succ, List.setIfInBounds_toArray, List.set_cons_zero, List.set_cons_succ])
  refine held_take (fun _ => trivial) (by kernel_rfl) (i := 4) (oi := _) (v := ?_) rfl (by kernel_rfl) (by kernel_rfl) (by kernel_rfl) (fun _ _ _ h => h) (by assumption) (Or.inl ⟨by kernel_rfl, ?_⟩) ?_
  rotate_left
  · intro wz hSw; (first | (go_simp; done) | (go_simp; with_reducible rfl))
  (try simp only [Act.put, List.getElem_toArray, List.getElem_cons_zero, List.getElem_cons_succ, List.setIfInBounds_toArray, List.set_cons_zero, List.set_cons_succ])
  refine held_take (fun _ => trivial) (by kernel_rfl) (i := 5) (oi := _) (v := ?_) rfl (by kernel_rfl) (by kernel_rfl) (by kernel_rfl) (fun _ _ _ h => h) (by assumption) (Or.inl ⟨by kernel_rfl, ?_⟩) ?_
  rotate_left
  · intro wz hSw; (first | (go_simp; done) | (go_simp; with_reducible rfl))
  (try simp only [Act.put, List.getElem_toArray, List.getElem_cons_zero, List.getElem_cons_succ, List.setIfInBounds_toArray, List.set_cons_zero, List.set_cons_succ])
  refine held_take (fun _ => trivial) (by kernel_rfl) (i := 6) (oi := _) (v := ?_) rfl (by kernel_rfl) (by kernel_rfl) (by kernel_rfl) (fun _ _ _ h => h) (by assumption) (Or.inl ⟨by kernel_rfl, ?_⟩) ?_
  rotate_left
  · intro wz hSw; (first | (go_simp; done) | (go_simp; with_reducible rfl))
  (try simp only [Act.put, List.getElem_toArray, List.getElem_cons_zero, List.getElem_cons_succ, List.setIfInBounds_toArray, List.set_cons_zero, List.set_cons_succ])
  refine held_step (fun _ => trivial) (i := 3) (o := _) (by kernel_rfl) rfl (fun K hK => ?_)
  go_simp
  refine ⟨trivial, callsIn_wide.2 ((HS0.out _ _ _).mono ?_)⟩
  rintro e wz ⟨rfl, rfl⟩
  dsimp only
  refine hK.out _ _ (hHeld) (fun hHeld => ?_)
  clear hK K
  (try simp only [Act.put, List.getElem_toArray, List.getElem_cons_zero, List.getElem_cons_succ, List.setIfInBounds_toArray, List.set_cons_zero, List.set_cons_succ])
  refine held_step (fun _ => trivial) (i := 7) (o := _) (by kernel_rfl) rfl (fun K hK => ?_)
  go_simp
  refine ⟨trivial, callsIn_wide.2 ((HS0.out _ _ _).mono ?_)⟩
  rintro e wz ⟨rfl, rfl⟩
  dsimp only
  refine hK.out _ _ (hHeld) (fun hHeld => ?_)
  clear hK K
  (try simp only [Act.put, List.getElem_toArray, List.getElem_cons_zero, List.getElem_cons_succ, List.setIfInBounds_toArray, List.set_cons_zero, List.set_cons_succ])
  refine held_take (fun _ => trivial) (by kernel_rfl) (i := 8) (oi := _) (v := ?_) rfl (by kernel_rfl) (by kernel_rfl) (by kernel_rfl) (fun _ _ _ h => h) (by assumption) (Or.inl ⟨by kernel_rfl, ?_⟩) ?_
  rotate_left
  · intro wz hSw; (first | (go_simp; done) | (go_simp; with_reducible rfl))
  (try simp only [Act.put, List.getElem_toArray, List.getElem_cons_zero, List.getElem_cons_succ, List.setIfInBounds_toArray, List.set_cons_zero, List.set_cons_succ])
  refine held_take (fun _ => trivial) (by kernel_rfl) (i := 9) (oi := _) (v := ?_) rfl (by kernel_rfl) (by kernel_rfl) (by kernel_rfl) (fun _ _ _ h => h) (by assumption) (Or.inl ⟨by kernel_rfl, ?_⟩) ?_
  rotate_left
  · intro wz hSw; (first | (go_simp; done) | (go_simp; with_reducible rfl))
  (try simp only [Act.put, List.getElem_toArray, List.getElem_cons_zero, List.getElem_cons_succ, List.setIfInBounds_toArray, List.set_cons_zero, List.set_cons_succ])
  refine held_done (by kernel_rfl) ?_ _
  have HBE := Lib.hid (bnext HB1.out hHeld)
  clear hHeld
  go_wp2_with fail
  refine (HS0.out _ _ _).mono ?_
  rintro e wz ⟨rfl, rfl⟩
  go_wp2_with fail
  refine (HSM.out _ _ _).mono ?_
  rintro e wz ⟨rfl, rfl⟩
  go_wp2_with fail
  refine (HSB.out _ (by omega) (by omega) (by omega) (by omega)).mono ?_
  rintro e wz ⟨rfl, hbz⟩
  go_wp2_with fail
  go_ret
  exact ⟨rfl, bnext HBE.out hbz⟩
theorem law_crcParts (l : List Nat) (o : Option Addr) (cap : Nat) (hl : By l) (hq : l.length ≤ cap ∧ cap ≤ 9223372036854775807 ∧ (o = none → cap = 0)) (z : Int) (hz : (Lit.int .u16 z).wf = true) (w : World) (hb : Bs w o l) :
    Calls Try.prog 6 #[.slice o l.length cap, .int .u16 z] w fun e w' => e = .returned (.bool true) ∧ Below w.heap.size w w' := by
  have hz2 : 0 ≤ z ∧ z ≤ 65535 := by
    simp [Lit.wf, IntKind.min, IntKind.max, IntKind.signed, IntKind.bits] at hz
    omega
  obtain ⟨n, rfl⟩ := Int.eq_ofNat_of_zero_le hz2.1
  by_cases hbig : 5000 < l.length
  · exact parts_big l o cap n w hbig
  by_cases hl0 : l.length = 0
  · obtain rfl : l = [] := List.length_eq_zero_iff.1 hl0
    cases o with
    | none =>
      rw [hq.2.2 rfl]
      exact parts_nil n w (by omega)
    | some a => exact parts_empty a cap hq.2.1 n w (by omega)
  obtain ⟨b, off, rfl, _⟩ := hb 0 (by omega)
  have hpos : (0 : Int) < (l.length : Int) + 1 := by omega
  have h1 := Int.emod_nonneg (n : Int) (show (l.length : Int) + 1 ≠ 0 by omega)
  have h2 := Int.emod_lt_of_pos (n : Int) hpos
  obtain ⟨k, hk⟩ := Int.eq_ofNat_of_zero_le h1
  by_cases hck : cap = k
  · have e : k = l.length := by omega
    have e2 : cap = l.length := by omega
    subst e2
    exact parts_full l b off n w hl (by omega) (by rw [hk, e]) (by omega) hb
  · exact parts_some l b off cap n k w hl (by omega) ⟨hq.1, hq.2.1⟩ hck hk (by omega) hb
end Go.Proofs.Ytgkcbadfjhicnab.Fx
