/- The reference's Parse, walked. -/
import Derived.Test.YtabfdhecbbemjaaProg
import Derived.Test.YtabfdhecbbemjaaRpf

import Derived.Laws.DeepStrings4
import Derived.WalkKit
import Derived.Lib.Hide
set_option linter.unusedVariables false
set_option linter.unusedSimpArgs false
namespace Go.Proofs.Ytabfdhecbbemjaa.Fx
open Go Go.RowKit
theorem ne45 {x : Nat} (h : x ≠ 45) : ((x : Int) == 45) = false := by simp; omega
theorem ne46 {x : Nat} (h : x ≠ 46) : ((x : Int) == 46) = false := by simp; omega
set_option maxHeartbeats 1600000 in
theorem rp_few_t (s u : ByteArray) (w : World) (hs : s.size ≤ 100) (hs0 : 0 < s.size) (hb : (sbytes s).getD 0 0 = 45) (hu : u = s.extract 1 s.size) (V E : Int) (hV : V = 0) (hE : E = 12) (h : u.size < 6) :
    Calls Try.prog 26 #[.string s] w fun e w' => e = .returned (.tuple #[.int .i64 V, .int .i64 E]) ∧ _root_.Go.RowKit.Below w.heap.size w w' := by
  subst hV hE
  have hx0 := idx_str s 0 0 rfl hs0
  have t1 : (0 : Int) < (s.size : Int) := by omega
  have hsl := slice_one s hs0
  have h45 : (((sbytes s).getD 0 0 : Nat) : Int) = 45 := by rw [hb]; rfl
  rw [h45] at hx0
  clear h45 hb
  rw [← hu] at hsl
  clear hu
  have t2 : (u.size : Int) < 6 := by omega
  go_enter Try.func26, Try.ntmps26
  go_wp2_with fail
  go_ret2
  exact ⟨rfl, _root_.Go.RowKit.Below.refl _ _⟩
set_option maxHeartbeats 1600000 in
theorem rp_many_t (s u : ByteArray) (w : World) (hs : s.size ≤ 100) (hs0 : 0 < s.size) (hb : (sbytes s).getD 0 0 = 45) (hu : u = s.extract 1 s.size) (V E : Int) (hV : V = 0) (hE : E = 12) (h : 20 < u.size) :
    Calls Try.prog 26 #[.string s] w fun e w' => e = .returned (.tuple #[.int .i64 V, .int .i64 E]) ∧ _root_.Go.RowKit.Below w.heap.size w w' := by
  subst hV hE
  have hx0 := idx_str s 0 0 rfl hs0
  have t1 : (0 : Int) < (s.size : Int) := by omega
  have hsl := slice_one s hs0
  have h45 : (((sbytes s).getD 0 0 : Nat) : Int) = 45 := by rw [hb]; rfl
  rw [h45] at hx0
  clear h45 hb
  rw [← hu] at hsl
  clear hu
  have t2 : ¬ (u.size : Int) < 6 := by omega
  have t2a : (6 : Int) ≤ (u.size : Int) := by omega
  have t3 : (20 : Int) < (u.size : Int) := by omega
  go_enter Try.func26, Try.ntmps26
  go_wp2_with fail
  go_ret2
  exact ⟨rfl, _root_.Go.RowKit.Below.refl _ _⟩
set_option maxHeartbeats 1600000 in
theorem rp_point_t (s u : ByteArray) (w : World) (hs : s.size ≤ 100) (hs0 : 0 < s.size) (hb : (sbytes s).getD 0 0 = 45) (hu : u = s.extract 1 s.size) (V E : Int) (hV : V = 0) (hE : E = 12) (h6 : 6 ≤ u.size) (h20 : u.size ≤ 20) (h : (sbytes u).getD (u.size - 5) 0 ≠ 46) :
    Calls Try.prog 26 #[.string s] w fun e w' => e = .returned (.tuple #[.int .i64 V, .int .i64 E]) ∧ _root_.Go.RowKit.Below w.heap.size w w' := by
  subst hV hE
  have hx0 := idx_str s 0 0 rfl hs0
  have t1 : (0 : Int) < (s.size : Int) := by omega
  have hsl := slice_one s hs0
  have h45 : (((sbytes s).getD 0 0 : Nat) : Int) = 45 := by rw [hb]; rfl
  rw [h45] at hx0
  clear h45 hb
  rw [← hu] at hsl
  clear hu
  have t2 : ¬ (u.size : Int) < 6 := by omega
  have t2a : (6 : Int) ≤ (u.size : Int) := by omega
  have t3 : ¬ (20 : Int) < (u.size : Int) := by omega
  have t3a : (u.size : Int) ≤ 20 := by omega
  have h5 := idx_str u (u.size - 5) ((u.size : Int) - 5) (by omega) (by omega)
  have t4 : ((((sbytes u).getD (u.size - 5) 0 : Nat) : Int) == 46) = false := ne46 h
  generalize (sbytes u).getD (u.size - 5) 0 = p at *
  clear h h6 h20
  go_enter Try.func26, Try.ntmps26
  go_wp2_with fail
  go_ret2
  exact ⟨rfl, _root_.Go.RowKit.Below.refl _ _⟩
set_option maxHeartbeats 1600000 in
theorem rp_few_f (s : ByteArray) (w : World) (hs : s.size ≤ 100) (hs0 : 0 < s.size) (hb : (sbytes s).getD 0 0 ≠ 45) (V E : Int) (hV : V = 0) (hE : E = 12) (h : s.size < 6) :
    Calls Try.prog 26 #[.string s] w fun e w' => e = .returned (.tuple #[.int .i64 V, .int .i64 E]) ∧ _root_.Go.RowKit.Below w.heap.size w w' := by
  subst hV hE
  have hx0 := idx_str s 0 0 rfl hs0
  have t1 : (0 : Int) < (s.size : Int) := by omega
  have h45 : ((((sbytes s).getD 0 0 : Nat) : Int) == 45) = false := ne45 hb
  generalize (sbytes s).getD 0 0 = x0 at *
  clear hb
  have t2 : (s.size : Int) < 6 := by omega
  go_enter Try.func26, Try.ntmps26
  go_wp2_with fail
  go_ret2
  exact ⟨rfl, _root_.Go.RowKit.Below.refl _ _⟩
set_option maxHeartbeats 1600000 in
theorem rp_many_f (s : ByteArray) (w : World) (hs : s.size ≤ 100) (hs0 : 0 < s.size) (hb : (sbytes s).getD 0 0 ≠ 45) (V E : Int) (hV : V = 0) (hE : E = 12) (h : 20 < s.size) :
    Calls Try.prog 26 #[.string s] w fun e w' => e = .returned (.tuple #[.int .i64 V, .int .i64 E]) ∧ _root_.Go.RowKit.Below w.heap.size w w' := by
  subst hV hE
  have hx0 := idx_str s 0 0 rfl hs0
  have t1 : (0 : Int) < (s.size : Int) := by omega
  have h45 : ((((sbytes s).getD 0 0 : Nat) : Int) == 45) = false := ne45 hb
  generalize (sbytes s).getD 0 0 = x0 at *
  clear hb
  have t2 : ¬ (s.size : Int) < 6 := by omega
  have t2a : (6 : Int) ≤ (s.size : Int) := by omega
  have t3 : (20 : Int) < (s.size : Int) := by omega
  go_enter Try.func26, Try.ntmps26
  go_wp2_with fail
  go_ret2
  exact ⟨rfl, _root_.Go.RowKit.Below.refl _ _⟩
set_option maxHeartbeats 1600000 in
theorem rp_point_f (s : ByteArray) (w : World) (hs : s.size ≤ 100) (hs0 : 0 < s.size) (hb : (sbytes s).getD 0 0 ≠ 45) (V E : Int) (hV : V = 0) (hE : E = 12) (h6 : 6 ≤ s.size) (h20 : s.size ≤ 20) (h : (sbytes s).getD (s.size - 5) 0 ≠ 46) :
    Calls Try.prog 26 #[.string s] w fun e w' => e = .returned (.tuple #[.int .i64 V, .int .i64 E]) ∧ _root_.Go.RowKit.Below w.heap.size w w' := by
  subst hV hE
  have hx0 := idx_str s 0 0 rfl hs0
  have t1 : (0 : Int) < (s.size : Int) := by omega
  have h45 : ((((sbytes s).getD 0 0 : Nat) : Int) == 45) = false := ne45 hb
  generalize (sbytes s).getD 0 0 = x0 at *
  clear hb
  have t2 : ¬ (s.size : Int) < 6 := by omega
  have t2a : (6 : Int) ≤ (s.size : Int) := by omega
  have t3 : ¬ (20 : Int) < (s.size : Int) := by omega
  have t3a : (s.size : Int) ≤ 20 := by omega
  have h5 := idx_str s (s.size - 5) ((s.size : Int) - 5) (by omega) (by omega)
  have t4 : ((((sbytes s).getD (s.size - 5) 0 : Nat) : Int) == 46) = false := ne46 h
  generalize (sbytes s).getD (s.size - 5) 0 = p at *
  clear h h6 h20
  go_enter Try.func26, Try.ntmps26
  go_wp2_with fail
  go_ret2
  exact ⟨rfl, _root_.Go.RowKit.Below.refl _ _⟩
theorem rp_empty (s : ByteArray) (w : World) (hs : s.size = 0) (V E : Int) (hV : V = 0) (hE : E = 12) :
    Calls Try.prog 26 #[.string s] w fun e w' => e = .returned (.tuple #[.int .i64 V, .int .i64 E]) ∧ _root_.Go.RowKit.Below w.heap.size w w' := by
  subst hV hE
  have t1 : ¬ (0 : Int) < (s.size : Int) := by omega
  have t2 : (s.size : Int) < 6 := by omega
  go_enter Try.func26, Try.ntmps26
  go_wp2_with fail
  go_ret2
  exact ⟨rfl, _root_.Go.RowKit.Below.refl _ _⟩
end Go.Proofs.Ytabfdhecbbemjaa.Fx
