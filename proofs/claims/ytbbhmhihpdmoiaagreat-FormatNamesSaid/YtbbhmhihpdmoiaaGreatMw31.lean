import Derived.Laws.Rows
import Derived.Test.YtbbhmhihpdmoiaaGreatProg
import Derived.WalkKit
import Derived.Lib.Hide
import Derived.Outline
import Derived.Deep.LoopGhost
import Derived.Deep.QuietTactic
import Derived.BigQuiet
import Derived.Laws.BitsAllLaws
import Derived.Laws.ShiftsVarLaws
import Derived.RangeFuncNested
import Derived.RangeFuncBound
import Derived.RangeFuncCalls
import Derived.RangeFuncLeaves
import Derived.Handy
import Derived.Lib.SlBytesConst
import Derived.Shelf.Abstract
import Derived.Shelf.RegionOpen
import Derived.OwnWalkIn
import Derived.TacticsInMore
import Derived.LoopNIn
import Derived.LoopIn
import Derived.WalkMore
import Derived.Deep.WholeRow
import Derived.Laws.ResultCell
import Derived.Laws.Cover3
import Derived.Laws.OwnMore
import Derived.Test.YtbbhmhihpdmoiaaGreatMw00
import Derived.Test.YtbbhmhihpdmoiaaGreatMw01
import Derived.Test.YtbbhmhihpdmoiaaGreatMw30
set_option linter.unusedVariables false
set_option linter.unusedSimpArgs false
namespace Go.Proofs.YtbbhmhihpdmoiaaGreat.Cx
open Go Go.RowKit
theorem sh_odd {n : Nat} (h : n % 2 = 1) : sh n = n / 2 ^^^ 3988292384 := by unfold sh; rw [if_pos h]
theorem sh_ev {n : Nat} (h : ¬ n % 2 = 1) : sh n = n / 2 := by unfold sh; rw [if_neg h]
theorem sh_bits {n : Nat} (hn : n < 4294967296) : bits .xor .u32 ((n : Int) / 2) 3988292384 = ((n / 2 ^^^ 3988292384 : Nat) : Int) := by
 rw [show ((n : Int) / 2) = ((n / 2 : Nat) : Int) from by omega]
 exact u32_xor_nat _ 3988292384 (by omega) (by omega)
theorem u32_bit1 (x : Nat) (hx : x < 4294967296) : bits .and .u32 (x : Int) 1 = ((x % 2 : Nat) : Int) := by
 rw [show (1 : Int) = ((1 : Nat) : Int) from rfl, u32_and_nat x 1 hx (by omega), Nat.and_two_pow_sub_one_eq_mod x 1]
theorem u32_mask (m : Nat) (hm : m < 4294967296) : bits .and .u32 (m : Int) 4294967295 = (m : Int) := by
 rw [show (4294967295 : Int) = ((4294967295 : Nat) : Int) from rfl, u32_and_nat m _ hm (by omega), Nat.and_two_pow_sub_one_eq_mod m 32, Nat.mod_eq_of_lt hm]
theorem u32_none (m : Nat) (hm : m < 4294967296) : bits .and .u32 (m : Int) 0 = 0 := by
 rw [show (0 : Int) = ((0 : Nat) : Int) from rfl, u32_and_nat m _ hm (by omega), Nat.and_zero]
theorem u32_xor0 (m : Nat) (hm : m < 4294967296) : bits .xor .u32 (m : Int) 0 = (m : Int) := by
 rw [show (0 : Int) = ((0 : Nat) : Int) from rfl, u32_xor_nat m _ hm (by omega), Nat.xor_zero]
theorem step_bits (x : Nat) (hx : x < 4294967296) :
  bits .xor .u32 ((x : Int) / 2) (bits .and .u32 3988292384 (-bits .and .u32 (x : Int) 1 % 4294967296)) = ((sh x : Nat) : Int) := by
 rw [u32_bit1 x hx]
 by_cases h : x % 2 = 1
 ·rw [h, sh_odd h, ← sh_bits hx, show -((1 : Nat) : Int) % 4294967296 = 4294967295 by decide]
  rw [show bits .and .u32 3988292384 4294967295 = 3988292384 from u32_mask 3988292384 (by omega)]
 ·rw [show x % 2 = 0 by omega, sh_ev h, show -((0 : Nat) : Int) % 4294967296 = 0 by decide, show bits .and .u32 3988292384 0 = 0 from u32_none 3988292384 (by omega), show ((x : Int) / 2) = ((x / 2 : Nat) : Int) from by omega]
  exact u32_xor0 _ (by omega)
set_option maxHeartbeats 1600000 in
theorem eight_any (n : Nat) (w : World) (hn : n < 4294967296) :
  Calls Tryz.prog 116 #[.int .u32 (n : Int)] w fun e w' => e = .returned (.int .u32 ((it 8 n : Nat) : Int)) ∧ w' = w := by
 go_enter Tryz.func116, Tryz.ntmps116
 go_wp2_with fail
 go_loopg [0, 3] 8 (fun g s0 s3 wx => ∃ k : Nat, g = 8 - k ∧ k ≤ 8 ∧ s3 = .int .i64 (k : Int) ∧ s0 = .int .u32 ((it k n : Nat) : Int) ∧ wx = w)
 case atStart => exact ⟨0, rfl, by omega, rfl, rfl, rfl⟩
 case round =>
  obtain ⟨k, rfl, hk, rfl, rfl, rfl⟩ := hrel
  have hx := it_lt k hn
  have hs := Lib.hid (it_succ k n)
  have hend : Hid (k = 8 → it k n = it 8 n) := Lib.hid (fun e => by rw [e])
  have hb := step_bits (it k n) hx
  generalize it k n = x at *
  by_cases h8 : k < 8
  ·have t1 : (k : Int) < 8 := by omega
   go_wp2_with fail
   go_roundg (8 - (k + 1))
   case measure => omega
   case rel => exact ⟨k + 1, rfl, by omega, by go_num, by rw [hs.out], rfl⟩
  ·have t1 : ¬ (k : Int) < 8 := by omega
   go_wp2_with fail
   go_ret
   exact ⟨by rw [hend.out (by omega)]; rfl, rfl⟩
end Go.Proofs.YtbbhmhihpdmoiaaGreat.Cx

set_option linter.unusedVariables false
set_option linter.unusedSimpArgs false
namespace Go.Proofs.YtbbhmhihpdmoiaaGreat.Cx
open Go Go.RowKit
theorem bdrew {B : Nat} {w w' : World} (n : Nat) (h : Below B (w.drewN n) w') : Below B w w' := ⟨h.os, h.tape, h.output, h.size, h.block⟩
theorem bdrew0 (B : Nat) (w : World) (n : Nat) : Below B w (w.drewN n) := bdrew n (Below.refl _ _)
theorem bdrewN {B : Nat} {a w : World} (n : Nat) (h : Below B a w) : Below B a (w.drewN n) := ⟨h.os, h.tape, h.output, h.size, h.block⟩
theorem bnext {w W1 W2 : World} (h : Below w.heap.size w W1) (k : Below W1.heap.size W1 W2) : Below w.heap.size w W2 := h.trans (k.mono h.size)
theorem keep_cell {w w' : World} {a : Addr} {v : Value} (hb : Below w.heap.size w w') (h : w.cell? a = some v) : w'.cell? a = some v := by
 rw [hb.cell]
 ·exact h
 ·exact block_lt_of_cell h
theorem keep_free {w w' : World} {b o : Nat} (hb : Below w.heap.size w w') (hs : b < w.heap.size) (h : w.frozen? ⟨b, o, none⟩ = false) : w'.frozen? ⟨b, o, none⟩ = false := by
 rw [hb.frozen (p := ⟨b, o, none⟩) hs]
 exact h
theorem keep_row {w w' : World} {b : Nat} {o : Obj} (hb : Below w.heap.size w w') (h : w.heap[b]? = some o) : w'.heap[b]? = some o := by
 rw [hb.block _ (Array.getElem?_eq_some_iff.1 h).1]; exact h
theorem frozen_row {w : World} {g j : Nat} {cs : Array Value} {t : TypeId} (hg : w.heap[g]? = some (.cells cs t (0, 0))) : w.frozen? ⟨g, j, none⟩ = false := by
 simp [World.frozen?, hg]
theorem step_row {w : World} {o : Obj} {b : Nat} {x : Obj} (h : w.heap[b]? = some x) : (w.alloc o).heap[b]? = some x := by
 rw [heap_alloc_old _ _ (Array.getElem?_eq_some_iff.1 h).1]
 exact h
theorem block3s (w : World) (A B C : Obj) : (((w.alloc A).alloc B).alloc C).heap[w.heap.size]? = some A ∧ (((w.alloc A).alloc B).alloc C).heap[w.heap.size + 1]? = some B ∧ (((w.alloc A).alloc B).alloc C).heap[w.heap.size + 1 + 1]? = some C := by
 have h0 := heap_alloc_new w A
 have h1 := heap_alloc_new (w.alloc A) B
 have h2 := heap_alloc_new ((w.alloc A).alloc B) C
 simp only [World.size_alloc] at h1 h2
 exact ⟨step_row (step_row h0), step_row h1, h2⟩
theorem keeps_below {W X : World} (h : Below W.heap.size W X) : KeepsOthers W X :=
 ⟨h.size, fun k o hk _ => by rw [h.block k (Array.getElem?_eq_some_iff.1 hk).1]; exact hk⟩
end Go.Proofs.YtbbhmhihpdmoiaaGreat.Cx

set_option linter.unusedVariables false
set_option linter.unusedSimpArgs false
namespace Go.Proofs.YtbbhmhihpdmoiaaGreat.Cx
open Go Go.RowKit
def Bs (W : World) (o : Option Addr) (l : List Nat) : Prop :=
 ∀ j, j < l.length → ∃ b off, o = some ⟨b, off, none⟩ ∧ W.cell? ⟨b, off + j, none⟩ = some (.int .u8 ((l.getD j 0 : Nat) : Int))
theorem Bs.below {w W : World} (h : Below w.heap.size w W) {o : Option Addr} {l : List Nat} (s : Bs w o l) : Bs W o l := fun j hj => by
 obtain ⟨b, off, e, hc⟩ := s j hj
 exact ⟨b, off, e, keep_cell h hc⟩
def By (l : List Nat) : Prop := ∀ c ∈ l, c < 256
theorem By.get {l : List Nat} (h : By l) (k : Nat) : l.getD k 0 < 256 := by
 by_cases hk : k < l.length
 ·have : l.getD k 0 = l[k] := by simp [List.getD, hk]
  rw [this]
  exact h _ (List.getElem_mem hk)
 ·simp [List.getD, hk]
theorem By.take {l : List Nat} (h : By l) (k : Nat) : By (l.take k) := fun c hc => h c (List.mem_of_mem_take hc)
theorem By.drop {l : List Nat} (h : By l) (k : Nat) : By (l.drop k) := fun c hc => h c (List.mem_of_mem_drop hc)
theorem By.append {l m : List Nat} (h : By l) (h2 : By m) : By (l ++ m) := fun c hc => (List.mem_append.1 hc).elim (h c) (h2 c)
theorem reg_take {l : List Nat} {k : Nat} (hk : k < l.length) (n : Nat) : reg (l.take (k + 1)) n = it 8 (reg (l.take k) n ^^^ l.getD k 0) := by
 rw [List.take_add_one, List.getElem?_eq_getElem hk, reg_append]
 simp [reg, List.getD, hk]
theorem nt_bits {x : Nat} (hx : x < 4294967296) : bits .xor .u32 IntKind.u32.max (x : Int) = ((nt x : Nat) : Int) := by
 rw [show IntKind.u32.max = (4294967295 : Int) from rfl, show (4294967295 : Int) = ((4294967295 : Nat) : Int) from rfl, u32_xor_nat _ x (by omega) hx, Nat.xor_comm, ← ones_eq]
 rfl
set_option maxHeartbeats 1600000 in
theorem more_any (s : Nat) (l : List Nat) (o : Option Addr) (cap : Nat) (w : World) (hs : s < 4294967296) (hl : By l) (hlen : l.length ≤ 9223372036854775807) (hb : Bs w o l) :
  Calls Tryz.prog 97 #[.int .u32 (s : Int), .slice o l.length cap] w fun e w' => e = .returned (.int .u32 ((more s l : Nat) : Int)) ∧ w' = w := by
 have h0 := nt_bits hs
 have hn := nt_lt hs
 have HB := Lib.hid hb; clear hb
 have HM : Hid (more s l = nt (reg l (nt s))) := Lib.hid rfl
 generalize more s l = m at *
 generalize nt s = n at *
 go_enter Tryz.func97, Tryz.ntmps97
 go_wp2_with fail
 go_loopg [5, 12] l.length (fun g s5 s12 wx => ∃ k : Nat, g = l.length - k ∧ k ≤ l.length ∧ s12 = .int .i64 (k : Int) ∧ s5 = .int .u32 ((reg (l.take k) n : Nat) : Int) ∧ wx = w)
 case atStart => exact ⟨0, rfl, by omega, rfl, by simp [reg], rfl⟩
 case round =>
  obtain ⟨k, rfl, hk, rfl, rfl, rfl⟩ := hrel
  have hx : reg (l.take k) n < 4294967296 := reg_lt (hl.take k) hn
  by_cases h8 : k < l.length
  ·have t1 : (k : Int) < (l.length : Int) := by omega
   obtain ⟨b, off, rfl, hc⟩ := HB.out k h8
   have hc2 := hl.get k
   have hT := Lib.hid (reg_take h8 n)
   generalize l.getD k 0 = c at *
   generalize reg (l.take k) n = x at *
   have hxor := u32_xor_nat x c hx (by omega)
   have hxl := xor_lt hx (show c < 4294967296 by omega)
   go_wp2_with fail
   refine (eight_any _ _ hxl).mono ?_
   rintro e w' ⟨rfl, rfl⟩
   go_wp2_with fail
   go_roundg (l.length - (k + 1))
   case measure => omega
   case rel => exact ⟨k + 1, rfl, by omega, by go_num, by rw [hT.out], rfl⟩
  ·have t1 : ¬ (k : Int) < (l.length : Int) := by omega
   obtain rfl : k = l.length := by omega
   rw [List.take_length] at *
   have h1 := nt_bits hx
   go_wp2_with fail
   go_ret
   exact ⟨by rw [HM.out]; rfl, rfl⟩
end Go.Proofs.YtbbhmhihpdmoiaaGreat.Cx

set_option linter.unusedVariables false
set_option linter.unusedSimpArgs false
namespace Go.Proofs.YtbbhmhihpdmoiaaGreat.Cx
open Go Go.RowKit
theorem sh_double (n : Nat) : sh (2 * n) = n := by
 unfold sh
 rw [if_neg (by omega)]
 omega
set_option maxHeartbeats 1600000 in
theorem sum_any (l : List Nat) (o : Option Addr) (cap : Nat) (w : World) (hl : By l) (hlen : l.length ≤ 9223372036854775807) (hb : Bs w o l) :
  Calls Tryz.prog 60 #[.slice o l.length cap] w fun e w' => e = .returned (.int .u32 ((more 0 l : Nat) : Int)) ∧ w' = w := by
 have H := more_any 0 l o cap w (by omega) hl hlen hb
 go_enter Tryz.func60, Tryz.ntmps60
 go_wp2_with fail
 refine H.mono ?_
 rintro e w' ⟨rfl, rfl⟩
 go_wp2_with fail
 go_ret
 exact ⟨rfl, rfl⟩
end Go.Proofs.YtbbhmhihpdmoiaaGreat.Cx

set_option linter.unusedVariables false
set_option linter.unusedSimpArgs false
namespace Go.Proofs.YtbbhmhihpdmoiaaGreat.Cx
open Go Go.RowKit
def bR (l : List Nat) : Array Value := (l.map fun x : Nat => Value.int .u8 (x : Int)).toArray
theorem bR_size (l : List Nat) : (bR l).size = l.length := by simp [bR]
theorem bR_get (l : List Nat) {j : Nat} (h : j < l.length) : (bR l)[j]? = some (.int .u8 ((l.getD j 0 : Nat) : Int)) := by simp [bR, h, List.getD]
theorem Bs.row {W : World} {b : Nat} {l : List Nat} {t : TypeId} {fr : Nat × Nat} (h : W.heap[b]? = some (.cells (bR l) t fr)) : Bs W (some ⟨b, 0, none⟩) l := fun j hj =>
 ⟨b, 0, rfl, by rw [Nat.zero_add, cell_of_row _ _ _ _ _ _ h, bR_get l hj]⟩
theorem By.of {l : List Nat} (h : l.all (fun c => decide (c < 256)) = true) : By l := fun c hc => by
 have := List.all_eq_true.1 h c hc
 simpa using this
end Go.Proofs.YtbbhmhihpdmoiaaGreat.Cx

set_option linter.unusedVariables false
set_option linter.unusedSimpArgs false
namespace Go.Proofs.YtbbhmhihpdmoiaaGreat.Cx
open Go.Proofs.YtbbhmhihpdmoiaaGreat.Fx (Hands)
open Go Go.RowKit Go.Shelf
attribute [local go_sem] Oper.semAt_some
end Go.Proofs.YtbbhmhihpdmoiaaGreat.Cx

set_option linter.unusedVariables false
set_option linter.unusedSimpArgs false
namespace Go.Proofs.YtbbhmhihpdmoiaaGreat.Cx
open Go.Proofs.YtbbhmhihpdmoiaaGreat.Fx (Kept held_done held_region held_step held_take wpIn_range_num)
open Go Go.RowKit Go.Shelf
attribute [local go_sem] Oper.semAt_some
end Go.Proofs.YtbbhmhihpdmoiaaGreat.Cx

set_option linter.unusedVariables false
set_option linter.unusedSimpArgs false
namespace Go.Proofs.YtbbhmhihpdmoiaaGreat.Cx
open Go Go.RowKit
theorem wpList_store_big {P : Program} {ops : Array Oper} {rest : List Oper} {op : Oper} {a : Act} {w : World} {Q : Exit → Act → World → Prop} (hgd : op.guard = none) (ty : TypeId) (x y : Operand) (ho : op.op = .store ty x y)
  (g : Nat) (t : TypeId) (c c' : Array Value) (hx : a.eval x = .pointer (some ⟨g, 0, none⟩)) (hy : a.eval y = .agg c') (hg : w.heap[g]? = some (.cells c t (0, 0)))
  (hi : (P.info? ty).map (·.size) = some c'.size) (hs : c.size = c'.size) (h1 : c'.all (·.oneCell') = true)
  (h : wpList P ops Q rest (a.put op.dst undef) (w.setRow g c')) : wpList P ops Q (op :: rest) a w := by
 refine wpList_plain hgd fun K hK => ?_
 unfold Oper.wp execOp
 simp only [ho, hx, hy, Instr.storeAt, Instr.sureAddr, Sem.run_bind, Sem.run_pure, Result.andThen_ok, run_storeVar_row w g t ty c c' hg hi hs h1]
 exact hK _ _ h
theorem Below.row {B : Nat} {a w : World} (h : Below B a w) {g : Nat} (hg : B ≤ g) (c : Array Value) : Below B a (w.setRow g c) :=
 ⟨h.os, h.tape, h.output, by simpa using h.size, fun k hk => (setRow_other w g k c (by omega)).trans (h.block k hk)⟩
end Go.Proofs.YtbbhmhihpdmoiaaGreat.Cx

set_option linter.unusedVariables false
set_option linter.unusedSimpArgs false
namespace Go.Proofs.YtbbhmhihpdmoiaaGreat.Cx
open Go.Proofs.YtbbhmhihpdmoiaaGreat.Fx (Kept wpIn_range_num)
open Go Go.RowKit Go.Shelf
attribute [local go_sem] Oper.semAt_some
section laws
variable {F : Fence} {n : Nat} {P : Program} {ops : Array Oper} {rest : List Oper} {o : Oper} {a : Act} {w : World} {Q : Exit → Act → World → Prop}
end laws
theorem wpList_store_new {P : Program} {ops : Array Oper} {rest : List Oper} {op : Oper} {a : Act} {w : World} {Q : Exit → Act → World → Prop} (hgd : op.guard = none) (ty : TypeId) (x y : Operand) (ho : op.op = .store ty x y)
  (g : Nat) (t : TypeId) (c c' : Array Value) (hx : a.eval x = .pointer (some ⟨g, 0, none⟩)) (hg : w.heap.size = g) (hy : a.eval y = .agg c')
  (hi : (P.info? ty).map (·.size) = some c'.size) (hs : c.size = c'.size) (h1 : c'.all (·.oneCell') = true)
  (h : wpList P ops Q rest (a.put op.dst undef) (w.alloc (.cells c' t))) : wpList P ops Q (op :: rest) a (w.alloc (.cells c t)) := by
 subst hg
 refine wpList_store_big hgd ty x y ho w.heap.size t c c' hx hy (heap_alloc_new _ _) hi hs h1 ?_
 rw [World.setRow_alloc_new]
 exact h
end Go.Proofs.YtbbhmhihpdmoiaaGreat.Cx

set_option linter.unusedVariables false
set_option linter.unusedSimpArgs false
namespace Go.Proofs.YtbbhmhihpdmoiaaGreat.Cx
open Go.Proofs.YtbbhmhihpdmoiaaGreat.Fx (held_done held_region held_step held_take)
open Go Go.RowKit Go.Shelf
attribute [local go_sem] Oper.semAt_some
theorem Bs.take {W : World} {o : Option Addr} {l : List Nat} (h : Bs W o l) (k : Nat) : Bs W o (l.take k) := fun j hj => by
 have hj2 : j < k ∧ j < l.length := by rw [List.length_take] at hj; omega
 obtain ⟨b, off, e, hc⟩ := h j hj2.2
 refine ⟨b, off, e, hc.trans ?_⟩
 simp [List.getD, List.getElem?_take, hj2.1]
theorem Bs.drop {W : World} {b off cap k : Nat} {l : List Nat} (hcap : l.length ≤ cap) (h : Bs W (some ⟨b, off, none⟩) l) : Bs W (if cap = k then some ⟨b, off, none⟩ else some ⟨b, off + k, none⟩) (l.drop k) := fun j hj => by
 rw [List.length_drop] at hj
 rw [if_neg (by omega)]
 obtain ⟨b', off', e, hc⟩ := h (k + j) (by omega)
 cases e
 refine ⟨b, off + k, rfl, ?_⟩
 rw [show off + k + j = off + (k + j) by omega, hc]
 simp [List.getD]
theorem Bs.none {W : World} {o : Option Addr} : Bs W o [] := fun j hj => absurd hj (by simp)
end Go.Proofs.YtbbhmhihpdmoiaaGreat.Cx

set_option linter.unusedVariables false
set_option linter.unusedSimpArgs false
namespace Go.Proofs.YtbbhmhihpdmoiaaGreat.Cx
open Go Go.RowKit
def encB (x : Nat) : Value := .int .u8 (x : Int)
def Own (W : World) (B : Nat) (v : Value) (l : List Nat) : Prop := W.ownsRow B 5 1 v l.length (l.map encB)
theorem Own.below {w W : World} {B : Nat} {v : Value} {l : List Nat} (h : Below w.heap.size w W) (s : Own w B v l) : Own W B v l := by
 obtain ⟨h1, h2⟩ := s
 refine ⟨h1, ?_⟩
 rcases h2 with h2 | ⟨g, cap, cur, e, hb, hg, h3⟩
 ·exact Or.inl h2
 ·exact Or.inr ⟨g, cap, cur, e, hb, keep_row h hg, h3⟩
theorem Own.mono {W : World} {B C : Nat} {v : Value} {l : List Nat} (hB : B ≤ C) (s : Own W C v l) : Own W B v l := by
 obtain ⟨h1, h2⟩ := s
 refine ⟨h1, ?_⟩
 rcases h2 with h2 | ⟨g, cap, cur, e, hb, h3⟩
 ·exact Or.inl h2
 ·exact Or.inr ⟨g, cap, cur, e, Nat.le_trans hB hb, h3⟩
theorem Own.open {W : World} {B : Nat} {v : Value} {l : List Nat} (s : Own W B v l) : ∃ o cap, v = .slice o l.length cap ∧ Bs W o l ∧ l.length ≤ cap ∧ cap ≤ 9223372036854775807 ∧ (o = none → cap = 0) ∧ (∀ a, o = some a → ∃ g, a = ⟨g, 0, none⟩ ∧ B ≤ g ∧ g < W.heap.size ∧ ∀ j, W.frozen? ⟨g, j, none⟩ = false) := by
 obtain ⟨h1, h2⟩ := s
 rcases h2 with ⟨rfl, h0⟩ | ⟨g, cap, cur, rfl, hb, hg, hc, hm, hs, ht⟩
 ·have : l = [] := List.length_eq_zero_iff.1 h0
  subst this
  exact ⟨none, 0, rfl, Bs.none, by simp, by omega, fun _ => rfl, fun a h => by cases h⟩
 ·refine ⟨some ⟨g, 0, none⟩, cap, rfl, fun j hj => ⟨g, 0, rfl, ?_⟩, hc, by unfold maxLen at hm; omega, (fun h => by cases h), fun a h => ⟨g, (Option.some.inj h).symm, hb, (Array.getElem?_eq_some_iff.1 hg).1, fun j => frozen_row hg⟩⟩
  rw [Nat.zero_add, cell_of_row _ _ _ _ _ _ hg]
  have h3 : (cur.toList.take (l.length * 1))[j]? = some (encB (l.getD j 0)) := by rw [ht]; simp [hj, List.getD]
  rw [List.getElem?_take, if_pos (by omega)] at h3
  simpa [encB] using h3
theorem news_of {W : World} {b off : Nat} {l : List Nat} (h : Bs W (some ⟨b, off, none⟩) l) : ∀ j u, (l.map encB)[j]? = some u → W.cell? ((⟨b, off, none⟩ : Addr).add j) = some u := by
 intro j u hu
 have hj : j < l.length := by
  have := (List.getElem?_eq_some_iff.1 hu).1
  simpa using this
 obtain ⟨b', off', e, hc⟩ := h j hj
 cases e
 rw [Addr.add_lit, hc, ← hu]
 simp [hj, encB, List.getD]
theorem news_one (l : List Nat) : ∀ u ∈ l.map encB, u.oneCell' = true := by
 intro u hu
 obtain ⟨x, _, rfl⟩ := List.mem_map.1 hu
 rfl
theorem info5 : (Tryz.prog.info? 5).map (fun i => (i.zero, i.size, i.bytes)) = some (some (.int .u8 0), 1, 1) := by kernel_rfl
theorem run_eql_nil (w : World) (t e : TypeId) (a : Option Addr) (l c : Nat) (h : Tryz.prog.underlying t = some (.slice e)) : (binOp .eql t (.slice a l c) (.slice none 0 0)).run Tryz.prog w = .ok (.bool a.isNone) w := by
 show ((do pure (.bool (← Op.equal t (.slice a l c) (.slice none 0 0)))) : Sem Value).run Tryz.prog w = _
 simp [run_equal_slice_nil w t e a l c h]
set_option maxHeartbeats 1600000 in
theorem clone_any (l : List Nat) (b off cap : Nat) (w : World) (hlen : l.length ≤ 140737488355328) (hb : Bs w (some ⟨b, off, none⟩) l) :
  Calls Tryz.prog 96 #[.slice (some ⟨b, off, none⟩) l.length cap] w fun e w' => (∃ v, e = .returned v ∧ Own w' w.heap.size v l) ∧ Below w.heap.size w w' := by
 obtain ⟨i0, hi, hz0, hz1, hz2⟩ := info_parts info5
 have hE : (w.alloc (.cells #[] 5)).ownsRow w.heap.size 5 1 (.slice (some ⟨w.heap.size, 0, none⟩) 0 0) 0 [] := World.ownsRow_lit w #[] 0 (Nat.le_refl _) (by unfold maxLen; omega) rfl
 have HN := Lib.hid (news_of (hb.below (W := w.alloc (.cells #[] 5)) (by go_grown)))
 have HBel : Hid (Below w.heap.size w (w.alloc (.cells #[] 5))) := Lib.hid (by go_grown)
 clear hb
 have hq := fun W => run_eql_nil W 31 5 (some ⟨b, off, none⟩) l.length cap Tryz.underlying31
 go_enter Tryz.func96, Tryz.ntmps96
 go_wp2_with (at_builtin; refine wpList_append_own _ rfl _ _ 31 rfl w.heap.size 5 i0 (.int .u8 0) 1 1 Tryz.underlying31 hi hz0 hz1 hz2 rfl (by decide) _ _ _ rfl hE ⟨b, off, none⟩ l.length cap (l.map encB) rfl (by simp) HN.out (news_one l) (by unfold maxLen; omega) (by omega) (by simp) ?_; intro v' w1 hown hgrow _)
 have HO : Hid (Own w1 w.heap.size v' l) := Lib.hid (by
  unfold Own
  rw [Nat.zero_add, List.nil_append] at hown
  exact hown)
 have HB : Hid (Below w.heap.size w w1) := Lib.hid (HBel.out.grown hgrow (by simp) (by intro k hk; cases hk; exact Nat.le_refl _))
 clear hown hgrow
 go_ret
 exact ⟨⟨v', rfl, HO.out⟩, HB.out⟩
def le4 (s : Nat) : List Nat := [s % 256, s / 256 % 256, s / 65536 % 256, s / 16777216 % 256]
theorem le4_by (s : Nat) : By (le4 s) := by
 intro c hc
 simp only [le4, List.mem_cons, List.not_mem_nil, or_false] at hc
 rcases hc with rfl | rfl | rfl | rfl <;> exact Nat.mod_lt _ (by omega)
def fil (s k : Nat) : List Nat := (List.range 4).map fun i => if i < k then (le4 s).getD i 0 else 0
theorem fil_len (s k : Nat) : (fil s k).length = 4 := by simp [fil]
theorem size4 : (Tryz.prog.info? 112).map (·.size) = some 4 := by kernel_rfl
theorem bR_one (l : List Nat) : (bR l).all (·.oneCell') = true := by
 simp only [bR, List.all_toArray, List.all_map, List.all_eq_true]
 intro i _
 rfl
theorem fil_put (s k : Nat) (hk : k < 4) : (bR (fil s k)).setIfInBounds k (.int .u8 (((le4 s).getD k 0 : Nat) : Int)) = bR (fil s (k + 1)) := by
 obtain rfl | rfl | rfl | rfl : k = 0 ∨ k = 1 ∨ k = 2 ∨ k = 3 := by omega
 all_goals rfl
structure FB (s r b k : Nat) (w W : World) : Prop where
 z : W.heap[r]? = some (.cells (bR (fil s 0)) 112 (0, 0))
 a : W.heap[b]? = some (.cells (bR (fil s k)) 112 (0, 0))
 ne : r ≠ b
 lo : w.heap.size ≤ r ∧ w.heap.size ≤ b
 below : Below w.heap.size w W
theorem FB.facts {s r b k : Nat} {w W : World} (h : FB s r b k w W) (hk : k < 4) : (∃ v, W.cell? ⟨b, k, none⟩ = some v) ∧ W.frozen? ⟨b, k, none⟩ = false :=
 ⟨⟨_, by rw [cell_of_row _ _ _ _ _ _ h.a, bR_get _ (by rw [fil_len]; exact hk)]⟩, frozen_row h.a⟩
theorem FB.set {s r b k : Nat} {w W : World} (h : FB s r b k w W) (hk : k < 4) : FB s r b (k + 1) w (W.setCell ⟨b, k, none⟩ (.int .u8 (((le4 s).getD k 0 : Nat) : Int))) := by
 refine ⟨?_, ?_, h.ne, h.lo, h.below.setCell (p := ⟨b, k, none⟩) h.lo.2 _⟩
 ·rw [heap_setCell_other _ _ _ _ h.ne]; exact h.z
 ·rw [heap_setCell_same _ _ _ _ _ _ h.a, fil_put _ _ hk]
set_option maxRecDepth 100000 in
set_option maxHeartbeats 2000000 in
theorem inbytes_any (s : Nat) (w : World) (hs : s < 4294967296) :
  Calls Tryz.prog 59 #[.int .u32 (s : Int)] w fun e w' => e = .returned (.agg (bR (le4 s))) ∧ Below w.heap.size w w' := by
 have S0 : FB s w.heap.size (w.heap.size + 1) 0 w ((w.alloc (.cells #[.int .u8 0, .int .u8 0, .int .u8 0, .int .u8 0] 112)).alloc (.cells #[.int .u8 0, .int .u8 0, .int .u8 0, .int .u8 0] 112)) := by
  refine ⟨step_row (heap_alloc_new w _), ?_, by omega, by omega, by go_grown⟩
  have := heap_alloc_new (w.alloc (.cells #[.int .u8 0, .int .u8 0, .int .u8 0, .int .u8 0] 112)) (.cells #[.int .u8 0, .int .u8 0, .int .u8 0, .int .u8 0] 112)
  rw [World.size_alloc] at this
  exact this
 have HS0 := Lib.hid S0
 clear S0
 go_enter Tryz.func59, Tryz.ntmps59
 go_wp2_with fail
 generalize ((w.alloc (.cells #[.int .u8 0, .int .u8 0, .int .u8 0, .int .u8 0] 112)).alloc (.cells #[.int .u8 0, .int .u8 0, .int .u8 0, .int .u8 0] 112)) = W0 at HS0 ⊢
 go_loopg [5] 4 (fun g s5 wx => ∃ k : Nat, g = 4 - k ∧ k ≤ 4 ∧ s5 = .int .i64 (k : Int) ∧ FB s w.heap.size (w.heap.size + 1) k w wx)
 case atStart => exact ⟨0, rfl, by omega, rfl, HS0.out⟩
 case round =>
  clear HS0
  obtain ⟨k, rfl, hk, rfl, pb⟩ := hrel
  obtain rfl | rfl | rfl | rfl | rfl : k = 0 ∨ k = 1 ∨ k = 2 ∨ k = 3 ∨ k = 4 := by omega
  ·obtain ⟨⟨v, fc⟩, ff⟩ := pb.facts (by omega)
   have ps := pb.set (by omega)
   rw [show (((le4 s).getD 0 0 : Nat) : Int) = (s : Int) % 256 by simp [le4]] at ps
   have PS := Lib.hid ps
   clear pb ps
   go_wp2_with fail
   go_roundg 3
   case measure => omega
   case rel => exact ⟨1, rfl, by omega, by go_num, PS.out⟩
  ·obtain ⟨⟨v, fc⟩, ff⟩ := pb.facts (by omega)
   have ps := pb.set (by omega)
   rw [show (((le4 s).getD 1 0 : Nat) : Int) = (s : Int) / 256 % 256 by simp [le4]] at ps
   have PS := Lib.hid ps
   clear pb ps
   go_wp2_with fail
   go_roundg 2
   case measure => omega
   case rel => exact ⟨2, rfl, by omega, by go_num, PS.out⟩
  ·obtain ⟨⟨v, fc⟩, ff⟩ := pb.facts (by omega)
   have ps := pb.set (by omega)
   rw [show (((le4 s).getD 2 0 : Nat) : Int) = (s : Int) / 65536 % 256 by simp [le4]] at ps
   have PS := Lib.hid ps
   clear pb ps
   go_wp2_with fail
   go_roundg 1
   case measure => omega
   case rel => exact ⟨3, rfl, by omega, by go_num, PS.out⟩
  ·obtain ⟨⟨v, fc⟩, ff⟩ := pb.facts (by omega)
   have ps := pb.set (by omega)
   rw [show (((le4 s).getD 3 0 : Nat) : Int) = (s : Int) / 16777216 by simp [le4]; omega] at ps
   have PS := Lib.hid ps
   clear pb ps
   go_wp2_with fail
   go_roundg 0
   case measure => omega
   case rel => exact ⟨4, rfl, by omega, by go_num, PS.out⟩
  ·have HZ := Lib.hid pb.z
   have HA : Hid (wr.heap[w.heap.size + 1]? = some (.cells (bR (le4 s)) 112 (0, 0))) := Lib.hid pb.a
   have HB := Lib.hid pb.below
   have HI : Hid ((Tryz.prog.info? 112).map (·.size) = some (bR (le4 s)).size) := Lib.hid (by rw [bR_size]; exact size4)
   have HS : Hid ((bR (fil s 0)).size = (bR (le4 s)).size) := Lib.hid (by rw [bR_size, bR_size]; rfl)
   clear pb
   go_wp2_with (first | (refine wpList_load_row rfl 112 (.tmp 3) rfl (w.heap.size + 1) rfl _ _ _ _ HA.out Tryz.underlying112 rfl HI.out ?_) | (refine wpList_store_big rfl 112 (.tmp 2) (.tmp 16) rfl (w.heap.size) _ _ (bR (le4 s)) rfl rfl HZ.out HI.out HS.out (bR_one _) ?_))
   refine bodyPost_ret (v := .agg (bR (le4 s))) (results_cell_row rfl _ _ (w.heap.size) _ _ _ _ rfl (setRow_heap _ _ _ _ _ _ HZ.out) Tryz.underlying112 rfl HI.out) rfl ?_
   exact ⟨rfl, Below.row HB.out (by omega) _⟩
end Go.Proofs.YtbbhmhihpdmoiaaGreat.Cx
