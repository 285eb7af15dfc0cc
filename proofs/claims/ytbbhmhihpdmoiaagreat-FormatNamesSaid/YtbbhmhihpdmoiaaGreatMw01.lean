import Derived.Laws.Rows
import Derived.Test.YtbbhmhihpdmoiaaGreatProg
import Derived.Shelf.Abstract
import Derived.Shelf.RegionOpen
import Derived.WalkKit
import Derived.OwnWalkIn
import Derived.TacticsInMore
import Derived.LoopNIn
import Derived.LoopIn
import Derived.Lib.Hide
import Derived.Outline
import Derived.Deep.QuietTactic
import Derived.BigQuiet
import Derived.Laws.AppendOwnNone
import Derived.OrdersHeld
import Derived.OrdersIn
import Derived.RangeFuncCalls
import Derived.Deep.RegionHeld
import Derived.Maps.AppendAt
import Derived.Test.YtbbhmhihpdmoiaaGreatMw00
set_option linter.unusedVariables false
set_option linter.unusedSimpArgs false
namespace Go.Proofs.YtbbhmhihpdmoiaaGreat.Pk
open Go.Proofs.YtbbhmhihpdmoiaaGreat.Fx (Hands)
open Go Go.RowKit Go.Shelf
attribute [local go_sem] Oper.semAt_some
def FrmM (n A : Nat) (X : World) : Prop := X.cell? ⟨A, 0, none⟩ = some (.int .u64 (n : Int))
def frmElem (n k : Nat) : Array Value := #[.int .u8 (((form n).getD k 0 : Nat) : Int)]
set_option maxRecDepth 100000 in
theorem u8_or128 (m : Nat) : bits .or .u8 ((m : Int) % 256) 128 = 128 + (m : Int) % 128 := by
 have h : ∀ x : Fin 256, bits .or .u8 ((x.val : Nat) : Int) 128 = ((128 + x.val % 128 : Nat) : Int) := by decide
 have := h ⟨m % 256, Nat.mod_lt _ (by omega)⟩
 dsimp only at this
 rw [show ((m : Int) % 256) = ((m % 256 : Nat) : Int) by omega, this]
 omega
theorem form_drop_small {n m k : Nat} (h : m < 128) (hf : form m = (form n).drop k) : (form n).length = k + 1 ∧ (form n).getD k 0 = m := by
 rw [form_small h] at hf
 have hl := congrArg List.length hf
 simp at hl
 refine ⟨by omega, ?_⟩
 have hk : k < (form n).length := by omega
 rw [List.drop_eq_getElem_cons hk] at hf
 simp only [List.cons.injEq] at hf
 simp [List.getD, hk, hf.1]
theorem form_drop_big {n m k : Nat} (h : ¬ m < 128) (hm : m < 18446744073709551616) (hf : form m = (form n).drop k) : k < (form n).length ∧ (form n).getD k 0 = 128 + m % 128 ∧ form (m / 128) = (form n).drop (k + 1) := by
 rw [form_big h hm] at hf
 have hl := congrArg List.length hf
 have := (form_len (m / 128)).1
 simp at hl
 have hk : k < (form n).length := by omega
 rw [List.drop_eq_getElem_cons hk] at hf
 simp only [List.cons.injEq] at hf
 exact ⟨hk, by simp [List.getD, hk, hf.1], hf.2⟩
set_option maxRecDepth 100000 in
set_option maxHeartbeats 1000000 in
theorem form_hands (n A : Nat) (hn : n < 18446744073709551616) :
  Hands Fence.wide 4 Tryz.prog 139 #[.pointer (some ⟨A, 0, none⟩)] (frmElem n) (form n).length (FrmM n A) := by
 intro l J Jx W hJ1 hJ2 hJB hJxB hY h0
 have cA := hJB 0 W h0
 have HY := Lib.hid hY; clear hY
 have HJ1 := Lib.hid hJ1; clear hJ1
 have HJ2 := Lib.hid hJ2; clear hJ2
 have HJB := Lib.hid hJB; clear hJB
 have HJxB := Lib.hid hJxB; clear hJxB
 unfold FrmM at cA
 refine callsIn_of_wp Tryz.func139 rfl trivial ?_ rfl
 simp only [Tryz.ntmps139, List.size_toArray, List.length_cons, List.length_nil, Nat.reduceAdd, Nat.reduceSub, Array.replicate_succ, Array.replicate_zero, List.push_toArray, List.append_toArray, List.nil_append, List.cons_append]
 gi_wp2
 gi_loopw [3] (fun v3 wr => ∃ k m : Nat, v3 = .int .u64 (m : Int) ∧ m < 18446744073709551616 ∧ form m = (form n).drop k ∧ J k wr) (fun v3 _ => (intOf v3).toNat)
 case atStart => exact ⟨0, n, rfl, hn, rfl, h0⟩
 case round =>
  clear cA
  obtain ⟨k, m, rfl, hm, hf, hJ⟩ := hrel
  by_cases hs : m < 128
  ·obtain ⟨hl, hg⟩ := form_drop_small hs hf
   obtain ⟨fn, tmps, assign, body, hy, hR⟩ := HY.out k wr (by omega) hJ
   simp only [frmElem] at hy
   rw [hg] at hy
   have t1 : ¬ (128 : Int) ≤ (m : Int) := by omega
   have hw : IntKind.u8.wrap (m : Int) = (m : Int) := by rw [IntKind.wrap_u8]; omega
   have HKN : Hid (k + 1 = (form n).length) := Lib.hid hl.symm
   clear hf hl hg
   gi_wp2
   refine hR.mono ?_
   rintro e W3 (⟨rfl, hJ3⟩ | ⟨rfl, hJx3⟩)
   ·gi_wp2
    go_end0
    exact ⟨⟨_, rfl⟩, .inl (HKN.out ▸ hJ3)⟩
   ·gi_wp2
    go_end0
    exact ⟨⟨_, rfl⟩, .inr hJx3⟩
  ·obtain ⟨hk, hg, hf2⟩ := form_drop_big hs hm hf
   obtain ⟨fn, tmps, assign, body, hy, hR⟩ := HY.out k wr hk hJ
   simp only [frmElem] at hy
   rw [hg] at hy
   have t1 : (128 : Int) ≤ (m : Int) := by omega
   have hor := u8_or128 m
   rw [show ((128 + m % 128 : Nat) : Int) = 128 + (m : Int) % 128 by omega] at hy
   gi_wp2
   refine hR.mono ?_
   rintro e W3 (⟨rfl, hJ3⟩ | ⟨rfl, hJx3⟩)
   ·gi_wp2
    go_roundw
    case rel => exact ⟨k + 1, m / 128, by go_num, by omega, hf2, hJ3⟩
    case measure => simp [intOf]; omega
   ·gi_wp2
    refine bodyPost_ret (results_none rfl _ _ _) rfl ?_
    exact ⟨⟨_, rfl⟩, .inr hJx3⟩
theorem form_w (n : Nat) (w : World) : Calls Tryz.prog 115 #[.int .u64 (n : Int)] w fun e w' =>
  e = .returned (.func (.func 139) #[] #[.pointer (some ⟨w.heap.size, 0, none⟩)]) ∧ w' = w.alloc (.cells #[.int .u64 (n : Int)] 89) := by
 go_enter Tryz.func115, Tryz.ntmps115
 go_wp2
 go_ret
 exact ⟨rfl, rfl⟩
end Go.Proofs.YtbbhmhihpdmoiaaGreat.Pk

set_option linter.unusedVariables false
set_option linter.unusedSimpArgs false
namespace Go.Proofs.YtbbhmhihpdmoiaaGreat.Pk
open Go Go.RowKit
def ZW (B p : Nat) (l : List Nat) (lost : Bool) (W : World) : Prop := ∃ v, W.heap[p]? = some (.cells #[v, .bool lost] 81 (0, 0)) ∧ Own W B v l
theorem ZW.lt {B p : Nat} {l : List Nat} {lost : Bool} {W : World} (h : ZW B p l lost W) : p < W.heap.size := by
 obtain ⟨v, h, _⟩ := h
 exact (Array.getElem?_eq_some_iff.1 h).1
theorem ZW.below {B p : Nat} {l : List Nat} {lost : Bool} {W X : World} (h : ZW B p l lost W) (hb : Below W.heap.size W X) : ZW B p l lost X := by
 obtain ⟨v, h, o⟩ := h
 exact ⟨v, keep_row hb h, o.below hb⟩
theorem Own.apart {W : World} {B p : Nat} {v : Value} {l : List Nat} {cs : Array Value} {t : TypeId} {fr : Nat × Nat} (s : Own W B v l) (h : W.heap[p]? = some (.cells cs t fr)) (ht : t ≠ 5) : ∀ k, v.ownBlock = some k → k ≠ p := by
 intro k hk e
 subst e
 obtain ⟨h1, h2⟩ := s
 rcases h2 with ⟨rfl, _⟩ | ⟨g, cap, cur, rfl, hb, hg, _⟩
 ·cases hk
 ·cases hk
  rw [h] at hg
  injection hg with hg
  injection hg with _ hg
  exact ht hg
theorem Own.grown {W X : World} {B : Nat} {v : Value} {l : List Nat} {row : Option Nat} (s : Own W B v l) (hg : W.grownBy X row) (hr : ∀ k, v.ownBlock = some k → some k ≠ row) : Own X B v l := by
 obtain ⟨h1, h2⟩ := s
 refine ⟨h1, ?_⟩
 rcases h2 with h2 | ⟨g, cap, cur, rfl, hb, hgg, h3⟩
 ·exact Or.inl h2
 ·exact Or.inr ⟨g, cap, cur, rfl, hb, by rw [hg.block g (Array.getElem?_eq_some_iff.1 hgg).1 (hr g rfl)]; exact hgg, h3⟩
theorem below_grown {w w' : World} (h : Below w.heap.size w w') (row : Option Nat) : w.grownBy w' row := ⟨h.os, h.tape, h.output, h.size, fun k hk _ => h.block k hk⟩
theorem grown_cell (W : World) (b j : Nat) (v : Value) : W.grownBy (W.setCell ⟨b, j, none⟩ v) (some b) :=
 ⟨rfl, rfl, rfl, by simp, fun k hk hne => heap_setCell_other _ _ _ _ (by intro e; exact hne (by rw [e]))⟩
theorem Bs.set {W : World} {o : Option Addr} {m : List Nat} (hb : Bs W o m) {p j : Nat} (v : Value) (h : ∀ b off, o = some ⟨b, off, none⟩ → 0 < m.length → b ≠ p) : Bs (W.setCell ⟨p, j, none⟩ v) o m := fun i hi => by
 obtain ⟨b, off, e, hc⟩ := hb i hi
 refine ⟨b, off, e, ?_⟩
 have hne := h b off e (by omega)
 rw [World.cell?_of_block (show (W.setCell ⟨p, j, none⟩ v).heap[b]? = W.heap[b]? from heap_setCell_other _ _ _ _ hne)]
 exact hc
theorem Bs.grown {W X : World} {o : Option Addr} {m : List Nat} {row : Option Nat} (hb : Bs W o m) (hg : W.grownBy X row) (h : ∀ b off, o = some ⟨b, off, none⟩ → 0 < m.length → some b ≠ row) : Bs X o m := fun i hi => by
 obtain ⟨b, off, e, hc⟩ := hb i hi
 exact ⟨b, off, e, hg.cell hc (h b off e (by omega))⟩
theorem Bs.lt {W : World} {b off : Nat} {m : List Nat} (hb : Bs W (some ⟨b, off, none⟩) m) (hm : 0 < m.length) : b < W.heap.size := by
 obtain ⟨b', off', e, hc⟩ := hb 0 hm
 cases e
 rcases Nat.lt_or_ge b W.heap.size with h | h
 ·exact h
 ·rw [World.cell?, Array.getElem?_eq_none h] at hc
  cases hc
end Go.Proofs.YtbbhmhihpdmoiaaGreat.Pk

set_option linter.unusedVariables false
set_option linter.unusedSimpArgs false
namespace Go.Proofs.YtbbhmhihpdmoiaaGreat.Pk
open Go Go.RowKit
def fl (made lost : Bool) : Int := if made then (if lost then 50 else 0) else 1
theorem store_fault (p : Nat) (made lost : Bool) (w : World) (c0 : w.cell? ⟨p, 0, none⟩ = some (.bool made)) (c1 : w.cell? ⟨p, 1, none⟩ = some (.bool lost)) :
  Calls Tryz.prog 108 #[.pointer (some ⟨p, 0, none⟩)] w fun e w' => e = .returned (.int .i64 (fl made lost)) ∧ w = w' := by
 cases made with
 | false =>
  go_enter Tryz.func108, Tryz.ntmps108
  go_wp2_with fail
  go_ret
  exact ⟨rfl, rfl⟩
 | true =>
  cases lost with
  | true =>
   go_enter Tryz.func108, Tryz.ntmps108
   go_wp2_with fail
   go_ret
   exact ⟨rfl, rfl⟩
  | false =>
   go_enter Tryz.func108, Tryz.ntmps108
   go_wp2_with fail
   go_ret
   exact ⟨rfl, rfl⟩
theorem writer_fault (p : Nat) (made lost : Bool) (w : World) (c0 : w.cell? ⟨p, 0, none⟩ = some (.bool made)) (c1 : w.cell? ⟨p, 1, none⟩ = some (.bool lost)) :
  Calls Tryz.prog 92 #[.pointer (some ⟨p, 0, none⟩)] w fun e w' => e = .returned (.int .i64 (fl made lost)) ∧ w = w' := by
 have H0 := store_fault p made lost w c0 c1
 clear c0 c1
 generalize fl made lost = z at *
 have H := Lib.hid H0
 clear H0
 go_enter Tryz.func92, Tryz.ntmps92
 go_wp2_with fail
 refine H.out.mono ?_
 rintro e w1 ⟨rfl, rfl⟩
 go_wp2_with fail
 go_ret
 exact ⟨rfl, rfl⟩
theorem reader_fault (p : Nat) (made lost : Bool) (w : World) (c0 : w.cell? ⟨p, 0, none⟩ = some (.bool made)) (c1 : w.cell? ⟨p, 1, none⟩ = some (.bool lost)) :
  Calls Tryz.prog 77 #[.pointer (some ⟨p, 0, none⟩)] w fun e w' => e = .returned (.int .i64 (fl made lost)) ∧ w = w' := by
 have H0 := store_fault p made lost w c0 c1
 clear c0 c1
 generalize fl made lost = z at *
 have H := Lib.hid H0
 clear H0
 go_enter Tryz.func77, Tryz.ntmps77
 go_wp2_with fail
 refine H.out.mono ?_
 rintro e w1 ⟨rfl, rfl⟩
 go_wp2_with fail
 go_ret
 exact ⟨rfl, rfl⟩
structure PW (B p : Nat) (v : Value) (l : List Nat) (lost : Bool) (W : World) : Prop where
 row : W.heap[p]? = some (.cells #[.bool true, .bool lost, v] 120 (0, 0))
 own : Own W B v l
theorem new_writer (w : World) : Calls Tryz.prog 31 #[] w fun e w' =>
  e = .returned (.pointer (some ⟨w.heap.size, 0, none⟩)) ∧ PW (w.heap.size + 1) w.heap.size (.slice none 0 0) [] false w' ∧ w' = w.alloc (.cells #[.bool true, .bool false, .slice none 0 0] 120) := by
 go_enter Tryz.func31, Tryz.ntmps31
 go_wp2_with fail
 go_ret
 exact ⟨rfl, ⟨heap_alloc_new _ _, World.ownsRow_nil _ _ _ _⟩, rfl⟩
structure Turn (p : Nat) (v v' : Value) (w w' : World) : Prop where
 os : w'.os = w.os
 tape : w'.tape = w.tape
 output : w'.output = w.output
 size : w.heap.size ≤ w'.heap.size
 block : ∀ k, k < w.heap.size → k ≠ p → v.ownBlock ≠ some k → w'.heap[k]? = w.heap[k]?
 own : ∀ k, v'.ownBlock = some k → v.ownBlock = some k ∨ w.heap.size ≤ k
theorem Turn.refl (p : Nat) (v : Value) (w : World) : Turn p v v w w := ⟨rfl, rfl, rfl, Nat.le_refl _, fun _ _ _ _ => rfl, fun _ h => .inl h⟩
theorem Turn.trans {p : Nat} {v v' v'' : Value} {w w' w'' : World} (s : Turn p v v' w w') (t : Turn p v' v'' w' w'') : Turn p v v'' w w'' :=
 ⟨t.os.trans s.os, t.tape.trans s.tape, t.output.trans s.output, Nat.le_trans s.size t.size, fun k hk hp hv => by
  rw [t.block k (Nat.lt_of_lt_of_le hk s.size) hp (fun h => (s.own k h).elim hv (by omega)), s.block k hk hp hv], fun k hk => by
  rcases t.own k hk with h | h
  ·exact s.own k h
  ·exact .inr (Nat.le_trans s.size h)⟩
theorem Turn.of_below {p : Nat} {v : Value} {w w' : World} (h : Below w.heap.size w w') : Turn p v v w w' := ⟨h.os, h.tape, h.output, h.size, fun k hk _ _ => h.block k hk, fun _ h => .inl h⟩
theorem Turn.set (p j : Nat) (v u : Value) (w : World) : Turn p v v w (w.setCell ⟨p, j, none⟩ u) :=
 ⟨rfl, rfl, rfl, by simp, fun k hk hp _ => heap_setCell_other _ _ _ _ hp, fun _ h => .inl h⟩
theorem Turn.of_grown {p : Nat} {v v' : Value} {w w' : World} (hg : w.grownBy w' v.ownBlock) (h : ∀ k, v'.ownBlock = some k → v.ownBlock = some k ∨ w.heap.size ≤ k) : Turn p v v' w w' :=
 ⟨hg.os, hg.tape, hg.output, hg.size, fun k hk _ hv => hg.block k hk (fun e => hv e.symm), h⟩
end Go.Proofs.YtbbhmhihpdmoiaaGreat.Pk

set_option linter.unusedVariables false
namespace Go.Proofs.YtbbhmhihpdmoiaaGreat.Fx
open Go Go.RowKit
variable {F : Fence} {n : Nat} {P : Program} {ops : Array Oper} {Q : Exit → Act → World → Prop} {md : Region.Mode} {S : World → Prop}
def Calm (ops : Array Oper) : Bool := ops.all fun o => match o.op with
 | .defer _ => false
 | _ => true
theorem calm_at {i : Nat} {o : Oper} (h : Calm ops = true) (hi : ops[i]? = some o) (c : Call) : o.op ≠ .defer c := by
 intro e
 unfold Calm at h
 rw [Array.all_eq_true_iff_forall_mem] at h
 have := h o (Array.mem_of_getElem? hi)
 rw [e] at this
 cases this
theorem held_op (hF : ∀ f, F.fn f) (hd : Calm ops = true) {i : Nat} {o : Oper} {v : Value} {a : Act} (hi : ops[i]? = some o) (hy : YieldsIf P ops S o v a)
  {K : Act → World → Prop} {w : World} (hS : S w) (h : K (a.put o.dst v) w) : wpOpIn F n P ops Q i K a w := by
 unfold Go.wpOpIn
 simp only [hi]
 rcases hy with ⟨hw, hv⟩ | ⟨hw, rfl⟩
 ·simp only [hw, if_true, Oper.wpIn, Oper.semAt_plain F _ _ (calm_at hd hi), hv w hS, Oper.uponIn]
  exact ⟨fun f _ => hF f, h⟩
 ·simp only [hw, Bool.false_eq_true, if_false]
  exact ⟨fun f _ => hF f, h⟩
theorem held_put (hF : ∀ f, F.fn f) (hd : Calm ops = true) {j : Nat} {oi oj : Oper} {v : Value} (hj : ops[j]? = some oj) (hap : oi.apart ops oj = true)
  (hsi : ∀ cs b, oi.op ≠ .select cs b) (hsj : ∀ cs b, oj.op ≠ .select cs b)
  (hQ : ∀ c a w, Q (.panic c) (a.put oi.dst v) w → Q (.panic c) a w) {K : Act → World → Prop} {a : Act} {w : World}
  (hy : YieldsIf P ops S oi v a) (h : wpOpIn F n P ops Q j K (a.put oi.dst v) w) :
  wpOpIn F n P ops Q j (fun a' w' => YieldsIf P ops S oi v a' ∧ K (a'.put oi.dst v) w') a w := by
 obtain ⟨h1, h2, h3⟩ := Oper.apart_spec hap
 have hcj := calm_at hd hj
 have keep : ∀ (a : Act), YieldsIf P ops S oi v a → ∀ u, YieldsIf P ops S oi v (a.put oj.dst u) := fun a hy u =>
  hy.of_same (execOp_put oi hsi a oj.dst u h3) (wanted_put oi a oj.dst u h3)
 unfold wpOpIn at *
 simp only [hj] at *
 rw [wanted_put oj a oi.dst v h1] at h
 split
 ·rename_i hw
  simp only [hw, if_true] at h
  unfold Oper.wpIn at *
  rw [Oper.semAt_plain F _ _ hcj] at h ⊢
  rw [execOp_put oj hsj a oi.dst v h1] at h
  refine ⟨fun f _ => hF f, ?_⟩
  obtain ⟨_, h⟩ := h
  generalize (execOp a.eval oj).run P w = r at *
  cases r with
  | ok x w' =>
   cases x <;> simp only [Oper.uponIn] at h ⊢
   case value u => exact ⟨keep a hy u, by rw [← Act.put_comm a v u h2]; exact h⟩
   case skip => exact ⟨keep a hy _, by rw [← Act.put_comm a v undef h2]; exact h⟩
   case defer d =>
    refine ⟨keep _ (show YieldsIf P ops S oi v { a with defers := d :: a.defers } from hy.of_same rfl rfl) _, ?_⟩
    rw [← Act.put_comm _ v undef h2, ← Act.put_defers]
    exact h
   case enter f args =>
    refine ⟨h.1, CallsIn.mono h.2 fun e w'' he => ?_⟩
    cases e with
    | returned u => exact ⟨keep a hy u, by rw [← Act.put_comm a v u h2]; exact he⟩
    | panicked c => exact hQ _ _ _ he
    | outgrown => exact he
   case row row args => exact ⟨h.1, RowsIn.mono h.2 fun u w'' he => ⟨keep a hy u, by rw [← Act.put_comm a v u h2]; exact he⟩⟩
   case round l f tmps assign body =>
    refine ⟨h.1, RoundIn.mono h.2 fun e w'' he => ?_⟩
    cases e with
    | returned u => exact ⟨keep a hy u, by rw [← Act.put_comm a v u h2]; exact he⟩
    | panicked c => exact hQ _ _ _ he
    | outgrown => exact he
  | halt x w' =>
   cases x <;> simp only [Oper.uponIn] at h ⊢
   case panic u => exact hQ _ _ _ h
 ·rename_i hw
  simp only [hw] at h
  exact ⟨fun f _ => hF f, keep a hy _, by rw [← Act.put_comm a v undef h2]; exact h.2⟩
def HeldIn (F : Fence) (n : Nat) (P : Program) (md : Region.Mode) (ops : Array Oper) (Q : Exit → Act → World → Prop) (S : World → Prop) : Nat → Array Bool → Act → World → Prop
 | 0, listed, a, w => Region.ready md ops listed = [] ∧ Q .normal a w
 | fuel + 1, listed, a, w =>
  (Region.ready md ops listed = [] → Q .normal a w) ∧
  ∀ i ∈ Region.ready md ops listed, wpOpIn F n P ops Q i (fun a' w' => S w' ∧ HeldIn F n P md ops Q S fuel (listed.setIfInBounds i true) a' w') a w
theorem HeldIn.any : ∀ (fuel : Nat) (listed : Array Bool) (a : Act) (w : World), HeldIn F n P md ops Q S fuel listed a w → wpAnyIn F n P md ops Q fuel listed a w
 | 0, _, _, _, h => h
 | fuel + 1, _, _, _, h => ⟨h.1, fun i hi => wpOpIn_mono (fun a' w' h' => HeldIn.any fuel _ a' w' h'.2) (h.2 i hi)⟩
theorem held_first (hF : ∀ f, F.fn f) (hd : Calm ops = true) {i : Nat} {oi : Oper} {v : Value} (hi : ops[i]? = some oi) (hsel : ∀ (j : Nat) (o : Oper) cs b, ops[j]? = some o → o.op ≠ .select cs b)
  (hQ : ∀ c a w, Q (.panic c) (a.put oi.dst v) w → Q (.panic c) a w) (fuel : Nat) :
  ∀ (listed : Array Bool) (a : Act) (w : World),
   (∀ j oj, ops[j]? = some oj → j ≠ i → listed.getD j true = false → (∀ e ∈ oj.after, Region.binds md e = true → e.on ≠ i) → oi.apart ops oj = true) →
   i ∈ Region.ready md ops listed → YieldsIf P ops S oi v a → S w →
   HeldIn F n P md ops Q S fuel (listed.setIfInBounds i true) (a.put oi.dst v) w → HeldIn F n P md ops Q S (fuel + 1) listed a w := by
 induction fuel with
 | zero =>
  intro listed a w _ hr hy hS H
  refine ⟨fun h => (by rw [h] at hr; cases hr), fun j hj => ?_⟩
  by_cases hji : j = i
  ·subst hji; exact held_op hF hd hi hy hS ⟨hS, H⟩
  ·have := ready_mono hj hji
   rw [H.1] at this
   cases this
 | succ fuel ih =>
  intro listed a w hfree hr hy hS H
  refine ⟨fun h => (by rw [h] at hr; cases hr), fun j hj => ?_⟩
  by_cases hji : j = i
  ·subst hji; exact held_op hF hd hi hy hS ⟨hS, H⟩
  ·have h1 := H.2 j (ready_mono hj hji)
   obtain ⟨hjun, oj, hoj, hall⟩ := mem_ready.1 hj
   have hnot : ∀ e ∈ oj.after, Region.binds md e = true → e.on ≠ i := fun e he hb heq => by
    have h1 := hall e he hb
    have h0 := (mem_ready.1 hr).1
    rw [heq] at h1
    rcases Nat.lt_or_ge i listed.size with h' | h'
    ·simp [h'] at h0 h1; rw [h0] at h1; cases h1
    ·simp [Array.getElem?_eq_none h'] at h1
   have h2 := held_put hF hd hoj (hfree j oj hoj hji hjun hnot) (fun cs b => hsel i oi cs b hi) (fun cs b => hsel j oj cs b hoj) hQ hy h1
   refine wpOpIn_mono (fun a' w' h3 => ⟨h3.2.1, ih (listed.setIfInBounds j true) a' w' (fun k ok hk hki hun hno => hfree k ok hk hki ?_ hno) (ready_mono hr (Ne.symm hji)) h3.1 h3.2.1 ?_⟩) h2
   ·by_cases hjk : j = k
    ·subst hjk; exact hjun
    ·rw [getD_set_ne true hjk] at hun; exact hun
   ·rw [Array.setIfInBounds_comm _ _ hji]
    exact h3.2.2
theorem held_take (hF : ∀ f, F.fn f) (hd : Calm ops = true) {i : Nat} {oi : Oper} {v : Value} {fuel : Nat} {listed : Array Bool} {a : Act} {w : World} (hi : ops[i]? = some oi)
  (hs : Region.noSelect ops = true) (hf : Region.free md ops listed i = true) (hr : (Region.ready md ops listed).contains i = true)
  (hQ : ∀ c a w, Q (.panic c) (a.put oi.dst v) w → Q (.panic c) a w) (hS : S w) (hy : YieldsIf P ops S oi v a)
  (h : HeldIn F n P md ops Q S fuel (listed.setIfInBounds i true) (a.put oi.dst v) w) : HeldIn F n P md ops Q S (fuel + 1) listed a w :=
 held_first hF hd hi (Region.noSelect_spec hs) hQ fuel listed a w (Region.free_spec hi hf) (by simpa using hr) hy hS h
theorem held_step (hF : ∀ f, F.fn f) {i : Nat} {o : Oper} {fuel : Nat} {listed : Array Bool} {a : Act} {w : World} (hr : Region.ready md ops listed = [i]) (ho : ops[i]? = some o)
  (h : ∀ K' : Act → World → Prop, Shut (∀ a w, S w → (S w → HeldIn F n P md ops Q S fuel (listed.setIfInBounds i true) a w) → K' a w) → if Region.wanted o (yielded ops a.tmps) = true then Oper.wpIn F n P o a w K' Q else K' (a.put o.dst undef) w) :
  HeldIn F n P md ops Q S (fuel + 1) listed a w := by
 refine ⟨fun h0 => (by rw [hr] at h0; cases h0), fun j hj => ?_⟩
 rw [hr, List.mem_singleton] at hj
 subst hj
 unfold wpOpIn
 simp only [ho]
 have h' := h (fun a' w' => S w' ∧ HeldIn F n P md ops Q S fuel (listed.setIfInBounds j true) a' w') (fun a w hS hW => ⟨hS, hW hS⟩)
 split
 ·rename_i hw
  rw [if_pos hw] at h'
  exact h'
 ·rename_i hw
  rw [if_neg hw] at h'
  exact ⟨fun f _ => hF f, h'⟩
theorem held_step2 (hF : ∀ f, F.fn f) {i j : Nat} {o o2 : Oper} {fuel : Nat} {listed : Array Bool} {a : Act} {w : World} (hr : Region.ready md ops listed = [i, j]) (ho : ops[i]? = some o) (ho2 : ops[j]? = some o2)
  (h : ∀ K' : Act → World → Prop, Shut (∀ a w, S w → (S w → HeldIn F n P md ops Q S fuel (listed.setIfInBounds i true) a w) → K' a w) → if Region.wanted o (yielded ops a.tmps) = true then Oper.wpIn F n P o a w K' Q else K' (a.put o.dst undef) w)
  (h2 : ∀ K' : Act → World → Prop, Shut (∀ a w, S w → (S w → HeldIn F n P md ops Q S fuel (listed.setIfInBounds j true) a w) → K' a w) → if Region.wanted o2 (yielded ops a.tmps) = true then Oper.wpIn F n P o2 a w K' Q else K' (a.put o2.dst undef) w) :
  HeldIn F n P md ops Q S (fuel + 1) listed a w := by
 refine ⟨fun h0 => (by rw [hr] at h0; cases h0), fun k hk => ?_⟩
 rw [hr] at hk
 simp only [List.mem_cons, List.not_mem_nil, or_false] at hk
 rcases hk with rfl | rfl
 ·unfold wpOpIn
  simp only [ho]
  have h' := h (fun a' w' => S w' ∧ HeldIn F n P md ops Q S fuel (listed.setIfInBounds k true) a' w') (fun a w hS hW => ⟨hS, hW hS⟩)
  split
  ·rename_i hw
   rw [if_pos hw] at h'
   exact h'
  ·rename_i hw
   rw [if_neg hw] at h'
   exact ⟨fun f _ => hF f, h'⟩
 ·unfold wpOpIn
  simp only [ho2]
  have h' := h2 (fun a' w' => S w' ∧ HeldIn F n P md ops Q S fuel (listed.setIfInBounds k true) a' w') (fun a w hS hW => ⟨hS, hW hS⟩)
  split
  ·rename_i hw
   rw [if_pos hw] at h'
   exact h'
  ·rename_i hw
   rw [if_neg hw] at h'
   exact ⟨fun f _ => hF f, h'⟩
theorem held_done {listed : Array Bool} {a : Act} {w : World} (hr : Region.ready md ops listed = []) (h : Q .normal a w) : ∀ fuel, HeldIn F n P md ops Q S fuel listed a w
 | 0 => ⟨hr, h⟩
 | _ + 1 => ⟨fun _ => h, by rw [hr]; simp⟩
theorem held_region {id : Nat} {a : Act} {w : World} (hm : P.follows .mixedOrders = true) (hS : S w.drew)
  (h : S w.drew → HeldIn F n P .any ops Q S ops.size (Array.replicate ops.size false) a w.drew) : (Code.region id ops true).wpIn F n P Q a w :=
 wpIn_region_any hm (HeldIn.any _ _ _ _ (h hS))
end Go.Proofs.YtbbhmhihpdmoiaaGreat.Fx

set_option linter.unusedVariables false
set_option linter.unusedSimpArgs false
namespace Go.Proofs.YtbbhmhihpdmoiaaGreat.Pk
open Go Go.RowKit
theorem run_app {B : Nat} {v : Value} {l : List Nat} {w : World} (ty : TypeId) (hown : Own w B v l) (ox : Option Addr) (m : List Nat) (c : Nat) (hc : ox = none → c = 0) (hb : Bs w ox m)
  (hlen : l.length + m.length ≤ 1000000000) (hbase : B ≤ w.heap.size) :
  ∃ v' w', (Builtin.append_ #[31, 31] ty #[v, .slice ox m.length c]).run Tryz.prog w = .ok v' w' ∧ Own w' B v' (l ++ m) ∧ w.grownBy w' v.ownBlock ∧ (∀ k, v'.ownBlock = some k → v.ownBlock = some k ∨ w.heap.size ≤ k) := by
 obtain ⟨i0, hi, hz0, hz1, hz2⟩ := info_parts info5
 cases ox with
 | none =>
  obtain rfl := nil_of hb
  obtain rfl := hc rfl
  have hrun := run_append_owned_none (P := Tryz.prog) (w := w) B 31 ty 5 i0 1 Tryz.underlying31 hi v l.length (l.map encB) hown
  exact ⟨v, w, hrun, by rw [List.append_nil]; exact hown, World.grownBy.refl _ _, fun k h => .inl h⟩
 | some ad =>
  obtain ⟨v', w', hr, h2, h3, _, h5⟩ := run_append_own_at (P := Tryz.prog) w B 31 ty 5 i0 (.int .u8 0) 1 1 Tryz.underlying31 hi hz0 hz1 hz2 rfl (by decide) v l.length (l.map encB) hown ad m.length c (m.map encB) (by simp) (news_any hb ad rfl) (news_one m) (by unfold maxLen; omega) (by omega) hbase
  refine ⟨v', w', hr, by unfold Own; rw [List.length_append, List.map_append]; exact h2, h3, fun k hk => ?_⟩
  rcases h5 with h5 | h5
  ·exact .inl (h5 ▸ hk)
  ·rw [h5] at hk
   cases hk
   exact .inr (Nat.le_refl _)
theorem wpIn_appT {F : Fence} (hF : ∀ f, F.fn f) {n : Nat} {o : Oper} {a : Act} {K : Act → World → Prop} {Q : Exit → Act → World → Prop} {w : World} (s x : Operand)
  (ho : o.op = .call { callee := .builtin .append, args := #[s, x], argTypes := #[31, 31] })
  (B : Nat) (v : Value) (l : List Nat) (hs : a.eval s = v) (hown : Own w B v l) (ox : Option Addr) (m : List Nat) (c : Nat) (hx : a.eval x = .slice ox m.length c) (hc : ox = none → c = 0) (hb : Bs w ox m)
  (hlen : l.length + m.length ≤ 1000000000) (hbase : B ≤ w.heap.size)
  (h : ∀ v' w', Own w' B v' (l ++ m) → w.grownBy w' v.ownBlock → (∀ k, v'.ownBlock = some k → v.ownBlock = some k ∨ w.heap.size ≤ k) → K (a.put o.dst v') w') : Oper.wpIn F n Tryz.prog o a w K Q := by
 unfold Oper.wpIn
 rw [Oper.semAt_plain _ _ _ (by intro c e; rw [ho] at e; cases e)]
 refine ⟨fun _ _ => hF _, ?_⟩
 obtain ⟨v', w', hrun, h1, h2, h3⟩ := run_app o.type hown ox m c hc hb hlen hbase
 unfold execOp
 simp only [ho, resolve, invoke, builtin, Sem.run_bind, Sem.run_pure, Result.andThen_ok, List.map_toArray, List.map_cons, List.map_nil, hs, hx, hrun]
 exact h v' w' h1 h2 h3
theorem app_at {ops : Array Oper} {rest : List Oper} {o : Oper} {a : Act} {Q : Exit → Act → World → Prop} {w : World} (hgd : o.guard = none) (s x : Operand)
  (ho : o.op = .call { callee := .builtin .append, args := #[s, x], argTypes := #[31, 31] })
  (B : Nat) (v : Value) (l : List Nat) (hs : a.eval s = v) (hown : Own w B v l) (ox : Option Addr) (m : List Nat) (c : Nat) (hx : a.eval x = .slice ox m.length c) (hc : ox = none → c = 0) (hb : Bs w ox m)
  (hlen : l.length + m.length ≤ 1000000000) (hbase : B ≤ w.heap.size)
  (h : ∀ v' w', Own w' B v' (l ++ m) → w.grownBy w' v.ownBlock → (∀ k, v'.ownBlock = some k → v.ownBlock = some k ∨ w.heap.size ≤ k) → wpList Tryz.prog ops Q rest (a.put o.dst v') w') : wpList Tryz.prog ops Q (o :: rest) a w := by
 obtain ⟨i0, hi, hz0, hz1, hz2⟩ := info_parts info5
 cases ox with
 | none =>
  obtain rfl := nil_of hb
  obtain rfl := hc rfl
  refine wpList_append_own_none hgd s x 31 ho B 5 i0 1 Tryz.underlying31 hi v l.length (l.map encB) hs hown hx ?_
  exact h v w (by rw [List.append_nil]; exact hown) (World.grownBy.refl _ _) (fun k h => .inl h)
 | some ad =>
  refine wpList_append_own_at w hgd s x 31 ho B 5 i0 (.int .u8 0) 1 1 Tryz.underlying31 hi hz0 hz1 hz2 rfl (by decide) v l.length (l.map encB) hs hown ad m.length c (m.map encB) hx (by simp) (news_any hb ad rfl) (news_one m) (by unfold maxLen; omega) (by omega) hbase ?_
  intro v' w' hown' hgrow _ h5
  refine h v' w' (by unfold Own; rw [List.length_append, List.map_append]; exact hown') hgrow (fun k hk => ?_)
  rcases h5 with h5 | h5
  ·exact .inl (h5 ▸ hk)
  ·rw [h5] at hk
   cases hk
   exact .inr (Nat.le_refl _)
end Go.Proofs.YtbbhmhihpdmoiaaGreat.Pk
