import Derived.Laws.Rows
import Derived.Test.YtbbhmhihpdmoiaaGreatProg
import Derived.Laws.ResultCell
import Derived.WalkMore
import Derived.Test.YtbbhmhihpdmoiaaGreatMv38
set_option linter.unusedVariables false
set_option linter.unusedSimpArgs false
namespace Go.Proofs.YtbbhmhihpdmoiaaGreat.Fx
open Go Go.RowKit Go.Lib
open Go.Proofs.YtbbhmhihpdmoiaaGreat.Pk (Bs By cutA)
structure TB (W0 : World) (B n gs cs mask frm Q i : Nat) (wx : World) : Prop where
 rows : ∃ ls, ls.length = n ∧ By ls ∧ Cx.Own wx B (.slice (some ⟨gs, 0, none⟩) n cs) ls ∧ Cx.num ls = Q ^^^ 2 ^ frm * Cx.cut mask frm i (8 * n)
 grown : W0.grownBy wx (some gs)
theorem TB.past {W0 wx : World} {B n gs cs mask frm Q i : Nat} (h : TB W0 B n gs cs mask frm Q i wx) (hT : 8 * n ≤ frm + i) : ∀ k, TB W0 B n gs cs mask frm Q (i + k) wx
 | 0 => h
 | k + 1 => by
  obtain ⟨a, d⟩ := h.past hT k
  refine ⟨?_, d⟩
  rw [← Nat.add_assoc, Cx.cut_past (by omega)]
  exact a
theorem TB.off {W0 wx : World} {B n gs cs mask frm Q i : Nat} (h : TB W0 B n gs cs mask frm Q i wx) (hb : ¬ mask / 2 ^ i % 2 = 1) : TB W0 B n gs cs mask frm Q (i + 1) wx := by
 obtain ⟨a, d⟩ := h
 refine ⟨?_, d⟩
 rw [Cx.cut_off hb]
 exact a
theorem TB.on {W0 wx : World} {B n gs cs mask frm Q i j r : Nat} (h : TB W0 B n gs cs mask frm Q i wx) (hT : frm + i < 8 * n) (hb : mask / 2 ^ i % 2 = 1) (hj : 8 * j + r = frm + i) (hr : r < 8) :
  ∃ c, c < 256 ∧ wx.cell? ⟨gs, j, none⟩ = some (.int .u8 ((c : Nat) : Int)) ∧ wx.frozen? ⟨gs, j, none⟩ = false ∧
   TB W0 B n gs cs mask frm Q (i + 1) (wx.setCell ⟨gs, j, none⟩ (.int .u8 ((c ^^^ 2 ^ r : Nat) : Int))) := by
 obtain ⟨⟨ls, hl, hby, hown, hnum⟩, hg⟩ := h
 obtain ⟨_, _, e, hbs, _, _, _, hfr⟩ := hown.open
 rw [hl] at e
 cases e
 have hjl : j < ls.length := by omega
 have hc := Cx.bs_at hbs hjl
 rw [Nat.zero_add] at hc
 obtain ⟨g2, e2, _, _, hf⟩ := hfr _ rfl
 cases e2
 have h2r : 2 ^ r < 256 := by
  have : 2 ^ r < 2 ^ 8 := Nat.pow_lt_pow_right (by omega) hr
  simpa using this
 have hown' := hown
 rw [← hl] at hown'
 have hbm := Cx.bump (k := j) hown' (ls.getD j 0 ^^^ 2 ^ r)
 rw [hl] at hbm
 have hcb := Cx.cut_bit (mask := mask) (frm := frm) (i := i) hT hb
 refine ⟨ls.getD j 0, Cx.By.get hby j, hc, hf j, ⟨ls.set j (ls.getD j 0 ^^^ 2 ^ r), by simpa using hl, ?_, hbm.1, ?_⟩, Cx.grown_trans hg hbm.2⟩
 ·intro c hc2
  rcases List.mem_or_eq_of_mem_set hc2 with h | rfl
  ·exact hby c h
  ·exact Nat.xor_lt_two_pow (n := 8) (Cx.By.get hby j) h2r
 ·rw [Cx.num_set hby j (2 ^ r) hjl h2r, hnum, ← Nat.pow_add, hj, Nat.xor_assoc, hcb.2]
theorem TB.last {W0 wx : World} {B n gs cs mask frm i : Nat} {m : List Nat} (hm : By m) (hn : m.length + 4 = n) (hk : mask < 4294967296) (hf : frm ≤ 8 * n) (h : TB W0 B n gs cs mask frm (Cx.num (sealL m)) i wx) (hi : i = 32 ∨ 8 * n ≤ frm + i ∧ i ≤ 32) :
  ∃ ls, ls.length = n ∧ By ls ∧ Cx.Own wx B (.slice (some ⟨gs, 0, none⟩) n cs) ls ∧ W0.grownBy wx (some gs) ∧ (ls = sealL m ∨ ls ≠ sealL m ∧ Cx.opened ls = none) := by
 have h32 : TB W0 B n gs cs mask frm (Cx.num (sealL m)) 32 wx := by
  rcases hi with rfl | ⟨h1, h2⟩
  ·exact h
  ·have := h.past h1 (32 - i)
   rwa [show i + (32 - i) = 32 by omega] at this
 obtain ⟨⟨ls, hl, hby, hown, hnum⟩, hg⟩ := h32
 refine ⟨ls, hl, hby, hown, hg, ?_⟩
 have hb := Cx.burst_open (b := m) (s' := ls) (frm := frm) hm hby (by omega) (by omega) (Cx.cut_lt frm 32 (8 * n) hk) hnum
 by_cases h0 : Cx.cut mask frm 32 (8 * n) = 0
 ·rw [if_pos h0] at hb
  exact Or.inl (seal_opened hb).symm
 ·rw [if_neg h0] at hb
  exact Or.inr ⟨fun e => (by rw [e, opened_seal] at hb; cases hb), hb⟩
end Go.Proofs.YtbbhmhihpdmoiaaGreat.Fx

set_option linter.unusedVariables false
set_option linter.unusedSimpArgs false
namespace Go.Proofs.YtbbhmhihpdmoiaaGreat.Fx
open Go Go.RowKit Go.Lib
open Go.Proofs.YtbbhmhihpdmoiaaGreat.Pk (Bs By PR RdOk)
theorem FreshS.low {B C : Nat} {c : ScR} {W : World} (h : FreshS B c W) (hc : C ≤ B) : FreshS C c W :=
 ⟨h.wf, h.objs.base hc, fun x hx => ⟨(h.each x hx).wf, (h.each x hx).v.base hc, (h.each x hx).t.base hc, (h.each x hx).vw, (h.each x hx).tw⟩⟩
structure SpI7 (zs : List TxR) (W0 : World) (v : Value) (fs : List ScR) (W : World) : Prop where
 bel : Below W0.heap.size W0 W
 own : OwnG 28 19 scL W W0.heap.size v fs
 each : ∀ z ∈ fs, FreshS W0.heap.size z W
theorem SpI7.up {zs : List TxR} {W0 : World} {v : Value} {fs : List ScR} {W X : World} (i : SpI7 zs W0 v fs W) (h : Below W.heap.size W X) : SpI7 zs W0 v fs X :=
 ⟨bnext i.bel h, i.own.below h, fun z hz => (i.each z hz).rows (Rows.of_below h) (Rows.of_below h) (Rows.of_below h)⟩
theorem SpI7.app {zs : List TxR} {W0 : World} {v v' : Value} {fs : List ScR} {t : ScR} {W X : World} (i : SpI7 zs W0 v fs W) (hf : FreshS W0.heap.size t W) (ho : OwnG 28 19 scL X W0.heap.size v' (fs ++ [t])) (hg : W.grownBy X v.ownBlock) : SpI7 zs W0 v' (fs ++ [t]) X := by
 have hr : ∀ {u : TypeId}, u ≠ 28 → Rows u W X := fun hne => Rows.of_grown hg (fun k hk => i.own.row k hk) hne
 refine ⟨i.bel.grown hg i.bel.size (fun k hk => i.own.blk k hk), ho, fun z hz => ?_⟩
 rcases List.mem_append.1 hz with hz | hz
 ·exact (i.each z hz).rows (hr (by decide)) (hr (by decide)) (hr (by decide))
 ·simp at hz
  subst hz
  exact hf.rows (hr (by decide)) (hr (by decide)) (hr (by decide))
end Go.Proofs.YtbbhmhihpdmoiaaGreat.Fx

set_option linter.unusedVariables false
set_option linter.unusedSimpArgs false
namespace Go.Proofs.YtbbhmhihpdmoiaaGreat.Fx
open Go Go.RowKit Go.Lib
open Go.Proofs.YtbbhmhihpdmoiaaGreat.Pk (Bs By)
structure RkI (xs : List ScR) (o : Option Addr) (l : List Nat) (ob : Option Addr) (w W : World) : Prop where
 sc : ScsAt W o xs
 bs : Bs W ob l
 bel : Below w.heap.size w W
theorem RkI.up {xs : List ScR} {o ob : Option Addr} {l : List Nat} {w W X : World} (i : RkI xs o l ob w W) (h : Below W.heap.size W X) : RkI xs o l ob w X := ⟨i.sc.below h, i.bs.below h, bnext i.bel h⟩
end Go.Proofs.YtbbhmhihpdmoiaaGreat.Fx

set_option linter.unusedVariables false
set_option linter.unusedSimpArgs false
namespace Go.Proofs.YtbbhmhihpdmoiaaGreat.Fx
open Go Go.RowKit Go.Lib
open Go.Proofs.YtbbhmhihpdmoiaaGreat.Pk (Bs By cutA)
theorem lit_bs {W : World} {g : Nat} {t : TypeId} {f : Nat × Nat} {l : List Nat} (h : W.heap[g]? = some (.cells (l.map Pk.encB).toArray t f)) : Bs W (some ⟨g, 0, none⟩) l := fun j hj => ⟨g, 0, rfl, by
 rw [Nat.zero_add, cell_of_row _ _ _ _ _ _ h]
 simp [hj, Pk.encB, List.getD]⟩
end Go.Proofs.YtbbhmhihpdmoiaaGreat.Fx
