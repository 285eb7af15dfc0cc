import Derived.Laws.Rows
import Derived.Test.YtbbhmhihpdmoiaaGreatProg
import Derived.Test.YtbbhmhihpdmoiaaGreatMw29
import Derived.Test.YtbbhmhihpdmoiaaGreatMw33
set_option linter.unusedVariables false
set_option linter.unusedSimpArgs false
namespace Go.Proofs.YtbbhmhihpdmoiaaGreat.Fx
open Go Go.RowKit Go.Shelf
open Go.Proofs.YtbbhmhihpdmoiaaGreat.Pk (PR RdOk)
attribute [local go_sem] Oper.semAt_some
def PTri (p a : Nat) (lost : Bool) (o : Option Addr) (c : Nat) (l : List Nat) (w : World) : Ending → World → Prop := OneG pTri (fun t : TriR => t) (fun t _ => TriWf t) (fun t => .agg (triL t).toArray) o c l p a lost w
theorem num_of {z n : Int} (hn : n ≤ 9223372036854775807) (h : 0 ≤ z ∧ z ≤ n) : Num z := ⟨by omega, by omega⟩
set_option maxRecDepth 100000 in
set_option maxHeartbeats 2000000 in
theorem taket_any (o : Option Addr) (c : Nat) (l : List Nat) (p a : Nat) (lost : Bool) (w : World) (k : RdOk l a) (h : PR o c l p a lost w) (hob : ∀ b off, o = some ⟨b, off, none⟩ → 0 < l.length → b < w.heap.size) :
  Calls Tryz.prog 82 #[.pointer (some ⟨p, 0, none⟩)] w (PTri p a lost o c l w) := by
 obtain ⟨V0, hV0⟩ : ∃ V, w.alloc (.cells #[.int .i64 0, .int .i64 0, .int .i64 0, .int .u32 0] 87) = V := ⟨_, rfl⟩
 have hb0 : Below w.heap.size w V0 := by rw [← hV0]; exact (Below.refl _ _).alloc (Nat.le_refl _) _
 have hr0 : RowAt 87 w.heap.size #[.int .i64 0, .int .i64 0, .int .i64 0, .int .u32 0] V0 := by rw [← hV0]; exact RowAt.new _ _ _
 have HR0 := Lib.hid hr0
 have HG0 := Lib.hid (Pk.below_grown hb0 (some p))
 have HP0 := Lib.hid (h.below hb0)
 have HI := Lib.hid (fun (b : Nat) (lo : Bool) (W : World) (hb : b ≤ l.length) (hp : PR o c l p b lo W) => rsmall_any 63 (by omega) o c l p b lo W (rd_ok k hb) hp)
 have HC := Lib.hid (fun (b : Nat) (lo : Bool) (W : World) (hb : b ≤ l.length) (hp : PR o c l p b lo W) => takec_any o c l p b lo W (rd_ok k hb) hp)
 have HK := Lib.hid k.at'
 have HLT := Lib.hid h.lt
 have HOB := Lib.hid hob
 have HV0 := Lib.hid hV0
 clear h hb0 hr0 k hV0 hob
 go_enter Tryz.func82, Tryz.ntmps82
 go_wp2_with (rw [HV0.out])
 refine (HI.out a lost _ HK.out HP0.out).mono ?_
 rintro e w1 h1
 obtain ⟨hg1, x1, a1, lo1, rfl, hn1, hp1, hl1, hr1⟩ := h1.use
 have H1 := Lib.hid (show PR o c l p a1 lo1 w1 ∧ a1 ≤ l.length ∧ (0 ≤ x1 ∧ x1 ≤ 63) ∧ runP lost (pU 63) l a = opt lo1 (x1, a1) ∧ w.grownBy w1 (some p) from ⟨hp1, hl1, hn1, hr1, HG0.out.trans hg1⟩)
 have HR1 : Hid (RowAt 87 w.heap.size #[.int .i64 0, .int .i64 0, .int .i64 0, .int .u32 0] w1) := Lib.hid (row_grown HR0.out hg1 (by have := HLT.out; omega))
 clear h1 hg1 hn1 hp1 hl1 hr1 HR0 HV0
 go_wp2_with fail
 refine (HI.out a1 lo1 _ H1.out.2.1 H1.out.1).mono ?_
 rintro e w2 h2
 obtain ⟨hg2, x2, a2, lo2, rfl, hn2, hp2, hl2, hr2⟩ := h2.use
 have H2 := Lib.hid (show PR o c l p a2 lo2 w2 ∧ a2 ≤ l.length ∧ (0 ≤ x2 ∧ x2 ≤ 63) ∧ runP lo1 (pU 63) l a1 = opt lo2 (x2, a2) ∧ w.grownBy w2 (some p) from ⟨hp2, hl2, hn2, hr2, H1.out.2.2.2.2.trans hg2⟩)
 have HR2 : Hid (RowAt 87 w.heap.size #[.int .i64 0, .int .i64 0, .int .i64 0, .int .u32 0] w2) := Lib.hid (row_grown HR1.out hg2 (by have := HLT.out; omega))
 clear h2 hg2 hn2 hp2 hl2 hr2 HR1
 go_wp2_with fail
 refine (HI.out a2 lo2 _ H2.out.2.1 H2.out.1).mono ?_
 rintro e w3 h3
 obtain ⟨hg3, x3, a3, lo3, rfl, hn3, hp3, hl3, hr3⟩ := h3.use
 have H3 := Lib.hid (show PR o c l p a3 lo3 w3 ∧ a3 ≤ l.length ∧ (0 ≤ x3 ∧ x3 ≤ 63) ∧ runP lo2 (pU 63) l a2 = opt lo3 (x3, a3) ∧ w.grownBy w3 (some p) from ⟨hp3, hl3, hn3, hr3, H2.out.2.2.2.2.trans hg3⟩)
 have HR3 : Hid (RowAt 87 w.heap.size #[.int .i64 0, .int .i64 0, .int .i64 0, .int .u32 0] w3) := Lib.hid (row_grown HR2.out hg3 (by have := HLT.out; omega))
 clear h3 hg3 hn3 hp3 hl3 hr3 HR2
 go_wp2_with fail
 refine (HC.out a3 lo3 _ H3.out.2.1 H3.out.1).mono ?_
 rintro e w4 h4
 obtain ⟨hg4, x4, a4, lo4, rfl, hn4, hp4, hl4, hr4⟩ := OneG.use h4
 have hR4 : RowAt 87 w.heap.size #[.int .i64 0, .int .i64 0, .int .i64 0, .int .u32 0] w4 := row_grown HR3.out hg4 (by have := HLT.out; omega)
 obtain ⟨Y4, hY4⟩ : ∃ V, w4.setRow w.heap.size #[.int .i64 x1, .int .i64 x2, .int .i64 x3, .int .u32 x4] = V := ⟨_, rfl⟩
 have HE : Hid (PTri p a lost o c l w (.returned (.agg #[.int .i64 x1, .int .i64 x2, .int .i64 x3, .int .u32 x4])) Y4) := Lib.hid (by
  have hg := H3.out.2.2.2.2.trans hg4
  have hbY : Below w.heap.size w4 Y4 := by rw [← hY4]; exact Below.row ⟨rfl, rfl, rfl, Nat.le_refl _, fun _ _ => rfl⟩ (Nat.le_refl _) _
  have h4 := runP_map triOf (runP_seq H1.out.2.2.2.1 (runP_seq H2.out.2.2.2.1 (runP_seq H3.out.2.2.2.1 hr4)))
  exact OneG.make (x := (⟨x1, x2, x3, x4⟩ : TriR)) (grown_low hg hbY) ⟨num_of (by omega) H1.out.2.2.1, num_of (by omega) H2.out.2.2.1, num_of (by omega) H3.out.2.2.1, by have := hn4; exact ⟨this.1, by show x4 < 4294967296; omega⟩⟩ (PR_low hp4 HLT.out HOB.out hbY) hl4 h4)
 have HR4 := Lib.hid hR4
 have HY4 := Lib.hid hY4
 have hi := Lib.hid (show (Tryz.prog.info? 87).map (·.size) = some (#[Value.int .i64 x1, Value.int .i64 x2, Value.int .i64 x3, Value.int .u32 x4] : Array Value).size by kernel_rfl)
 have hone := Lib.hid (show (#[Value.int .i64 x1, Value.int .i64 x2, Value.int .i64 x3, Value.int .u32 x4] : Array Value).all (·.oneCell') = true by simp [Value.oneCell'])
 have hsz := Lib.hid (show (#[Value.int .i64 0, Value.int .i64 0, Value.int .i64 0, Value.int .u32 0] : Array Value).size = (#[Value.int .i64 x1, Value.int .i64 x2, Value.int .i64 x3, Value.int .u32 x4] : Array Value).size from rfl)
 clear h4 hg4 hn4 hp4 hl4 hr4 hR4 hY4 HR3 H1 H2 H3
 go_wp2_with (refine wpList_store_big rfl 87 (.tmp 2) (.tmp 11) rfl w.heap.size _ _ #[.int .i64 x1, .int .i64 x2, .int .i64 x3, .int .u32 x4] rfl rfl HR4.out hi.out hsz.out hone.out ?_)
 refine bodyPost_ret (v := .agg #[.int .i64 x1, .int .i64 x2, .int .i64 x3, .int .u32 x4]) (results_cell_row rfl _ _ w.heap.size _ #[.int .i64 x1, .int .i64 x2, .int .i64 x3, .int .u32 x4] _ _ rfl (setRow_heap _ _ _ _ _ _ HR4.out) Tryz.underlying87 rfl hi.out) rfl ?_
 rw [HY4.out]
 exact HE.out
structure TmS (o : Option Addr) (c : Nat) (l : List Nat) (p a : Nat) (lost : Bool) (zs : List Int) (b : Nat) (lo : Bool) (w W : World) : Prop where
 box : W.heap[w.heap.size]? = some (.cells #[.pointer (some ⟨p, 0, none⟩)] 90 (0, 0))
 res : W.heap[w.heap.size + 1]? = some (.cells #[.int .i64 0, .int .i64 0, .int .i64 0, .int .i64 0, .int .i64 0, .int .i64 0, .int .i64 0, .int .i64 0, .int .i64 0, .int .i64 0, .int .i64 0, .int .i64 0, .int .i64 0, .int .i64 0, .int .i64 0, .int .i64 0] 25 (0, 0))
 mat : W.heap[w.heap.size + 1 + 1]? = some (.cells (mC (zs ++ List.replicate (16 - zs.length) 0)) 25 (0, 0))
 it : W.heap[w.heap.size + 1 + 1 + 1]? = some (.cells #[.pointer (some ⟨w.heap.size + 1 + 1, 0, none⟩)] 158 (0, 0))
 rd : PR o c l p b lo W
 grow : w.grownBy W (some p)
 le : b ≤ l.length
 num : ∀ z ∈ zs, Num z
 run : runP lost (pList pI zs.length) l a = opt lo (zs, b)
theorem PR_kept {o : Option Addr} {c : Nat} {l : List Nat} {p a B : Nat} {lost : Bool} {W X : World} (h : PR o c l p a lost W) (k : Kept B W X) : PR o c l p a lost X :=
 ⟨k.cells h.row, fun j hj => by
  obtain ⟨b, off, e, hc⟩ := h.bs j hj
  exact ⟨b, off, e, k.cell hc⟩, h.ok⟩
theorem grown_kept {B : Nat} {w W X : World} {row : Option Nat} (hB : w.heap.size ≤ B) (hg : w.grownBy W row) (k : Kept B W X) : w.grownBy X row :=
 ⟨k.os.trans hg.os, k.tape.trans hg.tape, k.output.trans hg.output, Nat.le_trans hg.size k.size, fun i hi hn => by
  have h1 := hg.block i hi hn
  rw [Array.getElem?_eq_getElem hi] at h1 ⊢
  exact k.block i _ h1 (.inl (by omega))⟩
theorem TmS.kept {o : Option Addr} {c : Nat} {l : List Nat} {p a : Nat} {lost : Bool} {zs : List Int} {b B : Nat} {lo : Bool} {w W X : World} (hB : w.heap.size ≤ B) (k : Kept B W X) (i : TmS o c l p a lost zs b lo w W) : TmS o c l p a lost zs b lo w X :=
 ⟨k.cells i.box, k.cells i.res, k.cells i.mat, k.cells i.it, PR_kept i.rd k, grown_kept hB i.grow k, i.le, i.num, i.run⟩
theorem mC_set {zs : List Int} {z : Int} (h : zs.length < 16) : (mC (zs ++ List.replicate (16 - zs.length) 0)).setIfInBounds zs.length (.int .i64 z) = mC ((zs ++ [z]) ++ List.replicate (16 - (zs ++ [z]).length) 0) := by
 have e : 16 - zs.length = (16 - (zs ++ [z]).length) + 1 := by simp; omega
 rw [e, List.replicate_succ]
 simp [mC, encI, List.set_append]
theorem TmS.step {o : Option Addr} {c : Nat} {l : List Nat} {p a : Nat} {lost : Bool} {zs : List Int} {b b2 : Nat} {lo lo2 : Bool} {z : Int} {w W X : World} (hp : p < w.heap.size) (hob : ∀ b off, o = some ⟨b, off, none⟩ → 0 < l.length → b < w.heap.size) (i : TmS o c l p a lost zs b lo w W) (hz : zs.length < 16)
  (hg : W.grownBy X (some p)) (hn : Num z) (hr : PR o c l p b2 lo2 X) (hl : b2 ≤ l.length) (hrun : runP lo pI l b = opt lo2 (z, b2)) : TmS o c l p a lost (zs ++ [z]) b2 lo2 w (X.setCell ⟨w.heap.size + 1 + 1, zs.length, none⟩ (.int .i64 z)) := by
 have keep : ∀ {g : Nat} {ob : Obj}, g ≠ p → W.heap[g]? = some ob → X.heap[g]? = some ob := fun hne h => by
  rw [hg.block _ (Array.getElem?_eq_some_iff.1 h).1 (fun e => hne (Option.some.inj e))]
  exact h
 have k2 : ∀ {g : Nat} {ob : Obj}, g ≠ p → g ≠ w.heap.size + 1 + 1 → W.heap[g]? = some ob → (X.setCell ⟨w.heap.size + 1 + 1, zs.length, none⟩ (.int .i64 z)).heap[g]? = some ob := fun h1 h2 h => by
  rw [heap_setCell_other _ _ _ _ h2]
  exact keep h1 h
 have hbX : Below w.heap.size X (X.setCell ⟨w.heap.size + 1 + 1, zs.length, none⟩ (.int .i64 z)) := Below.setCell (p := ⟨w.heap.size + 1 + 1, zs.length, none⟩) ⟨rfl, rfl, rfl, Nat.le_refl _, fun _ _ => rfl⟩ (by show _ ≤ w.heap.size + 1 + 1; omega) _
 refine ⟨k2 (by omega) (by omega) i.box, k2 (by omega) (by omega) i.res, ?_, k2 (by omega) (by omega) i.it, PR_low hr hp hob hbX, grown_low (i.grow.trans hg) hbX, hl, fun y hy => ?_, ?_⟩
 ·rw [heap_setCell_same _ _ zs.length _ _ _ (keep (by omega) i.mat), mC_set hz]
 ·rcases List.mem_append.1 hy with hy | hy
  ·exact i.num y hy
  ·simp at hy
   subst hy
   exact hn
 ·rw [List.length_append]
  exact runP_snoc i.run hrun
def TmI (o : Option Addr) (c : Nat) (l : List Nat) (p a : Nat) (lost : Bool) (w : World) (k : Nat) (W : World) : Prop := ∃ zs b lo, zs.length = k ∧ TmS o c l p a lost zs b lo w W
def TmA (p : Nat) (w : World) (k : Nat) (ac : Act) : Prop :=
 ac = { tmps := #[.pointer (some ⟨p, 0, none⟩), .pointer (some ⟨w.heap.size, 0, none⟩), .pointer (some ⟨w.heap.size + 1, 0, none⟩), .pointer (some ⟨w.heap.size + 1 + 1, 0, none⟩), .pointer (some ⟨w.heap.size + 1 + 1, k, none⟩), .func (.func 131) #[] #[.pointer (some ⟨w.heap.size + 1 + 1 + 1, 0, none⟩)], .pointer (some ⟨w.heap.size + 1 + 1, k, none⟩), undef, undef, undef, undef, undef], defers := [] }
def PMat (p a : Nat) (lost : Bool) (o : Option Addr) (c : Nat) (l : List Nat) (w : World) : Ending → World → Prop := OneG pMat (fun m : List Int => m) (fun m _ => dNums 16 m) (fun m => .agg (mC m)) o c l p a lost w
set_option maxRecDepth 100000 in
set_option maxHeartbeats 4000000 in
theorem takem_any (o : Option Addr) (c : Nat) (l : List Nat) (p a : Nat) (lost : Bool) (w : World) (k : RdOk l a) (h : PR o c l p a lost w) (hob : ∀ b off, o = some ⟨b, off, none⟩ → 0 < l.length → b < w.heap.size) :
  Calls Tryz.prog 74 #[.pointer (some ⟨p, 0, none⟩)] w (PMat p a lost o c l w) := by
 have hlt := h.lt
 obtain ⟨W1, hW1⟩ : ∃ V, ((w.alloc (.cells #[.pointer (some ⟨p, 0, none⟩)] 90)).alloc (.cells #[.int .i64 0, .int .i64 0, .int .i64 0, .int .i64 0, .int .i64 0, .int .i64 0, .int .i64 0, .int .i64 0, .int .i64 0, .int .i64 0, .int .i64 0, .int .i64 0, .int .i64 0, .int .i64 0, .int .i64 0, .int .i64 0] 25)).alloc (.cells #[.int .i64 0, .int .i64 0, .int .i64 0, .int .i64 0, .int .i64 0, .int .i64 0, .int .i64 0, .int .i64 0, .int .i64 0, .int .i64 0, .int .i64 0, .int .i64 0, .int .i64 0, .int .i64 0, .int .i64 0, .int .i64 0] 25) = V := ⟨_, rfl⟩
 obtain ⟨W0, hW0⟩ : ∃ V, W1.alloc (.cells #[.pointer (some ⟨w.heap.size + 1 + 1, 0, none⟩)] 158) = V := ⟨_, rfl⟩
 have z1 : W1.heap.size = w.heap.size + 1 + 1 + 1 := by rw [← hW1]; simp
 have b1 : Below w.heap.size w W1 := by rw [← hW1]; exact (((Below.refl _ w).alloc (Nat.le_refl _) _).alloc (by simp) _).alloc (by simp; omega) _
 have b0 : Below W1.heap.size W1 W0 := by rw [← hW0]; exact (Below.refl _ W1).alloc (Nat.le_refl _) _
 have F0 : TmS o c l p a lost [] a lost w W0 := by
  have hb := bnext b1 b0
  have hz : mC (([] : List Int) ++ List.replicate (16 - ([] : List Int).length) 0) = #[.int .i64 0, .int .i64 0, .int .i64 0, .int .i64 0, .int .i64 0, .int .i64 0, .int .i64 0, .int .i64 0, .int .i64 0, .int .i64 0, .int .i64 0, .int .i64 0, .int .i64 0, .int .i64 0, .int .i64 0, .int .i64 0] := rfl
  refine ⟨keep_row b0 ?_, keep_row b0 ?_, keep_row b0 ?_, ?_, h.below hb, Pk.below_grown hb (some p), k.at', fun z hz => by simp at hz, runP_nil _ _ _ _⟩
  ·rw [← hW1]; exact step_row (step_row (heap_alloc_new _ _))
  ·rw [← hW1]
   have := heap_alloc_new (w.alloc (.cells #[.pointer (some ⟨p, 0, none⟩)] 90)) (.cells #[.int .i64 0, .int .i64 0, .int .i64 0, .int .i64 0, .int .i64 0, .int .i64 0, .int .i64 0, .int .i64 0, .int .i64 0, .int .i64 0, .int .i64 0, .int .i64 0, .int .i64 0, .int .i64 0, .int .i64 0, .int .i64 0] 25)
   rw [World.size_alloc] at this
   exact step_row this
  ·rw [← hW1, hz]
   have := heap_alloc_new ((w.alloc (.cells #[.pointer (some ⟨p, 0, none⟩)] 90)).alloc (.cells #[.int .i64 0, .int .i64 0, .int .i64 0, .int .i64 0, .int .i64 0, .int .i64 0, .int .i64 0, .int .i64 0, .int .i64 0, .int .i64 0, .int .i64 0, .int .i64 0, .int .i64 0, .int .i64 0, .int .i64 0, .int .i64 0] 25)) (.cells #[.int .i64 0, .int .i64 0, .int .i64 0, .int .i64 0, .int .i64 0, .int .i64 0, .int .i64 0, .int .i64 0, .int .i64 0, .int .i64 0, .int .i64 0, .int .i64 0, .int .i64 0, .int .i64 0, .int .i64 0, .int .i64 0] 25)
   rw [World.size_alloc, World.size_alloc] at this
   exact this
  ·rw [← hW0, ← z1]
   exact heap_alloc_new W1 _
 have HF0 : Hid (TmI o c l p a lost w 0 W0) := Lib.hid ⟨[], a, lost, rfl, F0⟩
 have HS0 : Hid (W0.heap.size = w.heap.size + 1 + 1 + 1 + 1) := Lib.hid (by rw [← hW0, World.size_alloc, z1])
 have HZ1 := Lib.hid z1
 have HW1 := Lib.hid hW1
 have HW0 := Lib.hid hW0
 have HP := Lib.hid hlt
 have HOB := Lib.hid hob
 have HK := Lib.hid k
 clear F0 b0 b1 z1 hW0 hW1 hlt h hob k
 refine (callsIn_wide (n := 5)).1 ?_
 refine callsIn_of_wp_marks Tryz.func74 rfl trivial ?_ rfl
 simp only [Tryz.ntmps74, List.size_toArray, List.length_cons, List.length_nil, Nat.reduceAdd, Nat.reduceSub, Array.replicate_succ, Array.replicate_zero, List.push_toArray, List.append_toArray, List.nil_append, List.cons_append]
 refine wpIn_wide.2 ?_
 go_wp2_with (rw [HW1.out])
 refine (nums_w _ _).mono ?_
 rintro e w' ⟨rfl, rfl⟩
 rw [HZ1.out, HW0.out]
 go_wp2_with fail
 refine wpIn_wide.1 (wpIn_range_jump (F := Fence.wide) (n := 5) rfl (by omega) (gf := 131) (lb := #[.pointer (some ⟨w.heap.size + 1 + 1 + 1, 0, none⟩)]) rfl trivial (enters_of Tryz.func131 (by kernel_rfl) rfl)
  (nums_hands (w.heap.size + 1 + 1 + 1) (w.heap.size + 1 + 1)) (fun _ => rfl) .ret (TmI o c l p a lost w) (fun _ => False) (fun j a' W => TmA p w j a' ∧ TmI o c l p a lost w j W)
  ?i1 ?i2 ?i3 ?i4 ?i5 HF0.out ?assign ?body ?done ?stop)
 case i1 => rintro j W X ⟨zs, b, lo, h0, h1⟩ hk; exact ⟨zs, b, lo, h0, h1.kept (by have := HS0.out; omega) hk⟩
 case i2 => rintro W X h; exact h.elim
 case i3 => rintro j ac W X ⟨ha, zs, b, lo, h0, h1⟩ hk; exact ⟨ha, zs, b, lo, h0, h1.kept (by have := HS0.out; omega) hk⟩
 case i4 => rintro j W ⟨zs, b, lo, h0, h1⟩; unfold NuM; rw [cell_of_row _ _ _ _ _ _ h1.it]; rfl
 case i5 => rintro W h; exact h.elim
 case assign =>
  intro l1 j W C hk hI hC
  simp only [nElem]
  gi_wp2
  exact hC _ _ (KeepsFrom.refl _ _) ⟨rfl, hI⟩
 case body =>
  rintro l1 j a' W hk ⟨ha, zs, b, lo, hzl, fs⟩
  unfold TmA at ha
  subst ha
  have c0 : W.cell? ⟨w.heap.size, 0, none⟩ = some (.pointer (some ⟨p, 0, none⟩)) := by rw [cell_of_row _ _ _ _ _ _ fs.box]; rfl
  have HS := Lib.hid fs
  have HZL := Lib.hid hzl
  have HJ : Hid (j < 16) := Lib.hid hk
  have HI := Lib.hid (rint_any o c l p b lo W (rd_ok HK.out fs.le) fs.rd)
  clear fs hzl hk
  gi_wp2
  refine ⟨trivial, CallsIn.mono (CallsIn.inRound _ (callsIn_wide.2 HI.out)) ?_⟩
  rintro e w2 h2
  obtain ⟨hg2, z, b2, lo2, rfl, hn2, hp2, hl2, hr2⟩ := h2.use
  have hj : zs.length < 16 := by rw [HZL.out]; exact HJ.out
  have HT := Lib.hid (HS.out.step HP.out HOB.out hj hg2 hn2 hp2 hl2 hr2)
  have hm2 : w2.heap[w.heap.size + 1 + 1]? = some (.cells (mC (zs ++ List.replicate (16 - zs.length) 0)) 25 (0, 0)) := by
   rw [hg2.block _ (Array.getElem?_eq_some_iff.1 HS.out.mat).1 (fun e => by have := Option.some.inj e; have := HP.out; omega)]
   exact HS.out.mat
  have q0 : (w2.cell? ⟨w.heap.size + 1 + 1, j, none⟩) = some (.int .i64 0) := by
   have hzj := HZL.out
   rw [cell_of_row _ _ _ _ _ _ hm2, mC_get0 (by rw [List.length_append, List.length_replicate]; omega)]
   rw [List.getD_eq_getElem?_getD, List.getElem?_append_right (by omega), List.getElem?_replicate, if_pos (by omega)]
   rfl
  have f0 : w2.frozen? ⟨w.heap.size + 1 + 1, j, none⟩ = false := frozen_row hm2
  have HKF : Hid (KeepsFrom W0.heap.size W (w2.setCell ⟨w.heap.size + 1 + 1, j, none⟩ (.int .i64 z))) := Lib.hid (KeepsFrom.trans ⟨hg2.size, fun k o _ hk ho => by
   rw [hg2.block k (Array.getElem?_eq_some_iff.1 hk).1 (fun e => by
    have e2 := Option.some.inj e
    subst e2
    rw [HS.out.rd.row] at hk
    cases hk
    cases ho)]
   exact hk⟩ ((KeepsOthers.setCell _ _ _).from _))
  rw [HZL.out] at HT
  clear h2 hg2 hn2 hp2 hl2 hr2 hm2 c0 HI HS hj
  gi_wp2
  exact ⟨HKF.out, zs ++ [z], b2, lo2, by rw [List.length_append, HZL.out]; rfl, HT.out⟩
 case done =>
  rintro D W hD ⟨zs, b, lo, hzl, fs⟩ hdef
  have hz16 : zs ++ List.replicate (16 - zs.length) 0 = zs := by rw [hzl]; simp
  have hmat : W.heap[w.heap.size + 1 + 1]? = some (.cells (mC zs) 25 (0, 0)) := by have := fs.mat; rwa [hz16] at this
  have HTW := Lib.hid (show W.rangeAt (w.heap.size + 1 + 1) 0 (zs.map encI) from fun i u hi => by rw [cell_of_row _ _ _ _ _ _ hmat, Nat.zero_add]; simpa [mC] using hi)
  have hi := Lib.hid (show (Tryz.prog.info? 25).map (·.size) = some (zs.map encI).length by rw [List.length_map, hzl]; kernel_rfl)
  have hi2 := Lib.hid (show (Tryz.prog.info? 25).map (·.size) = some (mC zs).size by rw [mC_size, hzl]; kernel_rfl)
  have h16 := Lib.hid (show (#[Value.int .i64 0, Value.int .i64 0, Value.int .i64 0, Value.int .i64 0, Value.int .i64 0, Value.int .i64 0, Value.int .i64 0, Value.int .i64 0, Value.int .i64 0, Value.int .i64 0, Value.int .i64 0, Value.int .i64 0, Value.int .i64 0, Value.int .i64 0, Value.int .i64 0, Value.int .i64 0] : Array Value).size = (mC zs).size by rw [mC_size, hzl]; rfl)
  have hone := Lib.hid (mC_one zs)
  have HRS := Lib.hid fs.res
  have HDD : Hid (w.heap.size + 1 + 1 + 1 + 1 ≤ D) := Lib.hid (by have := HS0.out; omega)
  have HDF := Lib.hid hdef
  have HS := Lib.hid fs
  have HZL := Lib.hid hzl
  clear fs hD hdef hz16 hmat hzl
  go_wp2_with (first | (with_reducible refine stop_at (some 11) rfl ?_; refine Lib.hid ?_; refine wpList_load_mid rfl 25 (.tmp 3) rfl (w.heap.size + 1 + 1) 0 rfl (zs.map encI) _ HTW.out Tryz.underlying25 rfl hi.out ?_) | (refine wpList_store_big rfl 25 (.tmp 2) (.tmp 11) rfl (w.heap.size + 1) _ _ (mC zs) rfl rfl HRS.out hi2.out h16.out hone.out ?_))
  have hdf : (W.setRow (w.heap.size + 1) (mC zs)).heap[D]? = some (.deferred (some [])) := by rw [setRow_other _ _ _ _ (by have := HDD.out; omega)]; exact HDF.out
  refine ⟨by simp, .inl ⟨_, _, rfl, run_takeDeferred hdf, ?_⟩⟩
  refine ⟨_, results_cell_row rfl _ _ (w.heap.size + 1) _ (mC zs) _ _ rfl ((World.putObj_heap_other (by have := HDD.out; omega)).trans (setRow_heap _ _ _ _ _ _ HRS.out)) Tryz.underlying25 rfl hi2.out, ?_⟩
  have hk : Kept w.heap.size (W.setRow (w.heap.size + 1) (mC zs)) ((W.setRow (w.heap.size + 1) (mC zs)).putObj D (.deferred none)) := Kept.putObj _ (by have := HDD.out; omega) hdf rfl
  have hbS : Below w.heap.size W (W.setRow (w.heap.size + 1) (mC zs)) := Below.row ⟨rfl, rfl, rfl, Nat.le_refl _, fun _ _ => rfl⟩ (by omega) _
  have hr := HS.out.run
  rw [HZL.out] at hr
  exact OneG.make (x := zs) (grown_kept (Nat.le_refl _) (grown_low HS.out.grow hbS) hk) ⟨HZL.out, HS.out.num⟩ (PR_kept (PR_low HS.out.rd HP.out HOB.out hbS) hk) HS.out.le hr
 case stop =>
  rintro D W hD h hdef
  exact h.elim
end Go.Proofs.YtbbhmhihpdmoiaaGreat.Fx
