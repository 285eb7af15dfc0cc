/- What moves, moves by just that: the law ViewMoves, walked. -/
import Derived.Test.YtgkglkoipocgaaaProg
import Derived.Test.YtgkglkoipocgaaaZd
import Derived.Test.YtgkglkoipocgaaaMu
import Derived.Test.YtgkglkoipocgaaaKm
set_option linter.unusedVariables false
set_option linter.unusedSimpArgs false
namespace Go.Proofs.Ytgkglkoipocgaaa.Fx
open Go Go.RowKit Wm
/-- numbers within MaxCoord -/
def inX (x : List Int) : Prop := ∀ i, i < 3 → -1073741824 ≤ x.getD i 0 ∧ x.getD i 0 ≤ 1073741824
def movX (bx by_ bz : Int) (x : List Int) : List Int := [x.getD 0 0 + bx, x.getD 1 0 + by_, x.getD 2 0 + bz, 65536]
theorem mem_getD {α : Type} [Inhabited α] {l : List α} {d x : α} (h : x ∈ l) : ∃ i, i < l.length ∧ l.getD i d = x := by
  obtain ⟨i, hi⟩ := List.getElem?_of_mem h
  exact ⟨i, (List.getElem?_eq_some_iff.1 hi).1, by rw [List.getD_eq_getElem?_getD, hi]; rfl⟩
theorem thr_in {m : List Int} {f : List Int → List Int} {l : List (List Int)} (h : ∀ x ∈ l, apO m (thrX x) = some (f x)) : thrB m l = true ∧ thrV m l = l.map f ∧ thrE m l = 0 := by
  have hb : thrB m l = true := by
    unfold thrB
    rw [List.all_eq_true]
    intro x hx
    rw [h x hx]
    rfl
  unfold thrV thrE
  rw [if_pos hb, if_pos hb, thrN_all]
  exact ⟨hb, List.map_congr_left fun x hx => (ap_some (h x hx)).symm, rfl⟩
theorem move_in {bx by_ bz : Int} (hx : -2147483648 ≤ bx ∧ bx ≤ 2147483647) (hy : -2147483648 ≤ by_ ∧ by_ ≤ 2147483647) (hz : -2147483648 ≤ bz ∧ bz ≤ 2147483647) {l : List (List Int)} (h : ∀ x ∈ l, inX x) :
    thrB (mvl bx by_ bz) l = true ∧ thrV (mvl bx by_ bz) l = l.map (movX bx by_ bz) ∧ thrE (mvl bx by_ bz) l = 0 := thr_in fun x hx' => ap_move bx by_ bz hx hy hz x (h x hx')
theorem id_in {l : List (List Int)} (h : ∀ x ∈ l, inX x) : thrB idl l = true ∧ thrV idl l = l.map thrX ∧ thrE idl l = 0 := thr_in fun x hx => ap_id x (h x hx)
theorem thrX_wf {x : List Int} (h : inX x) : VecWf (thrX x) := by
  have h0 := h 0 (by omega)
  have h1 := h 1 (by omega)
  have h2 := h 2 (by omega)
  exact wf4n _ _ _ _ ⟨by omega, by omega⟩ ⟨by omega, by omega⟩ ⟨by omega, by omega⟩ ⟨by omega, by omega⟩
theorem movX_wf {bx by_ bz : Int} (hx : -2147483648 ≤ bx ∧ bx ≤ 2147483647) (hy : -2147483648 ≤ by_ ∧ by_ ≤ 2147483647) (hz : -2147483648 ≤ bz ∧ bz ≤ 2147483647) {x : List Int} (h : inX x) : VecWf (movX bx by_ bz x) := by
  have h0 := h 0 (by omega)
  have h1 := h 1 (by omega)
  have h2 := h 2 (by omega)
  exact wf4n _ _ _ _ ⟨by omega, by omega⟩ ⟨by omega, by omega⟩ ⟨by omega, by omega⟩ ⟨by omega, by omega⟩
theorem verts_hi {W : World} {o : Option Addr} {l : List (List Int)} {c : Nat} (h : VertsAt W o l) (hc : l.length ≤ c) (k : Nat) : VertsAt W (if c = 0 then o else o.map (·.add 0)) (l.take k) := fun j z hj => by
  have hj' : l[j]? = some z := by
    rw [List.getElem?_take] at hj
    split at hj
    · exact hj
    · cases hj
  obtain ⟨b, off, e, h1⟩ := h j z hj'
  have := (List.getElem?_eq_some_iff.1 hj').1
  subst e
  refine ⟨b, off, ?_, h1⟩
  rw [if_neg (by omega)]
  rfl
theorem verts_lo {W : World} {o : Option Addr} {l : List (List Int)} {c : Nat} (h : VertsAt W o l) (hc : l.length ≤ c) (k : Nat) : VertsAt W (if c = k then o else o.map (·.add (k * 3))) (l.drop k) := fun j z hj => by
  have hj' : l[k + j]? = some z := by rwa [List.getElem?_drop] at hj
  obtain ⟨b, off, e, h1⟩ := h (k + j) z hj'
  have := (List.getElem?_eq_some_iff.1 hj').1
  subst e
  refine ⟨b, off + k * 3, ?_, ?_⟩
  · rw [if_neg (by omega)]
    by_cases hk : k = 0
    · subst hk
      simp [Addr.add]
    · have hk3 : ¬ k * 3 = 0 := by omega
      simp [Addr.add, hk3]
  · rw [show off + k * 3 + j * 3 = off + (k + j) * 3 by omega]
    exact h1
theorem size3 : ∀ w, (Go.sizeOf 50).run Try.prog w = .ok 3 w := fun _ => by kernel_rfl
theorem exec_hi10 {o : Oper} {a : Act} {W : World} (x z : Operand) (ho : o.op = .slice 45 x none (some z) none) (oa : Option Addr) (n c k : Nat) (hx : a.eval x = .slice oa n c) (hz : a.eval z = .int .i64 (k : Int)) (hk : k ≤ c) :
    (execOp a.eval o).run Try.prog W = .ok (.value (.slice (if c = 0 then oa else oa.map (·.add 0)) k c)) W := by
  have ht : Try.prog.underlying 45 = some (.slice 50) := Try.underlying45
  have ht' : Try.prog.underlying 45 = some (.slice (Try.prog.elem 45)) := by simp [Program.elem, ht]
  have he : Try.prog.elem 45 = 50 := by simp [Program.elem, ht]
  unfold execOp
  simp only [ho, hx, hz, Option.map_some, Option.map_none, Sem.run_bind, run_sliceAt_slice W 45 _ _ _ _ ht', run_slice_h W 45 _ _ _ ht' .i64 _ (Int.natCast_nonneg k) (by omega : (k : Int) ≤ (c : Int)), he, size3, Result.andThen_ok, Sem.run_pure, sliced]
  simp
theorem exec_lo10 {o : Oper} {a : Act} {W : World} (x y : Operand) (ho : o.op = .slice 45 x (some y) none none) (oa : Option Addr) (n c k : Nat) (hx : a.eval x = .slice oa n c) (hy : a.eval y = .int .i64 (k : Int)) (hk : k ≤ n) :
    (execOp a.eval o).run Try.prog W = .ok (.value (.slice (if c = k then oa else oa.map (·.add (k * 3))) (n - k) (c - k))) W := by
  have ht : Try.prog.underlying 45 = some (.slice 50) := Try.underlying45
  have ht' : Try.prog.underlying 45 = some (.slice (Try.prog.elem 45)) := by simp [Program.elem, ht]
  have he : Try.prog.elem 45 = 50 := by simp [Program.elem, ht]
  unfold execOp
  simp only [ho, hx, hy, Option.map_some, Option.map_none, Sem.run_bind, run_sliceAt_slice W 45 _ _ _ _ ht', run_slice_l W 45 _ _ _ ht' .i64 _ (Int.natCast_nonneg k) (by omega : (k : Int) ≤ (n : Int)), he, size3, Result.andThen_ok, Sem.run_pure, sliced]
  simp
theorem app_Gg10 {α : Type} {t : TypeId} {n : Nat} {f : α → List Value} {bytes : Nat} (hi : InfoG t n bytes) {ops : Array Oper} {rest : List Oper} {o : Oper} {a : Act} {Q : Exit → Act → World → Prop} {W : World} (hw : Region.wanted o (yielded ops a.tmps) = true) (sx x : Operand) (ts : TypeId)
    (ho : o.op = .call { callee := .builtin .append, args := #[sx, x], argTypes := #[ts, ts] }) (hu : Try.prog.underlying ts = some (.slice t)) (B : Nat) (v : Value) (L M : List α) (hs : a.eval sx = v) (hB : B ≤ W.heap.size) (hown : OwnG t n f W B v L)
    (ox : Option Addr) (c : Nat) (hx : a.eval x = .slice ox M.length c) (hc : ox = none → c = 0) (hsrc : ListAt (fun b j z => W.rangeAt b j (f z)) n ox M) (hlen : ∀ z ∈ M, (f z).length = n) (hone : ∀ z ∈ M, ∀ u ∈ f z, u.oneCell' = true) (hL : L.length + M.length ≤ 1000000)
    (h : ∀ v' X, OwnG t n f X B v' (L ++ M) → W.grownBy X v.ownBlock → Hid (wpList Try.prog ops Q rest (a.put o.dst v') X)) :
    wpList Try.prog ops Q (o :: rest) a W := by
  obtain ⟨v', X, hrun, r1, r2⟩ := run_appG hi ts o.type hu W B v L M hB hown ox c hc hsrc hlen hone hL
  refine wpList_step fun K hK' => ?_
  rw [if_pos hw]
  unfold Oper.wp
  simp [execOp, ho, resolve, invoke, builtin, hs, hx, hrun, Result.andThen]
  exact hK' _ _ (h v' X r1 r2).out
def MvO (l : List (List Int)) (bx by_ bz : Int) (w : World) (n g : Nat) (s30 : Value) (W : World) : Prop := ∃ i : Nat, g = n - i ∧ s30 = .int .i64 (i : Int) ∧ i ≤ n ∧ (∀ j, j < i → inX (l.getD j [])) ∧ RowAt 61 w.heap.size #[.int .i32 bx, .int .i32 by_, .int .i32 bz] W ∧ Below w.heap.size w W
def MvI (x : List Int) (bx by_ bz : Int) (w : World) (g : Nat) (s33 : Value) (W : World) : Prop := ∃ k : Nat, g = 3 - k ∧ s33 = .int .i64 (k : Int) ∧ k ≤ 3 ∧ (∀ j, j < k → -1073741824 ≤ x.getD j 0 ∧ x.getD j 0 ≤ 1073741824) ∧ RowAt 61 w.heap.size #[.int .i32 bx, .int .i32 by_, .int .i32 bz] W ∧ Below w.heap.size w W
/-- what is left to hold in the last loop -/
structure MvS (l LA LB LC LD : List (List Int)) (o oa ob od : Option Addr) (vc : Value) (bx by_ bz : Int) (Bc : Nat) (wb w W : World) : Prop where
  by_ : RowAt 61 w.heap.size #[.int .i32 bx, .int .i32 by_, .int .i32 bz] W
  hl : VertsAt W o l
  ha : VecsAt W oa LA
  hb : VecsAt wb ob LB
  hc : OwnK W Bc vc LC
  hd : VecsAt W od LD
  kb : Below wb.heap.size wb W
  lt : wb.heap.size ≤ Bc ∧ w.heap.size ≤ Bc ∧ Bc ≤ W.heap.size
  bel : Below w.heap.size w W
theorem MvS.up {l LA LB LC LD : List (List Int)} {o oa ob od : Option Addr} {vc : Value} {bx by_ bz : Int} {Bc : Nat} {wb w W X : World} (h : MvS l LA LB LC LD o oa ob od vc bx by_ bz Bc wb w W) (hb : Below W.heap.size W X) : MvS l LA LB LC LD o oa ob od vc bx by_ bz Bc wb w X :=
  ⟨h.by_.below hb, h.hl.below hb, h.ha.below hb, h.hb, OwnG.below hb h.hc, h.hd.below hb, bnext h.kb hb, ⟨h.lt.1, h.lt.2.1, Nat.le_trans h.lt.2.2 hb.size⟩, bnext h.bel hb⟩
def MvR (l LA LB LC LD : List (List Int)) (o oa ob od : Option Addr) (vc : Value) (bx by_ bz : Int) (Bc : Nat) (wb w : World) (n g : Nat) (s126 : Value) (W : World) : Prop := ∃ i : Nat, g = n - i ∧ s126 = .int .i64 (i : Int) ∧ i ≤ n ∧ MvS l LA LB LC LD o oa ob od vc bx by_ bz Bc wb w W
set_option maxRecDepth 100000 in
set_option maxHeartbeats 64000000 in
theorem viewMoves_walk (hp : View10) (ht : Thr10) (l : List (List Int)) (o : Option Addr) (n c : Nat) (bx by_ bz : Int) (w : World) (h : VertsAt w o l) (hn : l.length = n) (hc : n ≤ c) (hc2 : c ≤ 9223372036854775807) (hx : -2147483648 ≤ bx ∧ bx ≤ 2147483647) (hy : -2147483648 ≤ by_ ∧ by_ ≤ 2147483647) (hz : -2147483648 ≤ bz ∧ bz ≤ 2147483647) :
    Calls Try.prog 10 #[.slice o n c, .agg #[.int .i32 bx, .int .i32 by_, .int .i32 bz]] w (RetBool true w) := by
  have AL : Hid (Ans 24 #[] (.bool true)) := Lib.hid fun w => alive10_any hp w
  have CI : Hid (Ans 23 #[] (.agg (mC idl))) := Lib.hid fun w => identity_any w
  have CM : Hid (Ans 26 #[.int .i64 bx, .int .i64 by_, .int .i64 bz] (.agg (mC (mvl bx by_ bz)))) := Lib.hid fun w => move_any bx by_ bz w
  have HT := Lib.hid ht
  have HV := Lib.hid h
  have HN := Lib.hid hn
  have HC := Lib.hid hc
  have HB := Lib.hid (And.intro hx (And.intro hy hz))
  have n0 : (0 : Int) ≤ (n : Int) := by omega
  have n1 : (n : Int) ≤ 9223372036854775807 := by omega
  have R0 : Hid (RowAt 61 w.heap.size #[.int .i32 bx, .int .i32 by_, .int .i32 bz] (w.alloc (.cells #[.int .i32 bx, .int .i32 by_, .int .i32 bz] 61))) := Lib.hid (RowAt.new _ _ _)
  have B0 : Hid (Below w.heap.size w (w.alloc (.cells #[.int .i32 bx, .int .i32 by_, .int .i32 bz] 61))) := Lib.hid (by go_grown)
  clear hp ht h hn hc hc2 hx hy hz
  go_enter Try.func10, Try.ntmps10
  go_wp2_with fail
  generalize (w.alloc (.cells #[.int .i32 bx, .int .i32 by_, .int .i32 bz] 61)) = w0 at R0 B0 ⊢
  refine (AL.out _).mono ?_
  rintro e w1 ⟨rfl, hb⟩
  have R2 := Lib.hid (R0.out.below hb)
  have B2 := Lib.hid (bnext B0.out hb)
  clear hb R0 B0 AL
  by_cases h100 : (100 : Int) < (n : Int)
  · go_wp2_with fail
    go_ret
    exact ⟨rfl, B2.out⟩
  have nh : (n : Int) ≤ 100 := by omega
  have HNN : Hid (n ≤ 100) := Lib.hid (by omega)
  go_wp2_with fail
  go_loopg [30] n (MvO l bx by_ bz w n)
  case atStart => exact ⟨0, rfl, rfl, by omega, fun j hj => absurd hj (by omega), R2.out, B2.out⟩
  case round =>
    obtain ⟨i, hg, rfl, hi, hin, hrow, hbl⟩ := hrel
    subst hg
    have HIN := Lib.hid hin
    have RA := Lib.hid hrow
    have BA := Lib.hid hbl
    clear hin hrow hbl R2 B2
    by_cases hin : i < n
    · have t1 : (i : Int) < (n : Int) := by omega
      have i0 : (0 : Int) ≤ (i : Int) := by omega
      obtain ⟨x, hx⟩ : ∃ x, l.getD i [] = x := ⟨_, rfl⟩
      obtain ⟨b, off, e, _, _⟩ := vert_get10 HV.out (k := i) (by rw [HN.out]; exact hin)
      have HCL : Hid (∀ X k, Below w.heap.size w X → k < 3 → X.cell? ⟨b, off + i * 3 + k, none⟩ = some (.int .i64 (x.getD k 0))) := Lib.hid fun X k hX hk => by
        obtain ⟨b2, off2, e2, hr, hw⟩ := vert_get10 (HV.out.below hX) (k := i) (by rw [HN.out]; exact hin)
        rw [e] at e2
        cases e2
        rw [hx] at hr hw
        exact hr k _ (by rw [List.getElem?_map, List.getElem?_eq_getElem (by rw [hw.len]; exact hk), List.getD_eq_getElem?_getD, List.getElem?_eq_getElem (by rw [hw.len]; exact hk)]; rfl)
      have HX := Lib.hid hx
      have HO := Lib.hid e
      clear hx
      subst e
      go_wp2_with fail
      go_loopg [33] 3 (MvI x bx by_ bz w)
      case atStart => exact ⟨0, rfl, rfl, by omega, fun j hj => absurd hj (by omega), RA.out, BA.out⟩
      case round =>
        obtain ⟨k, hg, rfl, hk, hik, hrow, hbl⟩ := hrel
        subst hg
        have HIK := Lib.hid hik
        have RC := Lib.hid hrow
        have BC := Lib.hid hbl
        clear hik hrow hbl RA BA
        by_cases hk3 : k < 3
        · have t2 : (k : Int) < 3 := by omega
          have k0 : (0 : Int) ≤ (k : Int) := by omega
          have hcell := HCL.out _ k BC.out hk3
          obtain ⟨y, hy⟩ : ∃ y, x.getD k 0 = y := ⟨_, rfl⟩
          rw [hy] at hcell
          have HY := Lib.hid hy
          clear hy
          by_cases g1 : 1073741824 < y
          · go_wp2_with fail
            go_ret
            exact ⟨rfl, BC.out⟩
          · by_cases g2 : y < -1073741824
            · go_wp2_with fail
              go_ret
              exact ⟨rfl, BC.out⟩
            · have HNX : Hid (∀ j, j < k + 1 → -1073741824 ≤ x.getD j 0 ∧ x.getD j 0 ≤ 1073741824) := Lib.hid fun j hj => by
                by_cases hjk : j < k
                · exact HIK.out j hjk
                · obtain rfl : j = k := by omega
                  rw [HY.out]
                  omega
              go_wp2_with fail
              go_roundg (3 - (k + 1))
              case measure => omega
              case rel => exact ⟨k + 1, rfl, by go_num, by omega, HNX.out, RC.out, BC.out⟩
        · obtain rfl : k = 3 := by omega
          have t2 : ¬ ((3 : Nat) : Int) < 3 := by omega
          have HNX : Hid (∀ j, j < i + 1 → inX (l.getD j [])) := Lib.hid fun j hj => by
            by_cases hjk : j < i
            · exact HIN.out j hjk
            · obtain rfl : j = i := by omega
              rw [HX.out]
              exact HIK.out
          go_wp2_with fail
          go_roundg (n - (i + 1))
          case measure => omega
          case rel => exact ⟨i + 1, rfl, by go_num, by omega, HNX.out, RC.out, BC.out⟩
    · obtain rfl : i = n := by omega
      have t1 : ¬ (i : Int) < (i : Int) := by omega
      have HAL : Hid (∀ x ∈ l, inX x) := Lib.hid fun x hx => by
        obtain ⟨j, hj, e⟩ := mem_getD (d := []) hx
        rw [← e]
        exact HIN.out j (by rw [HN.out] at hj; exact hj)
      obtain ⟨hh, hhh⟩ : ∃ k, i / 2 = k := ⟨_, rfl⟩
      have HH : Hid (hh ≤ i) := Lib.hid (by omega)
      have tq : (i : Int).tdiv 2 = (hh : Int) := by rw [Int.tdiv_eq_ediv_of_nonneg n0]; omega
      have th : -9223372036854775808 ≤ (hh : Int) ∧ (hh : Int) ≤ 9223372036854775807 := by omega
      have th0 : (0 : Int) ≤ (hh : Int) := by omega
      have th1 : (hh : Int) ≤ (i : Int) := by omega
      obtain ⟨qx, qy, qz⟩ := HB.out
      have s0 : RowAt 61 w.heap.size #[.int .i32 bx, .int .i32 by_, .int .i32 bz] wr := RA.out
      have cx : wr.cell? ⟨w.heap.size, 0, none⟩ = some (.int .i32 bx) := by rw [s0.cell]; rfl
      have cy : wr.cell? ⟨w.heap.size, 1, none⟩ = some (.int .i32 by_) := by rw [s0.cell]; rfl
      have cz : wr.cell? ⟨w.heap.size, 2, none⟩ = some (.int .i32 bz) := by rw [s0.cell]; rfl
      have zz := s0.lt
      have e1 : -9223372036854775808 ≤ bx ∧ bx ≤ 9223372036854775807 := by omega
      have e2 : -9223372036854775808 ≤ by_ ∧ by_ ≤ 9223372036854775807 := by omega
      have e3 : -9223372036854775808 ≤ bz ∧ bz ≤ 9223372036854775807 := by omega
      have KA : Hid (∀ X, Below w.heap.size w X → Calls Try.prog 20 #[.agg (mC idl), .slice o i c] X (RetTh (l.map thrX) 0 X)) := Lib.hid fun X hX => by
        have hl := HN.out
        have := HT.out idl l o c X rfl (fun j => by
          unfold idl
          match j with
          | 0 | 1 | 2 | 3 | 4 | 5 | 6 | 7 | 8 | 9 | 10 | 11 | 12 | 13 | 14 | 15 => decide
          | j + 16 => exact ⟨by simp [scl], by simp [scl]⟩) (HV.out.below hX) (by rw [hl]; exact HNN.out)
        rw [(id_in HAL.out).2.1, (id_in HAL.out).2.2, hl] at this
        exact this
      have HMW : Hid (∀ j, -9223372036854775808 ≤ (mvl bx by_ bz).getD j 0 ∧ (mvl bx by_ bz).getD j 0 ≤ 9223372036854775807) := Lib.hid fun j => by
        unfold mvl
        match j with
        | 0 | 1 | 2 | 4 | 5 | 6 | 8 | 9 | 10 | 12 | 13 | 14 | 15 => constructor <;> simp
        | 3 => exact e1
        | 7 => exact e2
        | 11 => exact e3
        | j + 16 => exact ⟨by simp, by simp⟩
      have KM : Hid (∀ (X : World) (o' : Option Addr) (l' : List (List Int)) (k c' : Nat), l'.length = k → k ≤ 100 → (∀ x ∈ l', x ∈ l) → VertsAt X o' l' → Calls Try.prog 20 #[.agg (mC (mvl bx by_ bz)), .slice o' k c'] X (RetTh (l'.map (movX bx by_ bz)) 0 X)) := Lib.hid fun X o' l' k c' e4 e5 hs hv => by
        have := HT.out (mvl bx by_ bz) l' o' c' X rfl HMW.out hv (by omega)
        have hm := move_in HB.out.1 HB.out.2.1 HB.out.2.2 (l := l') (fun x hx => HAL.out x (hs x hx))
        rw [hm.2.1, hm.2.2, e4] at this
        exact this
      have IM : Hid ((Try.prog.info? 44).map (·.size) = some (mC (mvl bx by_ bz)).size) := Lib.hid (by kernel_rfl)
      have OM := Lib.hid (mC_one (mvl bx by_ bz))
      clear HMW qx qy qz
      go_wp2_with fail
      refine (CM.out _).mono ?_
      rintro e w3 ⟨rfl, hb⟩
      have R4 := Lib.hid (RA.out.below hb)
      have B4 := Lib.hid (bnext BA.out hb)
      clear hb RA BA CM s0 cx cy cz zz
      have Z5 : Hid (RowAt 44 w3.heap.size #[.int .i64 0, .int .i64 0, .int .i64 0, .int .i64 0, .int .i64 0, .int .i64 0, .int .i64 0, .int .i64 0, .int .i64 0, .int .i64 0, .int .i64 0, .int .i64 0, .int .i64 0, .int .i64 0, .int .i64 0, .int .i64 0] (w3.alloc (.cells #[.int .i64 0, .int .i64 0, .int .i64 0, .int .i64 0, .int .i64 0, .int .i64 0, .int .i64 0, .int .i64 0, .int .i64 0, .int .i64 0, .int .i64 0, .int .i64 0, .int .i64 0, .int .i64 0, .int .i64 0, .int .i64 0] 44))) := Lib.hid (RowAt.new _ _ _)
      obtain ⟨vM, hv⟩ : ∃ X, (w3.alloc (.cells #[.int .i64 0, .int .i64 0, .int .i64 0, .int .i64 0, .int .i64 0, .int .i64 0, .int .i64 0, .int .i64 0, .int .i64 0, .int .i64 0, .int .i64 0, .int .i64 0, .int .i64 0, .int .i64 0, .int .i64 0, .int .i64 0] 44)).setRow w3.heap.size (mC (mvl bx by_ bz)) = X := ⟨_, rfl⟩
      obtain ⟨gM, hg⟩ : ∃ g, w3.heap.size = g := ⟨_, rfl⟩
      have bb : Below w3.heap.size w3 vM := by rw [← hv]; exact Below.row ((Below.refl _ _).alloc (Nat.le_refl _) _) (Nat.le_refl _) _
      have HG := Lib.hid hg
      have HVM := Lib.hid hv
      have RM0 : Hid (RowAt 44 gM (mC (mvl bx by_ bz)) vM) := Lib.hid (by rw [← hv, ← hg]; exact Z5.out.row _)
      have R6 := Lib.hid (R4.out.below bb)
      have B6 := Lib.hid (bnext B4.out bb)
      clear hv hg bb R4 B4
      go_wp2_with (first | (rw [HVM.out, HG.out]) | (rw [HVM.out]) | (refine wpList_store_big rfl 44 (.tmp 8) (.tmp 64) rfl w3.heap.size _ _ (mC (mvl bx by_ bz)) rfl rfl Z5.out IM.out rfl OM.out ?_))
      refine (CI.out _).mono ?_
      rintro e w7 ⟨rfl, hb⟩
      have R8 := Lib.hid (R6.out.below hb)
      have RM8 := Lib.hid (RM0.out.below hb)
      have B8 := Lib.hid (bnext B6.out hb)
      clear hb R6 RM0 B6 CI HVM HG Z5
      have TA := Lib.hid (KA.out w7 B8.out)
      clear KA
      go_wp2_with fail
      refine TA.out.mono ?_
      rintro e w9 ⟨va, rfl, ho, hb⟩
      have R10 := Lib.hid (R8.out.below hb)
      have RM10 := Lib.hid (RM8.out.below hb)
      have B10 := Lib.hid (bnext B8.out hb)
      clear hb R8 RM8 B8 TA
      obtain ⟨oa, ca, rfl, hca, hat⟩ := OwnK.form ho (fun x hx => by obtain ⟨y, hy, rfl⟩ := List.mem_map.1 hx; exact thrX_wf (HAL.out y hy))
      rw [List.length_map, HN.out]
      have HA0 := Lib.hid hat
      have HCA := Lib.hid hca
      clear ho hat hca
      have TB1 := Lib.hid (KM.out w9 o l i c HN.out HNN.out (fun x hx => hx) (HV.out.below B10.out))
      go_wp2_with (refine wpList_load_row rfl 44 (.tmp 8) rfl gM rfl _ _ _ _ RM10.out Try.underlying44 rfl IM.out ?_)
      refine TB1.out.mono ?_
      rintro e w11 ⟨vb, rfl, ho, hb⟩
      have R12 := Lib.hid (R10.out.below hb)
      have RM12 := Lib.hid (RM10.out.below hb)
      have HA12 := Lib.hid (HA0.out.below hb)
      have B12 := Lib.hid (bnext B10.out hb)
      clear hb R10 RM10 HA0 B10 TB1
      obtain ⟨ob, cb, rfl, hcb, hat⟩ := OwnK.form ho (fun x hx => by obtain ⟨y, hy, rfl⟩ := List.mem_map.1 hx; exact movX_wf HB.out.1 HB.out.2.1 HB.out.2.2 (HAL.out y hy))
      rw [List.length_map, HN.out]
      have HBV := Lib.hid hat
      have HCB := Lib.hid hcb
      have WB0 : Hid (Below w11.heap.size w11 w11) := Lib.hid (Below.refl _ _)
      clear ho hat hcb
      go_wp2_with fail
      obtain ⟨o1, ho1⟩ : ∃ x, (if c = 0 then o else o.map (·.add 0)) = x := ⟨_, rfl⟩
      have HO1 := Lib.hid ho1
      clear ho1
      rename_i K5 hK5
      refine (wpIn_wide (n := 5)).1 ?_
      refine heldz_region (S := fun X => Below w11.heap.size w11 X) (Z := []) (by kernel_rfl) ?_
      refine heldz_take (fun _ => trivial) [] 0 (.agg (mC (mvl bx by_ bz))) (by kernel_rfl) rfl (by kernel_rfl) (fun _ _ _ h => h) (bdrew0 _ w11 1) (by kernel_rfl) ?_ ?_
      · intro wz hSw; exact exec_load_row 44 (.tmp 8) (by kernel_rfl) gM (by kernel_rfl) _ _ _ _ (RM12.out.below hSw) Try.underlying44 (by kernel_rfl) IM.out
      (try simp only [Act.put, List.getElem_toArray, List.getElem_cons_zero, List.getElem_cons_succ, List.setIfInBounds_toArray, List.set_cons_zero, List.set_cons_succ])
      refine heldz_take (fun _ => trivial) [] 1 (?_) (by kernel_rfl) rfl (by kernel_rfl) (fun _ _ _ h => h) (bdrew0 _ w11 1) (by kernel_rfl) ?_ ?_
      rotate_left
      · intro wz hSw; (first | (go_simp; done) | (go_simp; with_reducible rfl))
      (try simp only [Act.put, List.getElem_toArray, List.getElem_cons_zero, List.getElem_cons_succ, List.setIfInBounds_toArray, List.set_cons_zero, List.set_cons_succ])
      refine heldz_take (fun _ => trivial) [] 2 (?_) (by kernel_rfl) rfl (by kernel_rfl) (fun _ _ _ h => h) (bdrew0 _ w11 1) (by kernel_rfl) ?_ ?_
      rotate_left
      · intro wz hSw; (first | (go_simp; done) | (go_simp; with_reducible rfl))
      (try simp only [Act.put, List.getElem_toArray, List.getElem_cons_zero, List.getElem_cons_succ, List.setIfInBounds_toArray, List.set_cons_zero, List.set_cons_succ])
      refine heldz_take (fun _ => trivial) [] 3 (.slice o1 hh c) (by kernel_rfl) rfl (by kernel_rfl) (fun _ _ _ h => h) (bdrew0 _ w11 1) (by kernel_rfl) ?_ ?_
      · intro wz hSw; rw [← HO1.out]; exact exec_hi10 (.tmp 82) (.tmp 83) (by kernel_rfl) o i c hh (by kernel_rfl) (by kernel_rfl) (by have := HC.out; have := HH.out; omega)
      (try simp only [Act.put, List.getElem_toArray, List.getElem_cons_zero, List.getElem_cons_succ, List.setIfInBounds_toArray, List.set_cons_zero, List.set_cons_succ])
      have TC := Lib.hid (KM.out w11.drew o1 (l.take hh) hh c (by rw [List.length_take, HN.out]; have := HH.out; omega) (by have := HH.out; have := HNN.out; omega) (fun x hx => List.mem_of_mem_take hx) (by rw [← HO1.out]; exact verts_hi (HV.out.below (bnext B12.out (bdrew0 _ w11 1))) (by rw [HN.out]; exact HC.out) hh))
      refine heldz_step (fun _ => trivial) 4 (by kernel_rfl) rfl (fun K hK => ?_)
      rw [if_pos (by kernel_rfl)]
      go_simp
      refine ⟨trivial, CallsIn.mono (callsIn_wide.2 TC.out) ?_⟩
      rintro e w13 ⟨vc, rfl, ho, hb⟩
      have hq := bnext (bdrew0 _ w11 1) hb
      obtain ⟨oc, cc, rfl, hcc, hat⟩ := OwnK.form ho (fun x hx => by obtain ⟨y, hy, rfl⟩ := List.mem_map.1 hx; exact movX_wf HB.out.1 HB.out.2.1 HB.out.2.2 (HAL.out y (List.mem_of_mem_take hy)))
      obtain ⟨lc, hlc⟩ : ∃ x, List.length (List.map (movX bx by_ bz) (l.take hh)) = x := ⟨_, rfl⟩
      rw [hlc]
      have HLC := Lib.hid hlc
      clear hlc
      try dsimp only
      refine hK.out _ _ (fun _ => hq) ?_
      clear hK K
      (try simp only [Act.put, List.getElem_toArray, List.getElem_cons_zero, List.getElem_cons_succ, List.setIfInBounds_toArray, List.set_cons_zero, List.set_cons_succ])
      refine heldz_take (fun _ => trivial) [] 5 (?_) (by kernel_rfl) rfl (by kernel_rfl) (fun _ _ _ h => h) hq (by kernel_rfl) ?_ ?_
      rotate_left
      · intro wz hSw; (first | (go_simp; done) | (go_simp; with_reducible rfl))
      (try simp only [Act.put, List.getElem_toArray, List.getElem_cons_zero, List.getElem_cons_succ, List.setIfInBounds_toArray, List.set_cons_zero, List.set_cons_succ])
      refine heldz_take (fun _ => trivial) [] 6 (?_) (by kernel_rfl) rfl (by kernel_rfl) (fun _ _ _ h => h) hq (by kernel_rfl) ?_ ?_
      rotate_left
      · intro wz hSw; (first | (go_simp; done) | (go_simp; with_reducible rfl))
      (try simp only [Act.put, List.getElem_toArray, List.getElem_cons_zero, List.getElem_cons_succ, List.setIfInBounds_toArray, List.set_cons_zero, List.set_cons_succ])
      refine heldz_take (fun _ => trivial) [] 7 (?_) (by kernel_rfl) rfl (by kernel_rfl) (fun _ _ _ h => h) hq (by kernel_rfl) ?_ ?_
      rotate_left
      · intro wz hSw; (first | (go_simp; done) | (go_simp; with_reducible rfl))
      (try simp only [Act.put, List.getElem_toArray, List.getElem_cons_zero, List.getElem_cons_succ, List.setIfInBounds_toArray, List.set_cons_zero, List.set_cons_succ])
      refine heldz_take (fun _ => trivial) [] 8 (?_) (by kernel_rfl) rfl (by kernel_rfl) (fun _ _ _ h => h) hq (by kernel_rfl) ?_ ?_
      rotate_left
      · intro wz hSw; (first | (go_simp; done) | (go_simp; with_reducible rfl))
      (try simp only [Act.put, List.getElem_toArray, List.getElem_cons_zero, List.getElem_cons_succ, List.setIfInBounds_toArray, List.set_cons_zero, List.set_cons_succ])
      refine heldz_take (fun _ => trivial) [] 9 (?_) (by kernel_rfl) rfl (by kernel_rfl) (fun _ _ _ h => h) hq (by kernel_rfl) ?_ ?_
      rotate_left
      · intro wz hSw; (first | (go_simp; done) | (go_simp; with_reducible rfl))
      (try simp only [Act.put, List.getElem_toArray, List.getElem_cons_zero, List.getElem_cons_succ, List.setIfInBounds_toArray, List.set_cons_zero, List.set_cons_succ])
      refine heldz_done (by kernel_rfl) ?_ _
      refine hK5 _ _ ?_
      clear hK5
      have R14 := Lib.hid (R12.out.below hq)
      have RM14 := Lib.hid (RM12.out.below hq)
      have HA14 := Lib.hid (HA12.out.below hq)
      have WB14 := Lib.hid (bnext WB0.out hq)
      have B14 := Lib.hid (bnext B12.out hq)
      have OC0 := Lib.hid ho
      have BC0 : Hid (w11.heap.size ≤ w13.heap.size) := Lib.hid hb.size
      have BC1 : Hid (w11.heap.size ≤ w11.heap.size) := Lib.hid WB0.out.size
      have BC2 : Hid (w.heap.size ≤ w11.heap.size) := Lib.hid B12.out.size
      clear hq hb ho hat HO1 hcc TC R12 RM12 HA12 WB0 B12
      have XC0 : Hid (Below w13.heap.size w13 w13) := Lib.hid (Below.refl _ _)
      go_wp2_with fail
      obtain ⟨o1, ho1⟩ : ∃ x, (if c = hh then o else o.map (·.add (hh * 3))) = x := ⟨_, rfl⟩
      have HO1 := Lib.hid ho1
      clear ho1
      rename_i K5 hK5
      refine (wpIn_wide (n := 5)).1 ?_
      refine heldz_region (S := fun X => Below w13.heap.size w13 X) (Z := []) (by kernel_rfl) ?_
      refine heldz_take (fun _ => trivial) [] 0 (.agg (mC (mvl bx by_ bz))) (by kernel_rfl) rfl (by kernel_rfl) (fun _ _ _ h => h) (bdrew0 _ w13 1) (by kernel_rfl) ?_ ?_
      · intro wz hSw; exact exec_load_row 44 (.tmp 8) (by kernel_rfl) gM (by kernel_rfl) _ _ _ _ (RM14.out.below hSw) Try.underlying44 (by kernel_rfl) IM.out
      (try simp only [Act.put, List.getElem_toArray, List.getElem_cons_zero, List.getElem_cons_succ, List.setIfInBounds_toArray, List.set_cons_zero, List.set_cons_succ])
      refine heldz_take (fun _ => trivial) [] 1 (?_) (by kernel_rfl) rfl (by kernel_rfl) (fun _ _ _ h => h) (bdrew0 _ w13 1) (by kernel_rfl) ?_ ?_
      rotate_left
      · intro wz hSw; (first | (go_simp; done) | (go_simp; with_reducible rfl))
      (try simp only [Act.put, List.getElem_toArray, List.getElem_cons_zero, List.getElem_cons_succ, List.setIfInBounds_toArray, List.set_cons_zero, List.set_cons_succ])
      refine heldz_take (fun _ => trivial) [] 2 (?_) (by kernel_rfl) rfl (by kernel_rfl) (fun _ _ _ h => h) (bdrew0 _ w13 1) (by kernel_rfl) ?_ ?_
      rotate_left
      · intro wz hSw; (first | (go_simp; done) | (go_simp; with_reducible rfl))
      (try simp only [Act.put, List.getElem_toArray, List.getElem_cons_zero, List.getElem_cons_succ, List.setIfInBounds_toArray, List.set_cons_zero, List.set_cons_succ])
      refine heldz_take (fun _ => trivial) [] 3 (.slice o1 (i - hh) (c - hh)) (by kernel_rfl) rfl (by kernel_rfl) (fun _ _ _ h => h) (bdrew0 _ w13 1) (by kernel_rfl) ?_ ?_
      · intro wz hSw; rw [← HO1.out]; exact exec_lo10 (.tmp 90) (.tmp 91) (by kernel_rfl) o i c hh (by kernel_rfl) (by kernel_rfl) HH.out
      (try simp only [Act.put, List.getElem_toArray, List.getElem_cons_zero, List.getElem_cons_succ, List.setIfInBounds_toArray, List.set_cons_zero, List.set_cons_succ])
      have TC := Lib.hid (KM.out w13.drew o1 (l.drop hh) (i - hh) (c - hh) (by rw [List.length_drop, HN.out]) (by have := HNN.out; omega) (fun x hx => List.mem_of_mem_drop hx) (by rw [← HO1.out]; exact verts_lo (HV.out.below (bnext B14.out (bdrew0 _ w13 1))) (by rw [HN.out]; exact HC.out) hh))
      refine heldz_step (fun _ => trivial) 4 (by kernel_rfl) rfl (fun K hK => ?_)
      rw [if_pos (by kernel_rfl)]
      go_simp
      refine ⟨trivial, CallsIn.mono (callsIn_wide.2 TC.out) ?_⟩
      rintro e w15 ⟨vd, rfl, ho, hb⟩
      have hq := bnext (bdrew0 _ w13 1) hb
      obtain ⟨od, cd, rfl, hcd, hat⟩ := OwnK.form ho (fun x hx => by obtain ⟨y, hy, rfl⟩ := List.mem_map.1 hx; exact movX_wf HB.out.1 HB.out.2.1 HB.out.2.2 (HAL.out y (List.mem_of_mem_drop hy)))
      obtain ⟨ld, hld⟩ : ∃ x, List.length (List.map (movX bx by_ bz) (l.drop hh)) = x := ⟨_, rfl⟩
      rw [hld]
      have HLD := Lib.hid hld
      clear hld
      try dsimp only
      refine hK.out _ _ (fun _ => hq) ?_
      clear hK K
      (try simp only [Act.put, List.getElem_toArray, List.getElem_cons_zero, List.getElem_cons_succ, List.setIfInBounds_toArray, List.set_cons_zero, List.set_cons_succ])
      refine heldz_take (fun _ => trivial) [] 5 (?_) (by kernel_rfl) rfl (by kernel_rfl) (fun _ _ _ h => h) hq (by kernel_rfl) ?_ ?_
      rotate_left
      · intro wz hSw; (first | (go_simp; done) | (go_simp; with_reducible rfl))
      (try simp only [Act.put, List.getElem_toArray, List.getElem_cons_zero, List.getElem_cons_succ, List.setIfInBounds_toArray, List.set_cons_zero, List.set_cons_succ])
      refine heldz_take (fun _ => trivial) [] 6 (?_) (by kernel_rfl) rfl (by kernel_rfl) (fun _ _ _ h => h) hq (by kernel_rfl) ?_ ?_
      rotate_left
      · intro wz hSw; (first | (go_simp; done) | (go_simp; with_reducible rfl))
      (try simp only [Act.put, List.getElem_toArray, List.getElem_cons_zero, List.getElem_cons_succ, List.setIfInBounds_toArray, List.set_cons_zero, List.set_cons_succ])
      refine heldz_take (fun _ => trivial) [] 7 (?_) (by kernel_rfl) rfl (by kernel_rfl) (fun _ _ _ h => h) hq (by kernel_rfl) ?_ ?_
      rotate_left
      · intro wz hSw; (first | (go_simp; done) | (go_simp; with_reducible rfl))
      (try simp only [Act.put, List.getElem_toArray, List.getElem_cons_zero, List.getElem_cons_succ, List.setIfInBounds_toArray, List.set_cons_zero, List.set_cons_succ])
      refine heldz_take (fun _ => trivial) [] 8 (?_) (by kernel_rfl) rfl (by kernel_rfl) (fun _ _ _ h => h) hq (by kernel_rfl) ?_ ?_
      rotate_left
      · intro wz hSw; (first | (go_simp; done) | (go_simp; with_reducible rfl))
      (try simp only [Act.put, List.getElem_toArray, List.getElem_cons_zero, List.getElem_cons_succ, List.setIfInBounds_toArray, List.set_cons_zero, List.set_cons_succ])
      refine heldz_take (fun _ => trivial) [] 9 (?_) (by kernel_rfl) rfl (by kernel_rfl) (fun _ _ _ h => h) hq (by kernel_rfl) ?_ ?_
      rotate_left
      · intro wz hSw; (first | (go_simp; done) | (go_simp; with_reducible rfl))
      (try simp only [Act.put, List.getElem_toArray, List.getElem_cons_zero, List.getElem_cons_succ, List.setIfInBounds_toArray, List.set_cons_zero, List.set_cons_succ])
      refine heldz_done (by kernel_rfl) ?_ _
      refine hK5 _ _ ?_
      clear hK5
      have R16 := Lib.hid (R14.out.below hq)
      have RM16 := Lib.hid (RM14.out.below hq)
      have HA16 := Lib.hid (HA14.out.below hq)
      have WB16 := Lib.hid (bnext WB14.out hq)
      have XC16 := Lib.hid (bnext XC0.out hq)
      have OC16 := Lib.hid (OwnG.below hq OC0.out)
      have B16 := Lib.hid (bnext B14.out hq)
      have HD0 := Lib.hid hat
      have HCD := Lib.hid hcd
      clear hq hb ho hat HO1 hcd TC R14 RM14 HA14 WB14 XC0 OC0 B14
      have HS0 : Hid (MvS l (l.map thrX) (l.map (movX bx by_ bz)) ((l.take hh).map (movX bx by_ bz)) ((l.drop hh).map (movX bx by_ bz)) o oa ob od (.slice oc lc cc) bx by_ bz w11.drew.heap.size w11 w w15) := Lib.hid ⟨R16.out, HV.out.below B16.out, HA16.out, HBV.out, by rw [← HLC.out]; exact OC16.out, HD0.out, WB16.out, ⟨BC1.out, BC2.out, by have h1 := BC0.out; have h2 := Nat.le_trans h1 XC16.out.size; exact h2⟩, B16.out⟩
      clear R16 RM16 HA16 WB16 XC16 OC16 HD0 B16 BC0 BC1 BC2 HBV
      go_wp2_with fail
      go_loopg [126] i (MvR l (l.map thrX) (l.map (movX bx by_ bz)) ((l.take hh).map (movX bx by_ bz)) ((l.drop hh).map (movX bx by_ bz)) o oa ob od (.slice oc lc cc) bx by_ bz w11.drew.heap.size w11 w i)
      case atStart => exact ⟨0, rfl, rfl, by omega, HS0.out⟩
      case round =>
        obtain ⟨j, hg, rfl, hj, hs⟩ := hrel
        subst hg
        have HS := Lib.hid hs
        clear hs HS0
        by_cases hji : j < i
        · have t2 : (j : Int) < (i : Int) := by omega
          have j0 : (0 : Int) ≤ (j : Int) := by omega
          have hjl : j < l.length := by rw [HN.out]; exact hji
          obtain ⟨b, off, e, hr, hw⟩ := vert_get10 HS.out.hl (k := j) hjl
          obtain ⟨b2, off2, e2, hr2, _⟩ := HS.out.ha.get (k := j) (by rw [List.length_map]; exact hjl)
          obtain ⟨b3, off3, e3, hr3, _⟩ := (HS.out.hb.below HS.out.kb).get (k := j) (by rw [List.length_map]; exact hjl)
          have hi3 := HAL.out (l.getD j []) (by rw [List.getD_eq_getElem?_getD, List.getElem?_eq_getElem hjl]; exact List.getElem_mem hjl)
          have ea : (l.map thrX).getD j [] = thrX (l.getD j []) := by simp [List.getD_eq_getElem?_getD, List.getElem?_eq_getElem hjl]
          have eb : (l.map (movX bx by_ bz)).getD j [] = movX bx by_ bz (l.getD j []) := by simp [List.getD_eq_getElem?_getD, List.getElem?_eq_getElem hjl]
          rw [ea] at hr2
          rw [eb] at hr3
          obtain ⟨x0, x1, x2, hx⟩ := list3 hw.len
          rw [hx] at hr hr2 hr3 hi3
          have i0 := hi3 0 (by omega)
          have i1 := hi3 1 (by omega)
          have i2 := hi3 2 (by omega)
          simp only [List.getD_cons_zero, List.getD_cons_succ] at i0 i1 i2
          have QL : Hid (wr.rangeAt b (off + j * 3) [.int .i64 x0, .int .i64 x1, .int .i64 x2]) := Lib.hid hr
          have QA : Hid (wr.rangeAt b2 (off2 + j * 4) [.int .i64 x0, .int .i64 x1, .int .i64 x2, .int .i64 65536]) := Lib.hid hr2
          have QB : Hid (wr.rangeAt b3 (off3 + j * 4) [.int .i64 (x0 + bx), .int .i64 (x1 + by_), .int .i64 (x2 + bz), .int .i64 65536]) := Lib.hid hr3
          have SB : Hid (RowAt 61 w.heap.size #[.int .i32 bx, .int .i32 by_, .int .i32 bz] wr) := Lib.hid HS.out.by_
          have m0 : -9223372036854775808 ≤ x0 + bx ∧ x0 + bx ≤ 9223372036854775807 := by have := HB.out; omega
          have m1 : -9223372036854775808 ≤ x1 + by_ ∧ x1 + by_ ≤ 9223372036854775807 := by have := HB.out; omega
          have m2 : -9223372036854775808 ≤ x2 + bz ∧ x2 + bz ≤ 9223372036854775807 := by have := HB.out; omega
          have IV4 : Hid ((Try.prog.info? 23).map (·.size) = some 4) := Lib.hid (by kernel_rfl)
          have EQ1 : Hid (∀ w, (Op.equalIn 10000 23 (.agg #[.int .i64 x0, .int .i64 x1, .int .i64 x2, .int .i64 65536]) (.agg #[.int .i64 x0, .int .i64 x1, .int .i64 x2, .int .i64 65536])).run Try.prog w = .ok true w) := Lib.hid (fun w => by have := eqIn_vec w 9998 [x0, x1, x2, 65536] [x0, x1, x2, 65536] rfl rfl; rw [beq_self_eq_true] at this; exact this)
          have EQ2 : Hid (∀ w, (Op.equalIn 10000 23 (.agg #[.int .i64 (x0 + bx), .int .i64 (x1 + by_), .int .i64 (x2 + bz), .int .i64 65536]) (.agg #[.int .i64 (x0 + bx), .int .i64 (x1 + by_), .int .i64 (x2 + bz), .int .i64 65536])).run Try.prog w = .ok true w) := Lib.hid (fun w => by have := eqIn_vec w 9998 [x0 + bx, x1 + by_, x2 + bz, 65536] [x0 + bx, x1 + by_, x2 + bz, 65536] rfl rfl; rw [beq_self_eq_true] at this; exact this)
          have q0 : IntKind.i64.wrap bx = bx := by rw [IntKind.wrap_i64]; omega
          have q1 : IntKind.i64.wrap by_ = by_ := by rw [IntKind.wrap_i64]; omega
          have q2 : IntKind.i64.wrap bz = bz := by rw [IntKind.wrap_i64]; omega
          have q3 : IntKind.i64.wrap (x0 + bx) = x0 + bx := by rw [IntKind.wrap_i64]; omega
          have q4 : IntKind.i64.wrap (x1 + by_) = x1 + by_ := by rw [IntKind.wrap_i64]; omega
          have q5 : IntKind.i64.wrap (x2 + bz) = x2 + bz := by rw [IntKind.wrap_i64]; omega
          clear hr hr2 hr3 hw hi3 ea eb hx i0 i1 i2 hjl
          have EO := Lib.hid e
          have EA := Lib.hid e2
          have EB := Lib.hid e3
          subst e e2 e3
          go_wp2_with fail
          rename_i K5 hK5
          refine (wpIn_wide (n := 5)).1 ?_
          refine heldz_region (S := fun X => Below wr.heap.size wr X) (Z := []) (by kernel_rfl) ?_
          refine heldz_take (fun _ => trivial) [] 0 (?_) (by kernel_rfl) rfl (by kernel_rfl) (fun _ _ _ h => h) (bdrew0 _ wr 1) (by kernel_rfl) ?_ ?_
          rotate_left
          · intro wz hSw; (first | (go_simp; done) | (go_simp; with_reducible rfl))
          (try simp only [Act.put, List.getElem_toArray, List.getElem_cons_zero, List.getElem_cons_succ, List.setIfInBounds_toArray, List.set_cons_zero, List.set_cons_succ])
          refine heldz_take (fun _ => trivial) [] 1 (?_) (by kernel_rfl) rfl (by kernel_rfl) (fun _ _ _ h => h) (bdrew0 _ wr 1) (by kernel_rfl) ?_ ?_
          rotate_left
          · intro wz hSw; (first | (go_simp; done) | (go_simp; with_reducible rfl))
          (try simp only [Act.put, List.getElem_toArray, List.getElem_cons_zero, List.getElem_cons_succ, List.setIfInBounds_toArray, List.set_cons_zero, List.set_cons_succ])
          refine heldz_take (fun _ => trivial) [] 2 (.pointer (some ⟨b2, off2 + j * 4, none⟩)) (by kernel_rfl) rfl (by kernel_rfl) (fun _ _ _ h => h) (bdrew0 _ wr 1) (by kernel_rfl) ?_ ?_
          · intro wz hSw; (first | (go_simp; done) | (go_simp; with_reducible rfl))
          (try simp only [Act.put, List.getElem_toArray, List.getElem_cons_zero, List.getElem_cons_succ, List.setIfInBounds_toArray, List.set_cons_zero, List.set_cons_succ])
          refine heldz_take (fun _ => trivial) [] 3 (.agg #[.int .i64 x0, .int .i64 x1, .int .i64 x2, .int .i64 65536]) (by kernel_rfl) rfl (by kernel_rfl) (fun _ _ _ h => h) (bdrew0 _ wr 1) (by kernel_rfl) ?_ ?_
          · intro wz hSw; exact exec_mid10 23 (.tmp 131) (by kernel_rfl) b2 (off2 + j * 4) (by kernel_rfl) _ _ (range_below hSw QA.out) Try.underlying23 (by kernel_rfl) IV4.out
          (try simp only [Act.put, List.getElem_toArray, List.getElem_cons_zero, List.getElem_cons_succ, List.setIfInBounds_toArray, List.set_cons_zero, List.set_cons_succ])
          refine heldz_take (fun _ => trivial) [] 4 (?_) (by kernel_rfl) rfl (by kernel_rfl) (fun _ _ _ h => h) (bdrew0 _ wr 1) (by kernel_rfl) ?_ ?_
          rotate_left
          · intro wz hSw; (first | (go_simp; done) | (go_simp; with_reducible rfl))
          (try simp only [Act.put, List.getElem_toArray, List.getElem_cons_zero, List.getElem_cons_succ, List.setIfInBounds_toArray, List.set_cons_zero, List.set_cons_succ])
          refine heldz_take (fun _ => trivial) [] 5 (?_) (by kernel_rfl) rfl (by kernel_rfl) (fun _ _ _ h => h) (bdrew0 _ wr 1) (by kernel_rfl) ?_ ?_
          rotate_left
          · intro wz hSw; (first | (go_simp; done) | (go_simp; with_reducible rfl))
          (try simp only [Act.put, List.getElem_toArray, List.getElem_cons_zero, List.getElem_cons_succ, List.setIfInBounds_toArray, List.set_cons_zero, List.set_cons_succ])
          refine heldz_take (fun _ => trivial) [] 6 (.pointer (some ⟨b, off + j * 3, none⟩)) (by kernel_rfl) rfl (by kernel_rfl) (fun _ _ _ h => h) (bdrew0 _ wr 1) (by kernel_rfl) ?_ ?_
          · intro wz hSw; (first | (go_simp; done) | (go_simp; with_reducible rfl))
          (try simp only [Act.put, List.getElem_toArray, List.getElem_cons_zero, List.getElem_cons_succ, List.setIfInBounds_toArray, List.set_cons_zero, List.set_cons_succ])
          refine heldz_take (fun _ => trivial) [] 7 (.pointer (some ⟨b, off + j * 3, none⟩)) (by kernel_rfl) rfl (by kernel_rfl) (fun _ _ _ h => h) (bdrew0 _ wr 1) (by kernel_rfl) ?_ ?_
          · intro wz hSw; (first | (go_simp; done) | (go_simp; with_reducible rfl))
          (try simp only [Act.put, List.getElem_toArray, List.getElem_cons_zero, List.getElem_cons_succ, List.setIfInBounds_toArray, List.set_cons_zero, List.set_cons_succ])
          refine heldz_take (fun _ => trivial) [] 8 (.int .i64 x0) (by kernel_rfl) rfl (by kernel_rfl) (fun _ _ _ h => h) (bdrew0 _ wr 1) (by kernel_rfl) ?_ ?_
          · intro wz hSw; have qc := (range_below hSw QL.out) 0 _ rfl; rw [Nat.add_zero] at qc; (first | (go_simp; done) | (go_simp; with_reducible rfl))
          (try simp only [Act.put, List.getElem_toArray, List.getElem_cons_zero, List.getElem_cons_succ, List.setIfInBounds_toArray, List.set_cons_zero, List.set_cons_succ])
          refine heldz_take (fun _ => trivial) [] 9 (?_) (by kernel_rfl) rfl (by kernel_rfl) (fun _ _ _ h => h) (bdrew0 _ wr 1) (by kernel_rfl) ?_ ?_
          rotate_left
          · intro wz hSw; (first | (go_simp; done) | (go_simp; with_reducible rfl))
          (try simp only [Act.put, List.getElem_toArray, List.getElem_cons_zero, List.getElem_cons_succ, List.setIfInBounds_toArray, List.set_cons_zero, List.set_cons_succ])
          refine heldz_take (fun _ => trivial) [] 10 (?_) (by kernel_rfl) rfl (by kernel_rfl) (fun _ _ _ h => h) (bdrew0 _ wr 1) (by kernel_rfl) ?_ ?_
          rotate_left
          · intro wz hSw; (first | (go_simp; done) | (go_simp; with_reducible rfl))
          (try simp only [Act.put, List.getElem_toArray, List.getElem_cons_zero, List.getElem_cons_succ, List.setIfInBounds_toArray, List.set_cons_zero, List.set_cons_succ])
          refine heldz_take (fun _ => trivial) [] 11 (.pointer (some ⟨b, off + j * 3, none⟩)) (by kernel_rfl) rfl (by kernel_rfl) (fun _ _ _ h => h) (bdrew0 _ wr 1) (by kernel_rfl) ?_ ?_
          · intro wz hSw; (first | (go_simp; done) | (go_simp; with_reducible rfl))
          (try simp only [Act.put, List.getElem_toArray, List.getElem_cons_zero, List.getElem_cons_succ, List.setIfInBounds_toArray, List.set_cons_zero, List.set_cons_succ])
          refine heldz_take (fun _ => trivial) [] 12 (.pointer (some ⟨b, off + j * 3 + 1, none⟩)) (by kernel_rfl) rfl (by kernel_rfl) (fun _ _ _ h => h) (bdrew0 _ wr 1) (by kernel_rfl) ?_ ?_
          · intro wz hSw; (first | (go_simp; done) | (go_simp; with_reducible rfl))
          (try simp only [Act.put, List.getElem_toArray, List.getElem_cons_zero, List.getElem_cons_succ, List.setIfInBounds_toArray, List.set_cons_zero, List.set_cons_succ])
          refine heldz_take (fun _ => trivial) [] 13 (.int .i64 x1) (by kernel_rfl) rfl (by kernel_rfl) (fun _ _ _ h => h) (bdrew0 _ wr 1) (by kernel_rfl) ?_ ?_
          · intro wz hSw; have qc := (range_below hSw QL.out) 1 _ rfl; (first | (go_simp; done) | (go_simp; with_reducible rfl))
          (try simp only [Act.put, List.getElem_toArray, List.getElem_cons_zero, List.getElem_cons_succ, List.setIfInBounds_toArray, List.set_cons_zero, List.set_cons_succ])
          refine heldz_take (fun _ => trivial) [] 14 (?_) (by kernel_rfl) rfl (by kernel_rfl) (fun _ _ _ h => h) (bdrew0 _ wr 1) (by kernel_rfl) ?_ ?_
          rotate_left
          · intro wz hSw; (first | (go_simp; done) | (go_simp; with_reducible rfl))
          (try simp only [Act.put, List.getElem_toArray, List.getElem_cons_zero, List.getElem_cons_succ, List.setIfInBounds_toArray, List.set_cons_zero, List.set_cons_succ])
          refine heldz_take (fun _ => trivial) [] 15 (?_) (by kernel_rfl) rfl (by kernel_rfl) (fun _ _ _ h => h) (bdrew0 _ wr 1) (by kernel_rfl) ?_ ?_
          rotate_left
          · intro wz hSw; (first | (go_simp; done) | (go_simp; with_reducible rfl))
          (try simp only [Act.put, List.getElem_toArray, List.getElem_cons_zero, List.getElem_cons_succ, List.setIfInBounds_toArray, List.set_cons_zero, List.set_cons_succ])
          refine heldz_take (fun _ => trivial) [] 16 (.pointer (some ⟨b, off + j * 3, none⟩)) (by kernel_rfl) rfl (by kernel_rfl) (fun _ _ _ h => h) (bdrew0 _ wr 1) (by kernel_rfl) ?_ ?_
          · intro wz hSw; (first | (go_simp; done) | (go_simp; with_reducible rfl))
          (try simp only [Act.put, List.getElem_toArray, List.getElem_cons_zero, List.getElem_cons_succ, List.setIfInBounds_toArray, List.set_cons_zero, List.set_cons_succ])
          refine heldz_take (fun _ => trivial) [] 17 (.pointer (some ⟨b, off + j * 3 + 2, none⟩)) (by kernel_rfl) rfl (by kernel_rfl) (fun _ _ _ h => h) (bdrew0 _ wr 1) (by kernel_rfl) ?_ ?_
          · intro wz hSw; (first | (go_simp; done) | (go_simp; with_reducible rfl))
          (try simp only [Act.put, List.getElem_toArray, List.getElem_cons_zero, List.getElem_cons_succ, List.setIfInBounds_toArray, List.set_cons_zero, List.set_cons_succ])
          refine heldz_take (fun _ => trivial) [] 18 (.int .i64 x2) (by kernel_rfl) rfl (by kernel_rfl) (fun _ _ _ h => h) (bdrew0 _ wr 1) (by kernel_rfl) ?_ ?_
          · intro wz hSw; have qc := (range_below hSw QL.out) 2 _ rfl; (first | (go_simp; done) | (go_simp; with_reducible rfl))
          (try simp only [Act.put, List.getElem_toArray, List.getElem_cons_zero, List.getElem_cons_succ, List.setIfInBounds_toArray, List.set_cons_zero, List.set_cons_succ])
          refine heldz_take (fun _ => trivial) [] 19 (.agg #[.int .i64 x0, .int .i64 x1, .int .i64 x2, .int .i64 65536]) (by kernel_rfl) rfl (by kernel_rfl) (fun _ _ _ h => h) (bdrew0 _ wr 1) (by kernel_rfl) ?_ ?_
          · intro wz hSw; (first | (go_simp; done) | (go_simp; with_reducible rfl))
          (try simp only [Act.put, List.getElem_toArray, List.getElem_cons_zero, List.getElem_cons_succ, List.setIfInBounds_toArray, List.set_cons_zero, List.set_cons_succ])
          refine heldz_take (fun _ => trivial) [] 20 (.bool false) (by kernel_rfl) rfl (by kernel_rfl) (fun _ _ _ h => h) (bdrew0 _ wr 1) (by kernel_rfl) ?_ ?_
          · intro wz hSw; have qe := EQ1.out wz; (first | (go_simp; done) | (go_simp; with_reducible rfl))
          (try simp only [Act.put, List.getElem_toArray, List.getElem_cons_zero, List.getElem_cons_succ, List.setIfInBounds_toArray, List.set_cons_zero, List.set_cons_succ])
          refine heldz_take (fun _ => trivial) [] 21 (?_) (by kernel_rfl) rfl (by kernel_rfl) (fun _ _ _ h => h) (bdrew0 _ wr 1) (by kernel_rfl) ?_ ?_
          rotate_left
          · intro wz hSw; (first | (go_simp; done) | (go_simp; with_reducible rfl))
          (try simp only [Act.put, List.getElem_toArray, List.getElem_cons_zero, List.getElem_cons_succ, List.setIfInBounds_toArray, List.set_cons_zero, List.set_cons_succ])
          refine heldz_take (fun _ => trivial) [] 22 (?_) (by kernel_rfl) rfl (by kernel_rfl) (fun _ _ _ h => h) (bdrew0 _ wr 1) (by kernel_rfl) ?_ ?_
          rotate_left
          · intro wz hSw; (first | (go_simp; done) | (go_simp; with_reducible rfl))
          (try simp only [Act.put, List.getElem_toArray, List.getElem_cons_zero, List.getElem_cons_succ, List.setIfInBounds_toArray, List.set_cons_zero, List.set_cons_succ])
          refine heldz_take (fun _ => trivial) [] 23 (?_) (by kernel_rfl) rfl (by kernel_rfl) (fun _ _ _ h => h) (bdrew0 _ wr 1) (by kernel_rfl) ?_ ?_
          rotate_left
          · intro wz hSw; (first | (go_simp; done) | (go_simp; with_reducible rfl))
          (try simp only [Act.put, List.getElem_toArray, List.getElem_cons_zero, List.getElem_cons_succ, List.setIfInBounds_toArray, List.set_cons_zero, List.set_cons_succ])
          refine heldz_take (fun _ => trivial) [] 24 (.pointer (some ⟨b3, off3 + j * 4, none⟩)) (by kernel_rfl) rfl (by kernel_rfl) (fun _ _ _ h => h) (bdrew0 _ wr 1) (by kernel_rfl) ?_ ?_
          · intro wz hSw; (first | (go_simp; done) | (go_simp; with_reducible rfl))
          (try simp only [Act.put, List.getElem_toArray, List.getElem_cons_zero, List.getElem_cons_succ, List.setIfInBounds_toArray, List.set_cons_zero, List.set_cons_succ])
          refine heldz_take (fun _ => trivial) [] 25 (.agg #[.int .i64 (x0 + bx), .int .i64 (x1 + by_), .int .i64 (x2 + bz), .int .i64 65536]) (by kernel_rfl) rfl (by kernel_rfl) (fun _ _ _ h => h) (bdrew0 _ wr 1) (by kernel_rfl) ?_ ?_
          · intro wz hSw; exact exec_mid10 23 (.tmp 153) (by kernel_rfl) b3 (off3 + j * 4) (by kernel_rfl) _ _ (range_below hSw QB.out) Try.underlying23 (by kernel_rfl) IV4.out
          (try simp only [Act.put, List.getElem_toArray, List.getElem_cons_zero, List.getElem_cons_succ, List.setIfInBounds_toArray, List.set_cons_zero, List.set_cons_succ])
          refine heldz_take (fun _ => trivial) [] 26 (?_) (by kernel_rfl) rfl (by kernel_rfl) (fun _ _ _ h => h) (bdrew0 _ wr 1) (by kernel_rfl) ?_ ?_
          rotate_left
          · intro wz hSw; (first | (go_simp; done) | (go_simp; with_reducible rfl))
          (try simp only [Act.put, List.getElem_toArray, List.getElem_cons_zero, List.getElem_cons_succ, List.setIfInBounds_toArray, List.set_cons_zero, List.set_cons_succ])
          refine heldz_take (fun _ => trivial) [] 27 (?_) (by kernel_rfl) rfl (by kernel_rfl) (fun _ _ _ h => h) (bdrew0 _ wr 1) (by kernel_rfl) ?_ ?_
          rotate_left
          · intro wz hSw; (first | (go_simp; done) | (go_simp; with_reducible rfl))
          (try simp only [Act.put, List.getElem_toArray, List.getElem_cons_zero, List.getElem_cons_succ, List.setIfInBounds_toArray, List.set_cons_zero, List.set_cons_succ])
          refine heldz_take (fun _ => trivial) [] 28 (.pointer (some ⟨b, off + j * 3, none⟩)) (by kernel_rfl) rfl (by kernel_rfl) (fun _ _ _ h => h) (bdrew0 _ wr 1) (by kernel_rfl) ?_ ?_
          · intro wz hSw; (first | (go_simp; done) | (go_simp; with_reducible rfl))
          (try simp only [Act.put, List.getElem_toArray, List.getElem_cons_zero, List.getElem_cons_succ, List.setIfInBounds_toArray, List.set_cons_zero, List.set_cons_succ])
          refine heldz_take (fun _ => trivial) [] 29 (.pointer (some ⟨b, off + j * 3, none⟩)) (by kernel_rfl) rfl (by kernel_rfl) (fun _ _ _ h => h) (bdrew0 _ wr 1) (by kernel_rfl) ?_ ?_
          · intro wz hSw; (first | (go_simp; done) | (go_simp; with_reducible rfl))
          (try simp only [Act.put, List.getElem_toArray, List.getElem_cons_zero, List.getElem_cons_succ, List.setIfInBounds_toArray, List.set_cons_zero, List.set_cons_succ])
          refine heldz_take (fun _ => trivial) [] 30 (.int .i64 x0) (by kernel_rfl) rfl (by kernel_rfl) (fun _ _ _ h => h) (bdrew0 _ wr 1) (by kernel_rfl) ?_ ?_
          · intro wz hSw; have qc := (range_below hSw QL.out) 0 _ rfl; rw [Nat.add_zero] at qc; (first | (go_simp; done) | (go_simp; with_reducible rfl))
          (try simp only [Act.put, List.getElem_toArray, List.getElem_cons_zero, List.getElem_cons_succ, List.setIfInBounds_toArray, List.set_cons_zero, List.set_cons_succ])
          refine heldz_take (fun _ => trivial) [] 31 (.pointer (some ⟨w.heap.size, 0, none⟩)) (by kernel_rfl) rfl (by kernel_rfl) (fun _ _ _ h => h) (bdrew0 _ wr 1) (by kernel_rfl) ?_ ?_
          · intro wz hSw; have qs := (SB.out.below hSw).lt; (first | (go_simp; done) | (go_simp; with_reducible rfl))
          (try simp only [Act.put, List.getElem_toArray, List.getElem_cons_zero, List.getElem_cons_succ, List.setIfInBounds_toArray, List.set_cons_zero, List.set_cons_succ])
          refine heldz_take (fun _ => trivial) [] 32 (.int .i32 bx) (by kernel_rfl) rfl (by kernel_rfl) (fun _ _ _ h => h) (bdrew0 _ wr 1) (by kernel_rfl) ?_ ?_
          · intro wz hSw; have qc : wz.cell? ⟨w.heap.size, 0, none⟩ = some (.int .i32 bx) := (by rw [(SB.out.below hSw).cell]; rfl); (first | (go_simp; done) | (go_simp; with_reducible rfl))
          (try simp only [Act.put, List.getElem_toArray, List.getElem_cons_zero, List.getElem_cons_succ, List.setIfInBounds_toArray, List.set_cons_zero, List.set_cons_succ])
          refine heldz_take (fun _ => trivial) [] 33 (.int .i64 bx) (by kernel_rfl) rfl (by kernel_rfl) (fun _ _ _ h => h) (bdrew0 _ wr 1) (by kernel_rfl) ?_ ?_
          · intro wz hSw; (first | (go_simp; done) | (go_simp; with_reducible rfl))
          (try simp only [Act.put, List.getElem_toArray, List.getElem_cons_zero, List.getElem_cons_succ, List.setIfInBounds_toArray, List.set_cons_zero, List.set_cons_succ])
          refine heldz_take (fun _ => trivial) [] 34 (.int .i64 (x0 + bx)) (by kernel_rfl) rfl (by kernel_rfl) (fun _ _ _ h => h) (bdrew0 _ wr 1) (by kernel_rfl) ?_ ?_
          · intro wz hSw; (first | (go_simp; done) | (go_simp; with_reducible rfl))
          (try simp only [Act.put, List.getElem_toArray, List.getElem_cons_zero, List.getElem_cons_succ, List.setIfInBounds_toArray, List.set_cons_zero, List.set_cons_succ])
          refine heldz_take (fun _ => trivial) [] 35 (?_) (by kernel_rfl) rfl (by kernel_rfl) (fun _ _ _ h => h) (bdrew0 _ wr 1) (by kernel_rfl) ?_ ?_
          rotate_left
          · intro wz hSw; (first | (go_simp; done) | (go_simp; with_reducible rfl))
          (try simp only [Act.put, List.getElem_toArray, List.getElem_cons_zero, List.getElem_cons_succ, List.setIfInBounds_toArray, List.set_cons_zero, List.set_cons_succ])
          refine heldz_take (fun _ => trivial) [] 36 (?_) (by kernel_rfl) rfl (by kernel_rfl) (fun _ _ _ h => h) (bdrew0 _ wr 1) (by kernel_rfl) ?_ ?_
          rotate_left
          · intro wz hSw; (first | (go_simp; done) | (go_simp; with_reducible rfl))
          (try simp only [Act.put, List.getElem_toArray, List.getElem_cons_zero, List.getElem_cons_succ, List.setIfInBounds_toArray, List.set_cons_zero, List.set_cons_succ])
          refine heldz_take (fun _ => trivial) [] 37 (.pointer (some ⟨b, off + j * 3, none⟩)) (by kernel_rfl) rfl (by kernel_rfl) (fun _ _ _ h => h) (bdrew0 _ wr 1) (by kernel_rfl) ?_ ?_
          · intro wz hSw; (first | (go_simp; done) | (go_simp; with_reducible rfl))
          (try simp only [Act.put, List.getElem_toArray, List.getElem_cons_zero, List.getElem_cons_succ, List.setIfInBounds_toArray, List.set_cons_zero, List.set_cons_succ])
          refine heldz_take (fun _ => trivial) [] 38 (.pointer (some ⟨b, off + j * 3 + 1, none⟩)) (by kernel_rfl) rfl (by kernel_rfl) (fun _ _ _ h => h) (bdrew0 _ wr 1) (by kernel_rfl) ?_ ?_
          · intro wz hSw; (first | (go_simp; done) | (go_simp; with_reducible rfl))
          (try simp only [Act.put, List.getElem_toArray, List.getElem_cons_zero, List.getElem_cons_succ, List.setIfInBounds_toArray, List.set_cons_zero, List.set_cons_succ])
          refine heldz_take (fun _ => trivial) [] 39 (.int .i64 x1) (by kernel_rfl) rfl (by kernel_rfl) (fun _ _ _ h => h) (bdrew0 _ wr 1) (by kernel_rfl) ?_ ?_
          · intro wz hSw; have qc := (range_below hSw QL.out) 1 _ rfl; (first | (go_simp; done) | (go_simp; with_reducible rfl))
          (try simp only [Act.put, List.getElem_toArray, List.getElem_cons_zero, List.getElem_cons_succ, List.setIfInBounds_toArray, List.set_cons_zero, List.set_cons_succ])
          refine heldz_take (fun _ => trivial) [] 40 (.pointer (some ⟨w.heap.size, 1, none⟩)) (by kernel_rfl) rfl (by kernel_rfl) (fun _ _ _ h => h) (bdrew0 _ wr 1) (by kernel_rfl) ?_ ?_
          · intro wz hSw; have qs := (SB.out.below hSw).lt; (first | (go_simp; done) | (go_simp; with_reducible rfl))
          (try simp only [Act.put, List.getElem_toArray, List.getElem_cons_zero, List.getElem_cons_succ, List.setIfInBounds_toArray, List.set_cons_zero, List.set_cons_succ])
          refine heldz_take (fun _ => trivial) [] 41 (.int .i32 by_) (by kernel_rfl) rfl (by kernel_rfl) (fun _ _ _ h => h) (bdrew0 _ wr 1) (by kernel_rfl) ?_ ?_
          · intro wz hSw; have qc : wz.cell? ⟨w.heap.size, 1, none⟩ = some (.int .i32 by_) := (by rw [(SB.out.below hSw).cell]; rfl); (first | (go_simp; done) | (go_simp; with_reducible rfl))
          (try simp only [Act.put, List.getElem_toArray, List.getElem_cons_zero, List.getElem_cons_succ, List.setIfInBounds_toArray, List.set_cons_zero, List.set_cons_succ])
          refine heldz_take (fun _ => trivial) [] 42 (.int .i64 by_) (by kernel_rfl) rfl (by kernel_rfl) (fun _ _ _ h => h) (bdrew0 _ wr 1) (by kernel_rfl) ?_ ?_
          · intro wz hSw; (first | (go_simp; done) | (go_simp; with_reducible rfl))
          (try simp only [Act.put, List.getElem_toArray, List.getElem_cons_zero, List.getElem_cons_succ, List.setIfInBounds_toArray, List.set_cons_zero, List.set_cons_succ])
          refine heldz_take (fun _ => trivial) [] 43 (.int .i64 (x1 + by_)) (by kernel_rfl) rfl (by kernel_rfl) (fun _ _ _ h => h) (bdrew0 _ wr 1) (by kernel_rfl) ?_ ?_
          · intro wz hSw; (first | (go_simp; done) | (go_simp; with_reducible rfl))
          (try simp only [Act.put, List.getElem_toArray, List.getElem_cons_zero, List.getElem_cons_succ, List.setIfInBounds_toArray, List.set_cons_zero, List.set_cons_succ])
          refine heldz_take (fun _ => trivial) [] 44 (?_) (by kernel_rfl) rfl (by kernel_rfl) (fun _ _ _ h => h) (bdrew0 _ wr 1) (by kernel_rfl) ?_ ?_
          rotate_left
          · intro wz hSw; (first | (go_simp; done) | (go_simp; with_reducible rfl))
          (try simp only [Act.put, List.getElem_toArray, List.getElem_cons_zero, List.getElem_cons_succ, List.setIfInBounds_toArray, List.set_cons_zero, List.set_cons_succ])
          refine heldz_take (fun _ => trivial) [] 45 (?_) (by kernel_rfl) rfl (by kernel_rfl) (fun _ _ _ h => h) (bdrew0 _ wr 1) (by kernel_rfl) ?_ ?_
          rotate_left
          · intro wz hSw; (first | (go_simp; done) | (go_simp; with_reducible rfl))
          (try simp only [Act.put, List.getElem_toArray, List.getElem_cons_zero, List.getElem_cons_succ, List.setIfInBounds_toArray, List.set_cons_zero, List.set_cons_succ])
          refine heldz_take (fun _ => trivial) [] 46 (.pointer (some ⟨b, off + j * 3, none⟩)) (by kernel_rfl) rfl (by kernel_rfl) (fun _ _ _ h => h) (bdrew0 _ wr 1) (by kernel_rfl) ?_ ?_
          · intro wz hSw; (first | (go_simp; done) | (go_simp; with_reducible rfl))
          (try simp only [Act.put, List.getElem_toArray, List.getElem_cons_zero, List.getElem_cons_succ, List.setIfInBounds_toArray, List.set_cons_zero, List.set_cons_succ])
          refine heldz_take (fun _ => trivial) [] 47 (.pointer (some ⟨b, off + j * 3 + 2, none⟩)) (by kernel_rfl) rfl (by kernel_rfl) (fun _ _ _ h => h) (bdrew0 _ wr 1) (by kernel_rfl) ?_ ?_
          · intro wz hSw; (first | (go_simp; done) | (go_simp; with_reducible rfl))
          (try simp only [Act.put, List.getElem_toArray, List.getElem_cons_zero, List.getElem_cons_succ, List.setIfInBounds_toArray, List.set_cons_zero, List.set_cons_succ])
          refine heldz_take (fun _ => trivial) [] 48 (.int .i64 x2) (by kernel_rfl) rfl (by kernel_rfl) (fun _ _ _ h => h) (bdrew0 _ wr 1) (by kernel_rfl) ?_ ?_
          · intro wz hSw; have qc := (range_below hSw QL.out) 2 _ rfl; (first | (go_simp; done) | (go_simp; with_reducible rfl))
          (try simp only [Act.put, List.getElem_toArray, List.getElem_cons_zero, List.getElem_cons_succ, List.setIfInBounds_toArray, List.set_cons_zero, List.set_cons_succ])
          refine heldz_take (fun _ => trivial) [] 49 (.pointer (some ⟨w.heap.size, 2, none⟩)) (by kernel_rfl) rfl (by kernel_rfl) (fun _ _ _ h => h) (bdrew0 _ wr 1) (by kernel_rfl) ?_ ?_
          · intro wz hSw; have qs := (SB.out.below hSw).lt; (first | (go_simp; done) | (go_simp; with_reducible rfl))
          (try simp only [Act.put, List.getElem_toArray, List.getElem_cons_zero, List.getElem_cons_succ, List.setIfInBounds_toArray, List.set_cons_zero, List.set_cons_succ])
          refine heldz_take (fun _ => trivial) [] 50 (.int .i32 bz) (by kernel_rfl) rfl (by kernel_rfl) (fun _ _ _ h => h) (bdrew0 _ wr 1) (by kernel_rfl) ?_ ?_
          · intro wz hSw; have qc : wz.cell? ⟨w.heap.size, 2, none⟩ = some (.int .i32 bz) := (by rw [(SB.out.below hSw).cell]; rfl); (first | (go_simp; done) | (go_simp; with_reducible rfl))
          (try simp only [Act.put, List.getElem_toArray, List.getElem_cons_zero, List.getElem_cons_succ, List.setIfInBounds_toArray, List.set_cons_zero, List.set_cons_succ])
          refine heldz_take (fun _ => trivial) [] 51 (.int .i64 bz) (by kernel_rfl) rfl (by kernel_rfl) (fun _ _ _ h => h) (bdrew0 _ wr 1) (by kernel_rfl) ?_ ?_
          · intro wz hSw; (first | (go_simp; done) | (go_simp; with_reducible rfl))
          (try simp only [Act.put, List.getElem_toArray, List.getElem_cons_zero, List.getElem_cons_succ, List.setIfInBounds_toArray, List.set_cons_zero, List.set_cons_succ])
          refine heldz_take (fun _ => trivial) [] 52 (.int .i64 (x2 + bz)) (by kernel_rfl) rfl (by kernel_rfl) (fun _ _ _ h => h) (bdrew0 _ wr 1) (by kernel_rfl) ?_ ?_
          · intro wz hSw; (first | (go_simp; done) | (go_simp; with_reducible rfl))
          (try simp only [Act.put, List.getElem_toArray, List.getElem_cons_zero, List.getElem_cons_succ, List.setIfInBounds_toArray, List.set_cons_zero, List.set_cons_succ])
          refine heldz_take (fun _ => trivial) [] 53 (.agg #[.int .i64 (x0 + bx), .int .i64 (x1 + by_), .int .i64 (x2 + bz), .int .i64 65536]) (by kernel_rfl) rfl (by kernel_rfl) (fun _ _ _ h => h) (bdrew0 _ wr 1) (by kernel_rfl) ?_ ?_
          · intro wz hSw; (first | (go_simp; done) | (go_simp; with_reducible rfl))
          (try simp only [Act.put, List.getElem_toArray, List.getElem_cons_zero, List.getElem_cons_succ, List.setIfInBounds_toArray, List.set_cons_zero, List.set_cons_succ])
          refine heldz_take (fun _ => trivial) [] 54 (.bool false) (by kernel_rfl) rfl (by kernel_rfl) (fun _ _ _ h => h) (bdrew0 _ wr 1) (by kernel_rfl) ?_ ?_
          · intro wz hSw; have qe := EQ2.out wz; (first | (go_simp; done) | (go_simp; with_reducible rfl))
          (try simp only [Act.put, List.getElem_toArray, List.getElem_cons_zero, List.getElem_cons_succ, List.setIfInBounds_toArray, List.set_cons_zero, List.set_cons_succ])
          refine heldz_take (fun _ => trivial) [] 55 (?_) (by kernel_rfl) rfl (by kernel_rfl) (fun _ _ _ h => h) (bdrew0 _ wr 1) (by kernel_rfl) ?_ ?_
          rotate_left
          · intro wz hSw; (first | (go_simp; done) | (go_simp; with_reducible rfl))
          (try simp only [Act.put, List.getElem_toArray, List.getElem_cons_zero, List.getElem_cons_succ, List.setIfInBounds_toArray, List.set_cons_zero, List.set_cons_succ])
          refine heldz_done (by kernel_rfl) ?_ _
          refine hK5 _ _ ?_
          have HS2 := Lib.hid (HS.out.up (bdrew0 _ wr 1))
          clear hK5 QL QA QB SB HS
          go_wp2_with fail
          go_roundg (i - (j + 1))
          case measure => omega
          case rel => exact ⟨j + 1, rfl, by go_num, by omega, HS2.out⟩
        · obtain rfl : j = i := by omega
          have t2 : ¬ (j : Int) < (j : Int) := by omega
          have HLE : Hid ((l.take hh).map (movX bx by_ bz) ++ (l.drop hh).map (movX bx by_ bz) = l.map (movX bx by_ bz)) := Lib.hid (by rw [← List.map_append, List.take_append_drop])
          have HL2 : Hid (((l.take hh).map (movX bx by_ bz)).length + ((l.drop hh).map (movX bx by_ bz)).length ≤ 1000000) := Lib.hid (by rw [← List.length_append, HLE.out, List.length_map, HN.out]; have := HNN.out; omega)
          have HWF : Hid (∀ x ∈ l.map (movX bx by_ bz), VecWf x) := Lib.hid (fun x hx => by obtain ⟨y, hy, rfl⟩ := List.mem_map.1 hx; exact movX_wf HB.out.1 HB.out.2.1 HB.out.2.2 (HAL.out y hy))
          have HW4 : Hid (∀ z ∈ (l.drop hh).map (movX bx by_ bz), (z.map encI).length = 4) := Lib.hid (fun x hx => by rw [List.length_map, (HWF.out x (by rw [← HLE.out]; exact List.mem_append_right _ hx)).len])
          go_wp2_with (refine app_Gg10 infoG4 rfl (.tmp 188) (.tmp 189) 24 rfl Try.underlying24 w11.drew.heap.size (.slice oc lc cc) ((l.take hh).map (movX bx by_ bz)) ((l.drop hh).map (movX bx by_ bz)) rfl HS.out.lt.2.2 HS.out.hc od cd (by rw [HLD.out]; rfl) HCD.out.2 HS.out.hd.src HW4.out (fun z _ => enc_one z) HL2.out ?_)
          intro v' X ho hgr
          refine Lib.hid ?_
          have BX : Hid (Below w.heap.size w X) := Lib.hid (bgrown10 (Nat.le_refl _) HS.out.bel hgr (fun k hk => by have h1 := OwnG.blk HS.out.hc k hk; have h2 := HS.out.lt.2.1; omega))
          have BY : Hid (Below w11.heap.size w11 X) := Lib.hid (bgrown10 (Nat.le_refl _) HS.out.kb hgr (fun k hk => by have h1 := OwnG.blk HS.out.hc k hk; have h2 := HS.out.lt.1; omega))
          have HBX := Lib.hid (HS.out.hb.below BY.out)
          have ho2 : OwnK X w11.drew.heap.size v' (l.map (movX bx by_ bz)) := by first | exact ho | (rw [← HLE.out]; exact ho)
          clear ho
          obtain ⟨o9, c9, rfl, _, hat⟩ := OwnK.form ho2 HWF.out
          rw [List.length_map, HN.out]
          have CS : Hid (Calls Try.prog 22 #[.slice o9 j c9, .slice ob j cb] X (RetBool true X)) := Lib.hid (by
            have := zsame9_any (l.map (movX bx by_ bz)) (l.map (movX bx by_ bz)) o9 ob c9 cb X hat HBX.out (by rw [List.length_map, HN.out]; have := HNN.out; omega) (by rw [List.length_map, HN.out]; have := HNN.out; omega)
            rw [decide_eq_true rfl, List.length_map, HN.out] at this
            exact this)
          clear ho2 hgr hat HS
          go_wp2_with fail
          refine CS.out.mono ?_
          rintro e X2 ⟨rfl, hb⟩
          have BZ := Lib.hid (bnext BX.out hb)
          clear hb CS
          go_wp2_with fail
          go_ret
          exact ⟨rfl, BZ.out⟩
theorem law_viewMoves (hp : View10) (ht : Thr10) (l : List (List Int)) (o : Option Addr) (c : Nat) (hc : CapOk o l.length c) (bx by_ bz : Int) (hx : -2147483648 ≤ bx ∧ bx ≤ 2147483647) (hy : -2147483648 ≤ by_ ∧ by_ ≤ 2147483647) (hz : -2147483648 ≤ bz ∧ bz ≤ 2147483647) (w : World) (h : VertsAt w o l) :
    Calls Try.prog 10 #[.slice o l.length c, .agg #[.int .i32 bx, .int .i32 by_, .int .i32 bz]] w fun e w' => e = .returned (.bool true) ∧ Below w.heap.size w w' :=
  viewMoves_walk hp ht l o _ c bx by_ bz w h rfl hc.1.1 hc.1.2 hx hy hz
end Go.Proofs.Ytgkglkoipocgaaa.Fx
