import Derived.Laws.Rows
import Derived.Test.YtbbhmhihpdmoiaaGreatProg
import Derived.Lib.AppendZerosOnto
import Derived.Lib.SlBytesConst
import Derived.Test.YtbbhmhihpdmoiaaGreatMx30
import Derived.Test.YtbbhmhihpdmoiaaGreatMx42
/- The form of the chapter's first example: the statements' bare, walked; an append of zeros to one's own bytes. -/
set_option linter.unusedVariables false
set_option linter.unusedSimpArgs false
namespace Go.Proofs.YtbbhmhihpdmoiaaGreat.Fx
open Go Go.RowKit Go.Lib
open Go.Proofs.YtbbhmhihpdmoiaaGreat.Pk (Bs By Own)
theorem zeroCells_u8 (k : Nat) : Builtin.zeroCells #[.int .u8 0] k = (List.replicate k (Value.int .u8 0)).toArray := by
  unfold Builtin.zeroCells
  apply Array.ext
  · simp
  · intro i h1 h2
    simp [Nat.mod_one]
theorem run_room_zeros {P : Program} (w : World) (t tn ty e : TypeId) (i : TypeInfo) (kq kn : IntKind) (ht : P.underlying t = some (.slice e)) (htn : P.underlying tn = some (.int kn)) (hi : P.info? e = some i) (hz : i.zero = some (.int .u8 0)) (hs : i.size = 1) (hby : i.bytes = 1)
    (g sLen sCap k : Nat) (cur : Array Value) (hg : w.heap[g]? = some (.cells cur e (0, 0))) (hk0 : 0 < k) (hk : k ≤ 1000) (hroom : sLen + k ≤ sCap) (hfit : sLen + k ≤ cur.size) :
    (Builtin.append_ #[t, tn] ty #[.slice (some ⟨g, 0, none⟩) sLen sCap, Value.int kq (k : Int)]).run P w =
      .ok (.slice (some ⟨g, 0, none⟩) (sLen + k) sCap) (w.setRow g (cur.toList.take sLen ++ List.replicate k (Value.int .u8 0) ++ cur.toList.drop (sLen + k)).toArray) := by
  have hw : IntKind.i64.wrap (k : Int) = k := by rw [IntKind.wrap_i64]; omega
  have hneg : ¬ ((k : Int) < 0) := by omega
  have h48i : ¬ (281474976710656 < (k : Int) * (i.bytes : Int)) := by rw [hby]; omega
  have hns : ¬ (k * i.size = 0) := by rw [hs]; omega
  have hst := run_storeCells_at P g sLen e (List.replicate k (Value.int .u8 0)) 0 cur w hg (by simpa using hfit) (fun v hv => by
    rw [List.mem_replicate] at hv
    rw [hv.2]
    rfl)
  simp only [Nat.add_zero, List.length_replicate] at hst
  have hzc : Builtin.zeroCells (Value.int .u8 0).cells k = (List.replicate k (Value.int .u8 0)).toArray := zeroCells_u8 k
  simp [Builtin.append_, run_underlying ht, run_underlying htn, sizeOf, typeInfo, zeroValue, hi, hz, asInt, asIntOf, hw, hneg, h48i, hroom, hs, Addr.add_lit, show ¬ (k = 0) by omega, hzc, hst, Value.cells, zeroCells_u8 k]
  done
theorem run_own_zeros (B k : Nat) (v : Value) (l : List Nat) (W : World) (ty : TypeId) (kq : IntKind) (hB : B ≤ W.heap.size) (hk0 : 0 < k) (hk : k ≤ 1000) (hl : l.length ≤ 1000) (h0 : 0 < l.length) (hown : Pk.Own W B v l) :
    ∃ v' X, (Builtin.append_ #[31, 3] ty #[v, Value.int kq (k : Int)]).run Tryz.prog W = .ok v' X ∧ Pk.Own X B v' (l ++ List.replicate k 0) ∧ W.grownBy X v.ownBlock := by
  obtain ⟨i0, hi, hz0, hz1, hz2⟩ := info_parts Pk.info5
  have htn : Tryz.prog.underlying 3 = some (.int .i64) := by kernel_rfl
  obtain ⟨hx, h⟩ := hown
  rcases h with ⟨_, h2⟩ | ⟨g, cap, cur, rfl, hb, hg, hle, hm, hsz, htk⟩
  · omega
  · have hfl : (l.map Pk.encB ++ List.replicate k (Value.int .u8 0)) = (l ++ List.replicate k 0).map Pk.encB := by simp [Pk.encB]
    rw [Nat.mul_one] at hsz htk
    by_cases hroom : l.length + k ≤ cap
    · refine ⟨_, _, run_room_zeros W _ _ ty _ i0 kq .i64 Tryz.underlying31 htn hi hz0 hz1 hz2 g l.length cap k cur hg hk0 hk hroom (by omega), ?_, ⟨rfl, rfl, rfl, by simp, fun j _ hj => setRow_other W g j _ (fun e => hj (by simp [Value.ownBlock, e]))⟩⟩
      refine ⟨by simp, .inr ⟨g, cap, _, by simp, hb, setRow_heap W g cur _ _ _ hg, by simp; omega, hm, ?_, ?_⟩⟩
      · simp only [List.size_toArray, List.length_append, List.length_take, List.length_drop, Array.length_toList, List.length_replicate, Nat.mul_one]
        omega
      · rw [htk, ← hfl]
        simp [List.take_append, List.take_of_length_le]
    · have hold : (Builtin.firstCells i0.size l.length (.slice (some ⟨g, 0, none⟩) l.length cap)).run Tryz.prog W.drew = .ok (l.map Pk.encB).toArray W.drew := by
        have := run_firstCells_some (P := Tryz.prog) W.drew i0.size l.length ⟨g, 0, none⟩ l.length cap (l.map Pk.encB) (by rw [hz1]; simp) (fun j u hj => by
          rw [Addr.add_lit, Nat.zero_add]
          have hc : W.drew.cell? ⟨g, j, none⟩ = W.cell? ⟨g, j, none⟩ := rfl
          rw [hc, cell_of_row _ _ _ _ _ _ hg]
          rw [← htk, List.getElem?_take] at hj
          split at hj
          · simpa using hj
          · cases hj)
        exact this
      have hrun := run_append_grow_zeros (P := Tryz.prog) W 31 3 ty 5 i0 (.int .u8 0) kq .i64 Tryz.underlying31 htn hi hz0 (some ⟨g, 0, none⟩) l.length cap (l.map Pk.encB) hold k hk0 (by omega) (by omega) (by omega) (by rw [hz2]; omega) (by
        have := nextslicecap_le (need := l.length + k) (old := cap) (by omega)
        rw [hz2]
        omega)
      have hge := grownCap_ge W (l.length + k) cap 5
      have hcm : grownCap W (l.length + k) cap 5 ≤ maxLen := grownCap_le_maxLen W (l.length + k) cap 5 (by unfold maxLen; omega)
      refine ⟨_, _, hrun, ?_, ⟨rfl, rfl, rfl, by simp, fun j hj _ => by first | exact heap_alloc_old W.drew _ hj | exact heap_alloc_old W.drew _ j hj⟩⟩
      refine ⟨by simp, .inr ⟨W.heap.size, _, _, by simp, hB, heap_alloc_new W.drew _, by simpa using hge, hcm, ?_, ?_⟩⟩
      · simp only [Array.size_append, List.size_toArray, size_zeroCells, List.length_map, Nat.mul_one]
        show l.length + k * 1 + _ * 1 = _
        omega
      · rw [show (Value.int .u8 0).cells = #[Value.int .u8 0] from rfl, zeroCells_u8 k]
        simp only [Array.toList_append, List.length_append, List.length_replicate, Nat.mul_one]
        rw [hfl]
        exact List.take_left' (by simp)
theorem wpList_appZ {ops : Array Oper} {rest : List Oper} {o : Oper} {a : Act} {Q : Exit → Act → World → Prop} {W : World} (hgd : o.guard = none) (s x : Operand) (ts tn : TypeId)
    (ho : o.op = .call { callee := .builtin .append, args := #[s, x], argTypes := #[ts, tn] }) (va vx v : Value) (X : World) (hs : a.eval s = va) (hx : a.eval x = vx) (hrun : (Builtin.append_ #[ts, tn] o.type #[va, vx]).run Tryz.prog W = .ok v X)
    (h : wpList Tryz.prog ops Q rest (a.put o.dst v) X) : wpList Tryz.prog ops Q (o :: rest) a W := by
  refine wpList_plain hgd fun K hK' => ?_
  unfold Oper.wp
  simp [execOp, ho, resolve, invoke, builtin, hs, hx, hrun, Result.andThen]
  exact hK' _ _ h
theorem own_base {W : World} {B D : Nat} {v : Value} {l : List Nat} (h : D ≤ B) (s : Pk.Own W B v l) : Pk.Own W D v l := by
  obtain ⟨h1, h2⟩ := s
  refine ⟨h1, ?_⟩
  rcases h2 with h2 | ⟨g, cap, cur, e, hb, hg⟩
  · exact .inl h2
  · exact .inr ⟨g, cap, cur, e, Nat.le_trans h hb, hg⟩
set_option maxRecDepth 100000 in
set_option maxHeartbeats 2000000 in
theorem bare_any (c : Nat) (hc : c ≤ 255) (w : World) :
    Calls Tryz.prog 28 #[.int .u8 (c : Int)] w (RetBs ([109, 117, 108, 49, c, 1] ++ List.replicate 17 0) w) := by
  obtain ⟨i0, hi, hz0, hz1, hz2⟩ := info_parts Pk.info5
  obtain ⟨C, hC⟩ : ∃ C : Array Value, #[.int .u8 109, .int .u8 117, .int .u8 108, .int .u8 49] = C := ⟨_, rfl⟩
  obtain ⟨W1, hW1⟩ : ∃ V, w.alloc (.cells C 5 (C.size, C.size + 1)) = V := ⟨_, rfl⟩
  obtain ⟨W2, hW2⟩ : ∃ V, W1.alloc (.cells #[.int .u8 (c : Int), .int .u8 1] 5) = V := ⟨_, rfl⟩
  have z1 : W1.heap.size = w.heap.size + 1 := by rw [← hW1]; simp
  have r1 : W1.heap[w.heap.size]? = some (.cells C 5 (C.size, C.size + 1)) := by rw [← hW1]; exact heap_alloc_new _ _
  have r2 : W2.heap[W1.heap.size]? = some (.cells #[.int .u8 (c : Int), .int .u8 1] 5 (0, 0)) := by rw [← hW2]; exact heap_alloc_new _ _
  have b1 : Below w.heap.size w W1 := by rw [← hW1]; exact (Below.refl _ _).alloc (Nat.le_refl _) _
  have b2 : Below w.heap.size w W2 := by rw [← hW2]; exact b1.alloc (by omega) _
  have r3 : W2.heap[w.heap.size]? = some (.cells C 5 (C.size, C.size + 1)) := by rw [← hW2]; exact step_row r1
  have hcv := run_convert_bytes_const (P := Tryz.prog) w 31 5 C 4 4 Tryz.underlying31 (by kernel_rfl)
  rw [hW1] at hcv
  obtain ⟨v3, W3, hrun3, hown3, hg3⟩ := run_append_arg_grows (P := Tryz.prog) (w := W2) 31 31 5 i0 (.int .u8 0) 1 1 Tryz.underlying31 hi hz0 hz1 hz2 rfl (by decide) ⟨w.heap.size, 0, none⟩ 4 4 ([109, 117, 108, 49].map Pk.encB) (by simp) (fun j u hj => by
      rw [Addr.add_lit, Nat.zero_add, cell_of_row _ _ _ _ _ _ r3, ← hC, ← hj]
      simp only [List.getElem?_toArray]
      rfl) ⟨W1.heap.size, 0, none⟩ 2 2 ([c, 1].map Pk.encB) (by simp) (fun j u hj => by
      rw [Addr.add_lit, Nat.zero_add, cell_of_row _ _ _ _ _ _ r2, ← hj]
      simp only [List.getElem?_toArray]
      rfl) (by omega) (by unfold maxLen; omega) (by omega)
  have ho3 : Pk.Own W3 W2.heap.size v3 [109, 117, 108, 49, c, 1] := hown3
  have hb3 : Below w.heap.size w W3 := bnext b2 (below_none hg3)
  have hs3 := hg3.size
  obtain ⟨v4, W4, hrun4, hown4, hg4⟩ := run_own_zeros W2.heap.size 17 v3 _ W3 31 .i64 hs3 (by omega) (by omega) (by simp) (by simp) ho3
  have hb4 : Below w.heap.size w W4 := below_grown2 (Nat.le_refl _) hb3 hg4 (fun k hk => Nat.le_trans b2.size (Pk.Own.blk ho3 k hk))
  obtain ⟨L, hL⟩ : ∃ L, [109, 117, 108, 49, c, 1] ++ List.replicate 17 0 = L := ⟨_, rfl⟩
  have hown5 : Pk.Own W4 w.heap.size v4 L := by rw [← hL]; exact own_base b2.size hown4
  rw [hL]
  have HE : Hid (RetBs L w (.returned v4) W4) := Lib.hid ⟨⟨v4, rfl, hown5⟩, hb4⟩
  have hrun5 : (Builtin.append_ #[31, 3] 31 #[v3, .int .i64 17]).run Tryz.prog W3 = .ok v4 W4 := hrun4
  have HR3 := Lib.hid hrun3
  have HR4 := Lib.hid hrun5
  have HCV := Lib.hid hcv
  have HW2 := Lib.hid hW2
  have HCC := Lib.hid hC
  clear z1 r1 r2 b1 b2 r3 hW1 hW2 hc hcv hrun3 hown3 hg3 ho3 hb3 hs3 hrun4 hown4 hg4 hb4 hown5 hrun5 hL hC hi hz0 hz1 hz2
  go_enter Tryz.func28, Tryz.ntmps28
  go_wp2_with (first | (rw [HCC.out]; rw [HCV.out]) | (rw [HW2.out]) | (with_reducible refine stop_at (some 8) rfl ?_; refine Lib.hid ?_; refine wpList_appX rfl (.tmp 5) (.tmp 7) 31 rfl (.slice (some ⟨w.heap.size, 0, none⟩) 4 4) (.slice (some ⟨W1.heap.size, 0, none⟩) 2 2) v3 W3 rfl rfl HR3.out ?_) | (with_reducible refine stop_at (some 10) rfl ?_; refine Lib.hid ?_; refine wpList_appZ rfl (.tmp 9) (.const (.int .i64 17)) 31 3 rfl v3 (.int .i64 17) v4 W4 rfl rfl HR4.out ?_))
  go_ret
  exact HE.out
end Go.Proofs.YtbbhmhihpdmoiaaGreat.Fx


/- The chapter's first examples: the statements' alive, walked. -/
set_option linter.unusedVariables false
set_option linter.unusedSimpArgs false
namespace Go.Proofs.YtbbhmhihpdmoiaaGreat.Fx
open Go Go.RowKit Go.Lib
open Go.Proofs.YtbbhmhihpdmoiaaGreat.Pk (Bs By cutA)
/-- the chapter's smallest scene -/
def oneS : ScR := ⟨1, 1, zero16, none, [], 0⟩
def oneK : KeyS := (1, 1, zero16, [])
theorem oneS_key : keyS oneS = oneK := rfl
theorem oneS_wf : ScWf oneS := ⟨⟨by decide, by decide⟩, ⟨by decide, by decide⟩, rfl, zeroS_wf.num, zeroS_wf.cap⟩
theorem oneS_at (W : World) : ObjsAt W none [] := fun k z hk => by simp at hk
theorem oneS_ok : okZ oneS = true := by kernel_rfl
theorem oneK_ok : okK oneK = true := by rw [← oneS_key, ← ok_key]; exact oneS_ok
theorem oneK_d (W : World) : dSc oneK := ok_dSc (s := oneS) (W := W) oneS_wf (oneS_at W) oneS_ok
theorem one_len : (bytesK oneK).length = 27 := by kernel_rfl
theorem one_take : (bytesK oneK).take 23 = [109, 117, 108, 49, 1, 1] ++ List.replicate 17 0 := by kernel_rfl
theorem one_enc : encO oneS = some (bytesK oneK) := by unfold encO; rw [oneS_ok]; rfl
theorem one_by (W : World) : By (bytesK oneK) := by
  unfold By
  intro c hc
  exact (List.all_eq_true.1 (show (bytesK oneK).all (fun c => decide (c < 256)) = true by kernel_rfl) c hc) |> of_decide_eq_true
theorem exec_high {o : Oper} {a : Act} {W : World} (x y : Operand) (ho : o.op = .slice 31 x none (some y) none) (oa : Option Addr) (n c h : Nat) (j : Int) (hj : j = (h : Int)) (hx : a.eval x = .slice oa n c) (hy : a.eval y = .int .i64 j)
    (hh : h ≤ c) (hn : oa = none → c = 0) (hs : 0 < c → ∀ a, oa = some a → a.spot = none) :
    (execOp a.eval o).run Tryz.prog W = .ok (.value (.slice (cutA oa c 0) h c)) W := by
  subst hj
  have ht' : Tryz.prog.underlying 31 = some (.slice (Tryz.prog.elem 31)) := by simp [Program.elem, Tryz.underlying31]
  have h1 := Pk.run_cut W oa n c 0 h (Nat.zero_le _) hh hn hs
  have h2 := run_slice_h W 31 oa n c ht' .i64 (h : Int) (by omega) (by omega)
  have h3 := run_slice_lh W 31 oa n c ht' .i64 .i64 ((0 : Nat) : Int) (h : Int) (by omega) (by omega) (by omega)
  have h4 : (Instr.slice 31 (.slice oa n c) none (some (.int .i64 (h : Int))) none).run Tryz.prog W = .ok (.slice (cutA oa c 0) h c) W := by
    have e : (Instr.slice 31 (.slice oa n c) none (some (.int .i64 (h : Int))) none).run Tryz.prog W = (Instr.slice 31 (.slice oa n c) (some (.int .i64 ((0 : Nat) : Int))) (some (.int .i64 (h : Int))) none).run Tryz.prog W := by
      rw [h2, h3]
      simp
    rw [e, h1]
    simp
  unfold execOp
  simp only [ho, hx, hy, Option.map_some, Option.map_none, Sem.run_bind, run_sliceAt_slice W 31 _ _ _ _ ht', h4, Result.andThen_ok, Sem.run_pure]
theorem exec_conv {o : Oper} {a : Act} {W : World} (src dst : TypeId) (x : Operand) (ho : o.op = .convert src dst x) (vx v : Value) (hx : a.eval x = vx) (hrun : (convert src dst vx).run Tryz.prog W = .ok v W) :
    (execOp a.eval o).run Tryz.prog W = .ok (.value v) W := by
  unfold execOp
  simp only [ho, hx, Sem.run_bind, hrun, Result.andThen_ok, Sem.run_pure]
theorem wpIn_conv {n : Nat} {o : Oper} {a : Act} {w : World} {K : Act → World → Prop} {Q : Exit → Act → World → Prop} (src dst : TypeId) (x : Operand) (ho : o.op = .convert src dst x) (v : Value) (hrun : (execOp a.eval o).run Tryz.prog w = .ok (.value v) w)
    (h : K (a.put o.dst v) w) : Oper.wpIn Fence.wide n Tryz.prog o a w K Q := by
  unfold Oper.wpIn
  refine ⟨fun f _ => trivial, ?_⟩
  rw [Oper.semAt_plain _ _ _ (by rw [ho]; intro c hc'; cases hc'), hrun]
  exact h
set_option maxRecDepth 100000 in
set_option maxHeartbeats 8000000 in
theorem alive7_any (w : World) : Calls Tryz.prog 29 #[] w (RetBool true w) := by
  obtain ⟨A1, hA1⟩ : ∃ V, w.alloc (.cells #[.int .i64 0, .int .i64 0, .int .i64 0, .int .i64 0, .int .i64 0, .int .i64 0, .int .i64 0, .int .i64 0, .int .i64 0, .int .i64 0, .int .i64 0, .int .i64 0, .int .i64 0, .int .i64 0, .int .i64 0, .int .i64 0, .int .i64 0, .int .i64 0, .slice none 0 0] 28) = V := ⟨_, rfl⟩
  obtain ⟨A2, hA2⟩ : ∃ V, A1.setRow w.heap.size (scC oneS) = V := ⟨_, rfl⟩
  have r1 : RowAt 28 w.heap.size #[.int .i64 0, .int .i64 0, .int .i64 0, .int .i64 0, .int .i64 0, .int .i64 0, .int .i64 0, .int .i64 0, .int .i64 0, .int .i64 0, .int .i64 0, .int .i64 0, .int .i64 0, .int .i64 0, .int .i64 0, .int .i64 0, .int .i64 0, .int .i64 0, .slice none 0 0] A1 := by rw [← hA1]; exact RowAt.new _ _ _
  have r2 : A2.heap[w.heap.size]? = some (.cells (scC oneS) 28 (0, 0)) := by rw [← hA2]; exact setRow_heap _ _ _ _ _ _ r1
  have b2 : Below w.heap.size w A2 := by rw [← hA2, ← hA1]; exact Below.row ((Below.refl _ _).alloc (Nat.le_refl _) _) (Nat.le_refl _) _
  have HEN := Lib.hid (show Calls Tryz.prog 12 #[.agg (scC oneS)] A2 (RetEn (some (bytesK oneK)) A2) from one_enc ▸ pencode_any oneS A2 oneS_wf (oneS_at _))
  have HX : Hid (A2.rangeAt w.heap.size 0 (scL oneS)) := Lib.hid (fun j u hj => by rw [cell_of_row _ _ _ _ _ _ r2, Nat.zero_add]; show (scL oneS).toArray[j]? = some u; simpa using hj)
  have hi1 := Lib.hid (show (Tryz.prog.info? 28).map (·.size) = some (scL oneS).length by kernel_rfl)
  have hi2 := Lib.hid (show (Tryz.prog.info? 28).map (·.size) = some (scC oneS).size by kernel_rfl)
  have hs2 := Lib.hid (show 19 = (scC oneS).size from rfl)
  have ho2 := Lib.hid (show (scC oneS).all (·.oneCell') = true from twL_one oneS (.slice none 0 0) rfl)
  have HR1 := Lib.hid r1
  have HR2 := Lib.hid r2
  have HB2 := Lib.hid b2
  have HA1 := Lib.hid hA1
  have HA2 := Lib.hid hA2
  have HBY := Lib.hid (one_by w)
  have HTK := Lib.hid one_take
  have HLN := Lib.hid one_len
  have HDE := Lib.hid (show decK (bytesK oneK) = (some oneK, 0) by rw [dec_bytes (oneK_d w), if_pos oneK_ok])
  obtain ⟨L, hL⟩ : ∃ L, bytesK oneK = L := ⟨_, rfl⟩
  rw [hL] at HEN HBY HTK HLN HDE
  clear r1 r2 b2 hA1 hA2 hL
  unfold RetEn erE at HEN
  simp only [Option.isSome_some, if_true, Option.getD_some] at HEN
  go_enter Tryz.func29, Tryz.ntmps29
  go_wp2_with (first | (rw [HA1.out]) | (with_reducible refine stop_at (some 6) rfl ?_; refine Lib.hid ?_; refine wpList_valX rfl (.agg (scC oneS)) w (by kernel_rfl) ?_) | (refine wpList_store_big rfl 28 (.tmp 1) (.tmp 6) rfl w.heap.size _ _ (scC oneS) rfl rfl HR1.out hi2.out hs2.out ho2.out ?_) | (rw [HA2.out]) | (with_reducible refine stop_at (some 8) rfl ?_; refine Lib.hid ?_; refine wpList_load_mid rfl 28 (.tmp 1) rfl w.heap.size 0 rfl (scL oneS) _ HX.out Tryz.underlying28 rfl hi1.out ?_))
  refine HEN.out.mono ?_
  rintro e w3 ⟨⟨v3, rfl, hown3⟩, hb3⟩
  obtain ⟨o3, c3, rfl, hbs3, hc3, hc3m, hn3, hsp3⟩ := hown3.open
  have HPD := Lib.hid (pdecode_any L o3 c3 w3 HBY.out (by have := HLN.out; omega) hc3 hc3m hbs3)
  rw [HLN.out] at HPD
  have HBS3 := Lib.hid hbs3
  have HC3 := Lib.hid hc3
  have HN3 := Lib.hid (show o3 = none → c3 = 0 from hn3)
  have HSP3 := Lib.hid (show 0 < c3 → ∀ a, o3 = some a → a.spot = none from fun _ a ha => by obtain ⟨g, rfl, _⟩ := hsp3 a ha; rfl)
  have HB3 := Lib.hid (bnext HB2.out hb3)
  have HR3 := Lib.hid (show RowAt 28 w.heap.size (scC oneS) w3 from keep_row hb3 HR2.out)
  unfold RetDe at HPD
  rw [HDE.out] at HPD
  rw [HLN.out]
  clear hown3 hbs3 hc3 hc3m hn3 hsp3 hb3 HEN HX HR1 HR2 HB2 HA1 HA2 HDE
  go_wp2_with fail
  refine HPD.out.mono ?_
  rintro e w4 ⟨⟨t, rfl, hfr, hkey⟩, hb4⟩
  obtain ⟨A5, hA5⟩ : ∃ V, w4.alloc (.cells #[.int .i64 0, .int .i64 0, .int .i64 0, .int .i64 0, .int .i64 0, .int .i64 0, .int .i64 0, .int .i64 0, .int .i64 0, .int .i64 0, .int .i64 0, .int .i64 0, .int .i64 0, .int .i64 0, .int .i64 0, .int .i64 0, .int .i64 0, .int .i64 0, .slice none 0 0] 28) = V := ⟨_, rfl⟩
  obtain ⟨A6, hA6⟩ : ∃ V, A5.setRow w4.heap.size (scC t) = V := ⟨_, rfl⟩
  have r5 : RowAt 28 w4.heap.size #[.int .i64 0, .int .i64 0, .int .i64 0, .int .i64 0, .int .i64 0, .int .i64 0, .int .i64 0, .int .i64 0, .int .i64 0, .int .i64 0, .int .i64 0, .int .i64 0, .int .i64 0, .int .i64 0, .int .i64 0, .int .i64 0, .int .i64 0, .int .i64 0, .slice none 0 0] A5 := by rw [← hA5]; exact RowAt.new _ _ _
  have r6 : RowAt 28 w4.heap.size (scC t) A6 := by rw [← hA6]; exact setRow_heap _ _ _ _ _ _ r5
  have b6 : Below w4.heap.size w4 A6 := by rw [← hA6, ← hA5]; exact Below.row ((Below.refl _ _).alloc (Nat.le_refl _) _) (Nat.le_refl _) _
  have b36 := bnext hb4 b6
  have HR6 := Lib.hid r6
  have HR5 := Lib.hid r5
  have HR1 := Lib.hid (show RowAt 28 w.heap.size (scC oneS) A6 from keep_row b36 HR3.out)
  have HB6 := Lib.hid (bnext HB3.out b36)
  have HFR := Lib.hid (show FreshS w3.heap.size t A6 from hfr.rows (Rows.of_below b6) (Rows.of_below b6) (Rows.of_below b6))
  have HBS := Lib.hid (HBS3.out.below b36)
  have HKEY := Lib.hid (show keyS t = oneK from hkey)
  have hi5 := Lib.hid (sizeZ t hfr.wf (.slice t.oo t.os.length t.oc))
  have hs5 := Lib.hid (show 19 = (scC t).size from (twL_len hfr.wf (.slice t.oo t.os.length t.oc)).symm)
  have ho5 := Lib.hid (show (scC t).all (·.oneCell') = true from twL_one t (.slice t.oo t.os.length t.oc) rfl)
  have HA5 := Lib.hid hA5
  have HA6 := Lib.hid hA6
  clear r5 r6 b6 b36 hfr hkey hb4 hA5 hA6 HPD HBS3 HB3 HR3
  go_wp2_with (first | (rw [HA5.out]) | (refine wpList_store_big rfl 28 (.tmp 4) (.tmp 15) rfl w4.heap.size _ _ (scC t) rfl rfl HR5.out hi5.out hs5.out ho5.out ?_) | (rw [HA6.out]))
  clear hi1 hs2 ho2 hs5 ho5 HA5 HA6 HR5
  obtain ⟨Lb, hLb⟩ : ∃ Lb, [109, 117, 108, 49, 1, 1] ++ List.replicate 17 0 = Lb := ⟨_, rfl⟩
  rw [hLb] at HTK
  have HLB := Lib.hid hLb
  have HLL := Lib.hid (show Lb.length = 23 by rw [← hLb]; rfl)
  obtain ⟨sx, hsx⟩ : ∃ sx, Pk.bstr Lb = sx := ⟨_, rfl⟩
  have HSX := Lib.hid hsx
  have HCV : Hid (∀ X, Below A6.heap.size A6 X → (convert 31 9 (.slice (cutA o3 c3 0) 23 c3)).run Tryz.prog X = .ok (.string sx) X) := Lib.hid (fun X hX => by
    have hb := Pk.Bs.cut (l := 0) (h := 23) (HBS.out.below hX) (Nat.zero_le _) (by rw [HLN.out]; omega) HC3.out
    rw [List.drop_zero, show 23 - 0 = 23 from rfl, HTK.out] at hb
    have := Pk.conv_bs c3 HLL.out hb
    rw [← HSX.out]
    exact this)
  have HBA : Hid (∀ X, Calls Tryz.prog 28 #[.int .u8 1] X (RetBs Lb X)) := Lib.hid (fun X => by rw [← HLB.out]; exact bare_any 1 (by omega) X)
  have HSM : Hid (∀ X, Below A6.heap.size A6 X → Calls Tryz.prog 15 #[.agg (scC oneS), .agg (scC t)] X fun e w' => e = .returned (.bool true) ∧ Below X.heap.size X w') := Lib.hid (fun X hX => by
    have hf := HFR.out.rows (Rows.of_below hX) (Rows.of_below hX) (Rows.of_below hX)
    have := zsame_any oneS t X oneS_wf hf.wf (oneS_at _) hf.at
    rw [decide_eq_true ((keyS_same oneS t).2 (by rw [HKEY.out]; rfl))] at this
    exact this)
  have HC23 := Lib.hid (show 23 ≤ c3 by have := HC3.out; have := HLN.out; omega)
  clear hLb hsx HTK HLN HBY HC3 HBS HKEY HFR
  rename_i K3 hK3
  refine (wpIn_wide (n := 5)).1 (give_region (S := fun X => Below A6.heap.size A6 X) (Z := []) (by kernel_rfl) (by kernel_rfl) below_mono (fun d _ _ _ _ h => by cases d <;> exact h) (bdrew0 _ _ 1) (fun hG vw0 hw0 => ?_))
  refine give_pure [] 0 (?_) hG rfl (by kernel_rfl) hw0 (by kernel_rfl) ?_ ?_
  rotate_left
  · intro wz hSw; (first | (go_simp; done) | (go_simp; with_reducible rfl))
  intro vw1 hw1
  clear hw0 vw0
  (try simp only [Act.put, List.getElem_toArray, List.getElem_cons_zero, List.getElem_cons_succ, List.setIfInBounds_toArray, List.set_cons_zero, List.set_cons_succ])
  refine give_pure [] 1 (?_) hG rfl (by kernel_rfl) hw1 (by kernel_rfl) ?_ ?_
  rotate_left
  · intro wz hSw; (first | (go_simp; done) | (go_simp; with_reducible rfl))
  intro vw2 hw2
  clear hw1 vw1
  (try simp only [Act.put, List.getElem_toArray, List.getElem_cons_zero, List.getElem_cons_succ, List.setIfInBounds_toArray, List.set_cons_zero, List.set_cons_succ])
  refine give_pure [] 2 (?_) hG rfl (by kernel_rfl) hw2 (by kernel_rfl) ?_ ?_
  rotate_left
  · intro wz hSw; (first | (go_simp; done) | (go_simp; with_reducible rfl))
  intro vw3 hw3
  clear hw2 vw2
  (try simp only [Act.put, List.getElem_toArray, List.getElem_cons_zero, List.getElem_cons_succ, List.setIfInBounds_toArray, List.set_cons_zero, List.set_cons_succ])
  refine give_pure [] 3 (?_) hG rfl (by kernel_rfl) hw3 (by kernel_rfl) ?_ ?_
  rotate_left
  · intro wz hSw; (first | (go_simp; done) | (go_simp; with_reducible rfl))
  intro vw4 hw4
  clear hw3 vw3
  (try simp only [Act.put, List.getElem_toArray, List.getElem_cons_zero, List.getElem_cons_succ, List.setIfInBounds_toArray, List.set_cons_zero, List.set_cons_succ])
  refine give_pure [] 4 (?_) hG rfl (by kernel_rfl) hw4 (by kernel_rfl) ?_ ?_
  rotate_left
  · intro wz hSw; (first | (go_simp; done) | (go_simp; with_reducible rfl))
  intro vw5 hw5
  clear hw4 vw4
  (try simp only [Act.put, List.getElem_toArray, List.getElem_cons_zero, List.getElem_cons_succ, List.setIfInBounds_toArray, List.set_cons_zero, List.set_cons_succ])
  refine give_pure [] 5 (?_) hG rfl (by kernel_rfl) hw5 (by kernel_rfl) ?_ ?_
  rotate_left
  · intro wz hSw; (first | (go_simp; done) | (go_simp; with_reducible rfl))
  intro vw6 hw6
  clear hw5 vw5
  (try simp only [Act.put, List.getElem_toArray, List.getElem_cons_zero, List.getElem_cons_succ, List.setIfInBounds_toArray, List.set_cons_zero, List.set_cons_succ])
  refine give_pure [] 6 (?_) hG rfl (by kernel_rfl) hw6 (by kernel_rfl) ?_ ?_
  rotate_left
  · intro wz hSw; (first | (go_simp; done) | (go_simp; with_reducible rfl))
  intro vw7 hw7
  clear hw6 vw6
  (try simp only [Act.put, List.getElem_toArray, List.getElem_cons_zero, List.getElem_cons_succ, List.setIfInBounds_toArray, List.set_cons_zero, List.set_cons_succ])
  refine give_pure [] 7 (?_) hG rfl (by kernel_rfl) hw7 (by kernel_rfl) ?_ ?_
  rotate_left
  · intro wz hSw; (first | (go_simp; done) | (go_simp; with_reducible rfl))
  intro vw8 hw8
  clear hw7 vw7
  (try simp only [Act.put, List.getElem_toArray, List.getElem_cons_zero, List.getElem_cons_succ, List.setIfInBounds_toArray, List.set_cons_zero, List.set_cons_succ])
  refine give_pure [] 8 (?_) hG rfl (by kernel_rfl) hw8 (by kernel_rfl) ?_ ?_
  rotate_left
  · intro wz hSw; (first | (go_simp; done) | (go_simp; with_reducible rfl))
  intro vw9 hw9
  clear hw8 vw8
  (try simp only [Act.put, List.getElem_toArray, List.getElem_cons_zero, List.getElem_cons_succ, List.setIfInBounds_toArray, List.set_cons_zero, List.set_cons_succ])
  refine give_pure [] 9 (.slice (cutA o3 c3 0) 23 c3) hG rfl (by kernel_rfl) hw9 (by kernel_rfl) ?_ ?_
  · intro wz hSw; exact exec_high (.tmp 25) (.const (.int .i64 23)) (by kernel_rfl) o3 27 c3 23 23 rfl (by kernel_rfl) (by kernel_rfl) HC23.out HN3.out HSP3.out
  intro vw10 hw10
  clear hw9 vw9
  (try simp only [Act.put, List.getElem_toArray, List.getElem_cons_zero, List.getElem_cons_succ, List.setIfInBounds_toArray, List.set_cons_zero, List.set_cons_succ])
  refine give_pure [] 10 (.string sx) hG rfl (by kernel_rfl) hw10 (by kernel_rfl) ?_ ?_
  · intro wz hSw; exact exec_conv 31 9 (.tmp 26) (by kernel_rfl) (.slice (cutA o3 c3 0) 23 c3) _ (by kernel_rfl) (HCV.out _ hSw)
  intro vw11 hw11
  clear hw10 vw10
  (try simp only [Act.put, List.getElem_toArray, List.getElem_cons_zero, List.getElem_cons_succ, List.setIfInBounds_toArray, List.set_cons_zero, List.set_cons_succ])
  refine give_step 11 (by kernel_rfl) rfl (fun K hK => ?_)
  rw [if_pos (by kernel_rfl)]
  refine wpIn_call_any 28 #[.int .u8 1] (by first | (go_simp; done) | (go_simp; with_reducible rfl)) _ _ _ rfl (HBA.out _) (fun e wb hp => ?_)
  obtain ⟨⟨v9, rfl, hown9⟩, hb9⟩ := hp
  obtain ⟨o9, c9, rfl, hbs9, _⟩ := hown9.open
  rw [HLL.out]
  have hS9 : Below A6.heap.size A6 wb := bnext hw11 hb9
  refine ⟨_, rfl, hK.out _ _ (fun _ => hS9) (fun vwa hbn => ?_)⟩
  have hSa := below_mono _ _ hS9 hbn
  have hbsa := hbs9.below hbn
  clear hK K
  (try simp only [Act.put, List.getElem_toArray, List.getElem_cons_zero, List.getElem_cons_succ, List.setIfInBounds_toArray, List.set_cons_zero, List.set_cons_succ])
  refine give_step 12 (by kernel_rfl) rfl (fun K hK => ?_)
  rw [if_pos (by kernel_rfl)]
  refine wpIn_conv 31 9 (.tmp 28) (by kernel_rfl) (.string sx) (exec_conv 31 9 (.tmp 28) (by kernel_rfl) (.slice o9 23 c9) _ (by kernel_rfl) (by rw [← HSX.out]; exact Pk.conv_bs c9 HLL.out hbsa)) ?_
  refine hK.out _ _ (fun _ => hSa) (fun vwb hbn2 => ?_)
  have hSb := below_mono _ _ hSa hbn2
  clear hbn2
  clear hK K
  (try simp only [Act.put, List.getElem_toArray, List.getElem_cons_zero, List.getElem_cons_succ, List.setIfInBounds_toArray, List.set_cons_zero, List.set_cons_succ])
  refine give_pure [] 13 (?_) hG rfl (by kernel_rfl) hSb (by kernel_rfl) ?_ ?_
  rotate_left
  · intro wz hSw; (first | (go_simp; done) | (go_simp; with_reducible rfl))
  intro vw12 hw12
  clear hSb vwb
  (try simp only [Act.put, List.getElem_toArray, List.getElem_cons_zero, List.getElem_cons_succ, List.setIfInBounds_toArray, List.set_cons_zero, List.set_cons_succ])
  refine give_pure [] 14 (?_) hG rfl (by kernel_rfl) hw12 (by kernel_rfl) ?_ ?_
  rotate_left
  · intro wz hSw; (first | (go_simp; done) | (go_simp; with_reducible rfl))
  intro vw13 hw13
  clear hw12 vw12
  (try simp only [Act.put, List.getElem_toArray, List.getElem_cons_zero, List.getElem_cons_succ, List.setIfInBounds_toArray, List.set_cons_zero, List.set_cons_succ])
  refine give_pure [] 15 (?_) hG rfl (by kernel_rfl) hw13 (by kernel_rfl) ?_ ?_
  rotate_left
  · intro wz hSw; (first | (go_simp; done) | (go_simp; with_reducible rfl))
  intro vw14 hw14
  clear hw13 vw13
  (try simp only [Act.put, List.getElem_toArray, List.getElem_cons_zero, List.getElem_cons_succ, List.setIfInBounds_toArray, List.set_cons_zero, List.set_cons_succ])
  refine give_pure [] 16 (?_) hG rfl (by kernel_rfl) hw14 (by kernel_rfl) ?_ ?_
  rotate_left
  · intro wz hSw; (first | (go_simp; done) | (go_simp; with_reducible rfl))
  intro vw15 hw15
  clear hw14 vw14
  (try simp only [Act.put, List.getElem_toArray, List.getElem_cons_zero, List.getElem_cons_succ, List.setIfInBounds_toArray, List.set_cons_zero, List.set_cons_succ])
  refine give_pure [] 17 (?_) hG rfl (by kernel_rfl) hw15 (by kernel_rfl) ?_ ?_
  rotate_left
  · intro wz hSw; (first | (go_simp; done) | (go_simp; with_reducible rfl))
  intro vw16 hw16
  clear hw15 vw15
  (try simp only [Act.put, List.getElem_toArray, List.getElem_cons_zero, List.getElem_cons_succ, List.setIfInBounds_toArray, List.set_cons_zero, List.set_cons_succ])
  refine give_pure [] 18 (?_) hG rfl (by kernel_rfl) hw16 (by kernel_rfl) ?_ ?_
  rotate_left
  · intro wz hSw; (first | (go_simp; done) | (go_simp; with_reducible rfl))
  intro vw17 hw17
  clear hw16 vw16
  (try simp only [Act.put, List.getElem_toArray, List.getElem_cons_zero, List.getElem_cons_succ, List.setIfInBounds_toArray, List.set_cons_zero, List.set_cons_succ])
  refine give_pure [] 19 (?_) hG rfl (by kernel_rfl) hw17 (by kernel_rfl) ?_ ?_
  rotate_left
  · intro wz hSw; (first | (go_simp; done) | (go_simp; with_reducible rfl))
  intro vw18 hw18
  clear hw17 vw17
  (try simp only [Act.put, List.getElem_toArray, List.getElem_cons_zero, List.getElem_cons_succ, List.setIfInBounds_toArray, List.set_cons_zero, List.set_cons_succ])
  refine give_pure [] 20 (.agg (scC oneS)) hG rfl (by kernel_rfl) hw18 (by kernel_rfl) ?_ ?_
  · intro wz hSw; exact exec_load_row 28 (.tmp 1) (by kernel_rfl) w.heap.size (by kernel_rfl) _ _ _ _ (HR1.out.below hSw) Tryz.underlying28 (by kernel_rfl) hi2.out
  intro vw19 hw19
  clear hw18 vw18
  (try simp only [Act.put, List.getElem_toArray, List.getElem_cons_zero, List.getElem_cons_succ, List.setIfInBounds_toArray, List.set_cons_zero, List.set_cons_succ])
  refine give_pure [] 21 (.agg (scC t)) hG rfl (by kernel_rfl) hw19 (by kernel_rfl) ?_ ?_
  · intro wz hSw; exact exec_load_row 28 (.tmp 4) (by kernel_rfl) w4.heap.size (by kernel_rfl) _ _ _ _ (HR6.out.below hSw) Tryz.underlying28 (by kernel_rfl) hi5.out
  intro vw20 hw20
  clear hw19 vw19
  (try simp only [Act.put, List.getElem_toArray, List.getElem_cons_zero, List.getElem_cons_succ, List.setIfInBounds_toArray, List.set_cons_zero, List.set_cons_succ])
  refine give_callS [] 22 15 #[.agg (scC oneS), .agg (scC t)] (.bool true) hG rfl (by kernel_rfl) hw20 (by kernel_rfl) ?_ (fun X hX => HSM.out X hX) ?_
  · intro wz; (first | (go_simp; done) | (go_simp; with_reducible rfl))
  intro vw21 hw21
  clear hw20 vw20
  (try simp only [Act.put, List.getElem_toArray, List.getElem_cons_zero, List.getElem_cons_succ, List.setIfInBounds_toArray, List.set_cons_zero, List.set_cons_succ])
  refine give_pure [] 23 (?_) hG rfl (by kernel_rfl) hw21 (by kernel_rfl) ?_ ?_
  rotate_left
  · intro wz hSw; (first | (go_simp; done) | (go_simp; with_reducible rfl))
  intro vw22 hw22
  clear hw21 vw21
  (try simp only [Act.put, List.getElem_toArray, List.getElem_cons_zero, List.getElem_cons_succ, List.setIfInBounds_toArray, List.set_cons_zero, List.set_cons_succ])
  refine give_pure [] 24 (?_) hG rfl (by kernel_rfl) hw22 (by kernel_rfl) ?_ ?_
  rotate_left
  · intro wz hSw; (first | (go_simp; done) | (go_simp; with_reducible rfl))
  intro vw23 hw23
  clear hw22 vw22
  (try simp only [Act.put, List.getElem_toArray, List.getElem_cons_zero, List.getElem_cons_succ, List.setIfInBounds_toArray, List.set_cons_zero, List.set_cons_succ])
  refine give_done (by kernel_rfl) (?_) _
  refine hK3 _ _ ?_
  have HE := Lib.hid (bnext HB6.out hw23)
  go_wp2_with fail
  go_ret
  exact ⟨rfl, HE.out⟩
end Go.Proofs.YtbbhmhihpdmoiaaGreat.Fx

