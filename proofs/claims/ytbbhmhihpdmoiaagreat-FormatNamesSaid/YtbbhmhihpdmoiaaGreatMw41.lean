import Derived.Laws.Rows
import Derived.Test.YtbbhmhihpdmoiaaGreatProg
import Derived.Deep.QuietTactic
import Derived.BigQuiet
import Derived.WalkSmall
import Derived.Lib.AppendZerosOnto
import Derived.Lib.SlBytesConst
import Derived.Test.YtbbhmhihpdmoiaaGreatMw40
set_option linter.unusedVariables false
set_option linter.unusedSimpArgs false
namespace Go.Proofs.YtbbhmhihpdmoiaaGreat.Fx
open Go Go.RowKit
open Go.Proofs.YtbbhmhihpdmoiaaGreat.Pk (PR RdOk By Bs)
set_option maxRecDepth 100000 in
set_option maxHeartbeats 2000000 in
theorem spoilt_any (o : Option Addr) (c : Nat) (l : List Nat) (p a : Nat) (lost : Bool) (w : World) (k : RdOk l a) (h : PR o c l p a lost w) :
  Calls Tryz.prog 51 #[.pointer (some ⟨p, 0, none⟩)] w fun e w' => e = .returned (.bool lost) ∧ Below w.heap.size w w' := by
 have HL := Lib.hid (Pk.pleft_any o c l p a lost w k h)
 have HH := Lib.hid h
 have HK := Lib.hid k
 have ha := k.at'
 cases lost
 ·by_cases hn : a = l.length
  ·have h1 : Pk.lfV false l a = 0 := by simp [Pk.lfV, hn]
   rw [h1] at HL
   clear h k h1 ha
   go_enter Tryz.func51, Tryz.ntmps51
   go_wp2_with fail
   refine HL.out.mono ?_
   rintro e w1 ⟨rfl, hb⟩
   have HE := Lib.hid (Pk.pend_any o c l p a false w1 HK.out (HH.out.below hb))
   rw [show Pk.endV false l.length a = 0 by simp [Pk.endV, hn]] at HE
   have HB := Lib.hid hb
   clear hb HL HH hn
   go_wp2_with fail
   refine HE.out.mono ?_
   rintro e w2 ⟨rfl, hb⟩
   have HB2 := Lib.hid (bnext HB.out hb)
   clear hb HE HB
   go_wp2_with fail
   go_ret
   exact ⟨rfl, HB2.out⟩
  ·obtain ⟨n, hn2⟩ : ∃ n : Nat, Pk.lfV false l a = n := ⟨_, rfl⟩
   have hn3 : 0 < n := by rw [← hn2]; simp [Pk.lfV]; omega
   rw [hn2] at HL
   have hn4 : ¬ ((n : Int) = 0) := by omega
   have hn5 : decide ((n : Int) = 0) = false := by simpa using hn4
   clear h k ha hn hn2
   go_enter Tryz.func51, Tryz.ntmps51
   go_wp2_with fail
   refine HL.out.mono ?_
   rintro e w1 ⟨rfl, hb⟩
   have HB := Lib.hid hb
   clear hb HL HH
   go_wp2_with fail
   go_ret
   exact ⟨rfl, HB.out⟩
 ·have h1 : Pk.lfV true l a = 0 := by simp [Pk.lfV]
  rw [h1] at HL
  clear h k h1 ha
  go_enter Tryz.func51, Tryz.ntmps51
  go_wp2_with fail
  refine HL.out.mono ?_
  rintro e w1 ⟨rfl, hb⟩
  have HE := Lib.hid (Pk.pend_any o c l p a true w1 HK.out (HH.out.below hb))
  rw [show Pk.endV true l.length a = 50 by simp [Pk.endV]] at HE
  have HB := Lib.hid hb
  clear hb HL HH
  go_wp2_with fail
  refine HE.out.mono ?_
  rintro e w2 ⟨rfl, hb⟩
  have HB2 := Lib.hid (bnext HB.out hb)
  clear hb HE HB
  go_wp2_with fail
  go_ret
  exact ⟨rfl, HB2.out⟩
theorem results_tmp4 {fn : Func} {t u v x : Tmp} (h : fn.results = #[.tmp t, .tmp u, .tmp v, .tmp x]) (tmps : Array Value) (P : Program) (w : World) :
  (results fn tmps).run P w = .ok (.tuple #[tmps.getD t undef, tmps.getD u undef, tmps.getD v undef, tmps.getD x undef]) w := by
 simp [results, h, Sem.run_bind, Result.andThen, Sem.run_pure]
def headK (l : List Nat) : Int × Int × Int × Int := match behind mark1 l with
 | none => (0, 0, 0, begE mark1 l)
 | some r => match pSeq pFrame (pU 16) r 0 with
  | none => (0, 0, 0, 70)
  | some ((f, n), _) => (f.1, f.2.1, n, 0)
def RetHd (l : List Nat) (w : World) (e : Ending) (w' : World) : Prop := e = .returned (.tuple #[.int .i64 (headK l).1, .int .i64 (headK l).2.1, .int .i64 (headK l).2.2.1, .int .i64 (headK l).2.2.2]) ∧ Below w.heap.size w w'
set_option maxRecDepth 100000 in
set_option maxHeartbeats 4000000 in
theorem phead_any (l : List Nat) (o : Option Addr) (c : Nat) (w : World) (hl : By l) (hlen : l.length ≤ 900000) (hc : l.length ≤ c) (hc2 : c ≤ 9223372036854775807) (hb : Bs w o l) :
  Calls Tryz.prog 18 #[.slice o l.length c] w (RetHd l w) := by
 have HO := Lib.hid (popened_any mark1 mark1_by (by decide) l o c w hl hlen hc hc2 hb)
 rw [show Pk.bstr mark1 = ⟨#[109, 117, 108, 49]⟩ from rfl] at HO
 have HBY := Lib.hid (show ∀ r, behind mark1 l = some r → By r ∧ r.length ≤ 900000 from fun r hr => by
  unfold behind at hr
  cases ho : Cx.opened l with
  | none => rw [ho] at hr; cases hr
  | some m =>
   rw [ho] at hr
   dsimp only at hr
   split at hr
   ·cases hr
    obtain ⟨h1, h2⟩ := opened_by hl ho
    exact ⟨fun x hx => h1 x (List.mem_of_mem_drop hx), by rw [List.length_drop]; omega⟩
   ·cases hr)
 clear hl hlen hc hc2 hb
 have HFZ : Hid (∀ (k : Int × Int × Int × Int) (X : World), headK l = k → Below w.heap.size w X → RetHd l w (.returned (.tuple #[.int .i64 k.1, .int .i64 k.2.1, .int .i64 k.2.2.1, .int .i64 k.2.2.2])) X) := Lib.hid (fun k X hd hb => by subst hd; exact ⟨rfl, hb⟩)
 unfold RetOp at HO
 cases hbh : behind mark1 l with
 | none =>
  have HD : Hid (headK l = (0, 0, 0, begE mark1 l)) := Lib.hid (by unfold headK; rw [hbh])
  have HNZ : Hid (begE mark1 l ≠ 0) := Lib.hid (by
   unfold behind at hbh
   unfold begE
   cases ho : Cx.opened l with
   | none => simp
   | some m =>
    rw [ho] at hbh
    dsimp only at hbh ⊢
    split at hbh
    ·cases hbh
    ·rename_i hh
     rw [if_neg hh]
     decide)
  simp only [hbh] at HO
  have hnz := HNZ.out
  generalize begE mark1 l = ec at HO HD hnz
  clear hbh HNZ
  go_enter Tryz.func18, Tryz.ntmps18
  go_wp2_with fail
  refine HO.out.mono ?_
  rintro e w1 ⟨hb1, rfl⟩
  have HB1 := Lib.hid hb1
  clear hb1 HO
  go_wp2_with fail
  (try simp only [Exit.inBlock, Exit.then])
  refine bodyPost_ret (results_tmp4 rfl _ _ _) rfl ?_
  exact HFZ.out (0, 0, 0, ec) _ HD.out HB1.out
 | some r =>
  have hbr := HBY.out r hbh
  simp only [hbh] at HO
  have hkb := Lib.hid hbr
  have HD : Hid (headK l = match pSeq pFrame (pU 16) r 0 with
   | none => (0, 0, 0, 70)
   | some ((f, n), _) => (f.1, f.2.1, n, 0)) := Lib.hid (by unfold headK; rw [hbh])
  clear hbr HBY hbh
  go_enter Tryz.func18, Tryz.ntmps18
  go_wp2_with fail
  refine HO.out.mono ?_
  rintro e w1 ⟨hb1, p, o1, c1, rfl, hpr, hp, hob⟩
  have hs1 := hb1.size
  have k0 : RdOk r 0 := ⟨hkb.out.1, by have := hkb.out.2; omega, by omega⟩
  have HF := Lib.hid (takef_any o1 c1 r p 0 false w1 k0 hpr (PR_hob hpr))
  have HK := Lib.hid k0
  have HOB := Lib.hid (show ∀ b off, o1 = some ⟨b, off, none⟩ → 0 < r.length → b < w1.heap.size from PR_hob hpr)
  have HPL := Lib.hid (show w.heap.size ≤ p ∧ p < w1.heap.size from ⟨by omega, hpr.lt⟩)
  have HB1 := Lib.hid hb1
  clear hb1 hpr hp hob hs1 k0 HO
  go_wp2_with fail
  refine HF.out.mono ?_
  rintro e w2 h2
  obtain ⟨hg2, f, a1, lo1, rfl, hn2, hp2, hl2, hrun2⟩ := OneG.use h2
  obtain ⟨hp0, hp1⟩ := HPL.out
  have hs2 := hg2.size
  have hb2 : Below w.heap.size w w2 := below_grown2 (Nat.le_refl _) HB1.out hg2 (fun k e => by cases e; omega)
  obtain ⟨V2, hV2⟩ : ∃ V, w2.alloc (.cells #[.int .i64 0, .int .i64 0, .int .i64 0, .int .i64 0, .int .i64 0, .int .i64 0, .int .i64 0, .int .i64 0, .int .i64 0, .int .i64 0, .int .i64 0, .int .i64 0, .int .i64 0, .int .i64 0, .int .i64 0, .int .i64 0, .int .i64 0, .int .i64 0, .slice none 0 0] 28) = V := ⟨_, rfl⟩
  obtain ⟨V3, hV3⟩ : ∃ V, V2.setRow w2.heap.size (frL f (.slice none 0 0)).toArray = V := ⟨_, rfl⟩
  have hx2 : V2.heap[w2.heap.size]? = some (.cells #[.int .i64 0, .int .i64 0, .int .i64 0, .int .i64 0, .int .i64 0, .int .i64 0, .int .i64 0, .int .i64 0, .int .i64 0, .int .i64 0, .int .i64 0, .int .i64 0, .int .i64 0, .int .i64 0, .int .i64 0, .int .i64 0, .int .i64 0, .int .i64 0, .slice none 0 0] 28 (0, 0)) := by rw [← hV2]; exact heap_alloc_new _ _
  have hx3 : V3.heap[w2.heap.size]? = some (.cells (frL f (.slice none 0 0)).toArray 28 (0, 0)) := by rw [← hV3]; exact setRow_heap _ _ _ _ _ _ hx2
  have hlow3 : Below w2.heap.size w2 V3 := by rw [← hV3, ← hV2]; exact Below.row ((Below.refl _ _).alloc (Nat.le_refl _) _) (Nat.le_refl _) _
  have hb3 : Below w.heap.size w V3 := bnext hb2 hlow3
  have hob2 : ∀ b off, o1 = some ⟨b, off, none⟩ → 0 < r.length → b < w2.heap.size := fun b off e hm => Nat.lt_of_lt_of_le (HOB.out b off e hm) hs2
  have hp3 := PR_low hp2 (by omega) hob2 hlow3
  have HM := Lib.hid (rsmall_any 16 (by omega) o1 c1 r p a1 lo1 V3 (rd_ok HK.out hl2) hp3)
  have hfl := hn2.2.2.1
  have hi2 := Lib.hid (show (Tryz.prog.info? 28).map (·.size) = some (frL f (.slice none 0 0)).toArray.size by rw [List.size_toArray, frL_len hfl]; kernel_rfl)
  have hs2' := Lib.hid (show 19 = (frL f (.slice none 0 0)).toArray.size by rw [List.size_toArray, frL_len hfl])
  have ho2 := Lib.hid (frL_one f (v := .slice none 0 0) rfl)
  have HX2 := Lib.hid hx2
  have HX3 := Lib.hid hx3
  have HB3 := Lib.hid hb3
  have HRU := Lib.hid hrun2
  have HV2 := Lib.hid hV2
  have HV3 := Lib.hid hV3
  have HSZ := Lib.hid (show w.heap.size ≤ p ∧ p < w2.heap.size from ⟨hp0, by omega⟩)
  clear h2 hg2 hn2 hp2 hl2 hrun2 hp0 hp1 hs2 hb2 hx2 hx3 hlow3 hb3 hob2 hp3 hfl hV2 hV3 HF HPL HB1 HOB
  go_wp2_with (first | (rw [HV2.out]) | (refine wpList_store_big rfl 28 (.tmp 7) (.tmp 17) rfl w2.heap.size _ _ (frL f (.slice none 0 0)).toArray rfl rfl HX2.out hi2.out hs2'.out ho2.out ?_) | (rw [HV3.out]))
  refine HM.out.mono ?_
  rintro e w4 h4
  obtain ⟨hg4, n, a2, lo2, rfl, hn4, hp4, hl4, hrun4⟩ := OneG.use h4
  obtain ⟨q1, q2⟩ := HSZ.out
  have hx4 : w4.heap[w2.heap.size]? = some (.cells (frL f (.slice none 0 0)).toArray 28 (0, 0)) := row_grown HX3.out hg4 (by omega)
  have hb4 : Below w.heap.size w w4 := below_grown2 (Nat.le_refl _) HB3.out hg4 (fun k e => by cases e; omega)
  have HS := Lib.hid (spoilt_any o1 c1 r p a2 lo2 w4 (rd_ok HK.out hl4) hp4)
  have hrun := runP_seq HRU.out hrun4
  rw [show runP false (pSeq pFrame (pU 16)) r 0 = pSeq pFrame (pU 16) r 0 from rfl] at hrun
  rw [hrun] at HD
  have HX4 := Lib.hid hx4
  have HB4 := Lib.hid hb4
  clear h4 hg4 hn4 hp4 hl4 hrun4 q1 q2 hx4 hb4 hrun HM HX2 HX3 HB3 HRU HV2 HV3 HSZ hi2 hs2' ho2 HK hkb
  cases lo2
  ·simp only [opt, Bool.false_eq_true, if_false] at HD
   go_wp2_with fail
   refine HS.out.mono ?_
   rintro e w5 ⟨rfl, hb⟩
   have hx5 := keep_row hb HX4.out
   have c0 : w5.cell? ⟨w2.heap.size, 0, none⟩ = some (.int .i64 f.1) := by rw [cell_of_row _ _ _ _ _ _ hx5]; rfl
   have c1 : w5.cell? ⟨w2.heap.size, 1, none⟩ = some (.int .i64 f.2.1) := by rw [cell_of_row _ _ _ _ _ _ hx5]; rfl
   have HB5 := Lib.hid (bnext HB4.out hb)
   clear hb hx5 HS HX4 HB4
   go_wp2_with fail
   go_quiet (fail)
   go_wp2_with fail
   (try simp only [Exit.inBlock, Exit.then])
   refine bodyPost_ret (results_tmp4 rfl _ _ _) rfl ?_
   exact HFZ.out (f.1, f.2.1, n, 0) _ HD.out (below_drewN HB5.out _)
  ·simp only [opt, if_true] at HD
   go_wp2_with fail
   refine HS.out.mono ?_
   rintro e w5 ⟨rfl, hb⟩
   have HB5 := Lib.hid (bnext HB4.out hb)
   clear hb HS HX4 HB4
   go_wp2_with fail
   (try simp only [Exit.inBlock, Exit.then])
   refine bodyPost_ret (results_tmp4 rfl _ _ _) rfl ?_
   exact HFZ.out (0, 0, 0, 70) _ HD.out HB5.out
end Go.Proofs.YtbbhmhihpdmoiaaGreat.Fx

set_option linter.unusedVariables false
set_option linter.unusedSimpArgs false
namespace Go.Proofs.YtbbhmhihpdmoiaaGreat.Fx
open Go Go.RowKit
open Go.Proofs.YtbbhmhihpdmoiaaGreat.Pk (By)
theorem le4_four (n : Nat) : (Cx.le4 n).length = 4 := by simp [Cx.le4]
theorem opened_seal (l : List Nat) : Cx.opened (sealL l) = some l := by
 have hl : (sealL l).length - 4 = l.length := by unfold sealL; rw [List.length_append, le4_four]; omega
 have h4 : 4 ≤ (sealL l).length := by unfold sealL; rw [List.length_append, le4_four]; omega
 have ht : (sealL l).take l.length = l := by unfold sealL; rw [List.take_left]
 have hd : (sealL l).drop l.length = Cx.le4 (Cx.more 0 l) := by unfold sealL; rw [List.drop_left]
 unfold Cx.opened
 rw [hl, ht, hd, if_pos ⟨h4, rfl⟩]
theorem seal_opened {l m : List Nat} (h : Cx.opened l = some m) : sealL m = l := by
 unfold Cx.opened at h
 split at h
 ·rename_i hc
  cases h
  unfold sealL
  rw [← hc.2, List.take_append_drop]
 ·cases h
theorem behind_mark (mk x : List Nat) : behind mk (sealL (mk ++ x)) = some x := by
 unfold behind
 rw [opened_seal]
 dsimp only
 rw [List.take_left, if_pos rfl, List.drop_left]
theorem behind_seal {mk l r : List Nat} (h : behind mk l = some r) : sealL (mk ++ r) = l := by
 unfold behind at h
 cases ho : Cx.opened l with
 | none => rw [ho] at h; cases h
 | some m =>
  rw [ho] at h
  dsimp only at h
  split at h
  ·rename_i hm
   cases h
   have := List.take_append_drop mk.length m
   rw [hm] at this
   rw [this]
   exact seal_opened ho
  ·cases h
theorem behind_by {mk l r : List Nat} (hl : By l) (h : behind mk l = some r) : By r := by
 unfold behind at h
 cases ho : Cx.opened l with
 | none => rw [ho] at h; cases h
 | some m =>
  rw [ho] at h
  dsimp only at h
  split at h
  ·cases h
   exact fun x hx => (opened_by hl ho).1 x (List.mem_of_mem_drop hx)
  ·cases h
theorem pSc_whole {k : KeyS} (h : dSc k) : pSc (fSc k) 0 = some (k, (fSc k).length) := by
 have := goodSc.put k h (fSc k) 0 [] (by omega) (by simp)
 rw [this, Nat.zero_add]
theorem dec_bytes {k : KeyS} (h : dSc k) : decK (bytesK k) = if okK k = true then (some k, 0) else (none, 60) := by
 unfold bytesK
 exact dec_end (behind_mark _ _) (pSc_whole h)
theorem dec_err {l : List Nat} {ec : Int} (h : decK l = (none, ec)) : ec ≠ 0 := by
 unfold decK at h
 cases hb : behind mark1 l with
 | none =>
  rw [hb] at h
  cases h
  unfold behind at hb
  unfold begE
  cases ho : Cx.opened l with
  | none => simp
  | some m =>
   rw [ho] at hb
   dsimp only at hb ⊢
   split at hb
   ·cases hb
   ·rename_i hh
    rw [if_neg hh]
    decide
 | some r =>
  rw [hb] at h
  dsimp only at h
  cases hp : pSc r 0 with
  | none => rw [hp] at h; cases h; decide
  | some q =>
   obtain ⟨k2, b⟩ := q
   rw [hp] at h
   dsimp only at h
   split at h
   ·split at h
    ·cases h
    ·cases h; decide
   ·cases h; decide
end Go.Proofs.YtbbhmhihpdmoiaaGreat.Fx

set_option linter.unusedVariables false
set_option linter.unusedSimpArgs false
namespace Go.Proofs.YtbbhmhihpdmoiaaGreat.Fx
open Go Go.RowKit Go.Lib
open Go.Proofs.YtbbhmhihpdmoiaaGreat.Pk (Bs By Own)
theorem zeroCells_u8 (k : Nat) : Builtin.zeroCells #[.int .u8 0] k = (List.replicate k (Value.int .u8 0)).toArray := by
 unfold Builtin.zeroCells
 apply Array.ext
 ·simp
 ·intro i h1 h2
  simp [Nat.mod_one]
theorem run_room_zeros {P : Program} (w : World) (t tn ty e : TypeId) (i : TypeInfo) (kq kn : IntKind) (ht : P.underlying t = some (.slice e)) (htn : P.underlying tn = some (.int kn)) (hi : P.info? e = some i) (hz : i.zero = some (.int .u8 0)) (hs : i.size = 1) (hby : i.bytes = 1)
  (g sLen sCap k : Nat) (cur : Array Value) (hg : w.heap[g]? = some (.cells cur e (0, 0))) (hk0 : 0 < k) (hk : k ≤ 1000) (hroom : sLen + k ≤ sCap) (hfit : sLen + k ≤ cur.size) :
  (Builtin.append_ #[t, tn] ty #[.slice (some ⟨g, 0, none⟩) sLen sCap, Value.int kq (k : Int)]).run P w =
   .ok (.slice (some ⟨g, 0, none⟩) (sLen + k) sCap) (w.setRow g (cur.toList.take sLen ++ List.replicate k (Value.int .u8 0) ++ cur.toList.drop (sLen + k)).toArray) := by
 have hw : IntKind.i64.wrap (k : Int) = k := by rw [IntKind.wrap_i64]; omega
 have hneg : ¬ ((k : Int) < 0) := by omega
 have h48i : ¬ (281474976710656 < (k : Int) * (i.bytes : Int)) := by rw [hby]; omega
 have hns : ¬ (k * i.size = 0) := by rw [hs]; omega
 have hst := run_storeCells_at P g sLen e (List.replicate k (Value.int .u8 0)) 0 cur w hg (by simpa using hfit) (fun v hv => by
  rw [List.mem_replicate] at hv
  rw [hv.2]
  rfl)
 simp only [Nat.add_zero, List.length_replicate] at hst
 have hzc : Builtin.zeroCells (Value.int .u8 0).cells k = (List.replicate k (Value.int .u8 0)).toArray := zeroCells_u8 k
 simp [Builtin.append_, run_underlying ht, run_underlying htn, sizeOf, typeInfo, zeroValue, hi, hz, asInt, asIntOf, hw, hneg, h48i, hroom, hs, Addr.add_lit, show ¬ (k = 0) by omega, hzc, hst, Value.cells, zeroCells_u8 k]
 done
theorem run_own_zeros (B k : Nat) (v : Value) (l : List Nat) (W : World) (ty : TypeId) (kq : IntKind) (hB : B ≤ W.heap.size) (hk0 : 0 < k) (hk : k ≤ 1000) (hl : l.length ≤ 1000) (h0 : 0 < l.length) (hown : Pk.Own W B v l) :
  ∃ v' X, (Builtin.append_ #[31, 3] ty #[v, Value.int kq (k : Int)]).run Tryz.prog W = .ok v' X ∧ Pk.Own X B v' (l ++ List.replicate k 0) ∧ W.grownBy X v.ownBlock := by
 obtain ⟨i0, hi, hz0, hz1, hz2⟩ := info_parts Pk.info5
 have htn : Tryz.prog.underlying 3 = some (.int .i64) := by kernel_rfl
 obtain ⟨hx, h⟩ := hown
 rcases h with ⟨_, h2⟩ | ⟨g, cap, cur, rfl, hb, hg, hle, hm, hsz, htk⟩
 ·omega
 ·have hfl : (l.map Pk.encB ++ List.replicate k (Value.int .u8 0)) = (l ++ List.replicate k 0).map Pk.encB := by simp [Pk.encB]
  rw [Nat.mul_one] at hsz htk
  by_cases hroom : l.length + k ≤ cap
  ·refine ⟨_, _, run_room_zeros W _ _ ty _ i0 kq .i64 Tryz.underlying31 htn hi hz0 hz1 hz2 g l.length cap k cur hg hk0 hk hroom (by omega), ?_, ⟨rfl, rfl, rfl, by simp, fun j _ hj => setRow_other W g j _ (fun e => hj (by simp [Value.ownBlock, e]))⟩⟩
   refine ⟨by simp, .inr ⟨g, cap, _, by simp, hb, setRow_heap W g cur _ _ _ hg, by simp; omega, hm, ?_, ?_⟩⟩
   ·simp only [List.size_toArray, List.length_append, List.length_take, List.length_drop, Array.length_toList, List.length_replicate, Nat.mul_one]
    omega
   ·rw [htk, ← hfl]
    simp [List.take_append, List.take_of_length_le]
  ·have hold : (Builtin.firstCells i0.size l.length (.slice (some ⟨g, 0, none⟩) l.length cap)).run Tryz.prog W.drew = .ok (l.map Pk.encB).toArray W.drew := by
    have := run_firstCells_some (P := Tryz.prog) W.drew i0.size l.length ⟨g, 0, none⟩ l.length cap (l.map Pk.encB) (by rw [hz1]; simp) (fun j u hj => by
     rw [Addr.add_lit, Nat.zero_add]
     have hc : W.drew.cell? ⟨g, j, none⟩ = W.cell? ⟨g, j, none⟩ := rfl
     rw [hc, cell_of_row _ _ _ _ _ _ hg]
     rw [← htk, List.getElem?_take] at hj
     split at hj
     ·simpa using hj
     ·cases hj)
    exact this
   have hrun := run_append_grow_zeros (P := Tryz.prog) W 31 3 ty 5 i0 (.int .u8 0) kq .i64 Tryz.underlying31 htn hi hz0 (some ⟨g, 0, none⟩) l.length cap (l.map Pk.encB) hold k hk0 (by omega) (by omega) (by omega) (by rw [hz2]; omega) (by
    have := nextslicecap_le (need := l.length + k) (old := cap) (by omega)
    rw [hz2]
    omega)
   have hge := grownCap_ge W (l.length + k) cap 5
   have hcm : grownCap W (l.length + k) cap 5 ≤ maxLen := grownCap_le_maxLen W (l.length + k) cap 5 (by unfold maxLen; omega)
   refine ⟨_, _, hrun, ?_, ⟨rfl, rfl, rfl, by simp, fun j hj _ => by first | exact heap_alloc_old W.drew _ hj | exact heap_alloc_old W.drew _ j hj⟩⟩
   refine ⟨by simp, .inr ⟨W.heap.size, _, _, by simp, hB, heap_alloc_new W.drew _, by simpa using hge, hcm, ?_, ?_⟩⟩
   ·simp only [Array.size_append, List.size_toArray, size_zeroCells, List.length_map, Nat.mul_one]
    show l.length + k * 1 + _ * 1 = _
    omega
   ·rw [show (Value.int .u8 0).cells = #[Value.int .u8 0] from rfl, zeroCells_u8 k]
    simp only [Array.toList_append, List.length_append, List.length_replicate, Nat.mul_one]
    rw [hfl]
    exact List.take_left' (by simp)
theorem wpList_appZ {ops : Array Oper} {rest : List Oper} {o : Oper} {a : Act} {Q : Exit → Act → World → Prop} {W : World} (hgd : o.guard = none) (s x : Operand) (ts tn : TypeId)
  (ho : o.op = .call { callee := .builtin .append, args := #[s, x], argTypes := #[ts, tn] }) (va vx v : Value) (X : World) (hs : a.eval s = va) (hx : a.eval x = vx) (hrun : (Builtin.append_ #[ts, tn] o.type #[va, vx]).run Tryz.prog W = .ok v X)
  (h : wpList Tryz.prog ops Q rest (a.put o.dst v) X) : wpList Tryz.prog ops Q (o :: rest) a W := by
 refine wpList_plain hgd fun K hK' => ?_
 unfold Oper.wp
 simp [execOp, ho, resolve, invoke, builtin, hs, hx, hrun, Result.andThen]
 exact hK' _ _ h
theorem own_base {W : World} {B D : Nat} {v : Value} {l : List Nat} (h : D ≤ B) (s : Pk.Own W B v l) : Pk.Own W D v l := by
 obtain ⟨h1, h2⟩ := s
 refine ⟨h1, ?_⟩
 rcases h2 with h2 | ⟨g, cap, cur, e, hb, hg⟩
 ·exact .inl h2
 ·exact .inr ⟨g, cap, cur, e, Nat.le_trans h hb, hg⟩
set_option maxRecDepth 100000 in
set_option maxHeartbeats 2000000 in
theorem bare_any (c : Nat) (hc : c ≤ 255) (w : World) :
  Calls Tryz.prog 28 #[.int .u8 (c : Int)] w (RetBs ([109, 117, 108, 49, c, 1] ++ List.replicate 17 0) w) := by
 obtain ⟨i0, hi, hz0, hz1, hz2⟩ := info_parts Pk.info5
 obtain ⟨C, hC⟩ : ∃ C : Array Value, #[.int .u8 109, .int .u8 117, .int .u8 108, .int .u8 49] = C := ⟨_, rfl⟩
 obtain ⟨W1, hW1⟩ : ∃ V, w.alloc (.cells C 5 (C.size, C.size + 1)) = V := ⟨_, rfl⟩
 obtain ⟨W2, hW2⟩ : ∃ V, W1.alloc (.cells #[.int .u8 (c : Int), .int .u8 1] 5) = V := ⟨_, rfl⟩
 have z1 : W1.heap.size = w.heap.size + 1 := by rw [← hW1]; simp
 have r1 : W1.heap[w.heap.size]? = some (.cells C 5 (C.size, C.size + 1)) := by rw [← hW1]; exact heap_alloc_new _ _
 have r2 : W2.heap[W1.heap.size]? = some (.cells #[.int .u8 (c : Int), .int .u8 1] 5 (0, 0)) := by rw [← hW2]; exact heap_alloc_new _ _
 have b1 : Below w.heap.size w W1 := by rw [← hW1]; exact (Below.refl _ _).alloc (Nat.le_refl _) _
 have b2 : Below w.heap.size w W2 := by rw [← hW2]; exact b1.alloc (by omega) _
 have r3 : W2.heap[w.heap.size]? = some (.cells C 5 (C.size, C.size + 1)) := by rw [← hW2]; exact step_row r1
 have hcv := run_convert_bytes_const (P := Tryz.prog) w 31 5 C 4 4 Tryz.underlying31 (by kernel_rfl)
 rw [hW1] at hcv
 obtain ⟨v3, W3, hrun3, hown3, hg3⟩ := run_append_arg_grows (P := Tryz.prog) (w := W2) 31 31 5 i0 (.int .u8 0) 1 1 Tryz.underlying31 hi hz0 hz1 hz2 rfl (by decide) ⟨w.heap.size, 0, none⟩ 4 4 ([109, 117, 108, 49].map Pk.encB) (by simp) (fun j u hj => by
   rw [Addr.add_lit, Nat.zero_add, cell_of_row _ _ _ _ _ _ r3, ← hC, ← hj]
   simp only [List.getElem?_toArray]
   rfl) ⟨W1.heap.size, 0, none⟩ 2 2 ([c, 1].map Pk.encB) (by simp) (fun j u hj => by
   rw [Addr.add_lit, Nat.zero_add, cell_of_row _ _ _ _ _ _ r2, ← hj]
   simp only [List.getElem?_toArray]
   rfl) (by omega) (by unfold maxLen; omega) (by omega)
 have ho3 : Pk.Own W3 W2.heap.size v3 [109, 117, 108, 49, c, 1] := hown3
 have hb3 : Below w.heap.size w W3 := bnext b2 (below_none hg3)
 have hs3 := hg3.size
 obtain ⟨v4, W4, hrun4, hown4, hg4⟩ := run_own_zeros W2.heap.size 17 v3 _ W3 31 .i64 hs3 (by omega) (by omega) (by simp) (by simp) ho3
 have hb4 : Below w.heap.size w W4 := below_grown2 (Nat.le_refl _) hb3 hg4 (fun k hk => Nat.le_trans b2.size (Pk.Own.blk ho3 k hk))
 obtain ⟨L, hL⟩ : ∃ L, [109, 117, 108, 49, c, 1] ++ List.replicate 17 0 = L := ⟨_, rfl⟩
 have hown5 : Pk.Own W4 w.heap.size v4 L := by rw [← hL]; exact own_base b2.size hown4
 rw [hL]
 have HE : Hid (RetBs L w (.returned v4) W4) := Lib.hid ⟨⟨v4, rfl, hown5⟩, hb4⟩
 have hrun5 : (Builtin.append_ #[31, 3] 31 #[v3, .int .i64 17]).run Tryz.prog W3 = .ok v4 W4 := hrun4
 have HR3 := Lib.hid hrun3
 have HR4 := Lib.hid hrun5
 have HCV := Lib.hid hcv
 have HW2 := Lib.hid hW2
 have HCC := Lib.hid hC
 clear z1 r1 r2 b1 b2 r3 hW1 hW2 hc hcv hrun3 hown3 hg3 ho3 hb3 hs3 hrun4 hown4 hg4 hb4 hown5 hrun5 hL hC hi hz0 hz1 hz2
 go_enter Tryz.func28, Tryz.ntmps28
 go_wp2_with (first | (rw [HCC.out]; rw [HCV.out]) | (rw [HW2.out]) | (with_reducible refine stop_at (some 8) rfl ?_; refine Lib.hid ?_; refine wpList_appX rfl (.tmp 5) (.tmp 7) 31 rfl (.slice (some ⟨w.heap.size, 0, none⟩) 4 4) (.slice (some ⟨W1.heap.size, 0, none⟩) 2 2) v3 W3 rfl rfl HR3.out ?_) | (with_reducible refine stop_at (some 10) rfl ?_; refine Lib.hid ?_; refine wpList_appZ rfl (.tmp 9) (.const (.int .i64 17)) 31 3 rfl v3 (.int .i64 17) v4 W4 rfl rfl HR4.out ?_))
 go_ret
 exact HE.out
end Go.Proofs.YtbbhmhihpdmoiaaGreat.Fx
