import Derived.Laws.Rows
import Derived.Test.YtbbhmhihpdmoiaaGreatProg
import Derived.Laws.ResultCell
import Derived.WalkMore
import Derived.WalkKit
import Derived.Lib.Hide
import Derived.Outline
import Derived.Deep.LoopGhost
import Derived.Deep.QuietTactic
import Derived.BigQuiet
import Derived.Test.YtbbhmhihpdmoiaaGreatMy01
import Derived.Test.YtbbhmhihpdmoiaaGreatMy03
import Derived.Test.YtbbhmhihpdmoiaaGreatMy39
import Derived.Test.YtbbhmhihpdmoiaaGreatMy41
/- A scene's bytes of which bits are turned: the loop's facts, and what Split says of what is no film. -/
set_option linter.unusedVariables false
set_option linter.unusedSimpArgs false
namespace Go.Proofs.YtbbhmhihpdmoiaaGreat.Fx
open Go Go.RowKit Go.Lib
open Go.Proofs.YtbbhmhihpdmoiaaGreat.Pk (Bs By cutA)
/-- behind the first i bits: n bytes in a row of one's own -/
structure TB (W0 : World) (B n gs cs mask frm Q i : Nat) (wx : World) : Prop where
  rows : ∃ ls, ls.length = n ∧ By ls ∧ Cx.Own wx B (.slice (some ⟨gs, 0, none⟩) n cs) ls ∧ Cx.num ls = Q ^^^ 2 ^ frm * Cx.cut mask frm i (8 * n)
  grown : W0.grownBy wx (some gs)
theorem TB.past {W0 wx : World} {B n gs cs mask frm Q i : Nat} (h : TB W0 B n gs cs mask frm Q i wx) (hT : 8 * n ≤ frm + i) : ∀ k, TB W0 B n gs cs mask frm Q (i + k) wx
  | 0 => h
  | k + 1 => by
    obtain ⟨a, d⟩ := h.past hT k
    refine ⟨?_, d⟩
    rw [← Nat.add_assoc, Cx.cut_past (by omega)]
    exact a
theorem TB.off {W0 wx : World} {B n gs cs mask frm Q i : Nat} (h : TB W0 B n gs cs mask frm Q i wx) (hb : ¬ mask / 2 ^ i % 2 = 1) : TB W0 B n gs cs mask frm Q (i + 1) wx := by
  obtain ⟨a, d⟩ := h
  refine ⟨?_, d⟩
  rw [Cx.cut_off hb]
  exact a
theorem TB.on {W0 wx : World} {B n gs cs mask frm Q i j r : Nat} (h : TB W0 B n gs cs mask frm Q i wx) (hT : frm + i < 8 * n) (hb : mask / 2 ^ i % 2 = 1) (hj : 8 * j + r = frm + i) (hr : r < 8) :
    ∃ c, c < 256 ∧ wx.cell? ⟨gs, j, none⟩ = some (.int .u8 ((c : Nat) : Int)) ∧ wx.frozen? ⟨gs, j, none⟩ = false ∧
      TB W0 B n gs cs mask frm Q (i + 1) (wx.setCell ⟨gs, j, none⟩ (.int .u8 ((c ^^^ 2 ^ r : Nat) : Int))) := by
  obtain ⟨⟨ls, hl, hby, hown, hnum⟩, hg⟩ := h
  obtain ⟨_, _, e, hbs, _, _, _, hfr⟩ := hown.open
  rw [hl] at e
  cases e
  have hjl : j < ls.length := by omega
  have hc := Cx.bs_at hbs hjl
  rw [Nat.zero_add] at hc
  obtain ⟨g2, e2, _, _, hf⟩ := hfr _ rfl
  cases e2
  have h2r : 2 ^ r < 256 := by
    have : 2 ^ r < 2 ^ 8 := Nat.pow_lt_pow_right (by omega) hr
    simpa using this
  have hown' := hown
  rw [← hl] at hown'
  have hbm := Cx.bump (k := j) hown' (ls.getD j 0 ^^^ 2 ^ r)
  rw [hl] at hbm
  have hcb := Cx.cut_bit (mask := mask) (frm := frm) (i := i) hT hb
  refine ⟨ls.getD j 0, Cx.By.get hby j, hc, hf j, ⟨ls.set j (ls.getD j 0 ^^^ 2 ^ r), by simpa using hl, ?_, hbm.1, ?_⟩, Cx.grown_trans hg hbm.2⟩
  · intro c hc2
    rcases List.mem_or_eq_of_mem_set hc2 with h | rfl
    · exact hby c h
    · exact Nat.xor_lt_two_pow (n := 8) (Cx.By.get hby j) h2r
  · rw [Cx.num_set hby j (2 ^ r) hjl h2r, hnum, ← Nat.pow_add, hj, Nat.xor_assoc, hcb.2]
/-- turned, or as they were -/
theorem TB.last {W0 wx : World} {B n gs cs mask frm i : Nat} {m : List Nat} (hm : By m) (hn : m.length + 4 = n) (hk : mask < 4294967296) (hf : frm ≤ 8 * n) (h : TB W0 B n gs cs mask frm (Cx.num (sealL m)) i wx) (hi : i = 32 ∨ 8 * n ≤ frm + i ∧ i ≤ 32) :
    ∃ ls, ls.length = n ∧ By ls ∧ Cx.Own wx B (.slice (some ⟨gs, 0, none⟩) n cs) ls ∧ W0.grownBy wx (some gs) ∧ (ls = sealL m ∨ ls ≠ sealL m ∧ Cx.opened ls = none) := by
  have h32 : TB W0 B n gs cs mask frm (Cx.num (sealL m)) 32 wx := by
    rcases hi with rfl | ⟨h1, h2⟩
    · exact h
    · have := h.past h1 (32 - i)
      rwa [show i + (32 - i) = 32 by omega] at this
  obtain ⟨⟨ls, hl, hby, hown, hnum⟩, hg⟩ := h32
  refine ⟨ls, hl, hby, hown, hg, ?_⟩
  have hb := Cx.burst_open (b := m) (s' := ls) (frm := frm) hm hby (by omega) (by omega) (Cx.cut_lt frm 32 (8 * n) hk) hnum
  by_cases h0 : Cx.cut mask frm 32 (8 * n) = 0
  · rw [if_pos h0] at hb
    exact Or.inl (seal_opened hb).symm
  · rw [if_neg h0] at hb
    exact Or.inr ⟨fun e => (by rw [e, opened_seal] at hb; cases hb), hb⟩
theorem fSc_long {k : KeyS} (h : dSc k) : 19 ≤ (fSc k).length := by
  have hn : ∀ m : List Int, m.length ≤ (fNums m).length := by
    intro m
    unfold fNums
    induction m with
    | nil => simp
    | cons a m ih =>
      have : 1 ≤ (fI a).length := (Pk.form_len _).1
      simp only [List.flatMap_cons, List.length_append, List.length_cons]
      omega
  unfold fSc fMany
  simp only [List.length_append]
  have h1 : 1 ≤ (fU k.1).length := (Pk.form_len _).1
  have h2 : 1 ≤ (fU k.2.1).length := (Pk.form_len _).1
  have h3 := hn k.2.2.1
  have h3' := h.2.2.1.1
  have h4 : 1 ≤ (fU (k.2.2.2.length : Int)).length := (Pk.form_len _).1
  omega
/-- what is no film -/
def RetNo (l : List Nat) (w : World) (e : Ending) (w' : World) : Prop := e = .returned (.tuple #[.slice none 0 0, .int .i64 (begE markF l)]) ∧ Below w.heap.size w w'
theorem begE_ne {mk l : List Nat} (h : behind mk l = none) : begE mk l ≠ 0 := by
  unfold behind at h
  unfold begE
  cases ho : Cx.opened l with
  | none => simp
  | some m =>
    rw [ho] at h
    dsimp only at h ⊢
    split at h
    · cases h
    · rename_i hh
      rw [if_neg hh]
      decide
set_option maxRecDepth 100000 in
set_option maxHeartbeats 2000000 in
theorem psplit_bad (l : List Nat) (o : Option Addr) (c : Nat) (w : World) (hl : By l) (hlen : l.length ≤ 900000) (hc : l.length ≤ c) (hc2 : c ≤ 9223372036854775807) (hb : Bs w o l) (h : behind markF l = none) :
    Calls Tryz.prog 24 #[.slice o l.length c] w (RetNo l w) := by
  have HO := Lib.hid (popened_any markF markF_by (by decide) l o c w hl hlen hc hc2 hb)
  rw [show Pk.bstr markF = ⟨#[109, 117, 108, 102]⟩ from rfl] at HO
  unfold RetOp at HO
  simp only [h] at HO
  have hnz := begE_ne h
  have HR : Hid (∀ w', Below w.heap.size w w' → RetNo l w (.returned (.tuple #[.slice none 0 0, .int .i64 (begE markF l)])) w') := Lib.hid fun w' hb => ⟨rfl, hb⟩
  generalize begE markF l = ec at HO hnz HR
  generalize l.length = n at *
  clear hl hlen hc hc2 hb h
  go_enter Tryz.func24, Tryz.ntmps24
  go_wp2_with (first | go_step3 | fail)
  refine HO.out.mono ?_
  rintro e w1 ⟨hb1, rfl⟩
  have HB := Lib.hid hb1
  clear hb1 HO
  go_wp2_with (first | go_step3 | fail)
  try rw [Exit.noGoto_ret]
  go_ret2
  exact HR.out _ HB.out
end Go.Proofs.YtbbhmhihpdmoiaaGreat.Fx


/- FormatSpoilt, walked. -/
set_option linter.unusedVariables false
set_option linter.unusedSimpArgs false
namespace Go.Proofs.YtbbhmhihpdmoiaaGreat.Fx
open Go Go.RowKit Go.Lib
open Go.Proofs.YtbbhmhihpdmoiaaGreat.Pk (Bs By cutA app_at own_empty)
theorem seal_by2 {m : List Nat} (h : By m) : By (sealL m) := by
  unfold sealL
  intro x hx
  rcases List.mem_append.1 hx with hx | hx
  · exact h x hx
  · exact Cx.le4_by _ x hx
/-- the scene in its box, its lists -/
structure SkI (s : ScR) (w W : World) : Prop where
  box : ScAt w.heap.size s W
  oa : ObjsAt W s.oo s.os
  bel : Below w.heap.size w W
theorem SkI.up {s : ScR} {w W X : World} (i : SkI s w W) (h : Below W.heap.size W X) : SkI s w X := ⟨i.box.below h, i.oa.below h, bnext i.bel h⟩
set_option maxRecDepth 100000 in
set_option maxHeartbeats 16000000 in
theorem spoilt_law (s : ScR) (hs : ScWf s) (at0 mask : Nat) (ha : at0 ≤ 65535) (hm : mask < 4294967296) (w : World) (h : ObjsAt w s.oo s.os) :
    Calls Tryz.prog 9 #[.agg (scC s), .int .u16 (at0 : Int), .int .u32 (mask : Int)] w (RetBool true w) := by
  obtain ⟨V0, hV0⟩ : ∃ V, w.alloc (.cells (scC s) 28) = V := ⟨_, rfl⟩
  have hb0 : Below w.heap.size w V0 := by rw [← hV0]; exact (Below.refl _ _).alloc (Nat.le_refl _) _
  have HI0 := Lib.hid (show SkI s w V0 from ⟨by rw [← hV0]; exact ScAt.new _ _, h.below hb0, hb0⟩)
  have HV0 := Lib.hid hV0
  have HS := Lib.hid hs
  have HAL := Lib.hid (alive7_any V0)
  have hi := Lib.hid (show (Tryz.prog.info? 28).map (·.size) = some (scL s).length by simp only [scL, List.length_cons, List.length_append, List.length_map, hs.len, List.length_nil]; kernel_rfl)
  clear hs h hb0 hV0
  go_enter Tryz.func9, Tryz.ntmps9
  go_wp2_with (rw [HV0.out])
  refine HAL.out.mono ?_
  rintro e w1 ⟨rfl, hb1⟩
  have HI1 := Lib.hid (HI0.out.up hb1)
  have HG := Lib.hid (show Calls Tryz.prog 10 #[.agg (scL s).toArray] w1 _ from zgreat_any s w1 HS.out HI1.out.oa)
  have HX1 : Hid (w1.rangeAt w.heap.size 0 (scL s)) := Lib.hid (fun j u hj => by rw [Nat.zero_add]; exact HI1.out.box.at.trans hj)
  clear hb1 HI0 HAL HV0
  cases hg : greatZ s with
  | true =>
    rw [hg, show bI true = 1 from rfl] at HG
    clear hg
    go_wp2_with (with_reducible refine stop_at (some 18) rfl ?_; refine Lib.hid ?_; refine wpList_load_mid rfl 28 (.tmp 3) rfl w.heap.size 0 rfl (scL s) _ HX1.out Tryz.underlying28 rfl hi.out ?_)
    refine HG.out.mono ?_
    rintro e w2 ⟨rfl, hb2⟩
    have HE := Lib.hid (bnext HI1.out.bel hb2)
    clear hb2 HG HI1
    go_wp2_with fail
    go_ret
    exact ⟨rfl, HE.out⟩
  | false =>
    rw [hg, show bI false = 0 from rfl] at HG
    clear hg
    go_wp2_with (with_reducible refine stop_at (some 18) rfl ?_; refine Lib.hid ?_; refine wpList_load_mid rfl 28 (.tmp 3) rfl w.heap.size 0 rfl (scL s) _ HX1.out Tryz.underlying28 rfl hi.out ?_)
    refine HG.out.mono ?_
    rintro e w2 ⟨rfl, hb2⟩
    have HI2 := Lib.hid (HI1.out.up hb2)
    have HX2 : Hid (w2.rangeAt w.heap.size 0 (scL s)) := Lib.hid (range_below hb2 HX1.out)
    clear hb2 HG HI1 HX1
    cases ho : encO s with
    | none =>
      have HEN := Lib.hid (show Calls Tryz.prog 12 #[.agg (scL s).toArray] w2 (RetEn none w2) from ho ▸ pencode_any s w2 HS.out HI2.out.oa)
      unfold RetEn erE at HEN
      simp only [Option.isSome_none, Bool.false_eq_true, if_false, Option.getD_none] at HEN
      clear ho
      go_wp2_with (with_reducible refine stop_at (some 27) rfl ?_; refine Lib.hid ?_; refine wpList_load_mid rfl 28 (.tmp 3) rfl w.heap.size 0 rfl (scL s) _ HX2.out Tryz.underlying28 rfl hi.out ?_)
      refine HEN.out.mono ?_
      rintro e w3 ⟨⟨v3, rfl, _⟩, hb3⟩
      have HE := Lib.hid (bnext HI2.out.bel hb3)
      clear hb3 HEN HI2 HX2
      go_wp2_with fail
      go_ret
      exact ⟨rfl, HE.out⟩
    | some L =>
      have hok : okZ s = true := by
        unfold encO at ho
        split at ho
        · assumption
        · cases ho
      have hLk : bytesK (keyS s) = L := by
        unfold encO at ho
        rw [if_pos hok] at ho
        exact Option.some.inj ho
      have hds : dSc (keyS s) := ok_dSc HS.out HI2.out.oa hok
      have hm1 : By (mark1 ++ fSc (keyS s)) := fun x hx => by
        rcases List.mem_append.1 hx with hx | hx
        · exact mark1_by x hx
        · exact goodSc.bytes _ hds x hx
      have hlen := fSc_len hds
      have hlong := fSc_long hds
      have hdc := dec_bytes hds
      rw [← ok_key, if_pos hok, hLk] at hdc
      obtain ⟨m, hmm⟩ : ∃ m, mark1 ++ fSc (keyS s) = m := ⟨_, rfl⟩
      have hml : m.length = 4 + (fSc (keyS s)).length := by rw [← hmm, List.length_append]; rfl
      have hbhF : behind markF L = none ∧ begE markF L = 70 := by
        have ho : Cx.opened L = some m := by rw [← hLk, ← hmm]; exact opened_seal _
        have hne : ¬ m.take markF.length = markF := by
          rw [← hmm, show markF.length = mark1.length from rfl, List.take_left]
          decide
        unfold behind begE
        rw [ho]
        dsimp only
        rw [if_neg hne, if_neg hne]
        exact ⟨rfl, rfl⟩
      have hLm : sealL m = L := by rw [← hmm]; exact hLk
      rw [hmm] at hm1
      have hLL : L.length = m.length + 4 := by
        rw [← hLm]
        unfold sealL
        rw [List.length_append, le4_four]
      have hLB : By L := by rw [← hLm]; exact seal_by2 hm1
      have HEN := Lib.hid (show Calls Tryz.prog 12 #[.agg (scL s).toArray] w2 (RetEn (some L) w2) from ho ▸ pencode_any s w2 HS.out HI2.out.oa)
      unfold RetEn erE at HEN
      simp only [Option.isSome_some, if_true, Option.getD_some] at HEN
      obtain ⟨n, hn⟩ : ∃ n, L.length = n := ⟨_, rfl⟩
      have n1 : 27 ≤ n := by omega
      have n2 : n ≤ 900000 := by omega
      have t27 : ¬ ((n : Int) < 27) := by omega
      have hnz : ¬ (8 * (n : Int) = 0) := by omega
      obtain ⟨frm, hf⟩ := Int.eq_ofNat_of_zero_le (Int.emod_nonneg (at0 : Int) (show 8 * (n : Int) ≠ 0 by omega))
      have hfl : frm < 8 * n := by
        have := Int.emod_lt_of_pos (at0 : Int) (show (0 : Int) < 8 * (n : Int) by omega)
        omega
      have htm : (at0 : Int).tmod (8 * (n : Int)) = (frm : Int) := by rw [Int.tmod_eq_emod_of_nonneg (by omega), hf]
      have HLN := Lib.hid hn
      have HLB := Lib.hid hLB
      have HLAST0 : Hid (∀ (W0 wx : World) (B gs cs i : Nat), TB W0 B n gs cs mask frm (Cx.num L) i wx → (i = 32 ∨ 8 * n ≤ frm + i ∧ i ≤ 32) →
          ∃ ls ec es, ls.length = n ∧ By ls ∧ Cx.Own wx B (.slice (some ⟨gs, 0, none⟩) n cs) ls ∧ W0.grownBy wx (some gs) ∧ (decK ls).2 = ec ∧ begE markF ls = es ∧ behind markF ls = none ∧ ((ls = L ∧ ec = 0 ∧ es = 70) ∨ (ls ≠ L ∧ ec = 40 ∧ es = 40))) := Lib.hid fun W0 wx B gs cs i ti h => by
        obtain ⟨ls, h1, h2, h3, h4, h5⟩ := TB.last (m := m) hm1 (by omega) hm (by omega) (by rw [hLm]; exact ti) h
        refine ⟨ls, _, _, h1, h2, h3, h4, rfl, rfl, ?_⟩
        rw [hLm] at h5
        rcases h5 with rfl | ⟨h5, h6⟩
        · exact ⟨hbhF.1, Or.inl ⟨rfl, by rw [hdc], hbhF.2⟩⟩
        · refine ⟨by unfold behind; rw [h6], Or.inr ⟨h5, ?_, by unfold begE; rw [h6]⟩⟩
          unfold decK behind begE
          rw [h6]
      clear ho hok hLk hds hm1 hlen hlong hdc hmm hml hbhF hLm hLL hLB hf
      go_wp2_with (with_reducible refine stop_at (some 27) rfl ?_; refine Lib.hid ?_; refine wpList_load_mid rfl 28 (.tmp 3) rfl w.heap.size 0 rfl (scL s) _ HX2.out Tryz.underlying28 rfl hi.out ?_)
      refine HEN.out.mono ?_
      rintro e w3 ⟨⟨v3, rfl, hown3⟩, hb3⟩
      obtain ⟨o3, c3, rfl, hbs3, hc3, hc3m, hn3, _⟩ := hown3.open
      rw [hn] at hc3 ⊢
      have HI3 := Lib.hid (HI2.out.up hb3)
      have HBS3 := Lib.hid hbs3
      have HN3 := Lib.hid hn3
      have HOE := Lib.hid (own_empty w3)
      have HBE := Lib.hid ((Below.refl w3.heap.size w3).alloc (Nat.le_refl _) (.cells #[] 5))
      clear hown3 hbs3 hn3 hc3 hc3m hb3 HEN HI2 HX2 hn
      go_wp2_with (at_builtin; refine app_at rfl (.tmp 49) (.tmp 50) rfl w3.heap.size (.slice (some ⟨w3.heap.size, 0, none⟩) 0 0) [] rfl HOE.out o3 L c3 (by rw [HLN.out]; rfl) HN3.out (HBS3.out.below HBE.out) (by have := HLN.out; simp; omega) (by simp) ?_; intro vo w5 ho5 hg5 hn5; have HB5 : Hid (Below w3.heap.size w3 w5) := Lib.hid (HBE.out.grown hg5 (by simp) (fun k hk => by cases hk; exact Nat.le_refl _)); have hsh := Cx.own_shape (n := n) (own_px ho5) (by rw [List.nil_append]; exact HLN.out) (by omega); clear hg5 hn5 HOE HBE HN3; obtain ⟨gs, cs, rfl, hcs1, hcs2, _⟩ := hsh; have HO5 : Hid (Cx.Own w5 w3.heap.size (.slice (some ⟨gs, 0, none⟩) n cs) L) := Lib.hid (own_px ho5); clear ho5)
      have HGS := Lib.hid ((HO5.out.lt gs rfl).1)
      have HZ5 := Lib.hid HB5.out.size
      have HLAST := Lib.hid (fun wx i => HLAST0.out w5 wx w3.heap.size gs cs i)
      have HST : Hid (TB w5 w3.heap.size n gs cs mask frm (Cx.num L) 0 w5) := Lib.hid ⟨⟨L, HLN.out, HLB.out, HO5.out, by rw [Cx.cut_zero, Nat.mul_zero, Nat.xor_zero]⟩, World.grownBy.refl _ _⟩
      clear HLAST0 HO5
      generalize Cx.num L = Q at HLAST HST
      have hcc : (n : Int) ≤ (cs : Int) := by omega
      go_loopg [12] 32 (fun g s12 wx => ∃ i : Nat, g = 32 - i ∧ i ≤ 32 ∧ s12 = .int .i64 (i : Int) ∧ TB w5 w3.heap.size n gs cs mask frm Q i wx)
      case atStart => exact ⟨0, rfl, by omega, rfl, HST.out⟩
      case round =>
        obtain ⟨i, rfl, hi32, rfl, ti⟩ := hrel
        by_cases h32 : i < 32
        · have ti32 : (i : Int) < 32 := by omega
          have ti0 : (0 : Int) ≤ (i : Int) := by omega
          by_cases hpast : 8 * n ≤ frm + i
          · have tp : ¬ ((frm : Int) + (i : Int) < 8 * (n : Int)) := by omega
            obtain ⟨ls, ec, es, hl1, hby, hown, hg, hdk, hbg, hbf, hcase⟩ := HLAST.out wr i ti (by omega)
            obtain ⟨os, cz, e, hbs, hc1, hc2, _, _⟩ := hown.open
            rw [hl1] at e hc1
            cases e
            have hwr : Below w3.heap.size w3 wr := (HB5.out).grown hg HZ5.out (by intro k hk; cases hk; exact HGS.out)
            have HIW := Lib.hid (HI3.out.up hwr)
            have HBW := Lib.hid (HBS3.out.below hwr)
            have HPD := Lib.hid (show Calls Tryz.prog 16 #[.slice (some ⟨gs, 0, none⟩) n cs] wr _ from by
              have := pdecode_any ls (some ⟨gs, 0, none⟩) cs wr hby (by omega) (by omega) hc2 hbs
              rw [hl1] at this
              exact this)
            have HBLS := Lib.hid hbs
            have HBY := Lib.hid hby
            have HCC := Lib.hid (show n ≤ cs ∧ cs ≤ 9223372036854775807 from ⟨hc1, hc2⟩)
            have HLS := Lib.hid hl1
            have HBF := Lib.hid hbf
            have HBG := Lib.hid hbg
            have HCASE := Lib.hid hcase
            unfold RetDe at HPD
            rw [hdk] at HPD
            clear hg hby hl1 hown hbs hc1 hc2 hwr hdk hbg hbf hcase ti HLAST HB5 HI3 HBS3
            go_wp2_with fail
            refine HPD.out.mono ?_
            rintro e x1 ⟨⟨t, rfl, hfr, hkey⟩, hbx⟩
            have HIX := Lib.hid (HIW.out.up hbx)
            have HBX := Lib.hid (HBW.out.below hbx)
            have HBLX := Lib.hid (HBLS.out.below hbx)
            have hb16 : Below x1.heap.size x1 ((x1.alloc (.cells #[.int .i64 0, .int .i64 0, .int .i64 0, .int .i64 0, .int .i64 0, .int .i64 0, .int .i64 0, .int .i64 0, .int .i64 0, .int .i64 0, .int .i64 0, .int .i64 0, .int .i64 0, .int .i64 0, .int .i64 0, .int .i64 0, .int .i64 0, .int .i64 0, .slice none 0 0] 28)).setRow x1.heap.size (scC t)) := Below.row ((Below.refl _ _).alloc (Nat.le_refl _) _) (Nat.le_refl _) _
            clear hkey hbx HPD HBLS HIW HBW
            obtain ⟨PT5, hPT5⟩ : ∃ V, x1.alloc (.cells #[.int .i64 0, .int .i64 0, .int .i64 0, .int .i64 0, .int .i64 0, .int .i64 0, .int .i64 0, .int .i64 0, .int .i64 0, .int .i64 0, .int .i64 0, .int .i64 0, .int .i64 0, .int .i64 0, .int .i64 0, .int .i64 0, .int .i64 0, .int .i64 0, .slice none 0 0] 28) = V := ⟨_, rfl⟩
            obtain ⟨PT6, hPT6⟩ : ∃ V, PT5.setRow x1.heap.size (scC t) = V := ⟨_, rfl⟩
            have r5 : RowAt 28 x1.heap.size #[.int .i64 0, .int .i64 0, .int .i64 0, .int .i64 0, .int .i64 0, .int .i64 0, .int .i64 0, .int .i64 0, .int .i64 0, .int .i64 0, .int .i64 0, .int .i64 0, .int .i64 0, .int .i64 0, .int .i64 0, .int .i64 0, .int .i64 0, .int .i64 0, .slice none 0 0] PT5 := by rw [← hPT5]; exact RowAt.new _ _ _
            have r6 : PT6.heap[x1.heap.size]? = some (.cells (scC t) 28 (0, 0)) := by rw [← hPT6]; exact setRow_heap _ _ _ _ _ _ r5
            have b6 : Below x1.heap.size x1 PT6 := by rw [← hPT6, ← hPT5]; exact Below.row ((Below.refl _ _).alloc (Nat.le_refl _) _) (Nat.le_refl _) _
            have HRPT := Lib.hid (show ScAt x1.heap.size t PT6 from r6)
            have HRQPT := Lib.hid r5
            have HFPT := Lib.hid (show FreshS _ t PT6 from hfr.rows (Rows.of_below b6) (Rows.of_below b6) (Rows.of_below b6))
            have HIPT := Lib.hid ((HIX.out).up b6)
            have hiPT := Lib.hid (sizeZ t hfr.wf (.slice (t).oo (t).os.length (t).oc))
            have hsPT := Lib.hid (show 19 = (scC t).size from (twL_len hfr.wf (.slice (t).oo (t).os.length (t).oc)).symm)
            have hoPT := Lib.hid (show (scC t).all (·.oneCell') = true from twL_one t (.slice (t).oo (t).os.length (t).oc) rfl)
            have HPT5 := Lib.hid hPT5
            have HPT6 := Lib.hid hPT6
            clear r5 r6 b6 hPT5 hPT6 hfr
            rw [HPT5.out, HPT6.out] at hb16
            have HBP := Lib.hid (HBX.out.below hb16)
            have HBLP := Lib.hid (HBLX.out.below hb16)
            have HSP := Lib.hid (show Calls Tryz.prog 24 #[.slice (some ⟨gs, 0, none⟩) n cs] PT6 (RetNo ls PT6) from by
              have := psplit_bad ls (some ⟨gs, 0, none⟩) cs PT6 HBY.out (by have := HLS.out; omega) (by have := HLS.out; have := HCC.out.1; omega) HCC.out.2 HBLP.out HBF.out
              rw [HLS.out] at this
              exact this)
            unfold RetNo at HSP
            rw [HBG.out] at HSP
            clear hb16 HBX HBLX HIX
            go_wp2_with (first | (rw [HPT5.out]) | (refine wpList_store_big rfl 28 (.tmp 13) (.tmp 94) rfl x1.heap.size _ _ (scC t) rfl rfl HRQPT.out hiPT.out hsPT.out hoPT.out ?_) | (rw [HPT6.out]))
            refine HSP.out.mono ?_
            rintro e x2 ⟨rfl, hby2⟩
            have q1 := Pk.conv_bs (W := x2) c3 HLN.out (HBP.out.below hby2)
            have q2 := Pk.conv_bs (W := x2) cs HLS.out (HBLP.out.below hby2)
            have HE := Lib.hid (bnext HIPT.out.bel hby2)
            rcases HCASE.out with ⟨rfl, rfl, rfl⟩ | ⟨hne, rfl, rfl⟩
            · generalize Pk.bstr ls = sl at q1 q2
              clear hby2 HSP HIPT HFPT HRPT HRQPT hiPT hsPT hoPT HPT5 HPT6 HBP HBLP HCASE HBF HBG HBY HLS HCC
              go_wp2_with fail
              go_ret
              exact ⟨rfl, HE.out⟩
            · have hns : ((Pk.bstr L).toList == (Pk.bstr ls).toList) = false := by rw [eqs_bstr HLB.out HBY.out]; exact decide_eq_false fun h => hne h.symm
              generalize Pk.bstr ls = sl at q2 hns
              generalize Pk.bstr L = sL at q1 hns
              clear hby2 HSP HIPT HFPT HRPT HRQPT hiPT hsPT hoPT HPT5 HPT6 HBP HBLP HCASE HBF HBG HBY HLS HCC hne
              go_wp2_with fail
              go_ret
              exact ⟨rfl, HE.out⟩
          · have tp : (frm : Int) + (i : Int) < 8 * (n : Int) := by omega
            have TIH := Lib.hid ti
            clear ti
            have hsh : (mask : Int) / 2 ^ i = ((mask / 2 ^ i : Nat) : Int) := by simp
            by_cases hbit : mask / 2 ^ i % 2 = 1
            · obtain ⟨j, hj⟩ : ∃ j, (frm + i) / 8 = j := ⟨_, rfl⟩
              obtain ⟨r, hr⟩ : ∃ r, (frm + i) % 8 = r := ⟨_, rfl⟩
              obtain ⟨c, hc, fc, ff, hnext⟩ := TIH.out.on (j := j) (r := r) (by omega) hbit (by omega) (by omega)
              have hd1 : ((mask / 2 ^ i : Nat) : Int) % 2 = 1 := by omega
              have e1 : ((frm : Int) + (i : Int)) / 8 = (j : Int) := by omega
              have e2 : ((frm : Int) + (i : Int)) % 8 = (r : Int) := by omega
              have e3 : ((frm : Int) + (i : Int)).tdiv 8 = (j : Int) := by rw [Int.tdiv_eq_ediv_of_nonneg (by omega)]; exact e1
              have e4 : ((frm : Int) + (i : Int)).tmod 8 = (r : Int) := by rw [Int.tmod_eq_emod_of_nonneg (by omega)]; exact e2
              have j0 : (0 : Int) ≤ (j : Int) := by omega
              have j1 : (j : Int) < (n : Int) := by omega
              have r0 : (0 : Int) ≤ (r : Int) := by omega
              have r8 : r < 8 := by omega
              have r1 : (r : Int) < 8 := by omega
              have h2r : 2 ^ r < 256 := by
                have : 2 ^ r < 2 ^ 8 := Nat.pow_lt_pow_right (by omega) r8
                simpa using this
              have hshl : (2 : Int) ^ r % 256 = ((2 ^ r : Nat) : Int) := by
                have h3 : ((2 : Int) ^ r) = ((2 ^ r : Nat) : Int) := by simp
                rw [h3]
                generalize 2 ^ r = b at *
                omega
              have hx := u8_xor_nat c (2 ^ r) hc h2r
              have HNX := Lib.hid hnext
              clear hnext hbit TIH hj hr
              generalize mask / 2 ^ i = d at *
              generalize 2 ^ r = b at *
              go_wp2_with fail
              go_roundg (32 - (i + 1))
              case measure => omega
              case rel => exact ⟨i + 1, rfl, by omega, by go_num, HNX.out⟩
            · have HOFF := Lib.hid (TIH.out.off hbit)
              have hd : ¬ (((mask / 2 ^ i : Nat) : Int) % 2 = 1) := by omega
              clear hbit TIH
              generalize mask / 2 ^ i = d at *
              go_wp2_with fail
              go_roundg (32 - (i + 1))
              case measure => omega
              case rel => exact ⟨i + 1, rfl, by omega, by go_num, HOFF.out⟩
        · have ti32 : ¬ (i : Int) < 32 := by omega
          obtain ⟨ls, ec, es, hl1, hby, hown, hg, hdk, hbg, hbf, hcase⟩ := HLAST.out wr i ti (by omega)
          obtain ⟨os, cz, e, hbs, hc1, hc2, _, _⟩ := hown.open
          rw [hl1] at e hc1
          cases e
          have hwr : Below w3.heap.size w3 wr := (HB5.out).grown hg HZ5.out (by intro k hk; cases hk; exact HGS.out)
          have HIW := Lib.hid (HI3.out.up hwr)
          have HBW := Lib.hid (HBS3.out.below hwr)
          have HPD := Lib.hid (show Calls Tryz.prog 16 #[.slice (some ⟨gs, 0, none⟩) n cs] wr _ from by
            have := pdecode_any ls (some ⟨gs, 0, none⟩) cs wr hby (by omega) (by omega) hc2 hbs
            rw [hl1] at this
            exact this)
          have HBLS := Lib.hid hbs
          have HBY := Lib.hid hby
          have HCC := Lib.hid (show n ≤ cs ∧ cs ≤ 9223372036854775807 from ⟨hc1, hc2⟩)
          have HLS := Lib.hid hl1
          have HBF := Lib.hid hbf
          have HBG := Lib.hid hbg
          have HCASE := Lib.hid hcase
          unfold RetDe at HPD
          rw [hdk] at HPD
          clear hg hby hl1 hown hbs hc1 hc2 hwr hdk hbg hbf hcase ti HLAST HB5 HI3 HBS3
          go_wp2_with fail
          refine HPD.out.mono ?_
          rintro e x1 ⟨⟨t, rfl, hfr, hkey⟩, hbx⟩
          have HIX := Lib.hid (HIW.out.up hbx)
          have HBX := Lib.hid (HBW.out.below hbx)
          have HBLX := Lib.hid (HBLS.out.below hbx)
          have hb16 : Below x1.heap.size x1 ((x1.alloc (.cells #[.int .i64 0, .int .i64 0, .int .i64 0, .int .i64 0, .int .i64 0, .int .i64 0, .int .i64 0, .int .i64 0, .int .i64 0, .int .i64 0, .int .i64 0, .int .i64 0, .int .i64 0, .int .i64 0, .int .i64 0, .int .i64 0, .int .i64 0, .int .i64 0, .slice none 0 0] 28)).setRow x1.heap.size (scC t)) := Below.row ((Below.refl _ _).alloc (Nat.le_refl _) _) (Nat.le_refl _) _
          clear hkey hbx HPD HBLS HIW HBW
          obtain ⟨PT5, hPT5⟩ : ∃ V, x1.alloc (.cells #[.int .i64 0, .int .i64 0, .int .i64 0, .int .i64 0, .int .i64 0, .int .i64 0, .int .i64 0, .int .i64 0, .int .i64 0, .int .i64 0, .int .i64 0, .int .i64 0, .int .i64 0, .int .i64 0, .int .i64 0, .int .i64 0, .int .i64 0, .int .i64 0, .slice none 0 0] 28) = V := ⟨_, rfl⟩
          obtain ⟨PT6, hPT6⟩ : ∃ V, PT5.setRow x1.heap.size (scC t) = V := ⟨_, rfl⟩
          have r5 : RowAt 28 x1.heap.size #[.int .i64 0, .int .i64 0, .int .i64 0, .int .i64 0, .int .i64 0, .int .i64 0, .int .i64 0, .int .i64 0, .int .i64 0, .int .i64 0, .int .i64 0, .int .i64 0, .int .i64 0, .int .i64 0, .int .i64 0, .int .i64 0, .int .i64 0, .int .i64 0, .slice none 0 0] PT5 := by rw [← hPT5]; exact RowAt.new _ _ _
          have r6 : PT6.heap[x1.heap.size]? = some (.cells (scC t) 28 (0, 0)) := by rw [← hPT6]; exact setRow_heap _ _ _ _ _ _ r5
          have b6 : Below x1.heap.size x1 PT6 := by rw [← hPT6, ← hPT5]; exact Below.row ((Below.refl _ _).alloc (Nat.le_refl _) _) (Nat.le_refl _) _
          have HRPT := Lib.hid (show ScAt x1.heap.size t PT6 from r6)
          have HRQPT := Lib.hid r5
          have HFPT := Lib.hid (show FreshS _ t PT6 from hfr.rows (Rows.of_below b6) (Rows.of_below b6) (Rows.of_below b6))
          have HIPT := Lib.hid ((HIX.out).up b6)
          have hiPT := Lib.hid (sizeZ t hfr.wf (.slice (t).oo (t).os.length (t).oc))
          have hsPT := Lib.hid (show 19 = (scC t).size from (twL_len hfr.wf (.slice (t).oo (t).os.length (t).oc)).symm)
          have hoPT := Lib.hid (show (scC t).all (·.oneCell') = true from twL_one t (.slice (t).oo (t).os.length (t).oc) rfl)
          have HPT5 := Lib.hid hPT5
          have HPT6 := Lib.hid hPT6
          clear r5 r6 b6 hPT5 hPT6 hfr
          rw [HPT5.out, HPT6.out] at hb16
          have HBP := Lib.hid (HBX.out.below hb16)
          have HBLP := Lib.hid (HBLX.out.below hb16)
          have HSP := Lib.hid (show Calls Tryz.prog 24 #[.slice (some ⟨gs, 0, none⟩) n cs] PT6 (RetNo ls PT6) from by
            have := psplit_bad ls (some ⟨gs, 0, none⟩) cs PT6 HBY.out (by have := HLS.out; omega) (by have := HLS.out; have := HCC.out.1; omega) HCC.out.2 HBLP.out HBF.out
            rw [HLS.out] at this
            exact this)
          unfold RetNo at HSP
          rw [HBG.out] at HSP
          clear hb16 HBX HBLX HIX
          go_wp2_with (first | (rw [HPT5.out]) | (refine wpList_store_big rfl 28 (.tmp 13) (.tmp 94) rfl x1.heap.size _ _ (scC t) rfl rfl HRQPT.out hiPT.out hsPT.out hoPT.out ?_) | (rw [HPT6.out]))
          refine HSP.out.mono ?_
          rintro e x2 ⟨rfl, hby2⟩
          have q1 := Pk.conv_bs (W := x2) c3 HLN.out (HBP.out.below hby2)
          have q2 := Pk.conv_bs (W := x2) cs HLS.out (HBLP.out.below hby2)
          have HE := Lib.hid (bnext HIPT.out.bel hby2)
          rcases HCASE.out with ⟨rfl, rfl, rfl⟩ | ⟨hne, rfl, rfl⟩
          · generalize Pk.bstr ls = sl at q1 q2
            clear hby2 HSP HIPT HFPT HRPT HRQPT hiPT hsPT hoPT HPT5 HPT6 HBP HBLP HCASE HBF HBG HBY HLS HCC
            go_wp2_with fail
            go_ret
            exact ⟨rfl, HE.out⟩
          · have hns : ((Pk.bstr L).toList == (Pk.bstr ls).toList) = false := by rw [eqs_bstr HLB.out HBY.out]; exact decide_eq_false fun h => hne h.symm
            generalize Pk.bstr ls = sl at q2 hns
            generalize Pk.bstr L = sL at q1 hns
            clear hby2 HSP HIPT HFPT HRPT HRQPT hiPT hsPT hoPT HPT5 HPT6 HBP HBLP HCASE HBF HBG HBY HLS HCC hne
            go_wp2_with fail
            go_ret
            exact ⟨rfl, HE.out⟩
theorem law_formatSpoilt (s : ScR) (hs : ScWf s) (z : Int) (hz : (Lit.int .u16 z).wf = true) (m : Int) (hm : (Lit.int .u32 m).wf = true) (w : World) (h : ObjsAt w s.oo s.os) :
    Calls Tryz.prog 9 #[.agg (scC s), .int .u16 z, .int .u32 m] w (RetBool true w) := by
  have hz2 : 0 ≤ z ∧ z ≤ 65535 := by
    simp [Lit.wf, IntKind.min, IntKind.max, IntKind.signed, IntKind.bits] at hz
    omega
  have hm2 : 0 ≤ m ∧ m < 4294967296 := by
    simp [Lit.wf, IntKind.min, IntKind.max, IntKind.signed, IntKind.bits] at hm
    omega
  obtain ⟨at0, rfl⟩ := Int.eq_ofNat_of_zero_le hz2.1
  obtain ⟨mask, rfl⟩ := Int.eq_ofNat_of_zero_le hm2.1
  exact spoilt_law s hs at0 mask (by omega) (by omega) w h
end Go.Proofs.YtbbhmhihpdmoiaaGreat.Fx

