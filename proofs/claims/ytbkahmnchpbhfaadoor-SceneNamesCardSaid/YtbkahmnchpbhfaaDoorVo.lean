/- SceneRules, walked; a rule's name: the program's, which reads a table of the package's. -/
import Derived.Test.YtbkahmnchpbhfaaDoorProg
import Derived.Test.YtbkahmnchpbhfaaDoorVh
import Derived.Test.YtbkahmnchpbhfaaDoorSi
import Derived.Lib.LaidTab
set_option linter.unusedVariables false
set_option linter.unusedSimpArgs false
namespace Go.Proofs.YtbkahmnchpbhfaaDoor.Fx
open Go Go.RowKit Go.Shelf
/-- the package's table of names lies in its block -/
def NamesAt (W : World) : Prop := ∀ i : Nat, i < 8 → W.cell? ⟨0, i, none⟩ = some (.string (nameB (i + 1)))
/-- an array of strings that reads as these texts holds them, cell for cell -/
theorem strs_of_tab {H : Type} {enc : TypeId × Value → H} {P : Program} {w : World} {base : Nat} {sp : Nat → Bool} {held : Bool} {fuel : Nat} {t e : TypeId} {n : Nat} {cs : List Value} {zs : List (List UInt8)} {p : List MemPlace}
    (ht : P.underlying t = some (.array n e)) (he : P.underlying e = some .string) (hce : P.cellsOf e = 1) (hct : P.cellsOf t = n)
    (h : DataW.trod enc P w base sp held fuel t cs = some (.agg (zs.map fun z => .lit (.string z)), p)) : cs = zs.map fun z => Value.string ⟨z.toArray⟩ := by
  cases fuel with
  | zero => simp [DataW.trod] at h
  | succ fuel =>
    simp only [DataW.trod, ht, hce, hct, Nat.mul_one] at h
    split at h
    · rename_i hl
      obtain ⟨xs, hm, hx⟩ := Option.map_eq_some_iff.1 h
      have hxs : xs.map (·.1) = zs.map fun z => (DataW.lit (.string z) : DataW H) := by
        have := congrArg Prod.fst hx
        simpa using this
      have hxl : xs.length = n := by simpa using Lib.mapM_length hm
      have hzl : zs.length = n := by
        have := congrArg List.length hxs
        simp at this
        omega
      apply List.ext_getElem?
      intro i
      by_cases hi : i < n
      · obtain ⟨b, hb, hf⟩ := Lib.mapM_at hm i i (by simp [hi])
        obtain ⟨z, hc, rfl, _⟩ := DataW.trod_string he hf
        have h1 : cs[i]? = some (.string z) := by
          have := congrArg (·[0]?) hc
          simpa [List.getElem?_take, List.getElem?_drop] using this
        have h2 : (xs.map (·.1))[i]? = some (DataW.lit (.string z.data.toList) : DataW H) := by simp [hb]
        rw [hxs] at h2
        simp only [List.getElem?_map, Option.map_eq_some_iff, DataW.lit.injEq, Lit.string.injEq] at h2
        obtain ⟨z', hz', he2⟩ := h2
        simp [h1, hz', he2]
      · rw [List.getElem?_eq_none (by omega), List.getElem?_eq_none (by simp; omega)]
    · cases h
def nameL : List (List UInt8) := [[115, 105, 122, 101], [99, 97, 109, 101, 114, 97], [111, 98, 106, 101, 99, 116, 115], [105, 100, 115], [109, 97, 116, 114, 105, 120], [98, 111, 116, 104], [118, 101, 114, 116, 105, 99, 101, 115], [116, 114, 105, 97, 110, 103, 108, 101, 115]]
theorem names_at {W : World} (h : laidMet Tryd.prog [("mullion/scene.names", .agg (nameL.map fun z => .lit (.string z)))] W) : NamesAt W := by
  obtain ⟨ps, ⟨g', t', cs, fuel, p, q, hg', ht', hvar, hd, _, _⟩, _⟩ := h
  obtain rfl := Option.some.inj ((show Tryd.prog.globalNamed "mullion/scene.names" = some 0 by kernel_rfl).symm.trans hg')
  obtain rfl := Option.some.inj ((show (Tryd.prog.globals[0]?).map (·.type) = some 63 by kernel_rfl).symm.trans ht')
  have hcs := strs_of_tab Tryd.underlying63 Tryd.underlying9 (by kernel_rfl) (by kernel_rfl) hd
  intro i hi
  have hc := World.var?_cell (show Tryd.prog.globalNamed "mullion/scene.names" = some 0 by kernel_rfl) hvar i
  rw [hc, ← Array.getElem?_toList, hcs]
  obtain rfl | rfl | rfl | rfl | rfl | rfl | rfl | rfl : i = 0 ∨ i = 1 ∨ i = 2 ∨ i = 3 ∨ i = 4 ∨ i = 5 ∨ i = 6 ∨ i = 7 := by omega
  all_goals rfl
theorem NamesAt.below {w W : World} (hb : Below w.heap.size w W) (h : NamesAt w) : NamesAt W := fun i hi => keep_cell hb (h i hi)
set_option maxRecDepth 100000 in
set_option maxHeartbeats 1000000 in
theorem pname_any (n : Int) (w : World) (hN : NamesAt w) : Calls Tryd.prog 10 #[.int .i64 n] w fun e w' => e = .returned (.string (nameZ n)) ∧ w' = w := by
  by_cases h1 : n < 1
  · have e : nameZ n = ⟨#[]⟩ := by unfold nameZ; rw [if_pos (Or.inl h1)]
    rw [e]
    clear e hN
    go_enter Tryd.func10, Tryd.ntmps10
    go_wp2_with fail
    go_ret
    exact ⟨rfl, rfl⟩
  by_cases h2 : 8 < n
  · have e : nameZ n = ⟨#[]⟩ := by unfold nameZ; rw [if_pos (Or.inr h2)]
    have h3 : (9 : Int) ≤ n := by omega
    rw [e]
    clear e hN
    go_enter Tryd.func10, Tryd.ntmps10
    go_wp2_with fail
    go_ret
    exact ⟨rfl, rfl⟩
  have c0 := hN 0 (by omega)
  have c1 := hN 1 (by omega)
  have c2 := hN 2 (by omega)
  have c3 := hN 3 (by omega)
  have c4 := hN 4 (by omega)
  have c5 := hN 5 (by omega)
  have c6 := hN 6 (by omega)
  have c7 := hN 7 (by omega)
  clear hN
  obtain rfl | rfl | rfl | rfl | rfl | rfl | rfl | rfl : n = 1 ∨ n = 2 ∨ n = 3 ∨ n = 4 ∨ n = 5 ∨ n = 6 ∨ n = 7 ∨ n = 8 := by omega
  all_goals
    clear h1 h2
    go_enter Tryd.func10, Tryd.ntmps10
    go_wp2_with fail
    go_ret
    exact ⟨rfl, rfl⟩
set_option maxRecDepth 100000 in
set_option maxHeartbeats 4000000 in
theorem law_sceneRules (s : ScR) (hs : ScWf s) (n : Int) (w : World) (h : ObjsAt w s.oo s.os) (hN : NamesAt w) :
    Calls Tryd.prog 3 #[.agg (scC s), .int .i64 n] w fun e w' => e = .returned (.bool true) ∧ Below w.heap.size w w' := by
  have HI := Lib.hid (WrI.new h)
  have HS := Lib.hid hs
  have hall := Lib.hid (sizeS hs)
  have HNM := Lib.hid hN
  have HG := Lib.hid (zgreat_any s _ hs HI.out.ob)
  clear h hs hN
  cases hg : greatZ s with
  | true =>
    rw [hg] at HG
    clear hg
    go_enter Tryd.func3, Tryd.ntmps3
    go_wp2_with (refine wpList_load_mid rfl 28 (.tmp 2) rfl w.heap.size 0 rfl (scL s) _ HI.out.all Tryd.underlying28 rfl hall.out ?_)
    refine HG.out.mono ?_
    rintro e w1 ⟨rfl, hb⟩
    have HB := Lib.hid (bnext HI.out.bel hb)
    clear hb HG
    simp only [bI, if_true]
    go_wp2_with fail
    go_ret
    exact ⟨rfl, HB.out⟩
  | false =>
    rw [hg] at HG
    clear hg
    go_enter Tryd.func3, Tryd.ntmps3
    go_wp2_with (refine wpList_load_mid rfl 28 (.tmp 2) rfl w.heap.size 0 rfl (scL s) _ HI.out.all Tryd.underlying28 rfl hall.out ?_)
    refine HG.out.mono ?_
    rintro e w1 ⟨rfl, hb⟩
    have HI1 := Lib.hid (HI.out.up hb)
    have HP := Lib.hid (pwrong_any s w1 HS.out HI1.out.ob)
    clear hb HG HI
    unfold RetWrong at HP
    simp only [bI, Bool.false_eq_true, if_false]
    go_wp2_with (refine wpList_load_mid rfl 28 (.tmp 2) rfl w.heap.size 0 rfl (scL s) _ HI1.out.all Tryd.underlying28 rfl hall.out ?_)
    refine HP.out.mono ?_
    rintro e w2 ⟨rfl, hb⟩
    have HI2 := Lib.hid (HI1.out.up hb)
    have HQ := Lib.hid (zwrong_any s w2 HS.out HI2.out.ob)
    clear hb HP HI1
    unfold RetWrong at HQ
    go_wp2_with (refine wpList_load_mid rfl 28 (.tmp 2) rfl w.heap.size 0 rfl (scL s) _ HI2.out.all Tryd.underlying28 rfl hall.out ?_)
    refine HQ.out.mono ?_
    rintro e w3 ⟨rfl, hb⟩
    have HI3 := Lib.hid (HI2.out.up hb)
    have HC := Lib.hid (pcheck_any s w3 HS.out HI3.out.ob)
    clear hb HQ HI2
    unfold RetErr at HC
    generalize (wrongZ s).1 = p1
    generalize (wrongZ s).2 = p2
    have HD := Lib.hid (fun (W : World) (i : WrI s w W) => zcheck_any s W HS.out i.ob)
    generalize (if okZ s = true then (0 : Int) else 60) = z at HC HD
    go_wp2_with (refine wpList_load_mid rfl 28 (.tmp 2) rfl w.heap.size 0 rfl (scL s) _ HI3.out.all Tryd.underlying28 rfl hall.out ?_)
    refine HC.out.mono ?_
    rintro e w4 ⟨rfl, hb⟩
    have HI4 := Lib.hid (HI3.out.up hb)
    clear hb HC HI3
    go_wp2_with (refine wpList_load_mid_g rfl 28 (.tmp 2) rfl w.heap.size 0 rfl (scL s) _ HI4.out.all Tryd.underlying28 rfl hall.out ?_)
    refine (HD.out _ HI4.out).mono ?_
    rintro e w5 ⟨rfl, hb⟩
    have HB5 := Lib.hid (bnext HI4.out.bel hb)
    have HP5 := Lib.hid (pname_any n w5 (HNM.out.below HB5.out))
    have HZ5 := Lib.hid (fun (W : World) => zname_any n W)
    clear hb HD HI4
    generalize nameZ n = nm at HP5 HZ5
    go_wp2_with fail
    refine HP5.out.mono ?_
    rintro e w' ⟨rfl, rfl⟩
    go_wp2_with fail
    refine (HZ5.out _).mono ?_
    rintro e w6 ⟨rfl, hb⟩
    have HB6 := Lib.hid (bnext HB5.out hb)
    clear hb HP5 HZ5
    go_wp2_with fail
    go_ret
    exact ⟨by (first | rfl | simp), HB6.out⟩
end Go.Proofs.YtbkahmnchpbhfaaDoor.Fx
