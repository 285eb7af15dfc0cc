/- ShareNames, walked. -/
import Derived.Test.YtildnadkfonlhaaFz
set_option linter.unusedVariables false
set_option linter.unusedSimpArgs false
namespace Go.Proofs.Ytildnadkfonlhaa.Fx
open Go Go.RowKit Go.Shelf
theorem ch_of2 (bO : Nat) (l : List Int) (m : Int) (w : World) (s : Some8At bO w) (hl : l.length ≤ 100) (h1 : (memB l && l.any (eqP m)) = false) :
    Calls Try.prog 6 #[.agg (scC (some8 bO)), .slice (some ⟨w.heap.size, 0, none⟩) l.length l.length, .int .i64 m] (w.alloc (.cells (l.map encI).toArray 3)) fun e w' => ∃ v, e = .returned (.tuple #[v, .int .i64 80]) ∧ Below w.heap.size w w' := by
  refine (ch_of bO l m [] false w s hl h1 rfl).mono ?_
  rintro e w' ⟨o, c, rfl, hi, hb⟩
  exact ⟨_, rfl, hb⟩
theorem ch_own (bO : Nat) (l : List Int) (id z er : Int) (r : Option Int) (w : World) (s : Some8At bO w) (hl : l.length ≤ 100) (h1 : (if memB l = true then whoseZ [4, 7, 9] l id else none) = r) (h2 : r.getD 0 = z) (h3 : errB r.isSome = er) :
    Calls Try.prog 8 #[.agg (scC (some8 bO)), .slice (some ⟨w.heap.size, 0, none⟩) l.length l.length, .int .i64 id] (w.alloc (.cells (l.map encI).toArray 3)) fun e w' => e = .returned (.tuple #[.int .i64 z, .int .i64 er]) ∧ Below w.heap.size w w' := by
  have hb : Below w.heap.size w (w.alloc (.cells (l.map encI).toArray 3)) := (Below.refl _ w).alloc (Nat.le_refl _) _
  refine (powner_any (some8 bO) l (some ⟨w.heap.size, 0, none⟩) l.length id _ (some8_wf bO) (s.below hb).objs (ints_new w l) (by omega)).mono ?_
  rintro e w' ⟨rfl, hb2⟩
  rw [own8, h1, h2, h3]
  exact ⟨rfl, bnext hb hb2⟩
theorem ch_mo (bO : Nat) (a b : List Int) (L : List Int) (q : Bool) (er : Int) (w : World) (s : Some8At bO w) (la : a.length ≤ 100) (lb : b.length ≤ 100) (h1 : (memB a && memB b) = q) (h2 : (if q = true then movedZ [4, 7, 9] a b else []) = L) (h3 : errB q = er) :
    Calls Try.prog 9 #[.agg (scC (some8 bO)), .slice (some ⟨w.heap.size, 0, none⟩) a.length a.length, .slice (some ⟨w.heap.size + 1, 0, none⟩) b.length b.length] ((w.alloc (.cells (a.map encI).toArray 3)).alloc (.cells (b.map encI).toArray 3)) fun e w' => ∃ o c, e = .returned (.tuple #[.slice o L.length c, .int .i64 er]) ∧ IntsAt w' o L ∧ Below w.heap.size w w' := by
  obtain ⟨w1, hw1⟩ : ∃ w1, w.alloc (.cells (a.map encI).toArray 3) = w1 := ⟨_, rfl⟩
  have hb1 : Below w.heap.size w w1 := by rw [← hw1]; exact (Below.refl _ w).alloc (Nat.le_refl _) _
  have hs : w1.heap.size = w.heap.size + 1 := by rw [← hw1, World.size_alloc]
  have hb2 : Below w1.heap.size w1 (w1.alloc (.cells (b.map encI).toArray 3)) := (Below.refl _ w1).alloc (Nat.le_refl _) _
  have ia : IntsAt w1 (some ⟨w.heap.size, 0, none⟩) a := by rw [← hw1]; exact ints_new w a
  have ib := ints_new w1 b
  rw [hw1, ← hs]
  refine (pmoved_any (some8 bO) a b (some ⟨w.heap.size, 0, none⟩) (some ⟨w1.heap.size, 0, none⟩) a.length b.length _ (some8_wf bO) (s.below (bnext hb1 hb2)).objs (ia.below hb2) ib (by omega) (by omega)).mono ?_
  rintro e w' ⟨v, rfl, ho, hb3⟩
  rw [(mo8 bO a b).1, h1, h3]
  rw [(mo8 bO a b).2, h1, h2] at ho
  obtain ⟨o, c, rfl, hi, _⟩ := ho.form
  exact ⟨o, c, rfl, hi, bnext (bnext hb1 hb2) hb3⟩
/-- where the second list is none -/
theorem ch_mo0 (bO : Nat) (a : List Int) (w : World) (s : Some8At bO w) (la : a.length ≤ 100) :
    Calls Try.prog 9 #[.agg (scC (some8 bO)), .slice (some ⟨w.heap.size, 0, none⟩) a.length a.length, .slice none 0 0] (w.alloc (.cells (a.map encI).toArray 3)) fun e w' => ∃ v, e = .returned (.tuple #[v, .int .i64 80]) ∧ Below w.heap.size w w' := by
  have hb : Below w.heap.size w (w.alloc (.cells (a.map encI).toArray 3)) := (Below.refl _ w).alloc (Nat.le_refl _) _
  refine (pmoved_any (some8 bO) a [] (some ⟨w.heap.size, 0, none⟩) none a.length 0 _ (some8_wf bO) (s.below hb).objs (ints_new w a) (fun i hi => absurd hi (by simp)) (by omega) (by simp)).mono ?_
  rintro e w' ⟨v, rfl, ho, hb3⟩
  rw [(mo8 bO a []).1, show memB [] = false from rfl, Bool.and_false]
  exact ⟨v, rfl, bnext hb hb3⟩
def sc0 : ScR := ⟨0, 0, [0, 0, 0, 0, 0, 0, 0, 0, 0, 0, 0, 0, 0, 0, 0, 0], none, [], 0⟩
theorem sc0_wf : ScWf sc0 := ⟨(show Num 0 from ⟨by decide, by decide⟩), (show Num 0 from ⟨by decide, by decide⟩), rfl, fun j => by
  have : sc0.cam.getD j 0 = 0 := by
    by_cases h : j < 16
    · have : ∀ k : Fin 16, sc0.cam.getD k.val 0 = 0 := by decide
      exact this ⟨j, h⟩
    · rw [List.getD_eq_getElem?_getD, List.getElem?_eq_none (by show 16 ≤ j; omega)]
      rfl
  rw [this]
  exact ⟨by decide, by decide⟩, ⟨⟨Nat.le_refl _, Nat.zero_le _⟩, fun _ => rfl⟩⟩
theorem ch_all0 (l : List Int) (w : World) (hl : l.length ≤ 100) :
    Calls Try.prog 10 #[.agg (scC sc0), .slice (some ⟨w.heap.size, 0, none⟩) l.length l.length] (w.alloc (.cells (l.map encI).toArray 3)) fun e w' => ∃ v, e = .returned (.tuple #[v, .int .i64 80]) ∧ Below w.heap.size w w' := by
  have hb : Below w.heap.size w (w.alloc (.cells (l.map encI).toArray 3)) := (Below.refl _ w).alloc (Nat.le_refl _) _
  refine (pall_any sc0 l (some ⟨w.heap.size, 0, none⟩) l.length _ sc0_wf (fun k x hk => by (have := (List.getElem?_eq_some_iff.1 hk).1; cases this)) (ints_new w l) (by omega)).mono ?_
  rintro e w' ⟨v, vs, rfl, _, _, hb3⟩
  have : dealB sc0 l = false := by
    unfold dealB
    rw [show okZ sc0 = false by kernel_rfl, Bool.and_false]
  rw [this]
  exact ⟨v, rfl, bnext hb hb3⟩
theorem ch_mem (l : List Int) (b : Bool) (w : World) (hl : l.length ≤ 100) (h : memB l = b) :
    Calls Try.prog 13 #[.slice (some ⟨w.heap.size, 0, none⟩) l.length l.length] (w.alloc (.cells (l.map encI).toArray 3)) fun e w' => e = .returned (.bool b) ∧ Below w.heap.size w w' := by
  have hb : Below w.heap.size w (w.alloc (.cells (l.map encI).toArray 3)) := (Below.refl _ w).alloc (Nat.le_refl _) _
  refine (pmembers_any l (some ⟨w.heap.size, 0, none⟩) l.length _ (ints_new w l) (by omega)).mono ?_
  rintro e w' ⟨rfl, hb2⟩
  rw [h]
  exact ⟨rfl, bnext hb hb2⟩
theorem ch_mem0 (w : World) : Calls Try.prog 13 #[.slice none 0 0] w fun e w' => e = .returned (.bool false) ∧ Below w.heap.size w w' :=
  pmembers_any [] none 0 w (fun i hi => absurd hi (by simp)) (by simp)
theorem ch_most (bO : Nat) (l : List Int) (z : Int) (w : World) (s : Some8At bO w) (hl : l.length ≤ 100) (h : ((mostN (if memB l = true then l.map (heldZ [4, 7, 9] l) else []) : Nat) : Int) = z) :
    Calls Try.prog 14 #[.agg (scC (some8 bO)), .slice (some ⟨w.heap.size, 0, none⟩) l.length l.length] (w.alloc (.cells (l.map encI).toArray 3)) fun e w' => e = .returned (.int .i64 z) ∧ Below w.heap.size w w' := by
  have hb : Below w.heap.size w (w.alloc (.cells (l.map encI).toArray 3)) := (Below.refl _ w).alloc (Nat.le_refl _) _
  refine (pmost_any (some8 bO) l (some ⟨w.heap.size, 0, none⟩) l.length _ (some8_wf bO) (s.below hb).objs (ints_new w l) (by omega)).mono ?_
  rintro e w' ⟨rfl, hb2⟩
  rw [all8, h]
  exact ⟨rfl, bnext hb hb2⟩
theorem own_7 : (if memB [0, 1, 2] = true then whoseZ [4, 7, 9] [0, 1, 2] 7 else none) = some 1 := by decide
theorem mo_7 : (if true = true then movedZ [4, 7, 9] [2, 5] [2] else []) = [7] := by decide
set_option maxRecDepth 100000 in
set_option maxHeartbeats 2000000 in
theorem law_shareNames (w : World) : Calls Try.prog 3 #[] w (RetBool true w) := by
  go_enter Try.func3, Try.ntmps3
  go_wp2_with fail
  refine (some8_any _).mono ?_
  rintro e w1 ⟨b1, rfl, s1, g1, hb⟩
  have S := Lib.hid s1
  have B1 := Lib.hid hb
  clear s1 g1 hb
  go_wp2_with fail
  refine (ch_of2 b1 [2, 5] 3 w1 S.out (by decide) (by decide)).mono ?_
  rintro e w2 ⟨v2, rfl, hb⟩
  have B2 := Lib.hid (bnext B1.out hb)
  clear hb S B1
  go_wp2_with fail
  refine (some8_any _).mono ?_
  rintro e w3 ⟨b3, rfl, s1, g1, hb⟩
  have S := Lib.hid s1
  have B3 := Lib.hid (bnext B2.out hb)
  clear s1 g1 hb B2
  go_wp2_with fail
  refine (ch_own b3 [0, 1, 2] 7 1 0 (some 1) w3 S.out (by decide) own_7 rfl rfl).mono ?_
  rintro e w4 ⟨rfl, hb⟩
  have B4 := Lib.hid (bnext B3.out hb)
  clear hb S B3
  go_wp2_with fail
  refine (some8_any _).mono ?_
  rintro e w5 ⟨b5, rfl, s1, g1, hb⟩
  have S := Lib.hid s1
  have B5 := Lib.hid (bnext B4.out hb)
  clear s1 g1 hb B4
  go_wp2_with fail
  refine (ch_mo b5 [2, 5] [2] [7] true 0 w5 S.out (by decide) (by decide) (by decide) mo_7 rfl).mono ?_
  rintro e w6 ⟨o6, c6, rfl, i6, hb⟩
  have B6 := Lib.hid (bnext B5.out hb)
  have I6 := Lib.hid i6
  clear hb S B5 i6
  go_wp2_with fail
  refine (some8_any _).mono ?_
  rintro e w7 ⟨b7, rfl, s1, g1, hb⟩
  have S := Lib.hid s1
  have B7 := Lib.hid (bnext B6.out hb)
  have I7 := Lib.hid (I6.out.below hb)
  clear s1 g1 hb B6 I6
  go_wp2_with fail
  refine (ch_own b7 [0] 5 0 80 none w7 S.out (by decide) (by decide) rfl rfl).mono ?_
  rintro e w8 ⟨rfl, hb⟩
  have B8 := Lib.hid (bnext B7.out hb)
  have I8 := Lib.hid (I7.out.below hb)
  clear hb S B7 I7
  go_wp2_with fail
  refine (some8_any _).mono ?_
  rintro e w9 ⟨b9, rfl, s1, g1, hb⟩
  have S := Lib.hid s1
  have B9 := Lib.hid (bnext B8.out hb)
  have I9 := Lib.hid (I8.out.below hb)
  clear s1 g1 hb B8 I8
  go_wp2_with fail
  refine (ch_own b9 [1, 0] 7 0 80 none w9 S.out (by decide) (by decide) rfl rfl).mono ?_
  rintro e w10 ⟨rfl, hb⟩
  have B10 := Lib.hid (bnext B9.out hb)
  have I10 := Lib.hid (I9.out.below hb)
  clear hb S B9 I9
  go_wp2_with fail
  refine (ch_all0 [0] w10 (by decide)).mono ?_
  rintro e w11 ⟨v11, rfl, hb⟩
  have B11 := Lib.hid (bnext B10.out hb)
  have I11 := Lib.hid (I10.out.below hb)
  clear hb B10 I10
  go_wp2_with fail
  refine (some8_any _).mono ?_
  rintro e w12 ⟨b12, rfl, s1, g1, hb⟩
  have S := Lib.hid s1
  have B12 := Lib.hid (bnext B11.out hb)
  have I12 := Lib.hid (I11.out.below hb)
  clear s1 g1 hb B11 I11
  go_wp2_with fail
  refine (ch_mo0 b12 [0] w12 S.out (by decide)).mono ?_
  rintro e w13 ⟨v13, rfl, hb⟩
  have B13 := Lib.hid (bnext B12.out hb)
  have I13 := Lib.hid (I12.out.below hb)
  clear hb S B12 I12
  go_wp2_with fail
  refine (alive8_any _).mono ?_
  rintro e w14 ⟨rfl, hb⟩
  have B14 := Lib.hid (bnext B13.out hb)
  have I14 := Lib.hid (I13.out.below hb)
  clear hb B13 I13
  go_wp2_with fail
  refine (ch_ints [7] [7] o6 c6 w14 I14.out (by decide) (by decide)).mono ?_
  rintro e w15 ⟨rfl, hb⟩
  rw [show eqI [7] [7] = true from by decide]
  have B15 := Lib.hid (bnext B14.out hb)
  clear hb B14 I14
  go_wp2_with fail
  refine (ch_mem0 w15).mono ?_
  rintro e w16 ⟨rfl, hb⟩
  have B16 := Lib.hid (bnext B15.out hb)
  clear hb B15
  go_wp2_with fail
  refine (ch_mem [64] false w16 (by decide) (by decide)).mono ?_
  rintro e w17 ⟨rfl, hb⟩
  have B17 := Lib.hid (bnext B16.out hb)
  clear hb B16
  go_wp2_with fail
  refine (ch_mem [-1] false w17 (by decide) (by decide)).mono ?_
  rintro e w18 ⟨rfl, hb⟩
  have B18 := Lib.hid (bnext B17.out hb)
  clear hb B17
  go_wp2_with fail
  refine (ch_mem [0, 63] true w18 (by decide) (by decide)).mono ?_
  rintro e w19 ⟨rfl, hb⟩
  have B19 := Lib.hid (bnext B18.out hb)
  clear hb B18
  go_wp2_with fail
  refine (some8_any _).mono ?_
  rintro e w20 ⟨b20, rfl, s1, g1, hb⟩
  have S := Lib.hid s1
  have B20 := Lib.hid (bnext B19.out hb)
  clear s1 g1 hb B19
  go_wp2_with fail
  refine (ch_most b20 [0, 1] 2 w20 S.out (by decide) (by decide)).mono ?_
  rintro e w21 ⟨rfl, hb⟩
  have B21 := Lib.hid (bnext B20.out hb)
  clear hb B20 S
  go_wp2_with fail
  go_ret
  exact ⟨rfl, B21.out⟩
end Go.Proofs.Ytildnadkfonlhaa.Fx
