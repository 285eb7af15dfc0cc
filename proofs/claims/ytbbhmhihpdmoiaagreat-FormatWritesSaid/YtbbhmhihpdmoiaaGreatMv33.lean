import Derived.Laws.Rows
import Derived.Test.YtbbhmhihpdmoiaaGreatProg
import Derived.Test.YtbbhmhihpdmoiaaGreatMv26
import Derived.Test.YtbbhmhihpdmoiaaGreatMv32
set_option linter.unusedVariables false
set_option linter.unusedSimpArgs false
namespace Go.Proofs.YtbbhmhihpdmoiaaGreat.Fx
open Go Go.RowKit
structure PoS (p : Nat) (x : ObjR) (l : List Nat) (w W : World) : Prop where
 box : W.heap[w.heap.size]? = some (.cells (objL x).toArray 73 (0, 0))
 wr : WSt p l W
 fr : WFr p w W
theorem PoS.step {p : Nat} {x : ObjR} {l l' : List Nat} {w W X : World} (i : PoS p x l w W) (h : WSt p l' X) (hf : WFr p W X) : PoS p x l' w X := by
 obtain ⟨cs, hr⟩ := i.wr.row
 exact ⟨hf.rows (by decide) hr (by decide) _ _ i.box, h, i.fr.trans hf⟩
theorem PoS.up {p : Nat} {x : ObjR} {l : List Nat} {w W X : World} (i : PoS p x l w W) (hb : Below W.heap.size W X) : PoS p x l w X :=
 i.step (i.wr.below hb) (WFr.of_below hb (by have := i.wr.lt; omega))
theorem PoS.at {p j : Nat} {x : ObjR} {l : List Nat} {w W : World} (i : PoS p x l w W) : W.cell? ⟨w.heap.size, j, none⟩ = (objL x)[j]? := by
 rw [cell_of_row _ _ _ _ _ _ i.box]
 simp
def PvRel (p : Nat) (x : ObjR) (l : List Nat) (w : World) (n g : Nat) (s5 s7 s26 s31 : Value) (W : World) : Prop :=
 ∃ k : Nat, g = n - k ∧ s26 = .int .i64 (k : Int) ∧ k ≤ n ∧ PoS p x (l ++ (x.vs.take k).flatMap fNums) w W
def PtRel (p : Nat) (x : ObjR) (l : List Nat) (w : World) (n g : Nat) (s9 s47 : Value) (W : World) : Prop :=
 ∃ k : Nat, g = n - k ∧ s47 = .int .i64 (k : Int) ∧ k ≤ n ∧ PoS p x (l ++ (x.ts.take k).flatMap fTri) w W
def PnRel (p : Nat) (x : ObjR) (v : List Int) (l : List Nat) (w : World) (g : Nat) (s7 s31 : Value) (W : World) : Prop :=
 ∃ k : Nat, g = 3 - k ∧ s31 = .int .i64 (k : Int) ∧ k ≤ 3 ∧ PoS p x (l ++ fNums (v.take k)) w W
theorem flat_snoc {α : Type} {f : α → List Nat} {L : List α} {k : Nat} {x : α} (hx : L[k]? = some x) : (L.take (k + 1)).flatMap f = (L.take k).flatMap f ++ f x := by
 rw [List.take_add_one, hx, List.flatMap_append]
 simp
theorem flat_le {α : Type} {f : α → List Nat} {c : Nat} (L : List α) (h : ∀ x ∈ L, (f x).length ≤ c) : (L.flatMap f).length ≤ L.length * c := by
 induction L with
 | nil => simp
 | cons a t ih =>
  rw [List.flatMap_cons, List.length_append, List.length_cons, Nat.add_mul]
  have := h a (by simp)
  have := ih (fun x hx => h x (by simp [hx]))
  omega
theorem fU_len (z : Int) : (fU z).length ≤ 11 := (Pk.form_len _).2
theorem fTri_len (t : TriR) : (fTri t).length ≤ 44 := by
 unfold fTri
 simp only [List.length_append]
 have := fU_len t.a
 have := fU_len t.b
 have := fU_len t.c
 have := fU_len t.col
 omega
theorem vec3_at (x0 x1 x2 : Int) (c : Nat) (h : c < 3) (w : World) : (Instr.index 85 (.agg #[.int .i64 x0, .int .i64 x1, .int .i64 x2]) (.int .i64 (c : Int))).run Tryz.prog w = .ok (.int .i64 ([x0, x1, x2].getD c 0)) w := by
 have hd : c = 0 ∨ c = 1 ∨ c = 2 := by omega
 rcases hd with rfl | rfl | rfl <;> (show _ = _; kernel_rfl)
set_option maxRecDepth 100000 in
set_option maxHeartbeats 8000000 in
theorem pputo_any (p : Nat) (x : ObjR) (l : List Nat) (w : World) (hx : ObjWf x) (hd : dObj (keyO x)) (hl : l.length ≤ 50000000) (hda : ∀ X, Below p w X → VertsAt X x.vo x.vs ∧ TrisAt X x.tq x.ts) (h : WSt p l w) :
  Calls Tryz.prog 63 #[.pointer (some ⟨p, 0, none⟩), .agg (objL x).toArray] w (WPost p (l ++ fObj (keyO x)) w) := by
 have hlt := h.lt
 obtain ⟨V0, hV0⟩ : ∃ V, w.alloc (.cells (objL x).toArray 73) = V := ⟨_, rfl⟩
 have hb0 : Below w.heap.size w V0 := by rw [← hV0]; exact (Below.refl _ w).alloc (Nat.le_refl _) _
 have hI : PoS p x l w V0 := ⟨by rw [← hV0]; exact heap_alloc_new _ _, h.below hb0, WFr.of_below hb0 (by omega)⟩
 have HI := Lib.hid hI
 have HV0 := Lib.hid hV0
 have HX := Lib.hid hx
 have HD := Lib.hid hd
 have HL := Lib.hid hl
 have HDA := Lib.hid (fun X (i : WFr p w X) => hda X i.below)
 have hmat := Lib.hid (show V0.rangeAt w.heap.size 1 (x.m.map encI) from fun j v hj => hI.at.trans (objL_m hj))
 have hism := Lib.hid (sizeMx hx)
 have d0 : V0.cell? ⟨w.heap.size, 0, none⟩ = some (.int .i64 x.id) := hI.at.trans (objL_id x)
 obtain ⟨n, hn⟩ : ∃ n, x.vs.length = n := ⟨_, rfl⟩
 obtain ⟨n2, hn2⟩ : ∃ n, x.ts.length = n := ⟨_, rfl⟩
 have HN := Lib.hid hn
 have HN2 := Lib.hid hn2
 obtain ⟨vo, hvo⟩ : ∃ o, x.vo = o := ⟨_, rfl⟩
 obtain ⟨tq, htq⟩ : ∃ o, x.tq = o := ⟨_, rfl⟩
 have HVO := Lib.hid hvo
 have HTQ := Lib.hid htq
 have hn64 : n ≤ 64 := by have h := hd.2.2.1.1; unfold keyO at h; simp only at h; omega
 have hn264 : n2 ≤ 64 := by have h := hd.2.2.2.1; unfold keyO at h; simp only at h; omega
 have C17 := Lib.hid (fun (W : World) (l' : List Nat) (i : PoS p x l' w W) => show W.cell? ⟨w.heap.size, 17, none⟩ = some (.slice vo n x.vc) by rw [i.at, objL_vs hx, hn, hvo])
 have C18 := Lib.hid (fun (W : World) (l' : List Nat) (i : PoS p x l' w W) => show W.cell? ⟨w.heap.size, 18, none⟩ = some (.slice tq n2 x.tc) by rw [i.at, objL_ts hx, hn2, htq])
 have n0 : (0 : Int) ≤ (n : Int) := by omega
 have n1 : (n : Int) ≤ 64 := by omega
 have m0 : (0 : Int) ≤ (n2 : Int) := by omega
 have m1 : (n2 : Int) ≤ 64 := by omega
 have HS1 := Lib.hid (wsmall_any p x.id 65535 l V0 hd.1.1 hd.1.2 (by omega) (by omega) hI.wr)
 clear hI hV0 hb0 hx hd hda h hlt hn hn2 hvo htq
 go_enter Tryz.func63, Tryz.ntmps63
 go_wp2_with (rw [HV0.out])
 refine HS1.out.mono ?_
 rintro e w1 ⟨rfl, hw, hf⟩
 have HI1 := Lib.hid (HI.out.step hw hf)
 have hmat1 := Lib.hid (show w1.rangeAt w.heap.size 1 (x.m.map encI) from fun j v hj => HI1.out.at.trans (objL_m hj))
 have HPM := Lib.hid (pputm_any p x.m (l ++ fU x.id) w1 HD.out.2.1 (by have := fU_len x.id; have := HL.out; rw [List.length_append]; omega) hw)
 clear hw hf HI HS1 hmat d0 HV0
 go_wp2_with (with_reducible refine stop_at (some 16) rfl ?_; refine Lib.hid ?_; refine wpList_load_mid rfl 25 (.tmp 15) rfl w.heap.size 1 rfl (x.m.map encI) _ hmat1.out Tryz.underlying25 rfl hism.out ?_)
 refine HPM.out.mono ?_
 rintro e w2 ⟨rfl, hw, hf⟩
 have HI2 := Lib.hid (HI1.out.step hw hf)
 clear hw hf HI1 HPM hmat1
 have hl2 : (l ++ fU x.id ++ fNums x.m).length ≤ 50001000 := by
  have := fU_len x.id
  have := fNums_len x.m
  have h3 : x.m.length = 16 := HD.out.2.1.1
  have := HL.out
  simp only [List.length_append]
  omega
 obtain ⟨l2, hl2e⟩ : ∃ L, l ++ fU x.id ++ fNums x.m = L := ⟨_, rfl⟩
 rw [hl2e] at HI2 hl2
 have HL2E := Lib.hid hl2e
 have HS2 := Lib.hid (wsmall_any p (n : Int) 64 l2 w2 n0 n1 (by omega) (by omega) HI2.out.wr)
 have HL2 := Lib.hid hl2
 have c17 := C17.out w2 _ HI2.out
 clear hl2e hl2
 go_wp2_with fail
 refine HS2.out.mono ?_
 rintro e w3 ⟨rfl, hw, hf⟩
 have HI3 := Lib.hid (HI2.out.step hw hf)
 clear hw hf HI2 HS2 c17
 have c17 := C17.out w3 _ HI3.out
 obtain ⟨l3, hl3e⟩ : ∃ L, l2 ++ fU (n : Int) = L := ⟨_, rfl⟩
 rw [hl3e] at HI3
 have HL3E := Lib.hid hl3e
 have HL3 : Hid (l3.length ≤ 50001100) := Lib.hid (by rw [← hl3e, List.length_append]; have := fU_len (n : Int); have := HL2.out; omega)
 clear hl3e
 go_wp2_with fail
 go_loopg [5, 7, 26, 31] n (PvRel p x l3 w n)
 case atStart => exact ⟨0, rfl, rfl, by omega, by simpa using HI3.out⟩
 case round =>
  clear HI3 c17
  obtain ⟨k, hg, rfl, hk, hi⟩ := hrel
  subst hg
  have HK := Lib.hid hi
  have k0 : (0 : Int) ≤ (k : Int) := by omega
  by_cases hkn : k < n
  ·have t1 : (k : Int) < (n : Int) := by omega
   obtain ⟨v, hv⟩ : ∃ v, x.vs[k]? = some v := ⟨_, List.getElem?_eq_getElem (by rw [HN.out]; exact hkn)⟩
   obtain ⟨b, off, e, hr, hvw⟩ := (HDA.out wr hi.fr).1 k v hv
   rw [HVO.out] at e
   subst e
   have HSN := Lib.hid (flat_snoc (f := fNums) hv)
   have hvd : dNums 3 v := HD.out.2.2.1.2 v (List.mem_of_getElem? hv)
   obtain ⟨z0, z1, z2, hz⟩ : ∃ z0 z1 z2, v = [z0, z1, z2] := by
    match v, hvw.len with
    | [a, b, c], _ => exact ⟨a, b, c, rfl⟩
   subst hz
   have hvd2 := Lib.hid hvd.2
   have q0 : wr.cell? ⟨b, off + k * 3, none⟩ = some (.int .i64 z0) := hr 0 _ rfl
   have q1 : wr.cell? ⟨b, off + k * 3 + 1, none⟩ = some (.int .i64 z1) := hr 1 _ rfl
   have q2 : wr.cell? ⟨b, off + k * 3 + 2, none⟩ = some (.int .i64 z2) := hr 2 _ rfl
   have hlk : (l3 ++ (x.vs.take k).flatMap fNums).length ≤ 50010000 := by
    have h1 := flat_le (f := fNums) (c := 33) (x.vs.take k) (fun y hy => by
     have := fNums_len y
     have h3 : y.length = 3 := (HD.out.2.2.1.2 y (List.mem_of_mem_take hy)).1
     omega)
    have h2 : (x.vs.take k).length ≤ 64 := by rw [List.length_take, HN.out]; omega
    have := HL3.out
    rw [List.length_append]
    omega
   obtain ⟨l4, hl4⟩ : ∃ L, l3 ++ (x.vs.take k).flatMap fNums = L := ⟨_, rfl⟩
   rw [hl4] at hlk HK
   have HL4 := Lib.hid hlk
   have HL4E := Lib.hid hl4
   obtain ⟨V1, hV1⟩ : ∃ V, wr.alloc (.cells #[.int .i64 z0, .int .i64 z1, .int .i64 z2] 85) = V := ⟨_, rfl⟩
   have hb1 : Below wr.heap.size wr V1 := by rw [← hV1]; exact (Below.refl _ _).alloc (Nat.le_refl _) _
   have hrt : V1.heap[wr.heap.size]? = some (.cells #[.int .i64 z0, .int .i64 z1, .int .i64 z2] 85 (0, 0)) := by rw [← hV1]; exact heap_alloc_new _ _
   have u0 : V1.cell? ⟨wr.heap.size, 0, none⟩ = some (.int .i64 z0) := by rw [cell_of_row _ _ _ _ _ _ hrt]; rfl
   have u1 : V1.cell? ⟨wr.heap.size, 1, none⟩ = some (.int .i64 z1) := by rw [cell_of_row _ _ _ _ _ _ hrt]; rfl
   have u2 : V1.cell? ⟨wr.heap.size, 2, none⟩ = some (.int .i64 z2) := by rw [cell_of_row _ _ _ _ _ _ hrt]; rfl
   have HK1 := Lib.hid (HK.out.up hb1)
   have HV1 := Lib.hid hV1
   clear hrt hi hv hr hvw hvd hlk hl4 hV1 hb1
   go_wp2_with (rw [HV1.out])
   clear q0 q1 q2 u0 u1 u2
   clear HV1
   go_loopg [7, 31] 3 (PnRel p x [z0, z1, z2] l4 w)
   case atStart => exact ⟨0, rfl, rfl, by omega, by simpa [fNums] using HK1.out⟩
   case round =>
    clear HK HK1
    obtain ⟨j, hg, rfl, hj, hi⟩ := hrel
    subst hg
    have HJ := Lib.hid hi
    have j0 : (0 : Int) ≤ (j : Int) := by omega
    by_cases hj3 : j < 3
    ·have t2 : (j : Int) < 3 := by omega
     have hix := vec3_at z0 z1 z2 j hj3
     obtain ⟨z, hz⟩ : ∃ z, [z0, z1, z2].getD j 0 = z := ⟨_, rfl⟩
     have hzn : Num z := by
      rw [← hz]
      obtain rfl | rfl | rfl : j = 0 ∨ j = 1 ∨ j = 2 := by omega
      ·exact hvd2.out z0 (by simp)
      ·exact hvd2.out z1 (by simp)
      ·exact hvd2.out z2 (by simp)
     have HSJ := Lib.hid (fNums_snoc (m := [z0, z1, z2]) (k := j) hj3)
     rw [hz] at HSJ
     rw [hz] at hix
     have hlj : (l4 ++ fNums ([z0, z1, z2].take j)).length ≤ 100000000 := by
      have h1 := fNums_len ([z0, z1, z2].take j)
      have h2 : ([z0, z1, z2].take j).length ≤ 3 := by rw [List.length_take]; omega
      have := HL4.out
      rw [List.length_append]
      omega
     have HIN := Lib.hid (wint_any p z _ wr hzn hlj hi.wr)
     clear hz hzn hlj hi
     go_wp2_with fail
     refine HIN.out.mono ?_
     rintro e w4 ⟨rfl, hw, hf⟩
     have HJ2 := Lib.hid (HJ.out.step hw hf)
     clear hw hf HIN HJ hix
     go_wp2_with fail
     go_roundg (3 - (j + 1))
     case measure => omega
     case rel => exact ⟨j + 1, rfl, by go_num, by omega, by rw [HSJ.out, ← List.append_assoc]; exact HJ2.out⟩
    ·obtain rfl : j = 3 := by omega
     have HE : Hid (PoS p x (l3 ++ (x.vs.take (k + 1)).flatMap fNums) w wr) := Lib.hid (by rw [HSN.out, ← List.append_assoc, HL4E.out]; exact hi)
     clear hi HJ
     go_wp2_with fail
     go_roundg (n - (k + 1))
     case measure => omega
     case rel => exact ⟨k + 1, rfl, by go_num, by omega, HE.out⟩
  ·obtain rfl : k = n := by omega
   have t1 : ¬ (k : Int) < (k : Int) := by omega
   rw [List.take_of_length_le (by rw [HN.out]; omega)] at hi
   obtain ⟨l5, hl5⟩ : ∃ L, l3 ++ x.vs.flatMap fNums = L := ⟨_, rfl⟩
   rw [hl5] at hi
   have HL5E := Lib.hid hl5
   have hl5n : l5.length ≤ 50010000 := by
    have h1 := flat_le (f := fNums) (c := 33) x.vs (fun y hy => by
     have := fNums_len y
     have h3 : y.length = 3 := (HD.out.2.2.1.2 y hy).1
     omega)
    have := HL3.out
    rw [HN.out] at h1
    rw [← hl5, List.length_append]
    omega
   have HL5 := Lib.hid hl5n
   have HI5 := Lib.hid hi
   have c18 := C18.out wr _ hi
   have HS5 := Lib.hid (wsmall_any p (n2 : Int) 64 l5 wr m0 m1 (by omega) (by omega) hi.wr)
   clear hi hl5 hl5n HK
   go_wp2_with fail
   refine HS5.out.mono ?_
   rintro e w6 ⟨rfl, hw, hf⟩
   have HI6 := Lib.hid (HI5.out.step hw hf)
   clear hw hf HI5 HS5 c18
   have c18 := C18.out w6 _ HI6.out
   obtain ⟨l6, hl6e⟩ : ∃ L, l5 ++ fU (n2 : Int) = L := ⟨_, rfl⟩
   rw [hl6e] at HI6
   have HL6E := Lib.hid hl6e
   have HL6 : Hid (l6.length ≤ 50010100) := Lib.hid (by rw [← hl6e, List.length_append]; have := fU_len (n2 : Int); have := HL5.out; omega)
   clear hl6e
   go_wp2_with fail
   go_loopg [9, 47] n2 (PtRel p x l6 w n2)
   case atStart => exact ⟨0, rfl, rfl, by omega, by simpa using HI6.out⟩
   case round =>
    clear HI6 c18
    obtain ⟨i, hg, rfl, hi, hpo⟩ := hrel
    subst hg
    have HK := Lib.hid hpo
    have i0 : (0 : Int) ≤ (i : Int) := by omega
    by_cases hin : i < n2
    ·have t2 : (i : Int) < (n2 : Int) := by omega
     obtain ⟨t, ht⟩ : ∃ t, x.ts[i]? = some t := ⟨_, List.getElem?_eq_getElem (by rw [HN2.out]; exact hin)⟩
     obtain ⟨b, off, e, hr, htw⟩ := (HDA.out wr hpo.fr).2 i t ht
     have HSN := Lib.hid (flat_snoc (f := fTri) ht)
     have HTD : Hid (dTri t) := Lib.hid (HD.out.2.2.2.2 t (List.mem_of_getElem? ht))
     rw [HTQ.out] at e
     subst e
     have q0 : wr.cell? ⟨b, off + i * 4, none⟩ = some (.int .i64 t.a) := hr 0 _ rfl
     have q1 : wr.cell? ⟨b, off + i * 4 + 1, none⟩ = some (.int .i64 t.b) := hr 1 _ rfl
     have q2 : wr.cell? ⟨b, off + i * 4 + 2, none⟩ = some (.int .i64 t.c) := hr 2 _ rfl
     have q3 : wr.cell? ⟨b, off + i * 4 + 3, none⟩ = some (.int .u32 t.col) := hr 3 _ rfl
     have hlk : (l6 ++ (x.ts.take i).flatMap fTri).length ≤ 50020000 := by
      have h1 := flat_le (f := fTri) (c := 44) (x.ts.take i) (fun y hy => fTri_len y)
      have h2 : (x.ts.take i).length ≤ 64 := by rw [List.length_take, HN2.out]; omega
      have := HL6.out
      rw [List.length_append]
      omega
     obtain ⟨l7, hl7⟩ : ∃ L, l6 ++ (x.ts.take i).flatMap fTri = L := ⟨_, rfl⟩
     rw [hl7] at hlk HK
     have HL7 := Lib.hid hlk
     have HL7E := Lib.hid hl7
     obtain ⟨V1, hV1⟩ : ∃ V, wr.alloc (.cells #[.int .i64 t.a, .int .i64 t.b, .int .i64 t.c, .int .u32 t.col] 87) = V := ⟨_, rfl⟩
     have hb1 : Below wr.heap.size wr V1 := by rw [← hV1]; exact (Below.refl _ _).alloc (Nat.le_refl _) _
     have HRT : Hid (V1.heap[wr.heap.size]? = some (.cells #[.int .i64 t.a, .int .i64 t.b, .int .i64 t.c, .int .u32 t.col] 87 (0, 0))) := Lib.hid (by rw [← hV1]; exact heap_alloc_new _ _)
     have HK1 := Lib.hid (HK.out.up hb1)
     have HV1 := Lib.hid hV1
     have u0 : V1.cell? ⟨wr.heap.size, 0, none⟩ = some (.int .i64 t.a) := by rw [cell_of_row _ _ _ _ _ _ HRT.out]; rfl
     have HC1 := Lib.hid (wsmall_any p t.a 63 l7 V1 HTD.out.1.1 HTD.out.1.2 (by omega) (by omega) HK1.out.wr)
     clear hpo ht hr htw hlk hl7 hV1 hb1 HK
     go_wp2_with (rw [HV1.out])
     clear q0 q1 q2 q3 HV1
     obtain ⟨bt, hbt⟩ : ∃ b, wr.heap.size = b := ⟨_, rfl⟩
     rw [hbt] at HRT u0 ⊢
     clear hbt
     refine HC1.out.mono ?_
     rintro e w7 ⟨rfl, hw, hf⟩
     have HK2 := Lib.hid (HK1.out.step hw hf)
     have HRT2 : Hid (w7.heap[bt]? = some (.cells #[.int .i64 t.a, .int .i64 t.b, .int .i64 t.c, .int .u32 t.col] 87 (0, 0))) := Lib.hid (by obtain ⟨cs, hrw⟩ := HK1.out.wr.row; exact hf.rows (by decide) hrw (by decide) _ _ HRT.out)
     have u1 : w7.cell? ⟨bt, 1, none⟩ = some (.int .i64 t.b) := by rw [cell_of_row _ _ _ _ _ _ HRT2.out]; rfl
     have HC2 := Lib.hid (wsmall_any p t.b 63 (l7 ++ fU t.a) w7 HTD.out.2.1.1 HTD.out.2.1.2 (by omega) (by rw [List.length_append]; have := fU_len t.a; have := HL7.out; omega) hw)
     clear hw hf HK1 HRT HC1 u0
     go_wp2_with fail
     refine HC2.out.mono ?_
     rintro e w8 ⟨rfl, hw, hf⟩
     have HK3 := Lib.hid (HK2.out.step hw hf)
     have HRT3 : Hid (w8.heap[bt]? = some (.cells #[.int .i64 t.a, .int .i64 t.b, .int .i64 t.c, .int .u32 t.col] 87 (0, 0))) := Lib.hid (by obtain ⟨cs, hrw⟩ := HK2.out.wr.row; exact hf.rows (by decide) hrw (by decide) _ _ HRT2.out)
     have u2 : w8.cell? ⟨bt, 2, none⟩ = some (.int .i64 t.c) := by rw [cell_of_row _ _ _ _ _ _ HRT3.out]; rfl
     have HC3 := Lib.hid (wsmall_any p t.c 63 (l7 ++ fU t.a ++ fU t.b) w8 HTD.out.2.2.1.1 HTD.out.2.2.1.2 (by omega) (by simp only [List.length_append]; have := fU_len t.a; have := fU_len t.b; have := HL7.out; omega) hw)
     clear hw hf HK2 HRT2 HC2 u1
     go_wp2_with fail
     refine HC3.out.mono ?_
     rintro e w9 ⟨rfl, hw, hf⟩
     have HK4 := Lib.hid (HK3.out.step hw hf)
     have HRT4 : Hid (w9.heap[bt]? = some (.cells #[.int .i64 t.a, .int .i64 t.b, .int .i64 t.c, .int .u32 t.col] 87 (0, 0))) := Lib.hid (by obtain ⟨cs, hrw⟩ := HK3.out.wr.row; exact hf.rows (by decide) hrw (by decide) _ _ HRT3.out)
     have u3 : w9.cell? ⟨bt, 3, none⟩ = some (.int .u32 t.col) := by rw [cell_of_row _ _ _ _ _ _ HRT4.out]; rfl
     have hcn : ((t.col.toNat : Nat) : Int) = t.col := by have := HTD.out.2.2.2.1; omega
     have hcu := wuint_any p t.col.toNat (l7 ++ fU t.a ++ fU t.b ++ fU t.c) w9 (by have := HTD.out.2.2.2.2; omega) (by simp only [List.length_append]; have := fU_len t.a; have := fU_len t.b; have := fU_len t.c; have := HL7.out; omega) hw
     rw [hcn] at hcu
     have HC4 := Lib.hid hcu
     have g0 := HTD.out.2.2.2.1
     have g1 : t.col ≤ 18446744073709551615 := by have := HTD.out.2.2.2.2; omega
     have HTE := Lib.hid (show fTri t = fU t.a ++ (fU t.b ++ (fU t.c ++ Pk.form t.col.toNat)) from rfl)
     generalize t.col = tc at u3 HC4 g0 g1 HTE
     clear hw hf HK3 HRT3 HC3 u2 hcn hcu HRT4
     go_wp2_with fail
     refine HC4.out.mono ?_
     rintro e w10 ⟨rfl, hw, hf⟩
     have HE : Hid (PoS p x (l6 ++ (x.ts.take (i + 1)).flatMap fTri) w w10) := Lib.hid (by
      have h := HK4.out.step hw hf
      rw [HSN.out, HTE.out, ← List.append_assoc, HL7E.out]
      simpa [List.append_assoc] using h)
     clear hw hf HK4 HC4 u3
     go_wp2_with fail
     go_roundg (n2 - (i + 1))
     case measure => omega
     case rel => exact ⟨i + 1, rfl, by go_num, by omega, HE.out⟩
    ·obtain rfl : i = n2 := by omega
     have t2 : ¬ (i : Int) < (i : Int) := by omega
     rw [List.take_of_length_le (by rw [HN2.out]; omega)] at hpo
     have HE : Hid (WPost p (l ++ fObj (keyO x)) w (.returned undef) wr) := Lib.hid ⟨rfl, by
      have h := hpo.wr
      rw [← HL6E.out, ← HL5E.out, ← HL3E.out, ← HL2E.out] at h
      have e : l ++ fObj (keyO x) = l ++ fU x.id ++ fNums x.m ++ fU (k : Int) ++ x.vs.flatMap fNums ++ fU (i : Int) ++ x.ts.flatMap fTri := by
       unfold fObj fMany keyO
       simp only [HN.out, HN2.out, List.append_assoc]
      rw [e]
      exact h, hpo.fr⟩
     clear hpo HK
     go_wp2_with fail
     exact bodyPost_ret (results_none rfl _ _ _) rfl HE.out
end Go.Proofs.YtbbhmhihpdmoiaaGreat.Fx

set_option linter.unusedVariables false
set_option linter.unusedSimpArgs false
namespace Go.Proofs.YtbbhmhihpdmoiaaGreat.Fx
open Go Go.RowKit
structure PsS (p : Nat) (s : ScR) (l : List Nat) (w W : World) : Prop where
 box : ScAt w.heap.size s W
 wr : WSt p l W
 fr : WFr p w W
theorem PsS.step {p : Nat} {s : ScR} {l l' : List Nat} {w W X : World} (i : PsS p s l w W) (h : WSt p l' X) (hf : WFr p W X) : PsS p s l' w X := by
 obtain ⟨cs, hr⟩ := i.wr.row
 exact ⟨hf.rows (by decide) hr (by decide) _ _ i.box, h, i.fr.trans hf⟩
theorem PsS.up {p : Nat} {s : ScR} {l : List Nat} {w W X : World} (i : PsS p s l w W) (hb : Below W.heap.size W X) : PsS p s l w X :=
 i.step (i.wr.below hb) (WFr.of_below hb (by have := i.wr.lt; omega))
def PpRel (p : Nat) (s : ScR) (l : List Nat) (w : World) (n g : Nat) (s5 s26 : Value) (W : World) : Prop :=
 ∃ k : Nat, g = n - k ∧ s26 = .int .i64 (k : Int) ∧ k ≤ n ∧ PsS p s (l ++ ((s.os.take k).map keyO).flatMap fObj) w W
theorem fObj_len {x : Int × List Int × List (List Int) × List TriR} (h : dObj x) : (fObj x).length ≤ 6000 := by
 unfold fObj fMany
 simp only [List.length_append]
 have h1 := fU_len x.1
 have h2 := fNums_len x.2.1
 have h2' := h.2.1.1
 have h3 := fU_len (x.2.2.1.length : Int)
 have h4 := flat_le (f := fNums) (c := 33) x.2.2.1 (fun y hy => by
  have := fNums_len y
  have h3 : y.length = 3 := (h.2.2.1.2 y hy).1
  omega)
 have h5 := fU_len (x.2.2.2.length : Int)
 have h6 := flat_le (f := fTri) (c := 44) x.2.2.2 (fun y hy => fTri_len y)
 have h7 := h.2.2.1.1
 have h8 := h.2.2.2.1
 omega
theorem sizeMc {s : ScR} (h : ScWf s) : (Tryz.prog.info? 25).map (·.size) = some (s.cam.map encI).length := by rw [List.length_map, h.len]; kernel_rfl
set_option maxRecDepth 100000 in
set_option maxHeartbeats 8000000 in
theorem pputs_any (p : Nat) (s : ScR) (l : List Nat) (w : World) (hs : ScWf s) (hd : dSc (keyS s)) (hl : l.length ≤ 10000000) (hda : ∀ X, Below p w X → ObjsAt X s.oo s.os) (h : WSt p l w) :
  Calls Tryz.prog 32 #[.pointer (some ⟨p, 0, none⟩), .agg (scC s)] w (WPost p (l ++ fSc (keyS s)) w) := by
 have hlt := h.lt
 obtain ⟨V0, hV0⟩ : ∃ V, w.alloc (.cells (scC s) 28) = V := ⟨_, rfl⟩
 have hb0 : Below w.heap.size w V0 := by rw [← hV0]; exact (Below.refl _ w).alloc (Nat.le_refl _) _
 have hI : PsS p s l w V0 := ⟨by rw [← hV0]; exact ScAt.new _ _, h.below hb0, WFr.of_below hb0 (by omega)⟩
 have HI := Lib.hid hI
 have HV0 := Lib.hid hV0
 have HX := Lib.hid hs
 have HD := Lib.hid hd
 have HL := Lib.hid hl
 have HDA := Lib.hid (fun X (i : WFr p w X) => hda X i.below)
 have HDB := Lib.hid (fun X Y (i : WFr p w X) (b : Below p X Y) => hda Y (i.below.trans b))
 have hism := Lib.hid (sizeMc hs)
 have d0 : V0.cell? ⟨w.heap.size, 0, none⟩ = some (.int .i64 s.w) := hI.box.c0
 obtain ⟨n, hn⟩ : ∃ n, s.os.length = n := ⟨_, rfl⟩
 obtain ⟨oo, hoo⟩ : ∃ o, s.oo = o := ⟨_, rfl⟩
 have HN := Lib.hid hn
 have HOO := Lib.hid hoo
 have hn16 : n ≤ 16 := by have h := hd.2.2.2.1; unfold keyS at h; simp only [List.length_map] at h; omega
 have C18 := Lib.hid (fun (W : World) (l' : List Nat) (i : PsS p s l' w W) => show W.cell? ⟨w.heap.size, 18, none⟩ = some (.slice oo n s.oc) by rw [i.box.c18 hs, hn, hoo])
 have n0 : (0 : Int) ≤ (n : Int) := by omega
 have n1 : (n : Int) ≤ 16 := by omega
 have HS1 := Lib.hid (wsmall_any p s.w 64 l V0 hd.1.1 hd.1.2 (by omega) (by omega) hI.wr)
 clear hI hV0 hb0 hs hd hda h hlt hn hoo
 go_enter Tryz.func32, Tryz.ntmps32
 go_wp2_with (rw [HV0.out])
 refine HS1.out.mono ?_
 rintro e w1 ⟨rfl, hw, hf⟩
 have HI1 := Lib.hid (HI.out.step hw hf)
 have d1 : w1.cell? ⟨w.heap.size, 1, none⟩ = some (.int .i64 s.h) := HI1.out.box.c1
 have HS2 := Lib.hid (wsmall_any p s.h 64 (l ++ fU s.w) w1 HD.out.2.1.1 HD.out.2.1.2 (by omega) (by have := fU_len s.w; have := HL.out; rw [List.length_append]; omega) hw)
 clear hw hf HI HS1 d0 HV0
 go_wp2_with fail
 refine HS2.out.mono ?_
 rintro e w2 ⟨rfl, hw, hf⟩
 have HI2 := Lib.hid (HI1.out.step hw hf)
 have hmat := Lib.hid HI2.out.box.cam
 have HPM := Lib.hid (pputm_any p s.cam (l ++ fU s.w ++ fU s.h) w2 HD.out.2.2.1 (by have := fU_len s.w; have := fU_len s.h; have := HL.out; simp only [List.length_append]; omega) hw)
 clear hw hf HI1 HS2 d1
 go_wp2_with (with_reducible refine stop_at (some 16) rfl ?_; refine Lib.hid ?_; refine wpList_load_mid rfl 25 (.tmp 15) rfl w.heap.size 2 rfl (s.cam.map encI) _ hmat.out Tryz.underlying25 rfl hism.out ?_)
 refine HPM.out.mono ?_
 rintro e w3 ⟨rfl, hw, hf⟩
 have HI3 := Lib.hid (HI2.out.step hw hf)
 clear hw hf HI2 HPM hmat
 have hl2 : (l ++ fU s.w ++ fU s.h ++ fNums s.cam).length ≤ 10001000 := by
  have := fU_len s.w
  have := fU_len s.h
  have := fNums_len s.cam
  have h3 : s.cam.length = 16 := HD.out.2.2.1.1
  have := HL.out
  simp only [List.length_append]
  omega
 obtain ⟨l2, hl2e⟩ : ∃ L, l ++ fU s.w ++ fU s.h ++ fNums s.cam = L := ⟨_, rfl⟩
 rw [hl2e] at HI3 hl2
 have HL2E := Lib.hid hl2e
 have HS3 := Lib.hid (wsmall_any p (n : Int) 16 l2 w3 n0 n1 (by omega) (by omega) HI3.out.wr)
 have HL2 := Lib.hid hl2
 have c18 := C18.out w3 _ HI3.out
 clear hl2e hl2
 go_wp2_with fail
 refine HS3.out.mono ?_
 rintro e w4 ⟨rfl, hw, hf⟩
 have HI4 := Lib.hid (HI3.out.step hw hf)
 clear hw hf HI3 HS3 c18
 have c18 := C18.out w4 _ HI4.out
 obtain ⟨l3, hl3e⟩ : ∃ L, l2 ++ fU (n : Int) = L := ⟨_, rfl⟩
 rw [hl3e] at HI4
 have HL3E := Lib.hid hl3e
 have HL3 : Hid (l3.length ≤ 10001100) := Lib.hid (by rw [← hl3e, List.length_append]; have := fU_len (n : Int); have := HL2.out; omega)
 clear hl3e
 go_wp2_with fail
 go_loopg [5, 26] n (PpRel p s l3 w n)
 case atStart => exact ⟨0, rfl, rfl, by omega, by simpa using HI4.out⟩
 case round =>
  clear HI4 c18
  obtain ⟨k, hg, rfl, hk, hi⟩ := hrel
  subst hg
  have HK := Lib.hid hi
  have k0 : (0 : Int) ≤ (k : Int) := by omega
  by_cases hkn : k < n
  ·have t1 : (k : Int) < (n : Int) := by omega
   obtain ⟨x, hx⟩ : ∃ x, s.os[k]? = some x := ⟨_, List.getElem?_eq_getElem (by rw [HN.out]; exact hkn)⟩
   obtain ⟨b, off, e, hat⟩ := (HDA.out wr hi.fr) k x hx
   rw [HOO.out] at e
   subst e
   have hxm : keyO x ∈ s.os.map keyO := List.mem_map.2 ⟨x, List.mem_of_getElem? hx, rfl⟩
   have hdx : dObj (keyO x) := HD.out.2.2.2.2 _ hxm
   have HSN := Lib.hid (show ((s.os.take (k + 1)).map keyO).flatMap fObj = ((s.os.take k).map keyO).flatMap fObj ++ fObj (keyO x) by rw [List.take_add_one, hx, List.map_append, List.flatMap_append]; simp)
   have hlk : (l3 ++ ((s.os.take k).map keyO).flatMap fObj).length ≤ 20000000 := by
    have h1 := flat_le (f := fObj) (c := 6000) ((s.os.take k).map keyO) (fun y hy => fObj_len (HD.out.2.2.2.2 y (by
     obtain ⟨z, hz, rfl⟩ := List.mem_map.1 hy
     exact List.mem_map.2 ⟨z, List.mem_of_mem_take hz, rfl⟩)))
    have h2 : ((s.os.take k).map keyO).length ≤ 16 := by rw [List.length_map, List.length_take, HN.out]; omega
    have := HL3.out
    rw [List.length_append]
    omega
   obtain ⟨V1, hV1⟩ : ∃ V, wr.alloc (.cells #[.int .i64 0, .int .i64 0, .int .i64 0, .int .i64 0, .int .i64 0, .int .i64 0, .int .i64 0, .int .i64 0, .int .i64 0, .int .i64 0, .int .i64 0, .int .i64 0, .int .i64 0, .int .i64 0, .int .i64 0, .int .i64 0, .int .i64 0, .slice none 0 0, .slice none 0 0] 73) = V := ⟨_, rfl⟩
   have r1 : RowAt 73 wr.heap.size #[.int .i64 0, .int .i64 0, .int .i64 0, .int .i64 0, .int .i64 0, .int .i64 0, .int .i64 0, .int .i64 0, .int .i64 0, .int .i64 0, .int .i64 0, .int .i64 0, .int .i64 0, .int .i64 0, .int .i64 0, .int .i64 0, .int .i64 0, .slice none 0 0, .slice none 0 0] V1 := by rw [← hV1]; exact RowAt.new _ _ _
   obtain ⟨Y1, hY1⟩ : ∃ V, V1.setRow wr.heap.size (objL x).toArray = V := ⟨_, rfl⟩
   have r2 : RowAt 73 wr.heap.size (objL x).toArray Y1 := by rw [← hY1]; exact r1.row _
   have hb2 : Below wr.heap.size wr Y1 := by rw [← hY1, ← hV1]; exact Below.row ((Below.refl _ _).alloc (Nat.le_refl _) _) (Nat.le_refl _) _
   have HK2 := Lib.hid (HK.out.up hb2)
   have HR := Lib.hid hat.cells
   have hi1 := Lib.hid (sizeOx hat.wf)
   have hj1 := Lib.hid (show (Tryz.prog.info? 73).map (·.size) = some (objL x).toArray.size by rw [List.size_toArray]; exact sizeOx hat.wf)
   have s1 := Lib.hid (show 19 = (objL x).toArray.size by rw [List.size_toArray]; exact (objL_len hat.wf).symm)
   have HG := Lib.hid (show Y1.rangeAt wr.heap.size 0 (objL x) from fun j v hj => by rw [cell_of_row _ _ _ _ _ _ r2, Nat.zero_add]; simpa using hj)
   have M1 := Lib.hid r1
   have HV1 := Lib.hid hV1
   have HY1 := Lib.hid hY1
   have HPO := Lib.hid (pputo_any p x _ Y1 hat.wf hdx (by omega) (fun X hX => by
    obtain ⟨_, _, _, h⟩ := (HDB.out Y1 X HK2.out.fr hX) k x hx
    exact ⟨h.verts, h.tris⟩) HK2.out.wr)
   clear hi hx hat hxm hdx hlk hV1 r1 hY1 r2 hb2
   go_wp2_with (first | (rw [HV1.out]) | (rw [HY1.out]) | (with_reducible refine stop_at (some 29) rfl ?_; refine Lib.hid ?_; refine wpList_load_mid rfl 73 (.tmp 28) rfl b (off + k * 19) rfl (objL x) _ HR.out Tryz.underlying73 rfl hi1.out ?_) | (with_reducible refine stop_at (some 31) rfl ?_; refine Lib.hid ?_; refine wpList_load_mid rfl 73 (.tmp 5) rfl wr.heap.size 0 rfl (objL x) _ HG.out Tryz.underlying73 rfl hi1.out ?_) | (refine wpList_store_big rfl 73 (.tmp 5) (.tmp 29) rfl wr.heap.size _ _ (objL x).toArray rfl rfl M1.out hj1.out s1.out (objL_one' _) ?_))
   refine HPO.out.mono ?_
   rintro e w5 ⟨rfl, hw, hf⟩
   have HE : Hid (PsS p s (l3 ++ ((s.os.take (k + 1)).map keyO).flatMap fObj) w w5) := Lib.hid (by rw [HSN.out, ← List.append_assoc]; exact HK2.out.step hw hf)
   clear hw hf HK HK2 HPO HR HG M1 HV1 HY1
   go_wp2_with fail
   go_roundg (n - (k + 1))
   case measure => omega
   case rel => exact ⟨k + 1, rfl, by go_num, by omega, HE.out⟩
  ·obtain rfl : k = n := by omega
   have t1 : ¬ (k : Int) < (k : Int) := by omega
   rw [List.take_of_length_le (by rw [HN.out]; omega)] at hi
   have HE : Hid (WPost p (l ++ fSc (keyS s)) w (.returned undef) wr) := Lib.hid ⟨rfl, by
    have h := hi.wr
    rw [← HL3E.out, ← HL2E.out] at h
    have e : l ++ fSc (keyS s) = l ++ fU s.w ++ fU s.h ++ fNums s.cam ++ fU (k : Int) ++ (s.os.map keyO).flatMap fObj := by
     unfold fSc fMany keyS
     simp only [List.length_map, HN.out, List.append_assoc]
    rw [e]
    exact h, hi.fr⟩
   clear hi HK
   go_wp2_with fail
   exact bodyPost_ret (results_none rfl _ _ _) rfl HE.out
end Go.Proofs.YtbbhmhihpdmoiaaGreat.Fx
