import Derived.Laws.Rows
import Derived.Test.YtbbhmhihpdmoiaaGreatProg
import Derived.Test.YtbbhmhihpdmoiaaGreatMv38
import Derived.Test.YtbbhmhihpdmoiaaGreatMv39
set_option linter.unusedVariables false
set_option linter.unusedSimpArgs false
namespace Go.Proofs.YtbbhmhihpdmoiaaGreat.Fx
open Go Go.RowKit Go.Lib
open Go.Proofs.YtbbhmhihpdmoiaaGreat.Pk (form fold Bs By)
theorem fU_form (n : Nat) : fU (n : Int) = form n := by
 unfold fU
 rw [show ((n : Int)).toNat = n by omega]
structure ZeI (p : Nat) (s : ScR) (l : List Nat) (w W : World) : Prop where
 box : ScAt w.heap.size s W
 wr : ZSt p l W
 bel : Below w.heap.size w W
 hp : w.heap.size < p
theorem ScAt.grown {B : Nat} {s : ScR} {W X : World} {m : Nat} (h : ScAt B s W) (hg : W.grownBy X (some m)) (e : B ≠ m) : ScAt B s X := by
 have h1 : RowAt 28 B (scC s) W := h
 exact row_grown h1 hg e
theorem ZeI.step {p : Nat} {s : ScR} {l l' : List Nat} {w W X : World} {e : Ending} (i : ZeI p s l w W) (h : ZPost p l' W e X) : ZeI p s l' w X :=
 ⟨i.box.grown h.2.2 (by have := i.hp; omega), h.2.1, i.bel.grown h.2.2 i.bel.size (fun k hk => by cases hk; have := i.hp; omega), i.hp⟩
theorem ZeI.up {p : Nat} {s : ScR} {l : List Nat} {w W X : World} (i : ZeI p s l w W) (h : Below W.heap.size W X) : ZeI p s l w X :=
 ⟨i.box.below h, i.wr.below h, bnext i.bel h, i.hp⟩
structure ZoI (p b : Nat) (s : ScR) (x : ObjR) (l : List Nat) (w W : World) : Prop where
 sc : ZeI p s l w W
 row : RowAt 73 b (objL x).toArray W
 ne : b ≠ p
theorem ZoI.step {p b : Nat} {s : ScR} {x : ObjR} {l l' : List Nat} {w W X : World} {e : Ending} (i : ZoI p b s x l w W) (h : ZPost p l' W e X) : ZoI p b s x l' w X :=
 ⟨i.sc.step h, row_grown i.row h.2.2 i.ne, i.ne⟩
theorem ZoI.up {p b : Nat} {s : ScR} {x : ObjR} {l : List Nat} {w W X : World} (i : ZoI p b s x l w W) (h : Below W.heap.size W X) : ZoI p b s x l w X :=
 ⟨i.sc.up h, keep_row h i.row, i.ne⟩
theorem ZoI.cells {p b : Nat} {s : ScR} {x : ObjR} {l : List Nat} {w W : World} (i : ZoI p b s x l w W) : W.rangeAt b 0 (objL x) := fun j u hj => by
 rw [Nat.zero_add, cell_of_row _ _ _ _ _ _ i.row]
 simpa using hj
def RetZe (s : ScR) (w : World) (e : Ending) (w' : World) : Prop := (∃ v, e = .returned (.tuple #[v, .int .i64 (erE (encO s))]) ∧ Pk.Own w' w.heap.size v ((encO s).getD [])) ∧ Below w.heap.size w w'
theorem fI_len (z : Int) : (fI z).length ≤ 11 := (Pk.form_len _).2
theorem flat_take {α : Type} {f : α → List Nat} {l : List α} {k : Nat} {x : α} (h : l[k]? = some x) : (l.take (k + 1)).flatMap f = (l.take k).flatMap f ++ f x := by
 rw [List.take_add_one, h, List.flatMap_append]
 simp
theorem vert_nums {v : List Int} (h : v.length = 3) : ∃ a b c, v = [a, b, c] := by
 match v, h with
 | [a, b, c], _ => exact ⟨a, b, c, rfl⟩
set_option maxRecDepth 100000 in
set_option maxHeartbeats 32000000 in
theorem zencode_any (s : ScR) (w : World) (hs : ScWf s) (h : ObjsAt w s.oo s.os) :
  Calls Tryz.prog 13 #[.agg (scC s)] w (RetZe s w) := by
 obtain ⟨V0, hV0⟩ : ∃ V, w.alloc (.cells (scC s) 28) = V := ⟨_, rfl⟩
 have hb0 : Below w.heap.size w V0 := by rw [← hV0]; exact (Below.refl _ w).alloc (Nat.le_refl _) _
 have HBX := Lib.hid (show ScAt w.heap.size s V0 by rw [← hV0]; exact ScAt.new _ _)
 have HB0 := Lib.hid hb0
 have HZ0 := Lib.hid (show V0.heap.size = w.heap.size + 1 by rw [← hV0]; simp)
 have HOB := Lib.hid (fun X (hb : Below w.heap.size w X) => h.below hb)
 have HS := Lib.hid hs
 have hall := Lib.hid (sizeS hs)
 have HC := Lib.hid (zcheck_any s V0 hs (h.below hb0))
 have HDD := Lib.hid (fun (ho : okZ s = true) => ok_dSc hs h ho)
 have HV0 := Lib.hid hV0
 have HXS : Hid (V0.rangeAt w.heap.size 0 (scL s)) := Lib.hid (fun j u hj => by rw [Nat.zero_add]; exact HBX.out.at.trans hj)
 clear h hs hb0 hV0
 cases hok : okZ s with
 | false =>
  have HE := Lib.hid (show encO s = none by unfold encO; rw [hok]; rfl)
  rw [hok] at HC
  simp only [Bool.false_eq_true, if_false] at HC
  clear hok HDD
  go_enter Tryz.func13, Tryz.ntmps13
  go_wp2_with (first | (rw [HV0.out]) | (with_reducible refine stop_at (some 10) rfl ?_; refine Lib.hid ?_; refine wpList_load_mid rfl 28 (.tmp 1) rfl w.heap.size 0 rfl (scL s) _ HXS.out Tryz.underlying28 rfl hall.out ?_))
  refine HC.out.mono ?_
  rintro e w1 ⟨rfl, hb⟩
  have HB := Lib.hid (bnext HB0.out hb)
  clear hb HC HV0
  go_wp2_with fail
  go_ret2
  refine ⟨⟨_, by rw [HE.out]; rfl, by rw [HE.out]; exact World.ownsRow_nil _ _ _ _⟩, HB.out⟩
 | true =>
  have HE := Lib.hid (show encO s = some (bytesK (keyS s)) by unfold encO; rw [hok]; rfl)
  have HD := Lib.hid (HDD.out hok)
  rw [hok] at HC
  simp only [if_true] at HC
  clear hok HDD
  go_enter Tryz.func13, Tryz.ntmps13
  go_wp2_with (first | (rw [HV0.out]) | (with_reducible refine stop_at (some 10) rfl ?_; refine Lib.hid ?_; refine wpList_load_mid rfl 28 (.tmp 1) rfl w.heap.size 0 rfl (scL s) _ HXS.out Tryz.underlying28 rfl hall.out ?_))
  refine HC.out.mono ?_
  rintro e w1 ⟨rfl, hb1⟩
  have HB1 := Lib.hid (bnext HB0.out hb1)
  have HBX1 := Lib.hid (HBX.out.below hb1)
  have HZ1 : Hid (w.heap.size < w1.heap.size) := Lib.hid (by have := hb1.size; have := HZ0.out; omega)
  obtain ⟨C, hC⟩ : ∃ C : Array Value, #[.int .u8 109, .int .u8 117, .int .u8 108, .int .u8 49] = C := ⟨_, rfl⟩
  obtain ⟨W1, hW1⟩ : ∃ V, w1.alloc (.cells C 5 (C.size, C.size + 1)) = V := ⟨_, rfl⟩
  obtain ⟨W2, hW2⟩ : ∃ V, W1.alloc (.cells #[.slice (some ⟨w1.heap.size, 0, none⟩) 4 4, .bool false] 81) = V := ⟨_, rfl⟩
  have HCV := Lib.hid (run_convert_bytes_const (P := Tryz.prog) w1 31 5 C 4 4 Tryz.underlying31 (by kernel_rfl))
  rw [hW1] at HCV
  have hr1 : W1.heap[w1.heap.size]? = some (.cells C 5 (C.size, C.size + 1)) := by rw [← hW1]; exact heap_alloc_new _ _
  have hbs1 : Bs W1 (some ⟨w1.heap.size, 0, none⟩) mark1 := lit_bs (by rw [hr1, ← hC]; rfl)
  have z1 : W1.heap.size = w1.heap.size + 1 := by rw [← hW1]; simp
  have hb2 : Below w1.heap.size w1 W1 := by rw [← hW1]; exact (Below.refl _ _).alloc (Nat.le_refl _) _
  have hb3 : Below W1.heap.size W1 W2 := by rw [← hW2]; exact (Below.refl _ _).alloc (Nat.le_refl _) _
  have hr2 : W2.heap[W1.heap.size]? = some (.cells #[.slice (some ⟨w1.heap.size, 0, none⟩) 4 4, .bool false] 81 (0, 0)) := by rw [← hW2]; exact heap_alloc_new _ _
  obtain ⟨p, hp⟩ : ∃ p, W1.heap.size = p := ⟨_, rfl⟩
  rw [hp] at hr2
  have HP := Lib.hid (show w.heap.size < p by have := HZ1.out; omega)
  have hB2 := bnext (bnext HB1.out hb2) hb3
  have hbx2 := (HBX1.out.below hb2).below hb3
  have HC1 := Lib.hid (Pk.zsmall_wk p s.w 64 mark1 W2 HD.out.1.1 HD.out.1.2 (by have := HD.out.1.2; unfold keyS at this; dsimp only at this; omega) (by decide) (some ⟨w1.heap.size, 0, none⟩) 4 hr2 (hbs1.below hb3) (fun e => by cases e))
  have HB2 := Lib.hid hB2
  have HBX2 := Lib.hid hbx2
  have c0 : W2.cell? ⟨w.heap.size, 0, none⟩ = some (.int .i64 s.w) := hbx2.c0
  have HCC := Lib.hid hC
  have HW2 := Lib.hid (show W1.alloc (.cells #[.slice (some ⟨w1.heap.size, 0, none⟩) 4 4, .bool false] 81) = W2 from hW2)
  have HPP := Lib.hid hp
  clear hb1 hC hW1 hW2 hr1 hbs1 z1 hb2 hb3 hr2 hB2 hbx2 hp HC HV0 HB0 HBX HZ0 HXS HB1 HBX1 HZ1
  go_wp2_with (first | (rw [HCC.out]; rw [HCV.out]) | (rw [HW2.out]) | (rw [HPP.out]))
  refine HC1.out.mono ?_
  rintro e y1 hp1
  obtain rfl := hp1.1
  have HJ1 : Hid (ZeI p s (mark1 ++ fU s.w) w y1) := Lib.hid ⟨HBX2.out.grown hp1.2.2 (by have := HP.out; omega), hp1.2.1, HB2.out.grown hp1.2.2 HB2.out.size (fun k hk => by cases hk; have := HP.out; omega), HP.out⟩
  clear hp1 HC1 c0 HCV HCC HW2 HPP HB2 HBX2
  have hcam := Lib.hid (sizeMc HS.out)
  have c1 : y1.cell? ⟨w.heap.size, 1, none⟩ = some (.int .i64 s.h) := HJ1.out.box.c1
  obtain ⟨L1, hL1⟩ : ∃ L, mark1 ++ fU s.w = L := ⟨_, rfl⟩
  have h1l : L1.length ≤ 15 := by
   rw [← hL1, List.length_append]
   have := fU_len s.w
   have : mark1.length = 4 := rfl
   omega
  rw [hL1] at HJ1
  have HC2 := Lib.hid (zs_any p s.h 64 L1 y1 HD.out.2.1.1 HD.out.2.1.2 (by decide) (by omega) HJ1.out.wr)
  go_wp2_with fail
  clear c1
  refine HC2.out.mono ?_
  rintro e y2 hp2
  obtain rfl := hp2.1
  have HJ2 := Lib.hid (HJ1.out.step hp2)
  have h2l : (L1 ++ fU s.h).length ≤ 30 := by rw [List.length_append]; have := fU_len s.h; omega
  have HC3 := Lib.hid (zmat_any p s.cam (L1 ++ fU s.h) y2 HD.out.2.2.1 (by omega) HJ2.out.wr)
  clear hp2 HC2 HJ1
  go_wp2_with (with_reducible refine stop_at (some 29) rfl ?_; refine Lib.hid ?_; refine wpList_load_mid rfl 25 (.tmp 28) rfl w.heap.size 2 rfl (s.cam.map encI) _ HJ2.out.box.cam Tryz.underlying25 rfl hcam.out ?_)
  refine HC3.out.mono ?_
  rintro e y3 hp3
  obtain rfl := hp3.1
  have HJ3 := Lib.hid (HJ2.out.step hp3)
  have h3l : (L1 ++ fU s.h ++ fNums s.cam).length ≤ 300 := by
   rw [List.length_append]
   have := fNums_len s.cam
   have : s.cam.length = 16 := HS.out.len
   omega
  obtain ⟨n, hn⟩ : ∃ n, s.os.length = n := ⟨_, rfl⟩
  have HN := Lib.hid hn
  have n16 : n ≤ 16 := by have h := HD.out.2.2.2.1; unfold keyS at h; simp only [List.length_map] at h; omega
  have n0 : (0 : Int) ≤ (n : Int) := by omega
  have n1 : (n : Int) ≤ 16 := by omega
  have C18 := Lib.hid (fun (W : World) (l' : List Nat) (i : ZeI p s l' w W) => show W.cell? ⟨w.heap.size, 18, none⟩ = some (.slice s.oo n s.oc) by rw [i.box.c18 HS.out, hn])
  have c18 := C18.out y3 _ HJ3.out
  have HC4 := Lib.hid (zs_any p (n : Int) 16 _ y3 n0 n1 (by decide) (Nat.le_trans h3l (by decide)) HJ3.out.wr)
  have hcap := HS.out.cap.1
  rw [hn] at hcap
  clear hp3 HC3 HJ2 hn
  go_wp2_with fail
  clear c18
  refine HC4.out.mono ?_
  rintro e y4 hp4
  obtain rfl := hp4.1
  have HJ4 := Lib.hid (HJ3.out.step hp4)
  clear hp4 HC4 HJ3
  obtain ⟨L4, hL4⟩ : ∃ L, L1 ++ fU s.h ++ fNums s.cam ++ fU (n : Int) = L := ⟨_, rfl⟩
  rw [hL4] at HJ4
  have HL4 : Hid (L4.length ≤ 400) := Lib.hid (by rw [← hL4, List.length_append]; have := fU_len (n : Int); omega)
  have HFIN : Hid (L4 ++ (s.os.map keyO).flatMap fObj = mark1 ++ fSc (keyS s)) := Lib.hid (by
   rw [← hL4, ← hL1, ← HN.out]
   unfold fSc fMany keyS
   simp only [List.append_assoc, List.length_map])
  have HDO : Hid (∀ x ∈ s.os, dObj (keyO x)) := Lib.hid (fun x hx => HD.out.2.2.2.2 (keyO x) (List.mem_map.2 ⟨x, hx, rfl⟩))
  clear hL4 hL1 h1l h2l h3l hcam
  go_wp2_with fail
  go_loopg [6] n (fun g s6 wx => ∃ k : Nat, g = n - k ∧ s6 = .int .i64 (k : Int) ∧ k ≤ n ∧ ZeI p s (L4 ++ ((s.os.take k).map keyO).flatMap fObj) w wx)
  case atStart => exact ⟨0, rfl, rfl, by omega, by have := HJ4.out; simpa using this⟩
  case round =>
   obtain ⟨k, rfl, rfl, hk, hj⟩ := hrel
   obtain ⟨wo, hwo⟩ : ∃ X, X = wr := ⟨_, rfl⟩
   subst hwo
   have HJ := Lib.hid hj
   clear hj HJ4
   have k0 : (0 : Int) ≤ (k : Int) := by omega
   have c18 := C18.out wo _ HJ.out
   by_cases hkn : k < n
   ·have t2 : (k : Int) < (n : Int) := by omega
    obtain ⟨x, hx⟩ : ∃ x, s.os[k]? = some x := ⟨_, List.getElem?_eq_getElem (by rw [HN.out]; exact hkn)⟩
    have hxm := List.mem_of_getElem? hx
    obtain ⟨b, off, hoo, hat⟩ := HOB.out wo HJ.out.bel k x hx
    rw [hoo] at c18
    obtain ⟨V1, hV1⟩ : ∃ V, wo.alloc (.cells #[.int .i64 0, .int .i64 0, .int .i64 0, .int .i64 0, .int .i64 0, .int .i64 0, .int .i64 0, .int .i64 0, .int .i64 0, .int .i64 0, .int .i64 0, .int .i64 0, .int .i64 0, .int .i64 0, .int .i64 0, .int .i64 0, .int .i64 0, .slice none 0 0, .slice none 0 0] 73) = V := ⟨_, rfl⟩
    obtain ⟨V2, hV2⟩ : ∃ V, V1.setRow wo.heap.size (objL x).toArray = V := ⟨_, rfl⟩
    have r1 : RowAt 73 wo.heap.size #[.int .i64 0, .int .i64 0, .int .i64 0, .int .i64 0, .int .i64 0, .int .i64 0, .int .i64 0, .int .i64 0, .int .i64 0, .int .i64 0, .int .i64 0, .int .i64 0, .int .i64 0, .int .i64 0, .int .i64 0, .int .i64 0, .int .i64 0, .slice none 0 0, .slice none 0 0] V1 := by rw [← hV1]; exact RowAt.new _ _ _
    have r2 : RowAt 73 wo.heap.size (objL x).toArray V2 := by rw [← hV2]; exact r1.row _
    have b2 : Below wo.heap.size wo V2 := by rw [← hV2, ← hV1]; exact Below.row ((Below.refl _ _).alloc (Nat.le_refl _) _) (Nat.le_refl _) _
    have hwf := hat.wf
    obtain ⟨LA, hLA⟩ : ∃ L, L4 ++ ((s.os.take k).map keyO).flatMap fObj = L := ⟨_, rfl⟩
    have hd := HDO.out x hxm
    have HLA : Hid (LA.length ≤ 100000) := Lib.hid (by
     rw [← hLA, List.length_append]
     have h1 := flat_le (f := fObj) (c := 6000) ((s.os.take k).map keyO) (fun y hy => by
      obtain ⟨z, hz, rfl⟩ := List.mem_map.1 hy
      exact fObj_len (HDO.out z (List.mem_of_mem_take hz)))
     have h2 : ((s.os.take k).map keyO).length ≤ 16 := by rw [List.length_map, List.length_take]; omega
     have := HL4.out
     omega)
    have HSU : Hid (L4 ++ ((s.os.take (k + 1)).map keyO).flatMap fObj = LA ++ fObj (keyO x)) := Lib.hid (by
     rw [← hLA, List.take_add_one, hx, List.map_append, List.flatMap_append, List.append_assoc]
     simp)
    rw [hLA] at HJ
    have HJ5 : Hid (ZoI p wo.heap.size s x LA w V2) := Lib.hid ⟨HJ.out.up b2, r2, by have := HJ.out.wr.lt; omega⟩
    have HOX := Lib.hid hat.cells
    have HVS : Hid (∀ X, Below w.heap.size w X → VertsAt X x.vo x.vs ∧ TrisAt X x.tq x.ts) := Lib.hid (fun X hX => by
     obtain ⟨_, _, _, hat2⟩ := HOB.out X hX k x hx
     exact ⟨hat2.verts, hat2.tris⟩)
    have HWF := Lib.hid hwf
    have HDX := Lib.hid hd
    have hio := Lib.hid (show (Tryz.prog.info? 73).map (·.size) = some (objL x).length by rw [objL_len hwf]; kernel_rfl)
    have hio2 := Lib.hid (show (Tryz.prog.info? 73).map (·.size) = some (objL x).toArray.size by rw [List.size_toArray, objL_len hwf]; kernel_rfl)
    have hio3 := Lib.hid (show 19 = (objL x).toArray.size by rw [List.size_toArray, objL_len hwf])
    have hio4 : Hid ((objL x).toArray.all (·.oneCell') = true) := Lib.hid (by rw [List.all_toArray, List.all_eq_true]; exact fun u hu => obj_one1 x u hu)
    have him := Lib.hid (show (Tryz.prog.info? 25).map (·.size) = some (x.m.map encI).length by rw [List.length_map, hwf.len]; kernel_rfl)
    have HR1 := Lib.hid r1
    have HV1 := Lib.hid hV1
    have HV2 := Lib.hid hV2
    have x0 : V2.cell? ⟨wo.heap.size, 0, none⟩ = some (.int .i64 x.id) := HJ5.out.cells 0 _ (objL_id x)
    have HC5 := Lib.hid (zs_any p x.id 65535 LA V2 hd.1.1 hd.1.2 (by decide) (by have := HLA.out; omega) HJ5.out.sc.wr)
    clear hx hxm hoo hat r1 r2 b2 hwf hLA hd hV1 hV2 HJ
    go_wp2_with (first | (rw [HV1.out]) | (rw [HV2.out]) | (with_reducible refine stop_at (some 47) rfl ?_; refine Lib.hid ?_; refine wpList_load_mid rfl 73 (.tmp 46) rfl b (off + k * 19) rfl (objL x) _ HOX.out Tryz.underlying73 rfl hio.out ?_) | (refine wpList_store_big rfl 73 (.tmp 7) (.tmp 47) rfl wo.heap.size _ _ (objL x).toArray rfl rfl HR1.out hio2.out hio3.out hio4.out ?_))
    clear x0 c18
    refine HC5.out.mono ?_
    rintro e y5 hp5
    obtain rfl := hp5.1
    have HJ6 := Lib.hid (HJ5.out.step hp5)
    have hm6 : y5.rangeAt wo.heap.size 1 (x.m.map encI) := fun i v hi => by
     have h1 := HJ6.out.cells (1 + i) v (objL_m hi)
     rwa [Nat.zero_add] at h1
    have HM6 := Lib.hid hm6
    have l6 : (LA ++ fU x.id).length ≤ 101000 := by rw [List.length_append]; have := fU_len x.id; have := HLA.out; omega
    have HC6 := Lib.hid (zmat_any p x.m (LA ++ fU x.id) y5 HDX.out.2.1 (by omega) HJ6.out.sc.wr)
    clear hp5 HC5 HJ5 hm6 HV1 HV2 HR1 HOX
    go_wp2_with (with_reducible refine stop_at (some 54) rfl ?_; refine Lib.hid ?_; refine wpList_load_mid rfl 25 (.tmp 53) rfl wo.heap.size 1 rfl (x.m.map encI) _ HM6.out Tryz.underlying25 rfl him.out ?_)
    refine HC6.out.mono ?_
    rintro e y6 hp6
    obtain rfl := hp6.1
    have HJ7 := Lib.hid (HJ6.out.step hp6)
    have l7 : (LA ++ fU x.id ++ fNums x.m).length ≤ 102000 := by rw [List.length_append]; have := fNums_len x.m; have := HWF.out.len; omega
    obtain ⟨mv, hmv⟩ : ∃ m, x.vs.length = m := ⟨_, rfl⟩
    obtain ⟨mt, hmt⟩ : ∃ m, x.ts.length = m := ⟨_, rfl⟩
    have HMV := Lib.hid hmv
    have HMT := Lib.hid hmt
    have v64 : mv ≤ 64 := by have := HDX.out.2.2.1.1; rw [← hmv]; exact this
    have t64 : mt ≤ 64 := by have := HDX.out.2.2.2.1; rw [← hmt]; exact this
    have v0 : (0 : Int) ≤ (mv : Int) := by omega
    have v1 : (mv : Int) ≤ 64 := by omega
    have u0 : (0 : Int) ≤ (mt : Int) := by omega
    have u1 : (mt : Int) ≤ 64 := by omega
    have hcv := HWF.out.vcap.1
    have hct := HWF.out.tcap.1
    rw [hmv] at hcv
    rw [hmt] at hct
    have C17 := Lib.hid (fun (W : World) (l' : List Nat) (i : ZoI p wo.heap.size s x l' w W) => show W.cell? ⟨wo.heap.size, 17, none⟩ = some (.slice x.vo mv x.vc) by have := i.cells 17 _ (objL_vs HWF.out); rwa [hmv] at this)
    have C19 := Lib.hid (fun (W : World) (l' : List Nat) (i : ZoI p wo.heap.size s x l' w W) => show W.cell? ⟨wo.heap.size, 18, none⟩ = some (.slice x.tq mt x.tc) by have := i.cells 18 _ (objL_ts HWF.out); rwa [hmt] at this)
    have c17 := C17.out y6 _ HJ7.out
    have HC7 := Lib.hid (zs_any p (mv : Int) 64 _ y6 v0 v1 (by decide) (Nat.le_trans l7 (by decide)) HJ7.out.sc.wr)
    clear hp6 HC6 HJ6 HM6 hmv hmt
    go_wp2_with fail
    clear c17
    refine HC7.out.mono ?_
    rintro e y7 hp7
    obtain rfl := hp7.1
    have HJ8 := Lib.hid (HJ7.out.step hp7)
    obtain ⟨LB, hLB⟩ : ∃ L, LA ++ fU x.id ++ fNums x.m ++ fU (mv : Int) = L := ⟨_, rfl⟩
    rw [hLB] at HJ8
    have HLB : Hid (LB.length ≤ 103000) := Lib.hid (by rw [← hLB, List.length_append]; have := fU_len (mv : Int); omega)
    clear hp7 HC7 HJ7
    go_wp2_with fail
    go_loopg [8] mv (fun g s8 wx => ∃ j : Nat, g = mv - j ∧ s8 = .int .i64 (j : Int) ∧ j ≤ mv ∧ ZoI p wo.heap.size s x (LB ++ (x.vs.take j).flatMap fNums) w wx)
    case atStart => exact ⟨0, rfl, rfl, by omega, by have := HJ8.out; simpa using this⟩
    case round =>
     obtain ⟨j, rfl, rfl, hjm, hi⟩ := hrel
     obtain ⟨w8, hw8⟩ : ∃ X, X = wr := ⟨_, rfl⟩
     subst hw8
     have HI := Lib.hid hi
     clear hi HJ8
     have j0 : (0 : Int) ≤ (j : Int) := by omega
     have c17 := C17.out w8 _ HI.out
     by_cases hjv : j < mv
     ·have t3 : (j : Int) < (mv : Int) := by omega
      obtain ⟨v, hv⟩ : ∃ v, x.vs[j]? = some v := ⟨_, List.getElem?_eq_getElem (by rw [HMV.out]; exact hjv)⟩
      obtain ⟨b2, off2, hvo, hvat, hvwf⟩ := (HVS.out _ HI.out.sc.bel).1 j v hv
      have HV2 : Hid (∀ X, Below w.heap.size w X → X.rangeAt b2 (off2 + j * 3) (v.map encI)) := Lib.hid (fun X hX => by
       obtain ⟨b', o', e', h', _⟩ := (HVS.out X hX).1 j v hv
       rw [hvo] at e'
       cases e'
       exact h')
      obtain ⟨va, vb, vc, rfl⟩ := vert_nums hvwf.len
      have HSV : Hid ((x.vs.take (j + 1)).flatMap fNums = (x.vs.take j).flatMap fNums ++ (fI va ++ (fI vb ++ fI vc))) := Lib.hid (by
       rw [flat_take hv]
       simp [fNums])
      have hna : Num va := hvwf.num 0
      have hnb : Num vb := hvwf.num 1
      have hnc : Num vc := hvwf.num 2
      rw [hvo] at c17
      have CV := Lib.hid (fun (W : World) (l' : List Nat) (i : ZoI p wo.heap.size s x l' w W) => show W.cell? ⟨wo.heap.size, 17, none⟩ = some (.slice (some ⟨b2, off2, none⟩) mv x.vc) by have := C17.out W l' i; rwa [hvo] at this)
      have a0 : w8.cell? ⟨b2, off2 + j * 3, none⟩ = some (.int .i64 va) := HV2.out _ HI.out.sc.bel 0 _ rfl
      obtain ⟨LD, hLD⟩ : ∃ L, LB ++ (x.vs.take j).flatMap fNums = L := ⟨_, rfl⟩
      have HLD : Hid (LD.length ≤ 120000) := Lib.hid (by
       rw [← hLD, List.length_append]
       have h1 := flat_le (f := fNums) (c := 33) (x.vs.take j) (fun y hy => by
        have := fNums_len y
        have h3 : y.length = 3 := (HDX.out.2.2.1.2 y (List.mem_of_mem_take hy)).1
        omega)
       have h2 : (x.vs.take j).length ≤ 64 := by rw [List.length_take]; omega
       have := HLB.out
       omega)
      rw [hLD] at HI
      have HC8 := Lib.hid (zi_any p va LD w8 hna (by have := HLD.out; omega) HI.out.sc.wr)
      clear hv hvat hvwf hvo
      go_wp2_with fail
      clear c17 a0
      refine HC8.out.mono ?_
      rintro e y8 hp8
      obtain rfl := hp8.1
      have HI8 := Lib.hid (HI.out.step hp8)
      have c17 := CV.out y8 _ HI8.out
      have a1 : y8.cell? ⟨b2, off2 + j * 3 + 1, none⟩ = some (.int .i64 vb) := HV2.out _ HI8.out.sc.bel 1 _ rfl
      have l8 : (LD ++ fI va).length ≤ 121000 := by rw [List.length_append]; have := fI_len va; have := HLD.out; omega
      have HC9 := Lib.hid (zi_any p vb _ y8 hnb (Nat.le_trans l8 (by decide)) HI8.out.sc.wr)
      clear hp8 HC8 HI
      go_wp2_with fail
      clear c17 a1
      refine HC9.out.mono ?_
      rintro e y9 hp9
      obtain rfl := hp9.1
      have HI9 := Lib.hid (HI8.out.step hp9)
      have c17 := CV.out y9 _ HI9.out
      have a2 : y9.cell? ⟨b2, off2 + j * 3 + 2, none⟩ = some (.int .i64 vc) := HV2.out _ HI9.out.sc.bel 2 _ rfl
      have l9 : (LD ++ fI va ++ fI vb).length ≤ 122000 := by rw [List.length_append]; have := fI_len vb; omega
      have HC10 := Lib.hid (zi_any p vc _ y9 hnc (Nat.le_trans l9 (by decide)) HI9.out.sc.wr)
      clear hp9 HC9 HI8
      go_wp2_with fail
      clear c17 a2
      refine HC10.out.mono ?_
      rintro e y10 hp10
      obtain rfl := hp10.1
      have HI10 : Hid (ZoI p wo.heap.size s x (LB ++ (x.vs.take (j + 1)).flatMap fNums) w y10) := Lib.hid (by
       rw [HSV.out, ← List.append_assoc, hLD, ← List.append_assoc, ← List.append_assoc]
       exact HI9.out.step hp10)
      clear hp10 HC10 HI9
      go_wp2_with fail
      go_roundg (mv - (j + 1))
      case measure => omega
      case rel => exact ⟨j + 1, rfl, by go_num, by omega, HI10.out⟩
     ·obtain rfl : j = mv := by omega
      have t3 : ¬ (j : Int) < (j : Int) := by omega
      have HIV : Hid (ZoI p wo.heap.size s x (LB ++ x.vs.flatMap fNums) w w8) := Lib.hid (by have := HI.out; rwa [List.take_of_length_le (by rw [HMV.out]; omega)] at this)
      have lV : (LB ++ x.vs.flatMap fNums).length ≤ 120000 := by
       rw [List.length_append]
       have h1 := flat_le (f := fNums) (c := 33) x.vs (fun y hy => by
        have := fNums_len y
        have h3 : y.length = 3 := (HDX.out.2.2.1.2 y hy).1
        omega)
       have := HLB.out
       have := HMV.out
       omega
      have c19 := C19.out w8 _ HIV.out
      have HC11 := Lib.hid (zs_any p (mt : Int) 64 _ w8 u0 u1 (by decide) (Nat.le_trans lV (by decide)) HIV.out.sc.wr)
      clear HI
      go_wp2_with fail
      clear c17 c19
      refine HC11.out.mono ?_
      rintro e y11 hp11
      obtain rfl := hp11.1
      have HI11 := Lib.hid (HIV.out.step hp11)
      obtain ⟨LC, hLC⟩ : ∃ L, LB ++ x.vs.flatMap fNums ++ fU (mt : Int) = L := ⟨_, rfl⟩
      rw [hLC] at HI11
      have HLC : Hid (LC.length ≤ 121000) := Lib.hid (by rw [← hLC, List.length_append]; have := fU_len (mt : Int); omega)
      clear hp11 HC11 HIV
      go_wp2_with fail
      go_loopg [9] mt (fun g s9 wx => ∃ i : Nat, g = mt - i ∧ s9 = .int .i64 (i : Int) ∧ i ≤ mt ∧ ZoI p wo.heap.size s x (LC ++ (x.ts.take i).flatMap fTri) w wx)
      case atStart => exact ⟨0, rfl, rfl, by omega, by have := HI11.out; simpa using this⟩
      case round =>
       obtain ⟨i, rfl, rfl, him2, hi⟩ := hrel
       obtain ⟨w9, hw9⟩ : ∃ X, X = wr := ⟨_, rfl⟩
       subst hw9
       have HT := Lib.hid hi
       clear hi HI11
       have i0 : (0 : Int) ≤ (i : Int) := by omega
       have c19 := C19.out w9 _ HT.out
       by_cases hit : i < mt
       ·have t4 : (i : Int) < (mt : Int) := by omega
        obtain ⟨t, ht⟩ : ∃ t, x.ts[i]? = some t := ⟨_, List.getElem?_eq_getElem (by rw [HMT.out]; exact hit)⟩
        obtain ⟨b3, off3, hto, htat, htwf⟩ := (HVS.out _ HT.out.sc.bel).2 i t ht
        have HT2 : Hid (∀ X, Below w.heap.size w X → X.rangeAt b3 (off3 + i * 4) (triL t)) := Lib.hid (fun X hX => by
         obtain ⟨b', o', e', h', _⟩ := (HVS.out X hX).2 i t ht
         rw [hto] at e'
         cases e'
         exact h')
        have hdt : dTri t := HDX.out.2.2.2.2 t (List.mem_of_getElem? ht)
        have HST := Lib.hid (flat_take (f := fTri) ht)
        obtain ⟨⟨ha0, ha1⟩, ⟨hb0, hb1⟩, ⟨hc0, hc1⟩, hcl0, hcl1⟩ := hdt
        obtain ⟨cl, hcl⟩ := Int.eq_ofNat_of_zero_le hcl0
        rw [hto] at c19
        have CT := Lib.hid (fun (W : World) (l' : List Nat) (i : ZoI p wo.heap.size s x l' w W) => show W.cell? ⟨wo.heap.size, 18, none⟩ = some (.slice (some ⟨b3, off3, none⟩) mt x.tc) by have := C19.out W l' i; rwa [hto] at this)
        have a0 : w9.cell? ⟨b3, off3 + i * 4, none⟩ = some (.int .i64 t.a) := HT2.out _ HT.out.sc.bel 0 _ rfl
        obtain ⟨LE, hLE⟩ : ∃ L, LC ++ (x.ts.take i).flatMap fTri = L := ⟨_, rfl⟩
        have HLE : Hid (LE.length ≤ 130000) := Lib.hid (by
         rw [← hLE, List.length_append]
         have h1 := flat_le (f := fTri) (c := 44) (x.ts.take i) (fun y hy => fTri_len y)
         have h2 : (x.ts.take i).length ≤ 64 := by rw [List.length_take]; omega
         have := HLC.out
         omega)
        rw [hLE] at HT
        have HC12 := Lib.hid (zs_any p t.a 63 LE w9 ha0 ha1 (by decide) (by have := HLE.out; omega) HT.out.sc.wr)
        clear ht htat htwf hto
        go_wp2_with fail
        clear c19 a0
        refine HC12.out.mono ?_
        rintro e y12 hp12
        obtain rfl := hp12.1
        have HT12 := Lib.hid (HT.out.step hp12)
        have c19 := CT.out y12 _ HT12.out
        have a1 : y12.cell? ⟨b3, off3 + i * 4 + 1, none⟩ = some (.int .i64 t.b) := HT2.out _ HT12.out.sc.bel 1 _ rfl
        have l12 : (LE ++ fU t.a).length ≤ 131000 := by rw [List.length_append]; have := fU_len t.a; have := HLE.out; omega
        have HC13 := Lib.hid (zs_any p t.b 63 _ y12 hb0 hb1 (by decide) (Nat.le_trans l12 (by decide)) HT12.out.sc.wr)
        clear hp12 HC12 HT
        go_wp2_with fail
        clear c19 a1
        refine HC13.out.mono ?_
        rintro e y13 hp13
        obtain rfl := hp13.1
        have HT13 := Lib.hid (HT12.out.step hp13)
        have c19 := CT.out y13 _ HT13.out
        have a2 : y13.cell? ⟨b3, off3 + i * 4 + 2, none⟩ = some (.int .i64 t.c) := HT2.out _ HT13.out.sc.bel 2 _ rfl
        have l13 : (LE ++ fU t.a ++ fU t.b).length ≤ 132000 := by rw [List.length_append]; have := fU_len t.b; omega
        have HC14 := Lib.hid (zs_any p t.c 63 _ y13 hc0 hc1 (by decide) (Nat.le_trans l13 (by decide)) HT13.out.sc.wr)
        clear hp13 HC13 HT12
        go_wp2_with fail
        clear c19 a2
        refine HC14.out.mono ?_
        rintro e y14 hp14
        obtain rfl := hp14.1
        have HT14 := Lib.hid (HT13.out.step hp14)
        have c19 := CT.out y14 _ HT14.out
        have a3 : y14.cell? ⟨b3, off3 + i * 4 + 3, none⟩ = some (.int .u32 (cl : Int)) := by rw [← hcl]; exact HT2.out _ HT14.out.sc.bel 3 _ rfl
        have l14 : (LE ++ fU t.a ++ fU t.b ++ fU t.c).length ≤ 133000 := by rw [List.length_append]; have := fU_len t.c; omega
        have cl1 : (cl : Int) ≤ 4294967295 := by rw [← hcl]; exact hcl1
        have cl0 : (0 : Int) ≤ (cl : Int) := by omega
        have HC15 := Lib.hid (zu_any p cl _ y14 (by omega) (Nat.le_trans l14 (by decide)) HT14.out.sc.wr)
        have HCL : Hid (form cl = fU t.col) := Lib.hid (by rw [hcl, fU_form])
        clear hp14 HC14 HT13 hcl hcl0 hcl1
        go_wp2_with fail
        clear c19 a3
        refine HC15.out.mono ?_
        rintro e y15 hp15
        obtain rfl := hp15.1
        have HT15 : Hid (ZoI p wo.heap.size s x (LC ++ (x.ts.take (i + 1)).flatMap fTri) w y15) := Lib.hid (by
         rw [HST.out, ← List.append_assoc, hLE]
         unfold fTri
         rw [← HCL.out, ← List.append_assoc, ← List.append_assoc, ← List.append_assoc]
         exact HT14.out.step hp15)
        clear hp15 HC15 HT14
        go_wp2_with fail
        go_roundg (mt - (i + 1))
        case measure => omega
        case rel => exact ⟨i + 1, rfl, by go_num, by omega, HT15.out⟩
       ·obtain rfl : i = mt := by omega
        have t4 : ¬ (i : Int) < (i : Int) := by omega
        have HN9 : Hid (ZeI p s (L4 ++ ((s.os.take (k + 1)).map keyO).flatMap fObj) w w9) := Lib.hid (by
         have h1 := HT.out.sc
         rw [List.take_of_length_le (by rw [HMT.out]; omega)] at h1
         have e1 : L4 ++ ((s.os.take (k + 1)).map keyO).flatMap fObj = LC ++ x.ts.flatMap fTri := by
          rw [HSU.out, ← hLC, ← hLB]
          unfold fObj fMany keyO
          rw [HMV.out, HMT.out]
          simp only [List.append_assoc]
         rw [e1]
         exact h1)
        clear HT
        go_wp2_with fail
        go_roundg (n - (k + 1))
        case measure => omega
        case rel => exact ⟨k + 1, rfl, by go_num, by omega, HN9.out⟩
   ·obtain rfl : k = n := by omega
    have t2 : ¬ (k : Int) < (k : Int) := by omega
    have hfin := HJ.out.wr
    rw [List.take_of_length_le (by rw [HN.out]; omega), HFIN.out] at hfin
    obtain ⟨v, hrow, hown⟩ := hfin
    obtain ⟨o5, c5, rfl, hbs5, hc5, hc5m, hn5, _⟩ := hown.open
    have hby : By (mark1 ++ fSc (keyS s)) := fun z hz => by
     rcases List.mem_append.1 hz with hz | hz
     ·exact mark1_by z hz
     ·exact goodSc.bytes _ HD.out z hz
    have hlen : (mark1 ++ fSc (keyS s)).length ≤ 100000 := by
     have := (fSc_len HD.out).2
     rw [List.length_append]
     have : mark1.length = 4 := rfl
     omega
    have p0 : wo.cell? ⟨p, 0, none⟩ = some (.slice o5 (mark1 ++ fSc (keyS s)).length c5) := (cell_of_row _ _ _ _ _ _ hrow).trans rfl
    have HSE := Lib.hid (show Calls Tryz.prog 39 #[.slice o5 (mark1 ++ fSc (keyS s)).length c5] wo fun e w' => (∃ v, e = .returned v ∧ Pk.Own w' wo.heap.size v (bytesK (keyS s))) ∧ Below wo.heap.size wo w' from Cx.rseal_any (mark1 ++ fSc (keyS s)) o5 c5 wo (by_px hby) (by omega) hn5 (bs_px hbs5))
    have HBF := Lib.hid HJ.out.bel
    generalize (mark1 ++ fSc (keyS s)).length = nl at p0 HSE
    clear hrow hown hbs5 hc5 hc5m hn5 hby hlen HJ
    go_wp2_with fail
    clear p0 c18
    refine HSE.out.mono ?_
    rintro e zz ⟨⟨v6, rfl, ho6⟩, hb6⟩
    have HR := Lib.hid (show RetZe s w (.returned (.tuple #[v6, .int .i64 0])) zz by
     unfold RetZe
     rw [HE.out]
     exact ⟨⟨v6, rfl, ho6.mono HBF.out.size⟩, bnext HBF.out hb6⟩)
    clear ho6 hb6 HSE
    go_wp2_with fail
    go_ret2
    exact HR.out
end Go.Proofs.YtbbhmhihpdmoiaaGreat.Fx
