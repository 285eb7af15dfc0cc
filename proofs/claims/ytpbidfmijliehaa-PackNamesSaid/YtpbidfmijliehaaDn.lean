/- PackNames, walked. -/
import Derived.Test.YtpbidfmijliehaaProg
import Derived.Test.YtpbidfmijliehaaDm
set_option linter.unusedVariables false
set_option linter.unusedSimpArgs false
namespace Go.Proofs.Ytpbidfmijliehaa.Fx
open Go Go.RowKit
theorem Turn.belowB {p : Nat} {v v' : Value} {l : List Nat} {lost : Bool} {w W X : World} (t : Turn p v v' W X) (hb : Below w.heap.size w W) (hp : w.heap.size ≤ p) (hw : PW p p v l lost W) : Below w.heap.size w X :=
  t.below hb hp (hw.mono hp)
set_option maxRecDepth 100000 in
set_option maxHeartbeats 32000000 in
theorem law_packNames (w : World) :
    Calls Try.prog 5 #[] w fun e w' => e = .returned (.bool true) ∧ Below w.heap.size w w' := by
  have HB0 : Hid (Below w.heap.size w w) := Lib.hid (Below.refl _ _)
  have HC0 := Lib.hid (wrote_b ⟨#[0, 1, 2, 127, 128, 1]⟩ [0, 1, 2, 127, 128, 1] rfl (by decide) w (Lib.hid names1_any))
  go_enter Try.func5, Try.ntmps5
  go_wp2_with fail
  refine HC0.out.mono ?_
  rintro e w1 ⟨rfl, hb⟩
  have HB1 := Lib.hid (bnext HB0.out hb)
  clear HC0 HB0 hb
  have HC1 := Lib.hid (wrote_c ⟨#[2, 97, 98, 1, 0, 255, 255, 255, 255, 255, 255, 255, 255, 255, 1, 255, 255, 255, 255, 255, 255, 255, 255, 255, 1]⟩ [2, 97, 98, 1, 0, 255, 255, 255, 255, 255, 255, 255, 255, 255, 1, 255, 255, 255, 255, 255, 255, 255, 255, 255, 1] rfl (by decide) w1 (Lib.hid names2_any))
  go_wp2_with fail
  refine HC1.out.mono ?_
  rintro e w2 ⟨rfl, hb⟩
  have HB2 := Lib.hid (bnext HB1.out hb)
  clear HC1 HB1 hb
  have HC2 := Lib.hid (new_writer w2)
  go_wp2_with fail
  refine HC2.out.mono ?_
  rintro e w3 ⟨rfl, hw3, hw3e⟩
  obtain ⟨pa, hpa⟩ : ∃ q, w2.heap.size = q := ⟨_, rfl⟩
  have HPpa : Hid (∃ v, PW pa pa v [] false w3) := Lib.hid ⟨_, by rw [← hpa]; exact hw3.mono (Nat.le_succ _)⟩
  have HLpa : Hid (w.heap.size ≤ pa) := Lib.hid (by rw [← hpa]; exact HB2.out.size)
  have hb : Below w2.heap.size w2 w3 := by rw [hw3e]; exact (Below.refl _ _).alloc (Nat.le_refl _) _
  (try rw [hpa])
  have HB3 := Lib.hid (bnext HB2.out hb)
  clear HC2 HB2 hb hw3 hw3e
  obtain ⟨v3, hv3⟩ := HPpa.out
  obtain ⟨wa, hcv0, hba, hbs, hsz⟩ := mark_lit w3 [97, 98] #[.int .u8 97, .int .u8 98] rfl
  have hcv := hcv0 2 2
  have hc3 := ptext_any pa pa (some ⟨w3.heap.size, 0, none⟩) 2 [97, 98] 1 v3 [] false wa (by have := hv3.lt; have := hba.size; omega) (by simp) (by simp) (fun h => by cases h) hbs (fun b off e hm => by cases e; exact ⟨by have := hv3.lt; omega, fun h => by have := hv3.own.lt _ h; omega, hsz⟩) (hv3.below hba)
  rw [show mayB (([97, 98] : List Nat).length : Int) 1 = false from by decide, show putB false false = true from rfl, show putL [] (form ([97, 98] : List Nat).length ++ [97, 98]) false false = [] from rfl] at hc3
  have HC3 := Lib.hid hc3
  clear hc3
  go_wp2_with fail
  refine HC3.out.mono ?_
  rintro e w4 ⟨rfl, v, hp, tt⟩
  have HQpa : Hid (∃ v, PW pa pa v [] true w4) := Lib.hid ⟨v, hp⟩
  have HB4 : Hid (Below w.heap.size w w4) := Lib.hid (Turn.belowB tt (bnext HB3.out hba) HLpa.out (hv3.below hba))
  clear HC3 HB3 HPpa hv3 hcv hcv0 hba hbs hsz hp tt
  have HPpa := HQpa
  clear HQpa
  obtain ⟨v4, hv4⟩ := HPpa.out
  have hc4 := puint_any pa pa 5 v4 [] true w4 (by have := hv4.lt; omega) (by omega) (by simp) hv4
  rw [show putB true true = true from rfl, show putL [] (form 5) true true = [] from rfl, show ((5 : Nat) : Int) = 5 from rfl] at hc4
  have HC4 := Lib.hid hc4
  clear hc4
  go_wp2_with fail
  refine HC4.out.mono ?_
  rintro e w5 ⟨rfl, v, hp, tt⟩
  have HQpa : Hid (∃ v, PW pa pa v [] true w5) := Lib.hid ⟨v, hp⟩
  have HB5 : Hid (Below w.heap.size w w5) := Lib.hid (Turn.belowB tt (HB4.out) HLpa.out (hv4))
  clear HC4 HB4 HPpa hv4 hp tt
  obtain ⟨v5, hv5⟩ := HQpa.out
  have HC5 := Lib.hid (pbytes_any pa pa v5 [] true w5 (by simp) hv5)
  go_wp2_with fail
  refine HC5.out.mono ?_
  rintro e w6 ⟨⟨vb, rfl, _⟩, hb⟩
  simp only [fl, if_true]
  have HB6 := Lib.hid (bnext HB5.out hb)
  clear HC5 HB5 hb hv5 HQpa HLpa
  have HC6 := Lib.hid (new_writer w6)
  go_wp2_with fail
  refine HC6.out.mono ?_
  rintro e w7 ⟨rfl, hw3, hw3e⟩
  obtain ⟨pb, hpb⟩ : ∃ q, w6.heap.size = q := ⟨_, rfl⟩
  have HPpb : Hid (∃ v, PW pb pb v [] false w7) := Lib.hid ⟨_, by rw [← hpb]; exact hw3.mono (Nat.le_succ _)⟩
  have HLpb : Hid (w.heap.size ≤ pb) := Lib.hid (by rw [← hpb]; exact HB6.out.size)
  have hb : Below w6.heap.size w6 w7 := by rw [hw3e]; exact (Below.refl _ _).alloc (Nat.le_refl _) _
  (try rw [hpb])
  have HB7 := Lib.hid (bnext HB6.out hb)
  clear HC6 HB6 hb hw3 hw3e
  obtain ⟨v7, hv7⟩ := HPpb.out
  have hc7 := psmall_any pb pb (-1) 5 v7 [] false w7 (by have := hv7.lt; omega) (by omega) (by omega) (by simp) hv7
  rw [show mayB (-1) 5 = false from by decide, show putB false false = true from rfl, show putL [] (form (Int.toNat (-1))) false false = [] from rfl] at hc7
  have HC7 := Lib.hid hc7
  clear hc7
  go_wp2_with fail
  refine HC7.out.mono ?_
  rintro e w8 ⟨rfl, v, hp, tt⟩
  have HQpb : Hid (∃ v, PW pb pb v [] true w8) := Lib.hid ⟨v, hp⟩
  have HB8 : Hid (Below w.heap.size w w8) := Lib.hid (Turn.belowB tt (HB7.out) HLpb.out (hv7))
  clear HC7 HB7 HPpb hv7 hp tt
  obtain ⟨v8, hv8⟩ := HQpb.out
  have HC8 := Lib.hid (pbytes_any pb pb v8 [] true w8 (by simp) hv8)
  go_wp2_with fail
  refine HC8.out.mono ?_
  rintro e w9 ⟨⟨vb, rfl, _⟩, hb⟩
  simp only [fl, if_true]
  have HB9 := Lib.hid (bnext HB8.out hb)
  clear HC8 HB8 hb hv8 HQpb HLpb
  have hbl : Below w9.heap.size w9 (w9.alloc (.cells #[.int .u8 128, .int .u8 0] 5)) := (Below.refl _ _).alloc (Nat.le_refl _) _
  have HC9 := Lib.hid (spoilt3 (some ⟨w9.heap.size, 0, none⟩) 2 [128, 0] (w9.alloc (.cells #[.int .u8 128, .int .u8 0] 5)) (fun h => by cases h) (lit_row w9 [128, 0] _ rfl (0, 0)) ⟨By.of rfl, by decide, by decide⟩ (fun o c p w h => ask3 o c [128, 0] p w ⟨By.of rfl, by decide, by decide⟩ h (by decide)))
  go_wp2_with fail
  refine HC9.out.mono ?_
  rintro e w10 ⟨rfl, hb⟩
  have HB10 := Lib.hid (bnext HB9.out (bnext hbl hb))
  clear HC9 HB9 hb hbl
  have hbl : Below w10.heap.size w10 (w10.alloc (.cells #[.int .u8 128] 5)) := (Below.refl _ _).alloc (Nat.le_refl _) _
  have HC10 := Lib.hid (spoilt3 (some ⟨w10.heap.size, 0, none⟩) 1 [128] (w10.alloc (.cells #[.int .u8 128] 5)) (fun h => by cases h) (lit_row w10 [128] _ rfl (0, 0)) ⟨By.of rfl, by decide, by decide⟩ (fun o c p w h => ask3 o c [128] p w ⟨By.of rfl, by decide, by decide⟩ h (by decide)))
  go_wp2_with fail
  refine HC10.out.mono ?_
  rintro e w11 ⟨rfl, hb⟩
  have HB11 := Lib.hid (bnext HB10.out (bnext hbl hb))
  clear HC10 HB10 hb hbl
  have HC11 := Lib.hid (spoilt3 none 0 [] w11 (fun _ => rfl) Bs.nought ⟨By.of rfl, by decide, by decide⟩ (fun o c p w h => ask3 o c [] p w ⟨By.of rfl, by decide, by decide⟩ h (by decide)))
  go_wp2_with fail
  refine HC11.out.mono ?_
  rintro e w12 ⟨rfl, hb⟩
  have HB12 := Lib.hid (bnext HB11.out hb)
  clear HC11 HB11 hb
  have hbl : Below w12.heap.size w12 (w12.alloc (.cells #[.int .u8 2] 5)) := (Below.refl _ _).alloc (Nat.le_refl _) _
  have HC12 := Lib.hid (spoilt4 (some ⟨w12.heap.size, 0, none⟩) 1 [2] (w12.alloc (.cells #[.int .u8 2] 5)) (fun h => by cases h) (lit_row w12 [2] _ rfl (0, 0)) ⟨By.of rfl, by decide, by decide⟩ (fun o c p w h => ask4 o c [2] p w ⟨By.of rfl, by decide, by decide⟩ h (by decide)))
  go_wp2_with fail
  refine HC12.out.mono ?_
  rintro e w13 ⟨rfl, hb⟩
  have HB13 := Lib.hid (bnext HB12.out (bnext hbl hb))
  clear HC12 HB12 hb hbl
  have HC13 := Lib.hid (spoilt4 none 0 [] w13 (fun _ => rfl) Bs.nought ⟨By.of rfl, by decide, by decide⟩ (fun o c p w h => ask4 o c [] p w ⟨By.of rfl, by decide, by decide⟩ h (by decide)))
  go_wp2_with fail
  refine HC13.out.mono ?_
  rintro e w14 ⟨rfl, hb⟩
  have HB14 := Lib.hid (bnext HB13.out hb)
  clear HC13 HB13 hb
  have hbl : Below w14.heap.size w14 (w14.alloc (.cells #[.int .u8 5] 5)) := (Below.refl _ _).alloc (Nat.le_refl _) _
  have HC14 := Lib.hid (spoilt5 (some ⟨w14.heap.size, 0, none⟩) 1 [5] (w14.alloc (.cells #[.int .u8 5] 5)) (fun h => by cases h) (lit_row w14 [5] _ rfl (0, 0)) ⟨By.of rfl, by decide, by decide⟩ (fun o c p w h => ask5 o c [5] p w ⟨By.of rfl, by decide, by decide⟩ h (by decide)))
  go_wp2_with fail
  refine HC14.out.mono ?_
  rintro e w15 ⟨rfl, hb⟩
  have HB15 := Lib.hid (bnext HB14.out (bnext hbl hb))
  clear HC14 HB14 hb hbl
  have hbl : Below w15.heap.size w15 (w15.alloc (.cells #[.int .u8 2, .int .u8 97] 5)) := (Below.refl _ _).alloc (Nat.le_refl _) _
  have HC15 := Lib.hid (spoilt6 (some ⟨w15.heap.size, 0, none⟩) 2 [2, 97] (w15.alloc (.cells #[.int .u8 2, .int .u8 97] 5)) (fun h => by cases h) (lit_row w15 [2, 97] _ rfl (0, 0)) ⟨By.of rfl, by decide, by decide⟩ (fun o c p w h => ask6 o c [2, 97] p w ⟨By.of rfl, by decide, by decide⟩ h (by decide)))
  go_wp2_with fail
  refine HC15.out.mono ?_
  rintro e w16 ⟨rfl, hb⟩
  have HB16 := Lib.hid (bnext HB15.out (bnext hbl hb))
  clear HC15 HB15 hb hbl
  have hbl : Below w16.heap.size w16 (w16.alloc (.cells #[.int .u8 255, .int .u8 255, .int .u8 255, .int .u8 255, .int .u8 255, .int .u8 255, .int .u8 255, .int .u8 255, .int .u8 255, .int .u8 2] 5)) := (Below.refl _ _).alloc (Nat.le_refl _) _
  have HC16 := Lib.hid (spoilt3 (some ⟨w16.heap.size, 0, none⟩) 10 [255, 255, 255, 255, 255, 255, 255, 255, 255, 2] (w16.alloc (.cells #[.int .u8 255, .int .u8 255, .int .u8 255, .int .u8 255, .int .u8 255, .int .u8 255, .int .u8 255, .int .u8 255, .int .u8 255, .int .u8 2] 5)) (fun h => by cases h) (lit_row w16 [255, 255, 255, 255, 255, 255, 255, 255, 255, 2] _ rfl (0, 0)) ⟨By.of rfl, by decide, by decide⟩ (fun o c p w h => ask3 o c [255, 255, 255, 255, 255, 255, 255, 255, 255, 2] p w ⟨By.of rfl, by decide, by decide⟩ h (by decide)))
  go_wp2_with fail
  refine HC16.out.mono ?_
  rintro e w17 ⟨rfl, hb⟩
  have HB17 := Lib.hid (bnext HB16.out (bnext hbl hb))
  clear HC16 HB16 hb hbl
  have hbl : Below w17.heap.size w17 (w17.alloc (.cells #[.int .u8 2, .int .u8 3, .int .u8 4] 5)) := (Below.refl _ _).alloc (Nat.le_refl _) _
  have HC17 := Lib.hid (new_reader (some ⟨w17.heap.size, 0, none⟩) 3 [2, 3, 4] (w17.alloc (.cells #[.int .u8 2, .int .u8 3, .int .u8 4] 5)) (fun h => by cases h) (by decide) (lit_row w17 [2, 3, 4] _ rfl (0, 0)))
  go_wp2_with fail
  refine HC17.out.mono ?_
  rintro e w18 ⟨pr, o2, c2, rfl, hr, hpr, ho2, hb⟩
  have HR := Lib.hid hr
  have HPR : Hid (w.heap.size ≤ pr) := Lib.hid (Nat.le_trans (bnext HB17.out hbl).size hpr)
  have HB18 := Lib.hid (bnext HB17.out (bnext hbl hb))
  clear HC17 HB17 hb hbl hr hpr ho2
  have hcm := pmany_n o2 c2 [2, 3, 4] pr 0 2 false w18 ⟨By.of rfl, by decide, by decide⟩ (by omega) HR.out (fun b off e hm => by subst e; exact HR.out.bs.lt hm)
  rw [show manyR false 2 [2, 3, 4] 0 = some ([-2, 2], 3) from by decide] at hcm
  have HC18 := Lib.hid (hcm)
  go_wp2_with fail
  refine HC18.out.mono ?_
  rintro e w19 ⟨hgm, _, hym⟩
  obtain ⟨⟨vl, rfl, hol⟩, _, hrl⟩ := hym [-2, 2] 3 rfl
  obtain ⟨ol, cl, rfl⟩ := hol.open
  obtain ⟨gl, rfl, q0⟩ := hol.at 0 (by decide)
  obtain ⟨gl2, e2, q1⟩ := hol.at 1 (by decide)
  cases e2
  simp only [List.getD_cons_zero, List.getD_cons_succ] at q0 q1
  have HRL := Lib.hid hrl
  have HB19 : Hid (Below w.heap.size w w19) := Lib.hid (HB18.out.grown hgm HB18.out.size (fun q hq => by cases hq; exact HPR.out))
  clear HC18 HB18 hcm hgm hym hol hrl HR HPR
  have HC19 := Lib.hid (pend_any o2 c2 [2, 3, 4] pr 3 false w19 ⟨By.of rfl, by decide, by decide⟩ HRL.out)
  go_wp2_with fail
  refine HC19.out.mono ?_
  rintro e w20 ⟨rfl, hb⟩
  rw [show endV false (List.length [2, 3, 4]) 3 = 0 from rfl]
  have HB20 := Lib.hid (bnext HB19.out hb)
  clear HC19 HB19 hb q0 q1 HRL
  obtain ⟨wz, hwz⟩ : ∃ wz, (w20.alloc (.cells #[.bool false, .bool false, .slice none 0 0] 65)).alloc (.cells #[.bool false, .bool false, .slice none 0 0, .int .i64 0] 67) = wz := ⟨_, rfl⟩
  have hbz : Below w20.heap.size w20 wz := by rw [← hwz]; exact ((Below.refl _ _).alloc (Nat.le_refl _) _).alloc (by simp) _
  have NWZ : Hid (NoW (some ⟨w20.heap.size, 0, none⟩) wz) := Lib.hid (NoW.zero (by rw [← hwz]; exact step_row (heap_alloc_new _ _)) rfl rfl)
  have hnr := heap_alloc_new (w20.alloc (.cells #[.bool false, .bool false, .slice none 0 0] 65)) (.cells #[.bool false, .bool false, .slice none 0 0, .int .i64 0] 67)
  rw [World.size_alloc, hwz] at hnr
  have NRZ : Hid (NoR (some ⟨w20.heap.size + 1, 0, none⟩) wz) := Lib.hid (NoR.zero hnr rfl rfl)
  have HB21 := Lib.hid (bnext HB20.out hbz)
  have HWZ := Lib.hid hwz
  clear hnr hwz hbz HB20
  have hcn := wuint_no none 1 wz (NoW.nil wz)
  rw [show ((1 : Nat) : Int) = 1 from rfl] at hcn
  have HC21 := Lib.hid hcn
  clear hcn
  go_wp2_with fail
  (try rw [HWZ.out])
  refine HC21.out.mono ?_
  rintro e w22 ⟨rfl, hb⟩
  have NWZ1 := Lib.hid (NWZ.out.below hb)
  have NRZ1 := Lib.hid (NRZ.out.below hb)
  have HB22 := Lib.hid (bnext HB21.out hb)
  clear HC21 HB21 NWZ NRZ hb 
  have NWZ := NWZ1
  have NRZ := NRZ1
  clear NWZ1 NRZ1
  have hcn := wsmall_no none 9 1 w22 (NoW.nil w22)
  have HC22 := Lib.hid hcn
  clear hcn
  go_wp2_with fail
  refine HC22.out.mono ?_
  rintro e w23 ⟨rfl, hb⟩
  have NWZ1 := Lib.hid (NWZ.out.below hb)
  have NRZ1 := Lib.hid (NRZ.out.below hb)
  have HB23 := Lib.hid (bnext HB22.out hb)
  clear HC22 HB22 NWZ NRZ hb 
  have NWZ := NWZ1
  have NRZ := NRZ1
  clear NWZ1 NRZ1
  obtain ⟨wa, hcv0, hba, hbs, hsz⟩ := mark_lit w23 [97] #[.int .u8 97] rfl
  have hcv := hcv0 1 1
  have hcn := wtext_no none (some ⟨w23.heap.size, 0, none⟩) 1 1 0 wa (by omega) (NoW.nil wa)
  have HC23 := Lib.hid hcn
  clear hcn
  go_wp2_with fail
  refine HC23.out.mono ?_
  rintro e w24 ⟨rfl, hb⟩
  have NWZ1 := Lib.hid (NWZ.out.below (bnext hba hb))
  have NRZ1 := Lib.hid (NRZ.out.below (bnext hba hb))
  have HB24 := Lib.hid (bnext HB23.out (bnext hba hb))
  clear HC23 HB23 NWZ NRZ hb hcv hcv0 hba hbs hsz
  have NWZ := NWZ1
  have NRZ := NRZ1
  clear NWZ1 NRZ1
  obtain ⟨wa, hcv0, hba, hbs, hsz⟩ := mark_lit w24 [97] #[.int .u8 97] rfl
  have hcv := hcv0 1 1
  have hcn := wtext_no (some ⟨w20.heap.size, 0, none⟩) (some ⟨w24.heap.size, 0, none⟩) 1 1 9 wa (by omega) (NWZ.out.below hba)
  have HC24 := Lib.hid hcn
  clear hcn
  go_wp2_with fail
  refine HC24.out.mono ?_
  rintro e w25 ⟨rfl, hb⟩
  have NWZ1 := Lib.hid (NWZ.out.below (bnext hba hb))
  have NRZ1 := Lib.hid (NRZ.out.below (bnext hba hb))
  have HB25 := Lib.hid (bnext HB24.out (bnext hba hb))
  clear HC24 HB24 NWZ NRZ hb hcv hcv0 hba hbs hsz
  have NWZ := NWZ1
  have NRZ := NRZ1
  clear NWZ1 NRZ1
  have hcn := wsmall_no (some ⟨w20.heap.size, 0, none⟩) 9 1 w25 NWZ.out
  have HC25 := Lib.hid hcn
  clear hcn
  go_wp2_with fail
  refine HC25.out.mono ?_
  rintro e w26 ⟨rfl, hb⟩
  have NWZ1 := Lib.hid (NWZ.out.below hb)
  have NRZ1 := Lib.hid (NRZ.out.below hb)
  have HB26 := Lib.hid (bnext HB25.out hb)
  clear HC25 HB25 NWZ NRZ hb 
  have NWZ := NWZ1
  have NRZ := NRZ1
  clear NWZ1 NRZ1
  have hcn := rspoil_no none w26 (NoR.nil w26)
  have HC26 := Lib.hid hcn
  clear hcn
  go_wp2_with fail
  refine HC26.out.mono ?_
  rintro e w27 ⟨rfl, hb⟩
  have NWZ1 := Lib.hid (NWZ.out.below hb)
  have NRZ1 := Lib.hid (NRZ.out.below hb)
  have HB27 := Lib.hid (bnext HB26.out hb)
  clear HC26 HB26 NWZ NRZ hb 
  have NWZ := NWZ1
  have NRZ := NRZ1
  clear NWZ1 NRZ1
  have hcn := rspoil_no (some ⟨w20.heap.size + 1, 0, none⟩) w27 NRZ.out
  have HC27 := Lib.hid hcn
  clear hcn
  go_wp2_with fail
  refine HC27.out.mono ?_
  rintro e w28 ⟨rfl, hb⟩
  have NWZ1 := Lib.hid (NWZ.out.below hb)
  have NRZ1 := Lib.hid (NRZ.out.below hb)
  have HB28 := Lib.hid (bnext HB27.out hb)
  clear HC27 HB27 NWZ NRZ hb 
  have NWZ := NWZ1
  have NRZ := NRZ1
  clear NWZ1 NRZ1
  have hcn := wbytes_no none w28 (NoW.nil w28)
  have HC28 := Lib.hid hcn
  clear hcn
  go_wp2_with fail
  refine HC28.out.mono ?_
  rintro e w29 ⟨rfl, hb⟩
  have NWZ1 := Lib.hid (NWZ.out.below hb)
  have NRZ1 := Lib.hid (NRZ.out.below hb)
  have HB29 := Lib.hid (bnext HB28.out hb)
  clear HC28 HB28 NWZ NRZ hb 
  have NWZ := NWZ1
  have NRZ := NRZ1
  clear NWZ1 NRZ1
  have hcn := wbytes_no (some ⟨w20.heap.size, 0, none⟩) w29 NWZ.out
  have HC29 := Lib.hid hcn
  clear hcn
  go_wp2_with fail
  refine HC29.out.mono ?_
  rintro e w30 ⟨rfl, hb⟩
  have NWZ1 := Lib.hid (NWZ.out.below hb)
  have NRZ1 := Lib.hid (NRZ.out.below hb)
  have HB30 := Lib.hid (bnext HB29.out hb)
  clear HC29 HB29 NWZ NRZ hb 
  have NWZ := NWZ1
  have NRZ := NRZ1
  clear NWZ1 NRZ1
  have hcn := rend_no none w30 (NoR.nil w30)
  have HC30 := Lib.hid hcn
  clear hcn
  go_wp2_with fail
  refine HC30.out.mono ?_
  rintro e w31 ⟨rfl, hb⟩
  have NWZ1 := Lib.hid (NWZ.out.below hb)
  have NRZ1 := Lib.hid (NRZ.out.below hb)
  have HB31 := Lib.hid (bnext HB30.out hb)
  clear HC30 HB30 NWZ NRZ hb 
  have NWZ := NWZ1
  have NRZ := NRZ1
  clear NWZ1 NRZ1
  have hcn := rend_no (some ⟨w20.heap.size + 1, 0, none⟩) w31 NRZ.out
  have HC31 := Lib.hid hcn
  clear hcn
  go_wp2_with fail
  refine HC31.out.mono ?_
  rintro e w32 ⟨rfl, hb⟩
  have NWZ1 := Lib.hid (NWZ.out.below hb)
  have NRZ1 := Lib.hid (NRZ.out.below hb)
  have HB32 := Lib.hid (bnext HB31.out hb)
  clear HC31 HB31 NWZ NRZ hb 
  have NWZ := NWZ1
  have NRZ := NRZ1
  clear NWZ1 NRZ1
  have hcn := ruint_no none w32 (NoR.nil w32)
  have HC32 := Lib.hid hcn
  clear hcn
  go_wp2_with fail
  refine HC32.out.mono ?_
  rintro e w33 ⟨rfl, hb⟩
  have NWZ1 := Lib.hid (NWZ.out.below hb)
  have NRZ1 := Lib.hid (NRZ.out.below hb)
  have HB33 := Lib.hid (bnext HB32.out hb)
  clear HC32 HB32 NWZ NRZ hb 
  have NWZ := NWZ1
  have NRZ := NRZ1
  clear NWZ1 NRZ1
  have hcn := rint_no (some ⟨w20.heap.size + 1, 0, none⟩) w33 NRZ.out
  have HC33 := Lib.hid hcn
  clear hcn
  go_wp2_with fail
  refine HC33.out.mono ?_
  rintro e w34 ⟨rfl, hb⟩
  have NWZ1 := Lib.hid (NWZ.out.below hb)
  have NRZ1 := Lib.hid (NRZ.out.below hb)
  have HB34 := Lib.hid (bnext HB33.out hb)
  clear HC33 HB33 NWZ NRZ hb 
  have NWZ := NWZ1
  have NRZ := NRZ1
  clear NWZ1 NRZ1
  have hcn := rbit_no none w34 (NoR.nil w34)
  have HC34 := Lib.hid hcn
  clear hcn
  go_wp2_with fail
  refine HC34.out.mono ?_
  rintro e w35 ⟨rfl, hb⟩
  have NWZ1 := Lib.hid (NWZ.out.below hb)
  have NRZ1 := Lib.hid (NRZ.out.below hb)
  have HB35 := Lib.hid (bnext HB34.out hb)
  clear HC34 HB34 NWZ NRZ hb 
  have NWZ := NWZ1
  have NRZ := NRZ1
  clear NWZ1 NRZ1
  have hcn := rtext_no none 9 w35 (NoR.nil w35)
  have HC35 := Lib.hid hcn
  clear hcn
  go_wp2_with fail
  refine HC35.out.mono ?_
  rintro e w36 ⟨rfl, hb⟩
  have NWZ1 := Lib.hid (NWZ.out.below hb)
  have NRZ1 := Lib.hid (NRZ.out.below hb)
  have HB36 := Lib.hid (bnext HB35.out hb)
  clear HC35 HB35 NWZ NRZ hb 
  have NWZ := NWZ1
  have NRZ := NRZ1
  clear NWZ1 NRZ1
  have hcn := rleft_no (some ⟨w20.heap.size + 1, 0, none⟩) w36 NRZ.out
  have HC36 := Lib.hid hcn
  clear hcn
  go_wp2_with fail
  refine HC36.out.mono ?_
  rintro e w37 ⟨rfl, hb⟩
  have NWZ1 := Lib.hid (NWZ.out.below hb)
  have NRZ1 := Lib.hid (NRZ.out.below hb)
  have HB37 := Lib.hid (bnext HB36.out hb)
  clear HC36 HB36 NWZ NRZ hb 
  have NWZ := NWZ1
  have NRZ := NRZ1
  clear NWZ1 NRZ1
  have hcn := rsmall_no none (-1) w37 (NoR.nil w37)
  have HC37 := Lib.hid hcn
  clear hcn
  go_wp2_with fail
  refine HC37.out.mono ?_
  rintro e w38 ⟨rfl, hb⟩
  have NWZ1 := Lib.hid (NWZ.out.below hb)
  have NRZ1 := Lib.hid (NRZ.out.below hb)
  have HB38 := Lib.hid (bnext HB37.out hb)
  clear HC37 HB37 NWZ NRZ hb 
  have NWZ := NWZ1
  have NRZ := NRZ1
  clear NWZ1 NRZ1
  have HC38 := Lib.hid (alive_any w38)
  go_wp2_with fail
  refine HC38.out.mono ?_
  rintro e w39 ⟨rfl, hb⟩
  have HB39 := Lib.hid (bnext HB38.out hb)
  clear HC38 HB38 hb
  go_wp2_with fail
  go_ret
  exact ⟨rfl, HB39.out⟩
end Go.Proofs.Ytpbidfmijliehaa.Fx
