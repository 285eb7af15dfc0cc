/- Rules of matrices of the document's holds, walked; holds for each rule. 
  The first rule that a scene breaks, and by which object: the document's Wrong, Check, walked. -/
import Derived.Test.YtildnadkfonlhaaGreatProg
import Derived.Test.YtildnadkfonlhaaGreatSb
import Derived.Test.YtildnadkfonlhaaGreatQ4
set_option linter.unusedVariables false
set_option linter.unusedSimpArgs false
namespace Go.Proofs.YtildnadkfonlhaaGreat.Fx
open Go Go.RowKit
def keep5 (s : ScR) (x : ObjR) (k : Nat) : Bool := wB 16777216 x.m 16
def mayB (o : Option (List Int)) : Bool := match o with
  | none => false
  | some m => wB 67108864 m 16
def keep6 (s : ScR) (x : ObjR) (k : Nat) : Bool := mayB (mulO s.cam x.m)
theorem sizeM {m : List Int} (h : m.length = 16) : (Tryz.prog.info? 25).map (·.size) = some (m.map encI).length := by rw [size16, List.length_map, h]
theorem range_mC {V : World} {b : Nat} {m : List Int} {t : TypeId} {fr : Nat × Nat} (h : V.heap[b]? = some (.cells (mC m) t fr)) : V.rangeAt b 0 (m.map encI) := fun j v hj => by
  rw [cell_of_row _ _ _ _ _ _ h, Nat.zero_add]
  simpa [mC] using hj
theorem mulO_len {a b m : List Int} (h : mulO a b = some m) : m.length = 16 := by
  unfold mulO at h
  split at h
  · cases h; rfl
  · cases h
set_option maxRecDepth 100000 in
set_option maxHeartbeats 4000000 in
theorem zholds5 (s : ScR) (x : ObjR) (k : Nat) (w : World) (hs : ScWf s) (h : ObjsAt w s.oo s.os) (hx : s.os[k]? = some x) :
    Calls Tryz.prog 31 #[.agg (scC s), .int .i64 (k : Int), .int .i64 5] w (RetBool (keep5 s x k) w) := by
  have HI : Hid (HoI s x w ((w.alloc (.cells (scC s) 28)).alloc (.cells (objL x).toArray 52))) := Lib.hid (HoI.new hs h hx)
  have HS := Lib.hid hs
  have HKX := Lib.hid hx
  obtain ⟨b, off, e, hat0⟩ := h k x hx
  have hat := hat0.below (show Below w.heap.size w (w.alloc (.cells (scC s) 28)) by go_grown)
  have HR := Lib.hid hat.cells
  have HX := Lib.hid hat.wf
  have hinf := Lib.hid (show (Tryz.prog.info? 52).map (·.size) = some (objL x).length by rw [objL_len hat.wf]; kernel_rfl)
  have hinfA := Lib.hid (show (Tryz.prog.info? 52).map (·.size) = some (objL x).toArray.size by rw [List.size_toArray, objL_len hat.wf]; kernel_rfl)
  have HL := Lib.hid (show 19 = (objL x).toArray.size by rw [List.size_toArray, objL_len hat.wf])
  have HONE := Lib.hid (objL_one x)
  have c18 : (w.alloc (.cells (scC s) 28)).cell? ⟨w.heap.size, 18, none⟩ = some (.slice s.oo s.os.length s.oc) := (ScAt.new w s).c18 hs
  have hkl : k < s.os.length := (List.getElem?_eq_some_iff.1 hx).1
  have hcap := hs.cap.1
  rw [e] at c18
  obtain ⟨n, hn⟩ : ∃ n, s.os.length = n := ⟨_, rfl⟩
  have HN := Lib.hid hn
  rw [hn] at c18 hcap hkl
  have n0 : (0 : Int) ≤ (n : Int) := by omega
  have n1 : (n : Int) ≤ 9223372036854775807 := by omega
  have k0 : (0 : Int) ≤ (k : Int) := by omega
  have k1 : (k : Int) < (n : Int) := by omega
  have EO := Lib.hid e
  clear hn hs h hx hat hat0 hkl hcap e
  go_enter Tryz.func31, Tryz.ntmps31
  have hM := Lib.hid (sizeM HX.out.len)
  go_wp2_with (first | (refine wpList_load_mid rfl 52 (.tmp 22) rfl b (off + k * 19) rfl (objL x) _ HR.out Tryz.underlying52 rfl hinf.out ?_) | (refine wpList_store_new rfl 52 (.tmp 7) (.tmp 23) rfl (w.heap.size + 1) _ _ (objL x).toArray rfl (World.size_alloc _ _) rfl hinfA.out HL.out HONE.out ?_; generalize ((w.alloc (.cells (scC s) 28)).alloc (.cells (objL x).toArray 52)) = V at HI ⊢; clear c18 HR) | (refine wpList_load_mid rfl 25 (.tmp 51) rfl (w.heap.size + 1) 1 rfl (x.m.map encI) _ HI.out.mat Tryz.underlying25 rfl hM.out ?_))
  refine (zwithin_any x.m 16777216 V HX.out.len (by omega) (by omega)).mono ?_
  rintro e w1 ⟨rfl, hb⟩
  have HB1 := Lib.hid hb
  clear hb
  go_wp2_with fail
  go_ret
  exact ⟨rfl, bnext HI.out.bel HB1.out⟩
set_option maxRecDepth 100000 in
set_option maxHeartbeats 4000000 in
theorem zholds6 (s : ScR) (x : ObjR) (k : Nat) (w : World) (hs : ScWf s) (h : ObjsAt w s.oo s.os) (hx : s.os[k]? = some x) :
    Calls Tryz.prog 31 #[.agg (scC s), .int .i64 (k : Int), .int .i64 6] w (RetBool (keep6 s x k) w) := by
  have HI : Hid (HoI s x w ((w.alloc (.cells (scC s) 28)).alloc (.cells (objL x).toArray 52))) := Lib.hid (HoI.new hs h hx)
  have HS := Lib.hid hs
  have HKX := Lib.hid hx
  obtain ⟨b, off, e, hat0⟩ := h k x hx
  have hat := hat0.below (show Below w.heap.size w (w.alloc (.cells (scC s) 28)) by go_grown)
  have HR := Lib.hid hat.cells
  have HX := Lib.hid hat.wf
  have hinf := Lib.hid (show (Tryz.prog.info? 52).map (·.size) = some (objL x).length by rw [objL_len hat.wf]; kernel_rfl)
  have hinfA := Lib.hid (show (Tryz.prog.info? 52).map (·.size) = some (objL x).toArray.size by rw [List.size_toArray, objL_len hat.wf]; kernel_rfl)
  have HL := Lib.hid (show 19 = (objL x).toArray.size by rw [List.size_toArray, objL_len hat.wf])
  have HONE := Lib.hid (objL_one x)
  have c18 : (w.alloc (.cells (scC s) 28)).cell? ⟨w.heap.size, 18, none⟩ = some (.slice s.oo s.os.length s.oc) := (ScAt.new w s).c18 hs
  have hkl : k < s.os.length := (List.getElem?_eq_some_iff.1 hx).1
  have hcap := hs.cap.1
  rw [e] at c18
  obtain ⟨n, hn⟩ : ∃ n, s.os.length = n := ⟨_, rfl⟩
  have HN := Lib.hid hn
  rw [hn] at c18 hcap hkl
  have n0 : (0 : Int) ≤ (n : Int) := by omega
  have n1 : (n : Int) ≤ 9223372036854775807 := by omega
  have k0 : (0 : Int) ≤ (k : Int) := by omega
  have k1 : (k : Int) < (n : Int) := by omega
  have EO := Lib.hid e
  clear hn hs h hx hat hat0 hkl hcap e
  go_enter Tryz.func31, Tryz.ntmps31
  have hM := Lib.hid (sizeM HX.out.len)
  have hC := Lib.hid (sizeM HS.out.len)
  go_wp2_with (first | (refine wpList_load_mid rfl 52 (.tmp 22) rfl b (off + k * 19) rfl (objL x) _ HR.out Tryz.underlying52 rfl hinf.out ?_) | (refine wpList_store_new rfl 52 (.tmp 7) (.tmp 23) rfl (w.heap.size + 1) _ _ (objL x).toArray rfl (World.size_alloc _ _) rfl hinfA.out HL.out HONE.out ?_; generalize ((w.alloc (.cells (scC s) 28)).alloc (.cells (objL x).toArray 52)) = V at HI ⊢; clear c18 HR) | (refine wpList_load_mid rfl 25 (.tmp 57) rfl w.heap.size 2 rfl (s.cam.map encI) _ HI.out.cam Tryz.underlying25 rfl hC.out ?_) | (refine wpList_load_mid rfl 25 (.tmp 59) rfl (w.heap.size + 1) 1 rfl (x.m.map encI) _ HI.out.mat Tryz.underlying25 rfl hM.out ?_))
  refine (zmmul_any s.cam x.m V HS.out.len HX.out.len HS.out.num HX.out.num).mono ?_
  unfold RetMM
  obtain ⟨r, hr⟩ : ∃ r, mulO s.cam x.m = r := ⟨_, rfl⟩
  have HK : Hid (keep6 s x k = mayB r) := Lib.hid (by unfold keep6; rw [hr])
  have HLN : Hid ((r.getD zero16).length = 16) := Lib.hid (by
    cases r with
    | none => rfl
    | some m => exact mulO_len hr)
  have HE : Hid (mayB r = ((if r.isSome then (0 : Int) else 30) == 0 && wB 67108864 (r.getD zero16) 16)) := Lib.hid (by
    cases r with
    | none => rfl
    | some m => rfl)
  rw [hr]
  clear hr
  generalize (r.getD zero16) = u at HLN HE ⊢
  generalize (if r.isSome then (0 : Int) else 30) = er at HE ⊢
  rintro e w1 ⟨rfl, hb⟩
  have HB1 := Lib.hid (bnext HI.out.bel hb)
  clear hb
  have hU := Lib.hid (sizeM HLN.out)
  have hUA := Lib.hid (show (Tryz.prog.info? 25).map (·.size) = some (mC u).size by rw [size16, mC_size, HLN.out])
  have hUL := Lib.hid (show 16 = (mC u).size by rw [mC_size, HLN.out])
  have HRU := Lib.hid (range_mC (heap_alloc_new w1 (.cells (mC u) 25)))
  have HB2 : Hid (Below w.heap.size w (w1.alloc (.cells (mC u) 25))) := Lib.hid (Below.alloc HB1.out HB1.out.size _)
  go_wp2_with (first | (refine wpList_store_new rfl 25 (.tmp 9) (.tmp 62) rfl w1.heap.size _ _ (mC u) rfl rfl rfl hUA.out hUL.out (mC_one _) ?_) | (refine wpList_load_mid rfl 25 (.tmp 9) rfl w1.heap.size 0 rfl (u.map encI) _ HRU.out Tryz.underlying25 rfl hU.out ?_))
  refine (zwithin_any u 67108864 _ HLN.out (by omega) (by omega)).mono ?_
  rintro e w2 ⟨rfl, hb⟩
  have HB3 := Lib.hid (bnext HB2.out hb)
  clear hb
  obtain ⟨ok, hok⟩ : ∃ b, wB 67108864 u 16 = b := ⟨_, rfl⟩
  rw [hok] at HE ⊢
  clear hok
  by_cases h0 : er = 0
  · subst h0
    go_wp2_with fail
    go_ret
    exact ⟨by rw [HK.out, HE.out]; rfl, HB3.out⟩
  · go_wp2_with fail
    go_ret
    exact ⟨by rw [HK.out, HE.out, show (er == 0) = false by simpa using h0]; rfl, HB3.out⟩
/-- does an object keep a rule? -/
def keepZ (s : ScR) (x : ObjR) (k r : Nat) : Bool := if r = 4 then keep4 s x k else if r = 5 then keep5 s x k else if r = 6 then keep6 s x k else if r = 7 then keep7 s x k else keep8 s x k
theorem zholds_any (s : ScR) (x : ObjR) (k r : Nat) (w : World) (hs : ScWf s) (h : ObjsAt w s.oo s.os) (hx : s.os[k]? = some x) (h4 : 4 ≤ r) (h8 : r ≤ 8) :
    Calls Tryz.prog 31 #[.agg (scC s), .int .i64 (k : Int), .int .i64 (r : Int)] w (RetBool (keepZ s x k r) w) := by
  obtain rfl | rfl | rfl | rfl | rfl : r = 4 ∨ r = 5 ∨ r = 6 ∨ r = 7 ∨ r = 8 := by omega
  · exact zholds4 s x k w hs h hx
  · exact zholds5 s x k w hs h hx
  · exact zholds6 s x k w hs h hx
  · exact zholds7 s x k w hs h hx
  · exact zholds8 s x k w hs h hx
end Go.Proofs.YtildnadkfonlhaaGreat.Fx
set_option linter.unusedVariables false
set_option linter.unusedSimpArgs false
namespace Go.Proofs.YtildnadkfonlhaaGreat.Fx
open Go Go.RowKit
/-- does the object at a place break a rule? -/
def badAt (s : ScR) (r k : Nat) : Bool := match s.os[k]? with
  | some x => !keepZ s x k r
  | none => false
def badIn (s : ScR) (r : Nat) : Option Nat := (List.range s.os.length).find? (badAt s r)
def sizeB (s : ScR) : Bool := decide (s.w < 1) || decide (64 < s.w) || decide (s.h < 1) || decide (64 < s.h)
def wrongZ (s : ScR) : Int × Int :=
  if sizeB s = true then (1, -1) else if wB 16777216 s.cam 16 = false then (2, -1) else if 16 < s.os.length then (3, -1) else
  (([4, 5, 6, 7, 8] : List Nat).findSome? fun r => (badIn s r).map fun k => ((r : Int), (k : Int))).getD (0, -1)
theorem badIn_none {s : ScR} {r : Nat} (h : ∀ k, k < s.os.length → badAt s r k = false) : badIn s r = none := by
  unfold badIn
  rw [List.find?_eq_none]
  intro k hk
  rw [h k (by simpa using hk)]
  simp
theorem badIn_some {s : ScR} {r k : Nat} (hk : k < s.os.length) (h : ∀ j, j < k → badAt s r j = false) (hb : badAt s r k = true) : badIn s r = some k := by
  unfold badIn
  rw [List.find?_eq_some_iff_append]
  refine ⟨hb, List.range k, (List.range (s.os.length - k - 1)).map (· + (k + 1)), ?_, ?_⟩
  · rw [show s.os.length = k + (1 + (s.os.length - k - 1)) by omega, List.range_add, List.range_add]
    simp
    intro a ha
    omega
  · intro j hj
    rw [h j (by simpa using hj)]
    rfl
theorem wrong_at {s : ScR} {r k : Nat} (h1 : sizeB s = false) (h2 : wB 16777216 s.cam 16 = true) (h3 : s.os.length ≤ 16) (h4 : 4 ≤ r) (h8 : r ≤ 8) (hn : ∀ q, 4 ≤ q → q < r → badIn s q = none) (hb : badIn s r = some k) : wrongZ s = ((r : Int), (k : Int)) := by
  unfold wrongZ
  rw [if_neg (by simp [h1]), if_neg (by simp [h2]), if_neg (by omega)]
  obtain rfl | rfl | rfl | rfl | rfl : r = 4 ∨ r = 5 ∨ r = 6 ∨ r = 7 ∨ r = 8 := by omega
  · simp [List.findSome?, hb]
  · simp [List.findSome?, hb, hn 4 (by omega) (by omega)]
  · simp [List.findSome?, hb, hn 4 (by omega) (by omega), hn 5 (by omega) (by omega)]
  · simp [List.findSome?, hb, hn 4 (by omega) (by omega), hn 5 (by omega) (by omega), hn 6 (by omega) (by omega)]
  · simp [List.findSome?, hb, hn 4 (by omega) (by omega), hn 5 (by omega) (by omega), hn 6 (by omega) (by omega), hn 7 (by omega) (by omega)]
theorem wrong_not {s : ScR} (h1 : sizeB s = false) (h2 : wB 16777216 s.cam 16 = true) (h3 : s.os.length ≤ 16) (hn : ∀ q, 4 ≤ q → q < 9 → badIn s q = none) : wrongZ s = (0, -1) := by
  unfold wrongZ
  rw [if_neg (by simp [h1]), if_neg (by simp [h2]), if_neg (by omega)]
  simp [List.findSome?, hn 4 (by omega) (by omega), hn 5 (by omega) (by omega), hn 6 (by omega) (by omega), hn 7 (by omega) (by omega), hn 8 (by omega) (by omega)]
/-- a scene in its row -/
structure WrI (s : ScR) (w V : World) : Prop where
  sc : ScAt w.heap.size s V
  ob : ObjsAt V s.oo s.os
  bel : Below w.heap.size w V
theorem WrI.up {s : ScR} {w V X : World} (i : WrI s w V) (hb : Below V.heap.size V X) : WrI s w X := ⟨i.sc.below hb, i.ob.below hb, bnext i.bel hb⟩
theorem WrI.new {s : ScR} {w : World} (h : ObjsAt w s.oo s.os) : WrI s w (w.alloc (.cells (scC s) 28)) :=
  ⟨ScAt.new w s, h.below (by go_grown), by go_grown⟩
theorem WrI.all {s : ScR} {w V : World} (i : WrI s w V) : V.rangeAt w.heap.size 0 (scL s) := fun j v hj => by
  rw [Nat.zero_add]
  exact i.sc.at.trans hj
def WoRel (s : ScR) (w : World) (g : Nat) (u : Value) (W : World) : Prop :=
  ∃ r, g = 9 - r ∧ u = .int .i64 (r : Int) ∧ 4 ≤ r ∧ r ≤ 9 ∧ (∀ q, 4 ≤ q → q < r → badIn s q = none) ∧ WrI s w W
def WiRel (s : ScR) (w : World) (n r : Nat) (g : Nat) (u : Value) (W : World) : Prop :=
  ∃ k, g = n - k ∧ u = .int .i64 (k : Int) ∧ k ≤ n ∧ (∀ j, j < k → badAt s r j = false) ∧ WrI s w W
def RetWrong (p : Int × Int) (w : World) (e : Ending) (w' : World) : Prop := e = .returned (.tuple #[.int .i64 p.1, .int .i64 p.2]) ∧ Below w.heap.size w w'
set_option maxRecDepth 100000 in
set_option maxHeartbeats 4000000 in
theorem zwrong_any (s : ScR) (w : World) (hs : ScWf s) (h : ObjsAt w s.oo s.os) :
    Calls Tryz.prog 25 #[.agg (scC s)] w (RetWrong (wrongZ s) w) := by
  have HI := Lib.hid (WrI.new h)
  have HS := Lib.hid hs
  have c0 : (w.alloc (.cells (scC s) 28)).cell? ⟨w.heap.size, 0, none⟩ = some (.int .i64 s.w) := (ScAt.new w s).c0
  have c1 : (w.alloc (.cells (scC s) 28)).cell? ⟨w.heap.size, 1, none⟩ = some (.int .i64 s.h) := (ScAt.new w s).c1
  have HZ : Hid (sizeB s = (decide (s.w < 1) || decide (64 < s.w) || decide (s.h < 1) || decide (64 < s.h))) := Lib.hid rfl
  have HBAD : Hid (sizeB s = true → wrongZ s = (1, -1)) := Lib.hid (fun h => by unfold wrongZ; rw [if_pos h])
  clear h hs
  generalize s.w = sw at c0 HZ
  generalize s.h = sh at c1 HZ
  by_cases h1 : sw < 1
  · have HR := Lib.hid (HBAD.out (by rw [HZ.out]; simp [h1]))
    go_enter Tryz.func25, Tryz.ntmps25
    go_wp2_with fail
    go_ret2
    exact ⟨by rw [HR.out]; rfl, HI.out.bel⟩
  by_cases h2 : 64 < sw
  · have HR := Lib.hid (HBAD.out (by rw [HZ.out]; simp [h2]))
    go_enter Tryz.func25, Tryz.ntmps25
    go_wp2_with fail
    go_ret2
    exact ⟨by rw [HR.out]; rfl, HI.out.bel⟩
  by_cases h3 : sh < 1
  · have HR := Lib.hid (HBAD.out (by rw [HZ.out]; simp [h3]))
    go_enter Tryz.func25, Tryz.ntmps25
    go_wp2_with fail
    go_ret2
    exact ⟨by rw [HR.out]; rfl, HI.out.bel⟩
  by_cases h4 : 64 < sh
  · have HR := Lib.hid (HBAD.out (by rw [HZ.out]; simp [h4]))
    go_enter Tryz.func25, Tryz.ntmps25
    go_wp2_with fail
    go_ret2
    exact ⟨by rw [HR.out]; rfl, HI.out.bel⟩
  have HZ0 : Hid (sizeB s = false) := Lib.hid (by rw [HZ.out]; simp [h1, h2, h3, h4])
  have hC := Lib.hid (sizeM HS.out.len)
  clear HBAD HZ
  go_enter Tryz.func25, Tryz.ntmps25
  go_wp2_with (refine wpList_load_mid rfl 25 (.tmp 25) rfl w.heap.size 2 rfl (s.cam.map encI) _ HI.out.sc.cam Tryz.underlying25 rfl hC.out ?_)
  clear c0 c1 h1 h2 h3 h4
  generalize (w.alloc (.cells (scC s) 28)) = V at HI ⊢
  refine (zwithin_any s.cam 16777216 V HS.out.len (by omega) (by omega)).mono ?_
  obtain ⟨ok, hok⟩ : ∃ b, wB 16777216 s.cam 16 = b := ⟨_, rfl⟩
  have HOK := Lib.hid hok
  rw [hok]
  clear hok
  rintro e w1 ⟨rfl, hb⟩
  have HI1 := Lib.hid (HI.out.up hb)
  clear hb HI
  cases ok
  · have HR : Hid (wrongZ s = (2, -1)) := Lib.hid (by unfold wrongZ; rw [if_neg (by simp [HZ0.out]), if_pos HOK.out])
    go_wp2_with fail
    go_ret2
    exact ⟨by rw [HR.out]; rfl, HI1.out.bel⟩
  have c18 := HI1.out.sc.c18 HS.out
  have hcap := HS.out.cap.1
  obtain ⟨n, hn⟩ : ∃ n, s.os.length = n := ⟨_, rfl⟩
  have HN := Lib.hid hn
  rw [hn] at c18 hcap
  have n0 : (0 : Int) ≤ (n : Int) := by omega
  have n1 : (n : Int) ≤ 9223372036854775807 := by omega
  clear hn hcap
  by_cases h16 : 16 < n
  · have t1 : (16 : Int) < (n : Int) := by omega
    have HR : Hid (wrongZ s = (3, -1)) := Lib.hid (by unfold wrongZ; rw [if_neg (by simp [HZ0.out]), if_neg (by simp [HOK.out]), if_pos (by rw [HN.out]; exact h16)])
    go_wp2_with fail
    go_ret2
    exact ⟨by rw [HR.out]; rfl, HI1.out.bel⟩
  have t1 : ¬ (16 : Int) < (n : Int) := by omega
  have H16 : Hid (s.os.length ≤ 16) := Lib.hid (by rw [HN.out]; omega)
  clear h16
  go_wp2_with fail
  clear c18 t1
  go_loopg [5] 5 (WoRel s w)
  case atStart => exact ⟨4, rfl, rfl, by omega, by omega, fun q h1 h2 => absurd h1 (by omega), HI1.out⟩
  case round =>
    clear HI1
    obtain ⟨r, hg, rfl, hr4, hr9, hq, I⟩ := hrel
    have HI := Lib.hid I
    have HQ := Lib.hid hq
    subst hg
    clear I hq
    have r0 : (0 : Int) ≤ (r : Int) := by omega
    by_cases hr : r < 9
    · have t2 : (r : Int) ≤ 8 := by omega
      go_wp2_with fail
      go_loopg [6] n (WiRel s w n r)
      case atStart => exact ⟨0, rfl, rfl, by omega, fun j hj => absurd hj (by omega), HI.out⟩
      case round =>
        clear HI
        obtain ⟨k, hg, rfl, hkn, hj, I⟩ := hrel
        have HI := Lib.hid I
        have HJ := Lib.hid hj
        subst hg
        clear I hj
        have k0 : (0 : Int) ≤ (k : Int) := by omega
        have c18 := HI.out.sc.c18 HS.out
        rw [HN.out] at c18
        have hall := Lib.hid (show (Tryz.prog.info? 28).map (·.size) = some (scL s).length by rw [scL_len HS.out]; kernel_rfl)
        by_cases hk : k < n
        · have t3 : (k : Int) < (n : Int) := by omega
          obtain ⟨x, hx⟩ : ∃ x, s.os[k]? = some x := ⟨_, List.getElem?_eq_getElem (by rw [HN.out]; exact hk)⟩
          have HBA : Hid (badAt s r k = !keepZ s x k r) := Lib.hid (by unfold badAt; rw [hx])
          have HC := Lib.hid (zholds_any s x k r _ HS.out HI.out.ob hx hr4 (by omega))
          clear hx
          go_wp2_with (refine wpList_load_mid rfl 28 (.tmp 1) rfl w.heap.size 0 rfl (scL s) _ HI.out.all Tryz.underlying28 rfl hall.out ?_)
          refine HC.out.mono ?_
          obtain ⟨kp, hkp⟩ : ∃ b, keepZ s x k r = b := ⟨_, rfl⟩
          rw [hkp] at HBA ⊢
          clear HC hkp
          rintro e w2 ⟨rfl, hb⟩
          have HI2 := Lib.hid (HI.out.up hb)
          clear hb
          cases kp
          · have HR : Hid (wrongZ s = ((r : Int), (k : Int))) := Lib.hid (wrong_at HZ0.out HOK.out H16.out hr4 (by omega) HQ.out (badIn_some (by rw [HN.out]; exact hk) HJ.out HBA.out))
            go_wp2_with fail
            go_ret2
            exact ⟨by rw [HR.out]; rfl, HI2.out.bel⟩
          · go_wp2_with fail
            go_roundg (n - (k + 1))
            case measure => omega
            case rel =>
              refine ⟨k + 1, rfl, by go_num, by omega, fun j hj => ?_, HI2.out⟩
              by_cases hjk : j < k
              · exact HJ.out j hjk
              · rw [show j = k by omega]
                exact HBA.out
        · obtain rfl : k = n := by omega
          have t3 : ¬ (k : Int) < (k : Int) := by omega
          have HNB : Hid (badIn s r = none) := Lib.hid (badIn_none fun j hj => HJ.out j (by rw [HN.out] at hj; exact hj))
          go_wp2_with fail
          go_roundg (9 - (r + 1))
          case measure => omega
          case rel =>
            refine ⟨r + 1, rfl, by go_num, by omega, by omega, fun q h1 h2 => ?_, HI.out⟩
            by_cases hqr : q < r
            · exact HQ.out q h1 hqr
            · rw [show q = r by omega]
              exact HNB.out
    · obtain rfl : r = 9 := by omega
      have t2 : ¬ ((9 : Nat) : Int) ≤ 8 := by omega
      have HR : Hid (wrongZ s = (0, -1)) := Lib.hid (wrong_not HZ0.out HOK.out H16.out HQ.out)
      go_wp2_with fail
      go_ret2
      exact ⟨by rw [HR.out]; rfl, HI.out.bel⟩
def okZ (s : ScR) : Bool := decide ((wrongZ s).1 = 0)
set_option maxRecDepth 100000 in
set_option maxHeartbeats 1000000 in
theorem zcheck_any (s : ScR) (w : World) (hs : ScWf s) (h : ObjsAt w s.oo s.os) :
    Calls Tryz.prog 15 #[.agg (scC s)] w fun e w' => e = .returned (.int .i64 (if okZ s = true then 0 else 60)) ∧ Below w.heap.size w w' := by
  have HI := Lib.hid (WrI.new h)
  have hall := Lib.hid (show (Tryz.prog.info? 28).map (·.size) = some (scL s).length by rw [scL_len hs]; kernel_rfl)
  have HC := Lib.hid (zwrong_any s _ hs HI.out.ob)
  clear h hs
  cases hc : okZ s
  · have h0 : ¬ (wrongZ s).1 = 0 := by simpa [okZ] using hc
    have e : ((if false = true then 0 else 60 : Int)) = 60 := rfl
    rw [e]
    clear hc e
    unfold RetWrong at HC
    generalize wrongZ s = p at HC h0
    obtain ⟨p1, p2⟩ := p
    dsimp only at HC h0
    go_enter Tryz.func15, Tryz.ntmps15
    go_wp2_with (refine wpList_load_mid rfl 28 (.tmp 1) rfl w.heap.size 0 rfl (scL s) _ HI.out.all Tryz.underlying28 rfl hall.out ?_)
    refine HC.out.mono ?_
    rintro e w1 ⟨rfl, hb⟩
    have HB := Lib.hid (bnext HI.out.bel hb)
    clear hb
    go_wp2_with fail
    go_ret
    exact ⟨rfl, HB.out⟩
  · have h0 : (wrongZ s).1 = 0 := by simpa [okZ] using hc
    have e : ((if true = true then 0 else 60 : Int)) = 0 := rfl
    rw [e]
    clear hc e
    unfold RetWrong at HC
    generalize wrongZ s = p at HC h0
    obtain ⟨p1, p2⟩ := p
    dsimp only at HC h0
    subst h0
    go_enter Tryz.func15, Tryz.ntmps15
    go_wp2_with (refine wpList_load_mid rfl 28 (.tmp 1) rfl w.heap.size 0 rfl (scL s) _ HI.out.all Tryz.underlying28 rfl hall.out ?_)
    refine HC.out.mono ?_
    rintro e w1 ⟨rfl, hb⟩
    have HB := Lib.hid (bnext HI.out.bel hb)
    clear hb
    go_wp2_with fail
    go_ret
    exact ⟨rfl, HB.out⟩
end Go.Proofs.YtildnadkfonlhaaGreat.Fx
