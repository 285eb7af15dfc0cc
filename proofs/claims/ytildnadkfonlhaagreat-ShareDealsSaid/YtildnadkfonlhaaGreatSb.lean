/- A scene in its row; is it more than statements go through, where is an object: walked. 
  One object and the rules of scenes: what the document's holds answers; rules of numbers, vertices and triangles, walked. -/
import Derived.Test.YtildnadkfonlhaaGreatProg
import Derived.Test.YtildnadkfonlhaaGreatSa
import Derived.Test.YtildnadkfonlhaaGreatBb
import Derived.BigQuiet
set_option linter.unusedVariables false
set_option linter.unusedSimpArgs false
namespace Go.Proofs.YtildnadkfonlhaaGreat.Fx
open Go Go.RowKit
def ScAt (B : Nat) (s : ScR) (W : World) : Prop := W.heap[B]? = some (.cells (scC s) 28 (0, 0))
theorem ScAt.new (w : World) (s : ScR) : ScAt w.heap.size s (w.alloc (.cells (scC s) 28)) := heap_alloc_new _ _
theorem ScAt.below {B : Nat} {s : ScR} {w W : World} (hb : Below w.heap.size w W) (h : ScAt B s w) : ScAt B s W := keep_row hb h
theorem ScAt.at {B j : Nat} {s : ScR} {W : World} (h : ScAt B s W) : W.cell? ⟨B, j, none⟩ = (scL s)[j]? := by
  rw [cell_of_row _ _ _ _ _ _ h]
  simp [scC]
theorem ScAt.c0 {B : Nat} {s : ScR} {W : World} (h : ScAt B s W) : W.cell? ⟨B, 0, none⟩ = some (.int .i64 s.w) := h.at
theorem ScAt.c1 {B : Nat} {s : ScR} {W : World} (h : ScAt B s W) : W.cell? ⟨B, 1, none⟩ = some (.int .i64 s.h) := h.at
theorem ScAt.c18 {B : Nat} {s : ScR} {W : World} (h : ScAt B s W) (hs : ScWf s) : W.cell? ⟨B, 18, none⟩ = some (.slice s.oo s.os.length s.oc) := h.at.trans (scL_os hs)
theorem ScAt.cam {B : Nat} {s : ScR} {W : World} (h : ScAt B s W) : W.rangeAt B 2 (s.cam.map encI) := fun j v hj => h.at.trans (scL_cam hj)
theorem ObjAt.c0 {W : World} {b j : Nat} {x : ObjR} (h : ObjAt W b j x) : W.cell? ⟨b, j, none⟩ = some (.int .i64 x.id) := h.cells 0 _ (objL_id x)
theorem ObjAt.c17 {W : World} {b j : Nat} {x : ObjR} (h : ObjAt W b j x) : W.cell? ⟨b, j + 17, none⟩ = some (.slice x.vo x.vs.length x.vc) := h.cells 17 _ (objL_vs h.wf)
theorem ObjAt.c18 {W : World} {b j : Nat} {x : ObjR} (h : ObjAt W b j x) : W.cell? ⟨b, j + 18, none⟩ = some (.slice x.tq x.ts.length x.tc) := h.cells 18 _ (objL_ts h.wf)
theorem ObjAt.mat {W : World} {b j : Nat} {x : ObjR} (h : ObjAt W b j x) : W.rangeAt b (j + 1) (x.m.map encI) := fun i v hi => by
  rw [Nat.add_assoc]
  exact h.cells (1 + i) _ (objL_m hi)
def bI (b : Bool) : Int := if b then 1 else 0
def bigZ (x : ObjR) : Bool := decide (80 < x.vs.length) || decide (80 < x.ts.length)
def greatZ (s : ScR) : Bool := decide (20 < s.os.length) || s.os.any bigZ
set_option maxRecDepth 100000 in
set_option maxHeartbeats 1000000 in
theorem zgreat_any (s : ScR) (w : World) (hs : ScWf s) (h : ObjsAt w s.oo s.os) :
    Calls Tryz.prog 4 #[.agg (scC s)] w fun e w' => e = .returned (.int .i64 (bI (greatZ s))) ∧ Below w.heap.size w w' := by
  have HB : Hid (Below w.heap.size w (w.alloc (.cells (scC s) 28))) := Lib.hid (by go_grown)
  have HO := Lib.hid (h.below HB.out)
  have c18 : (w.alloc (.cells (scC s) 28)).cell? ⟨w.heap.size, 18, none⟩ = some (.slice s.oo s.os.length s.oc) := (ScAt.new w s).c18 hs
  have hcap := hs.cap.1
  clear h hs
  by_cases h2 : 20 < s.os.length
  · have e : greatZ s = true := by unfold greatZ; rw [decide_eq_true h2]; rfl
    have t1 : (20 : Int) < (s.os.length : Int) := by omega
    rw [e]
    clear h2 e
    go_enter Tryz.func4, Tryz.ntmps4
    go_wp2_with fail
    go_ret
    exact ⟨rfl, HB.out⟩
  · have t1 : ¬ (20 : Int) < (s.os.length : Int) := by omega
    have HG : Hid (greatZ s = s.os.any bigZ) := Lib.hid (by unfold greatZ; rw [decide_eq_false h2]; rfl)
    obtain ⟨n, hn⟩ : ∃ n, s.os.length = n := ⟨_, rfl⟩
    have HN := Lib.hid hn
    have hn200 : n ≤ 20 := by omega
    rw [hn] at t1 c18
    have n0 : (0 : Int) ≤ (n : Int) := by omega
    have n1 : (n : Int) ≤ 20 := by omega
    clear h2 hn hcap
    go_enter Tryz.func4, Tryz.ntmps4
    go_wp2_with fail
    generalize (w.alloc (.cells (scC s) 28)) = V at HB HO c18 ⊢
    go_loop [3] (fun u => ∃ k : Nat, u = .int .i64 (k : Int) ∧ k ≤ n ∧ (s.os.take k).any bigZ = false) (fun u => n - (intOf u).toNat)
    case atStart => exact ⟨0, rfl, by omega, rfl⟩
    case round =>
      obtain ⟨k, rfl, hk, ha⟩ := hrel
      have HA := Lib.hid ha
      clear ha
      have k0 : (0 : Int) ≤ (k : Int) := by omega
      by_cases hkn : k < n
      · have t2 : (k : Int) < (n : Int) := by omega
        have hkl : k < s.os.length := by rw [HN.out]; exact hkn
        obtain ⟨x, hx⟩ : ∃ x, s.os[k]? = some x := ⟨_, List.getElem?_eq_getElem hkl⟩
        obtain ⟨b, off, e, hat⟩ := HO.out k x hx
        have d17 := hat.c17
        have d18 := hat.c18
        have HS : Hid ((s.os.take (k + 1)).any bigZ = bigZ x) := Lib.hid (by
          rw [List.take_add_one, hx, List.any_append, HA.out]
          simp)
        have HXX : Hid (bigZ x = true → greatZ s = true) := Lib.hid (fun h => by
          rw [HG.out, List.any_eq_true]
          exact ⟨x, List.mem_of_getElem? hx, h⟩)
        have HBZ : Hid (bigZ x = (decide (80 < x.vs.length) || decide (80 < x.ts.length))) := Lib.hid rfl
        have hv1 := hat.wf.vcap.1
        have hv2 := hat.wf.tcap.1
        obtain ⟨m, hm⟩ : ∃ m, x.vs.length = m := ⟨_, rfl⟩
        obtain ⟨m2, hm2⟩ : ∃ m, x.ts.length = m := ⟨_, rfl⟩
        rw [hm] at HBZ d17 hv1
        rw [hm2] at HBZ d18 hv2
        rw [e] at c18
        clear hx hat hm hm2 e
        by_cases h3 : 80 < m
        · have t3 : (80 : Int) < (m : Int) := by omega
          go_wp2_with fail
          go_ret
          exact ⟨by rw [HXX.out (by rw [HBZ.out, decide_eq_true h3]; rfl)]; rfl, HB.out⟩
        · have t3 : ¬ (80 : Int) < (m : Int) := by omega
          by_cases h4 : 80 < m2
          · have t4 : (80 : Int) < (m2 : Int) := by omega
            go_wp2_with fail
            go_ret
            exact ⟨by rw [HXX.out (by rw [HBZ.out, decide_eq_true h4, decide_eq_false h3]; rfl)]; rfl, HB.out⟩
          · have t4 : ¬ (80 : Int) < (m2 : Int) := by omega
            go_wp2_with fail
            go_round
            case rel => exact ⟨k + 1, by go_num, by omega, by rw [HS.out, HBZ.out, decide_eq_false h3, decide_eq_false h4]; rfl⟩
            case measure => simp [intOf]; omega
      · obtain rfl : k = n := by omega
        have t2 : ¬ (k : Int) < (k : Int) := by omega
        have HE : Hid (greatZ s = false) := Lib.hid (by rw [HG.out]; have := HA.out; rw [List.take_of_length_le (by rw [HN.out]; omega)] at this; exact this)
        go_wp2_with fail
        go_ret
        exact ⟨by rw [HE.out]; rfl, HB.out⟩
/-- where the first is, from a place on -/
def findZ (l : List ObjR) (id : Int) : Option Nat := l.findIdx? fun x => decide (x.id = id)
def RetFind (o : Option Nat) (w : World) (e : Ending) (w' : World) : Prop := e = .returned (.tuple #[.int .i64 ((o.getD 0 : Nat) : Int), .bool o.isSome]) ∧ Below w.heap.size w w'
set_option maxRecDepth 100000 in
set_option maxHeartbeats 1000000 in
theorem zfind_any (s : ScR) (id : Int) (w : World) (hs : ScWf s) (h : ObjsAt w s.oo s.os) :
    Calls Tryz.prog 19 #[.agg (scC s), .int .i64 id] w (RetFind (findZ s.os id) w) := by
  have HB : Hid (Below w.heap.size w (w.alloc (.cells (scC s) 28))) := Lib.hid (by go_grown)
  have HO := Lib.hid (h.below HB.out)
  have c18 : (w.alloc (.cells (scC s) 28)).cell? ⟨w.heap.size, 18, none⟩ = some (.slice s.oo s.os.length s.oc) := (ScAt.new w s).c18 hs
  have hcap := hs.cap.1
  obtain ⟨n, hn⟩ : ∃ n, s.os.length = n := ⟨_, rfl⟩
  have HN := Lib.hid hn
  rw [hn] at c18 hcap
  have n0 : (0 : Int) ≤ (n : Int) := by omega
  have n1 : (n : Int) ≤ 9223372036854775807 := by omega
  clear hn hs h hcap
  go_enter Tryz.func19, Tryz.ntmps19
  go_wp2_with fail
  generalize (w.alloc (.cells (scC s) 28)) = V at HB HO c18 ⊢
  go_loop [6] (fun u => ∃ k : Nat, u = .int .i64 (k : Int) ∧ k ≤ n ∧ findZ (s.os.take k) id = none) (fun u => n - (intOf u).toNat)
  case atStart => exact ⟨0, rfl, by omega, rfl⟩
  case round =>
    obtain ⟨k, rfl, hk, ha⟩ := hrel
    have HA := Lib.hid ha
    clear ha
    have k0 : (0 : Int) ≤ (k : Int) := by omega
    by_cases hkn : k < n
    · have t2 : (k : Int) < (n : Int) := by omega
      have hkl : k < s.os.length := by rw [HN.out]; exact hkn
      obtain ⟨x, hx⟩ : ∃ x, s.os[k]? = some x := ⟨_, List.getElem?_eq_getElem hkl⟩
      obtain ⟨b, off, e, hat⟩ := HO.out k x hx
      have d0 := hat.c0
      have HS : Hid (x.id ≠ id → findZ (s.os.take (k + 1)) id = none) := Lib.hid (fun h => by
        have := HA.out
        unfold findZ at this ⊢
        rw [List.take_add_one, hx, List.findIdx?_append, this]
        simp [h])
      have HF : Hid (x.id = id → findZ s.os id = some k) := Lib.hid (fun h => by
        have h0 := HA.out
        unfold findZ at h0 ⊢
        rw [← List.take_append_drop k s.os, List.findIdx?_append, h0, List.drop_eq_getElem_cons hkl]
        have hx' : s.os[k] = x := by rw [List.getElem?_eq_getElem hkl] at hx; exact Option.some.inj hx
        simp [List.findIdx?_cons, hx', h]
        omega)
      obtain ⟨z, hz⟩ : ∃ z, x.id = z := ⟨_, rfl⟩
      rw [hz] at HS HF d0
      rw [e] at c18
      clear hx hat e hz
      by_cases h3 : z = id
      · have hR := HF.out h3
        rw [hR]
        have HR : True := trivial
        clear hR
        go_wp2_with fail
        go_ret2
        exact ⟨rfl, HB.out⟩
      · go_wp2_with fail
        go_round
        case rel => exact ⟨k + 1, by go_num, by omega, HS.out h3⟩
        case measure => simp [intOf]; omega
    · obtain rfl : k = n := by omega
      have t2 : ¬ (k : Int) < (k : Int) := by omega
      have HE : Hid (findZ s.os id = none) := Lib.hid (by have := HA.out; rw [List.take_of_length_le (by rw [HN.out]; omega)] at this; exact this)
      go_wp2_with fail
      go_ret2
      exact ⟨by rw [HE.out]; rfl, HB.out⟩
end Go.Proofs.YtildnadkfonlhaaGreat.Fx
set_option linter.unusedVariables false
set_option linter.unusedSimpArgs false
namespace Go.Proofs.YtildnadkfonlhaaGreat.Fx
open Go Go.RowKit
def farZ (n : Int) : Bool := decide (1073741824 < n) || decide (n < -1073741824)
theorem zfar_any (n : Int) (w : World) : Calls Tryz.prog 36 #[.int .i64 n] w fun e w' => e = .returned (.bool (farZ n)) ∧ w' = w := by
  by_cases h1 : 1073741824 < n
  · have e : farZ n = true := by unfold farZ; rw [decide_eq_true h1]; rfl
    rw [e]
    clear e
    go_enter Tryz.func36, Tryz.ntmps36
    go_wp2_with fail
    go_ret
    exact ⟨rfl, rfl⟩
  · by_cases h2 : n < -1073741824
    · have e : farZ n = true := by unfold farZ; rw [decide_eq_true h2, Bool.or_true]
      rw [e]
      clear e
      go_enter Tryz.func36, Tryz.ntmps36
      go_wp2_with fail
      go_ret
      exact ⟨rfl, rfl⟩
    · have e : farZ n = false := by unfold farZ; rw [decide_eq_false h1, decide_eq_false h2]; rfl
      rw [e]
      clear e
      go_enter Tryz.func36, Tryz.ntmps36
      go_wp2_with fail
      go_ret
      exact ⟨rfl, rfl⟩
theorem objL_one (x : ObjR) : (objL x).toArray.all (·.oneCell') = true := by
  rw [List.all_toArray, List.all_eq_true]
  intro v hv
  unfold objL at hv
  rcases List.mem_cons.1 hv with rfl | hv
  · rfl
  rcases List.mem_append.1 hv with hv | hv
  · obtain ⟨z, _, rfl⟩ := List.mem_map.1 hv
    rfl
  · rcases List.mem_cons.1 hv with rfl | hv
    · rfl
    rcases List.mem_cons.1 hv with rfl | hv
    · rfl
    cases hv
theorem triL_one (t : TriR) : (triL t).toArray.all (·.oneCell') = true := by simp [triL, Value.oneCell']
/-- a scene in its row, one of its objects in the next -/
structure HoI (s : ScR) (x : ObjR) (w V : World) : Prop where
  sc : ScAt w.heap.size s V
  xr : V.heap[w.heap.size + 1]? = some (.cells (objL x).toArray 52 (0, 0))
  ob : ObjsAt V s.oo s.os
  vs : VertsAt V x.vo x.vs
  ts : TrisAt V x.tq x.ts
  bel : Below w.heap.size w V
theorem HoI.up {s : ScR} {x : ObjR} {w V X : World} (i : HoI s x w V) (hb : Below V.heap.size V X) : HoI s x w X :=
  ⟨i.sc.below hb, keep_row hb i.xr, i.ob.below hb, i.vs.below hb, i.ts.below hb, bnext i.bel hb⟩
theorem HoI.new {s : ScR} {x : ObjR} {k : Nat} {w : World} (hs : ScWf s) (h : ObjsAt w s.oo s.os) (hx : s.os[k]? = some x) : HoI s x w ((w.alloc (.cells (scC s) 28)).alloc (.cells (objL x).toArray 52)) := by
  have hB : Below w.heap.size w ((w.alloc (.cells (scC s) 28)).alloc (.cells (objL x).toArray 52)) := by go_grown
  obtain ⟨b, off, e, hat⟩ := h k x hx
  refine ⟨step_row (ScAt.new w s), ?_, h.below hB, hat.verts.below hB, hat.tris.below hB, hB⟩
  have := heap_alloc_new (w.alloc (.cells (scC s) 28)) (.cells (objL x).toArray 52)
  rw [World.size_alloc] at this
  exact this
theorem HoI.at {s : ScR} {x : ObjR} {w V : World} {j : Nat} (i : HoI s x w V) : V.cell? ⟨w.heap.size + 1, j, none⟩ = (objL x)[j]? := by
  rw [cell_of_row _ _ _ _ _ _ i.xr]
  simp
theorem HoI.x0 {s : ScR} {x : ObjR} {w V : World} (i : HoI s x w V) : V.cell? ⟨w.heap.size + 1, 0, none⟩ = some (.int .i64 x.id) := i.at
theorem HoI.x17 {s : ScR} {x : ObjR} {w V : World} (i : HoI s x w V) (hw : ObjWf x) : V.cell? ⟨w.heap.size + 1, 17, none⟩ = some (.slice x.vo x.vs.length x.vc) := i.at.trans (objL_vs hw)
theorem HoI.x18 {s : ScR} {x : ObjR} {w V : World} (i : HoI s x w V) (hw : ObjWf x) : V.cell? ⟨w.heap.size + 1, 18, none⟩ = some (.slice x.tq x.ts.length x.tc) := i.at.trans (objL_ts hw)
theorem HoI.mat {s : ScR} {x : ObjR} {w V : World} (i : HoI s x w V) : V.rangeAt (w.heap.size + 1) 1 (x.m.map encI) := fun j v hj => i.at.trans (objL_m hj)
theorem HoI.cam {s : ScR} {x : ObjR} {w V : World} (i : HoI s x w V) : V.rangeAt w.heap.size 2 (s.cam.map encI) := i.sc.cam
def fineV (v : List Int) : Bool := !(farZ (v.getD 0 0) || farZ (v.getD 1 0) || farZ (v.getD 2 0))
def fineT (n : Int) (t : TriR) : Bool := !(decide (t.a < 0) || decide (t.b < 0) || decide (t.c < 0) || decide (n ≤ t.a) || decide (n ≤ t.b) || decide (n ≤ t.c))
def keep4 (s : ScR) (x : ObjR) (k : Nat) : Bool := (s.os.take k).all (fun y => decide (y.id ≠ x.id)) && (decide (1 ≤ x.id) && decide (x.id ≤ 65535))
def keep7 (s : ScR) (x : ObjR) (k : Nat) : Bool := x.vs.all fineV && decide ((x.vs.length : Int) ≤ 64)
def keep8 (s : ScR) (x : ObjR) (k : Nat) : Bool := x.ts.all (fineT (x.vs.length : Int)) && decide ((x.ts.length : Int) ≤ 64)
theorem all_snoc {α : Type} {l : List α} {p : α → Bool} {k : Nat} {x : α} (hx : l[k]? = some x) (h : (l.take k).all p = true) : (l.take (k + 1)).all p = p x := by
  rw [List.take_add_one, hx, List.all_append, h]
  simp
theorem all_no {α : Type} {l : List α} {p : α → Bool} {k : Nat} {x : α} (hx : l[k]? = some x) (h : p x = false) : l.all p = false := by
  rw [List.all_eq_false]
  exact ⟨x, List.mem_of_getElem? hx, by simp [h]⟩
set_option maxRecDepth 100000 in
set_option maxHeartbeats 4000000 in
theorem zholds7 (s : ScR) (x : ObjR) (k : Nat) (w : World) (hs : ScWf s) (h : ObjsAt w s.oo s.os) (hx : s.os[k]? = some x) :
    Calls Tryz.prog 31 #[.agg (scC s), .int .i64 (k : Int), .int .i64 7] w (RetBool (keep7 s x k) w) := by
  have HI : Hid (HoI s x w ((w.alloc (.cells (scC s) 28)).alloc (.cells (objL x).toArray 52))) := Lib.hid (HoI.new hs h hx)
  have HS := Lib.hid hs
  have HKX := Lib.hid hx
  obtain ⟨b, off, e, hat0⟩ := h k x hx
  have hat := hat0.below (show Below w.heap.size w (w.alloc (.cells (scC s) 28)) by go_grown)
  have HR := Lib.hid hat.cells
  have HX := Lib.hid hat.wf
  have hinf := Lib.hid (show (Tryz.prog.info? 52).map (·.size) = some (objL x).length by rw [objL_len hat.wf]; kernel_rfl)
  have hinfA := Lib.hid (show (Tryz.prog.info? 52).map (·.size) = some (objL x).toArray.size by rw [List.size_toArray, objL_len hat.wf]; kernel_rfl)
  have HL := Lib.hid (show 19 = (objL x).toArray.size by rw [List.size_toArray, objL_len hat.wf])
  have HONE := Lib.hid (objL_one x)
  have c18 : (w.alloc (.cells (scC s) 28)).cell? ⟨w.heap.size, 18, none⟩ = some (.slice s.oo s.os.length s.oc) := (ScAt.new w s).c18 hs
  have hkl : k < s.os.length := (List.getElem?_eq_some_iff.1 hx).1
  have hcap := hs.cap.1
  rw [e] at c18
  obtain ⟨n, hn⟩ : ∃ n, s.os.length = n := ⟨_, rfl⟩
  have HN := Lib.hid hn
  rw [hn] at c18 hcap hkl
  have n0 : (0 : Int) ≤ (n : Int) := by omega
  have n1 : (n : Int) ≤ 9223372036854775807 := by omega
  have k0 : (0 : Int) ≤ (k : Int) := by omega
  have k1 : (k : Int) < (n : Int) := by omega
  have EO := Lib.hid e
  clear hn hs h hx hat hat0 hkl hcap e
  go_enter Tryz.func31, Tryz.ntmps31
  go_wp2_with (first | (refine wpList_load_mid rfl 52 (.tmp 22) rfl b (off + k * 19) rfl (objL x) _ HR.out Tryz.underlying52 rfl hinf.out ?_) | (refine wpList_store_new rfl 52 (.tmp 7) (.tmp 23) rfl (w.heap.size + 1) _ _ (objL x).toArray rfl (World.size_alloc _ _) rfl hinfA.out HL.out HONE.out ?_; generalize ((w.alloc (.cells (scC s) 28)).alloc (.cells (objL x).toArray 52)) = V at HI ⊢; clear c18 HR; have c17 := HI.out.x17 HX.out))
  have hvc := HX.out.vcap.1
  obtain ⟨m, hm⟩ : ∃ m, x.vs.length = m := ⟨_, rfl⟩
  have HM := Lib.hid hm
  rw [hm] at c17 hvc
  have m0 : (0 : Int) ≤ (m : Int) := by omega
  have m1 : (m : Int) ≤ 9223372036854775807 := by omega
  clear hm hvc
  go_loop [12] (fun u => ∃ i : Nat, u = .int .i64 (i : Int) ∧ i ≤ m ∧ (x.vs.take i).all fineV = true) (fun u => m - (intOf u).toNat)
  case atStart => exact ⟨0, rfl, by omega, rfl⟩
  case round =>
    obtain ⟨i, rfl, hi, ha⟩ := hrel
    have HA := Lib.hid ha
    clear ha
    have i0 : (0 : Int) ≤ (i : Int) := by omega
    by_cases him : i < m
    · have t2 : (i : Int) < (m : Int) := by omega
      have hil : i < x.vs.length := by rw [HM.out]; exact him
      obtain ⟨v, hv⟩ : ∃ v, x.vs[i]? = some v := ⟨_, List.getElem?_eq_getElem hil⟩
      obtain ⟨b2, off2, e2, hrg, hvw⟩ := HI.out.vs i v hv
      have hl := hvw.len
      have d0 : V.cell? ⟨b2, off2 + i * 3, none⟩ = some (.int .i64 (v.getD 0 0)) := hrg 0 _ (by rw [List.getElem?_map, List.getElem?_eq_getElem (by omega)]; simp [encI, List.getD, List.getElem?_eq_getElem (show 0 < v.length by omega)])
      have d1 : V.cell? ⟨b2, off2 + i * 3 + 1, none⟩ = some (.int .i64 (v.getD 1 0)) := hrg 1 _ (by rw [List.getElem?_map, List.getElem?_eq_getElem (by omega)]; simp [encI, List.getD, List.getElem?_eq_getElem (show 1 < v.length by omega)])
      have d2 : V.cell? ⟨b2, off2 + i * 3 + 2, none⟩ = some (.int .i64 (v.getD 2 0)) := hrg 2 _ (by rw [List.getElem?_map, List.getElem?_eq_getElem (by omega)]; simp [encI, List.getD, List.getElem?_eq_getElem (show 2 < v.length by omega)])
      have HF : Hid (fineV v = !(farZ (v.getD 0 0) || farZ (v.getD 1 0) || farZ (v.getD 2 0))) := Lib.hid rfl
      have HT := Lib.hid (all_snoc hv HA.out)
      have HNO : Hid (fineV v = false → keep7 s x k = false) := Lib.hid (fun h => by unfold keep7; rw [all_no hv h]; rfl)
      rw [e2] at c17
      clear hv hrg hvw hl e2
      generalize v.getD 0 0 = z0 at d0 HF
      generalize v.getD 1 0 = z1 at d1 HF
      generalize v.getD 2 0 = z2 at d2 HF
      obtain ⟨f0, hf0⟩ : ∃ f, farZ z0 = f := ⟨_, rfl⟩
      obtain ⟨f1, hf1⟩ : ∃ f, farZ z1 = f := ⟨_, rfl⟩
      obtain ⟨f2, hf2⟩ : ∃ f, farZ z2 = f := ⟨_, rfl⟩
      have F0 := Lib.hid (fun W => hf0 ▸ zfar_any z0 W)
      have F1 := Lib.hid (fun W => hf1 ▸ zfar_any z1 W)
      have F2 := Lib.hid (fun W => hf2 ▸ zfar_any z2 W)
      rw [hf0, hf1, hf2] at HF
      clear hf0 hf1 hf2
      go_wp2_with fail
      refine (F0.out _).mono ?_
      rintro e w1 ⟨rfl, rfl⟩
      go_wp2_with fail
      refine (F1.out _).mono ?_
      rintro e w1 ⟨rfl, rfl⟩
      go_wp2_with fail
      refine (F2.out _).mono ?_
      rintro e w1 ⟨rfl, rfl⟩
      cases hc : (f0 || f1 || f2)
      · obtain ⟨⟨rfl, rfl⟩, rfl⟩ : (f0 = false ∧ f1 = false) ∧ f2 = false := by simpa using hc
        go_wp2_with fail
        go_round
        case rel => exact ⟨i + 1, by go_num, by omega, by rw [HT.out, HF.out]; rfl⟩
        case measure => simp [intOf]; omega
      · have hff : fineV v = false := by rw [HF.out, hc]; rfl
        have HR2 := Lib.hid (HNO.out hff)
        clear hff HF HT HNO
        rcases f0 with _ | _ <;> rcases f1 with _ | _ <;> rcases f2 with _ | _ <;> first | (simp at hc; done) | (clear hc; go_wp2_with fail; go_ret; exact ⟨by rw [HR2.out]; rfl, HI.out.bel⟩)
    · obtain rfl : i = m := by omega
      have t2 : ¬ (i : Int) < (i : Int) := by omega
      have HE : Hid (x.vs.all fineV = true) := Lib.hid (by have := HA.out; rw [List.take_of_length_le (by rw [HM.out]; omega)] at this; exact this)
      by_cases h64 : (i : Int) ≤ 64
      · go_wp2_with fail
        go_ret
        exact ⟨by unfold keep7; rw [HE.out, HM.out, decide_eq_true h64]; rfl, HI.out.bel⟩
      · go_wp2_with fail
        go_ret
        exact ⟨by unfold keep7; rw [HE.out, HM.out, decide_eq_false (show ¬ (i : Int) ≤ 64 by omega)]; rfl, HI.out.bel⟩
def T8Rel (s : ScR) (x : ObjR) (w : World) (m : Nat) (g : Nat) (u : Value) (W : World) : Prop :=
  ∃ i, g = m - i ∧ u = .int .i64 (i : Int) ∧ i ≤ m ∧ (x.ts.take i).all (fineT (x.vs.length : Int)) = true ∧ HoI s x w W
def T4Rel (s : ScR) (x : ObjR) (w : World) (k : Nat) (g : Nat) (u : Value) (W : World) : Prop :=
  ∃ i, g = k - i ∧ u = .int .i64 (i : Int) ∧ i ≤ k ∧ (s.os.take i).all (fun y => decide (y.id ≠ x.id)) = true ∧ HoI s x w W
set_option maxRecDepth 100000 in
set_option maxHeartbeats 4000000 in
theorem zholds8 (s : ScR) (x : ObjR) (k : Nat) (w : World) (hs : ScWf s) (h : ObjsAt w s.oo s.os) (hx : s.os[k]? = some x) :
    Calls Tryz.prog 31 #[.agg (scC s), .int .i64 (k : Int), .int .i64 8] w (RetBool (keep8 s x k) w) := by
  have HI : Hid (HoI s x w ((w.alloc (.cells (scC s) 28)).alloc (.cells (objL x).toArray 52))) := Lib.hid (HoI.new hs h hx)
  have HS := Lib.hid hs
  have HKX := Lib.hid hx
  obtain ⟨b, off, e, hat0⟩ := h k x hx
  have hat := hat0.below (show Below w.heap.size w (w.alloc (.cells (scC s) 28)) by go_grown)
  have HR := Lib.hid hat.cells
  have HX := Lib.hid hat.wf
  have hinf := Lib.hid (show (Tryz.prog.info? 52).map (·.size) = some (objL x).length by rw [objL_len hat.wf]; kernel_rfl)
  have hinfA := Lib.hid (show (Tryz.prog.info? 52).map (·.size) = some (objL x).toArray.size by rw [List.size_toArray, objL_len hat.wf]; kernel_rfl)
  have HL := Lib.hid (show 19 = (objL x).toArray.size by rw [List.size_toArray, objL_len hat.wf])
  have HONE := Lib.hid (objL_one x)
  have c18 : (w.alloc (.cells (scC s) 28)).cell? ⟨w.heap.size, 18, none⟩ = some (.slice s.oo s.os.length s.oc) := (ScAt.new w s).c18 hs
  have hkl : k < s.os.length := (List.getElem?_eq_some_iff.1 hx).1
  have hcap := hs.cap.1
  rw [e] at c18
  obtain ⟨n, hn⟩ : ∃ n, s.os.length = n := ⟨_, rfl⟩
  have HN := Lib.hid hn
  rw [hn] at c18 hcap hkl
  have n0 : (0 : Int) ≤ (n : Int) := by omega
  have n1 : (n : Int) ≤ 9223372036854775807 := by omega
  have k0 : (0 : Int) ≤ (k : Int) := by omega
  have k1 : (k : Int) < (n : Int) := by omega
  have EO := Lib.hid e
  clear hn hs h hx hat hat0 hkl hcap e
  go_enter Tryz.func31, Tryz.ntmps31
  go_wp2_with (first | (refine wpList_load_mid rfl 52 (.tmp 22) rfl b (off + k * 19) rfl (objL x) _ HR.out Tryz.underlying52 rfl hinf.out ?_) | (refine wpList_store_new rfl 52 (.tmp 7) (.tmp 23) rfl (w.heap.size + 1) _ _ (objL x).toArray rfl (World.size_alloc _ _) rfl hinfA.out HL.out HONE.out ?_; generalize ((w.alloc (.cells (scC s) 28)).alloc (.cells (objL x).toArray 52)) = V at HI ⊢; clear c18 HR; have c17 := HI.out.x17 HX.out))
  have hvc := HX.out.vcap.1
  have htc := HX.out.tcap.1
  obtain ⟨m, hm⟩ : ∃ m, x.ts.length = m := ⟨_, rfl⟩
  obtain ⟨q, hq⟩ : ∃ q, x.vs.length = q := ⟨_, rfl⟩
  have HM := Lib.hid hm
  have HQ := Lib.hid hq
  rw [hm] at htc
  rw [hq] at c17 hvc
  have m0 : (0 : Int) ≤ (m : Int) := by omega
  have m1 : (m : Int) ≤ 9223372036854775807 := by omega
  have q0 : (0 : Int) ≤ (q : Int) := by omega
  have q1 : (q : Int) ≤ 9223372036854775807 := by omega
  clear hm hq hvc htc
  go_wp2_with fail
  rw [HQ.out]
  go_wp2_with fail
  clear c17
  go_loopg [17] m (T8Rel s x w m)
  case atStart => exact ⟨0, rfl, rfl, by omega, rfl, HI.out⟩
  case round =>
    clear HI
    obtain ⟨i, hg, rfl, hi, ha, I⟩ := hrel
    have HI := Lib.hid I
    have HA := Lib.hid ha
    subst hg
    have c18 := I.x18 HX.out
    rw [HM.out] at c18
    clear ha I
    have i0 : (0 : Int) ≤ (i : Int) := by omega
    by_cases him : i < m
    · have t2 : (i : Int) < (m : Int) := by omega
      have hil : i < x.ts.length := by rw [HM.out]; exact him
      obtain ⟨t, ht⟩ : ∃ t, x.ts[i]? = some t := ⟨_, List.getElem?_eq_getElem hil⟩
      obtain ⟨b2, off2, e2, hrg, htw⟩ := HI.out.ts i t ht
      have d0 : wr.cell? ⟨b2, off2 + i * 4, none⟩ = some (.int .i64 t.a) := hrg 0 _ rfl
      have d1 : wr.cell? ⟨b2, off2 + i * 4 + 1, none⟩ = some (.int .i64 t.b) := hrg 1 _ rfl
      have d2 : wr.cell? ⟨b2, off2 + i * 4 + 2, none⟩ = some (.int .i64 t.c) := hrg 2 _ rfl
      have d3 : wr.cell? ⟨b2, off2 + i * 4 + 3, none⟩ = some (.int .u32 t.col) := hrg 3 _ rfl
      have HF : Hid (fineT (q : Int) t = !(decide (t.a < 0) || decide (t.b < 0) || decide (t.c < 0) || decide ((q : Int) ≤ t.a) || decide ((q : Int) ≤ t.b) || decide ((q : Int) ≤ t.c))) := Lib.hid rfl
      have HT := Lib.hid (all_snoc ht HA.out)
      have HNO : Hid (fineT (q : Int) t = false → keep8 s x k = false) := Lib.hid (fun h => by unfold keep8; rw [HQ.out, all_no ht h]; rfl)
      rw [HQ.out] at HT
      rw [e2] at c18
      clear ht hrg htw e2
      generalize t.a = ta at d0 HF
      generalize t.b = tb at d1 HF
      generalize t.c = tc at d2 HF
      generalize t.col = tl at d3
      have HI2 : Hid (HoI s x w (wr.alloc (.cells #[.int .i64 ta, .int .i64 tb, .int .i64 tc, .int .u32 tl] 76))) := Lib.hid (HI.out.up (by go_grown))
      by_cases h1 : ta < 0
      · have HR2 := Lib.hid (HNO.out (by rw [HF.out]; simp [h1])); clear HF HT HNO; go_wp2_with fail; go_ret; exact ⟨by rw [HR2.out]; rfl, HI2.out.bel⟩
      · by_cases h2 : tb < 0
        · have HR2 := Lib.hid (HNO.out (by rw [HF.out]; simp [h2])); clear HF HT HNO; go_wp2_with fail; go_ret; exact ⟨by rw [HR2.out]; rfl, HI2.out.bel⟩
        · by_cases h3 : tc < 0
          · have HR2 := Lib.hid (HNO.out (by rw [HF.out]; simp [h3])); clear HF HT HNO; go_wp2_with fail; go_ret; exact ⟨by rw [HR2.out]; rfl, HI2.out.bel⟩
          · by_cases h4 : (q : Int) ≤ ta
            · have HR2 := Lib.hid (HNO.out (by rw [HF.out]; simp [h4])); clear HF HT HNO; go_wp2_with fail; go_ret; exact ⟨by rw [HR2.out]; rfl, HI2.out.bel⟩
            · by_cases h5 : (q : Int) ≤ tb
              · have HR2 := Lib.hid (HNO.out (by rw [HF.out]; simp [h5])); clear HF HT HNO; go_wp2_with fail; go_ret; exact ⟨by rw [HR2.out]; rfl, HI2.out.bel⟩
              · by_cases h6 : (q : Int) ≤ tc
                · have HR2 := Lib.hid (HNO.out (by rw [HF.out]; simp [h6])); clear HF HT HNO; go_wp2_with fail; go_ret; exact ⟨by rw [HR2.out]; rfl, HI2.out.bel⟩
                · have HY := Lib.hid (HT.out.trans (HF.out.trans (show _ = true by simp [h1, h2, h3, h4, h5, h6])))
                  clear HF HT HNO
                  go_wp2_with fail
                  go_roundg (m - (i + 1))
                  case measure => omega
                  case rel => exact ⟨i + 1, rfl, by go_num, by omega, by rw [HQ.out]; exact HY.out, HI2.out⟩
    · obtain rfl : i = m := by omega
      have t2 : ¬ (i : Int) < (i : Int) := by omega
      have HE : Hid (x.ts.all (fineT (x.vs.length : Int)) = true) := Lib.hid (by have := HA.out; rw [List.take_of_length_le (by rw [HM.out]; omega)] at this; exact this)
      by_cases h64 : (i : Int) ≤ 64
      · go_wp2_with fail
        go_ret
        exact ⟨by unfold keep8; rw [HE.out, HM.out, decide_eq_true h64]; rfl, HI.out.bel⟩
      · go_wp2_with fail
        go_ret
        exact ⟨by unfold keep8; rw [HE.out, HM.out, decide_eq_false (show ¬ (i : Int) ≤ 64 by omega)]; rfl, HI.out.bel⟩
set_option maxRecDepth 100000 in
set_option maxHeartbeats 4000000 in
theorem zholds4 (s : ScR) (x : ObjR) (k : Nat) (w : World) (hs : ScWf s) (h : ObjsAt w s.oo s.os) (hx : s.os[k]? = some x) :
    Calls Tryz.prog 31 #[.agg (scC s), .int .i64 (k : Int), .int .i64 4] w (RetBool (keep4 s x k) w) := by
  have HI : Hid (HoI s x w ((w.alloc (.cells (scC s) 28)).alloc (.cells (objL x).toArray 52))) := Lib.hid (HoI.new hs h hx)
  have HS := Lib.hid hs
  have HKX := Lib.hid hx
  obtain ⟨b, off, e, hat0⟩ := h k x hx
  have hat := hat0.below (show Below w.heap.size w (w.alloc (.cells (scC s) 28)) by go_grown)
  have HR := Lib.hid hat.cells
  have HX := Lib.hid hat.wf
  have hinf := Lib.hid (show (Tryz.prog.info? 52).map (·.size) = some (objL x).length by rw [objL_len hat.wf]; kernel_rfl)
  have hinfA := Lib.hid (show (Tryz.prog.info? 52).map (·.size) = some (objL x).toArray.size by rw [List.size_toArray, objL_len hat.wf]; kernel_rfl)
  have HL := Lib.hid (show 19 = (objL x).toArray.size by rw [List.size_toArray, objL_len hat.wf])
  have HONE := Lib.hid (objL_one x)
  have c18 : (w.alloc (.cells (scC s) 28)).cell? ⟨w.heap.size, 18, none⟩ = some (.slice s.oo s.os.length s.oc) := (ScAt.new w s).c18 hs
  have hkl : k < s.os.length := (List.getElem?_eq_some_iff.1 hx).1
  have hcap := hs.cap.1
  rw [e] at c18
  obtain ⟨n, hn⟩ : ∃ n, s.os.length = n := ⟨_, rfl⟩
  have HN := Lib.hid hn
  rw [hn] at c18 hcap hkl
  have n0 : (0 : Int) ≤ (n : Int) := by omega
  have n1 : (n : Int) ≤ 9223372036854775807 := by omega
  have k0 : (0 : Int) ≤ (k : Int) := by omega
  have k1 : (k : Int) < (n : Int) := by omega
  have EO := Lib.hid e
  clear hn hs h hx hat hat0 hkl hcap e
  go_enter Tryz.func31, Tryz.ntmps31
  go_wp2_with (first | (refine wpList_load_mid rfl 52 (.tmp 22) rfl b (off + k * 19) rfl (objL x) _ HR.out Tryz.underlying52 rfl hinf.out ?_) | (refine wpList_store_new rfl 52 (.tmp 7) (.tmp 23) rfl (w.heap.size + 1) _ _ (objL x).toArray rfl (World.size_alloc _ _) rfl hinfA.out HL.out HONE.out ?_; generalize ((w.alloc (.cells (scC s) 28)).alloc (.cells (objL x).toArray 52)) = V at HI ⊢; clear c18 HR))
  go_loopg [8] k (T4Rel s x w k)
  case atStart => exact ⟨0, rfl, rfl, by omega, rfl, HI.out⟩
  case round =>
    clear HI
    obtain ⟨i, hg, rfl, hi, ha, I⟩ := hrel
    have HI := Lib.hid I
    have HA := Lib.hid ha
    subst hg
    have c18 := I.sc.c18 HS.out
    have x0 := I.x0
    rw [HN.out, EO.out] at c18
    clear ha I
    have i0 : (0 : Int) ≤ (i : Int) := by omega
    by_cases him : i < k
    · have t2 : (i : Int) < (k : Int) := by omega
      have t3 : (i : Int) < (n : Int) := by omega
      have hil : i < s.os.length := by rw [HN.out]; omega
      obtain ⟨y, hy⟩ : ∃ y, s.os[i]? = some y := ⟨_, List.getElem?_eq_getElem hil⟩
      obtain ⟨b2, off2, e2, hyt⟩ := HI.out.ob i y hy
      have d0 := hyt.c0
      rw [EO.out] at e2
      obtain ⟨rfl, rfl⟩ : b = b2 ∧ off = off2 := by injection e2 with e2; injection e2 with e3 e4; exact ⟨e3, e4⟩
      have HT := Lib.hid (all_snoc hy HA.out)
      have HNO : Hid (y.id = x.id → keep4 s x k = false) := Lib.hid (fun h => by
        unfold keep4
        have : (s.os.take k).all (fun y => decide (y.id ≠ x.id)) = false := by
          refine all_no (k := i) (x := y) ?_ (by simp [h])
          rw [List.getElem?_take, if_pos him]
          exact hy
        rw [this]
        rfl)
      clear hy hyt e2
      generalize y.id = yi at d0 HT HNO
      obtain ⟨xi, hxi⟩ : ∃ z, x.id = z := ⟨_, rfl⟩
      have HXI := Lib.hid hxi
      rw [hxi] at x0 HT HNO
      clear hxi
      by_cases h1 : yi = xi
      · have HR2 := Lib.hid (HNO.out h1)
        clear HT HNO
        go_wp2_with fail
        go_quiet (fail)
        go_wp2_with fail
        go_ret
        exact ⟨by rw [HR2.out]; rfl, bdrewN _ HI.out.bel⟩
      · have HY := Lib.hid (HT.out.trans (show decide (yi ≠ xi) = true by simp [h1]))
        clear HT HNO
        go_wp2_with fail
        go_quiet (fail)
        go_wp2_with fail
        go_roundg (k - (i + 1))
        case measure => omega
        case rel => exact ⟨i + 1, rfl, by go_num, by omega, by rw [HXI.out]; exact HY.out, HI.out.up (bdrewN _ (Below.refl _ _))⟩
    · obtain rfl : i = k := by omega
      have t2 : ¬ (i : Int) < (i : Int) := by omega
      by_cases h1 : 1 ≤ x.id
      · by_cases h2 : x.id ≤ 65535
        · go_wp2_with fail
          go_ret
          exact ⟨by unfold keep4; rw [HA.out, decide_eq_true h1, decide_eq_true h2]; rfl, HI.out.bel⟩
        · go_wp2_with fail
          go_ret
          exact ⟨by unfold keep4; rw [HA.out, decide_eq_true h1, decide_eq_false (show ¬ x.id ≤ 65535 by omega)]; rfl, HI.out.bel⟩
      · go_wp2_with fail
        go_ret
        exact ⟨by unfold keep4; rw [HA.out, decide_eq_false (show ¬ 1 ≤ x.id by omega)]; rfl, HI.out.bel⟩
end Go.Proofs.YtildnadkfonlhaaGreat.Fx
