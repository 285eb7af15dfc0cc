/- A scene in its row; is it more than statements go through, where is an object: walked. 
  One object and the rules of scenes: what the document's holds answers; rules of numbers, vertices and triangles, walked. -/
import Derived.Test.YtbbhmhihpdmoiaaProg
import Derived.Test.YtbbhmhihpdmoiaaSa
import Derived.Test.YtbbhmhihpdmoiaaBb
import Derived.BigQuiet
set_option linter.unusedVariables false
set_option linter.unusedSimpArgs false
namespace Go.Proofs.Ytbbhmhihpdmoiaa.Fx
open Go Go.RowKit
def ScAt (B : Nat) (s : ScR) (W : World) : Prop := W.heap[B]? = some (.cells (scC s) 28 (0, 0))
theorem ScAt.new (w : World) (s : ScR) : ScAt w.heap.size s (w.alloc (.cells (scC s) 28)) := heap_alloc_new _ _
theorem ScAt.below {B : Nat} {s : ScR} {w W : World} (hb : Below w.heap.size w W) (h : ScAt B s w) : ScAt B s W := keep_row hb h
theorem ScAt.at {B j : Nat} {s : ScR} {W : World} (h : ScAt B s W) : W.cell? ⟨B, j, none⟩ = (scL s)[j]? := by
  rw [cell_of_row _ _ _ _ _ _ h]
  simp [scC]
theorem ScAt.c0 {B : Nat} {s : ScR} {W : World} (h : ScAt B s W) : W.cell? ⟨B, 0, none⟩ = some (.int .i64 s.w) := h.at
theorem ScAt.c1 {B : Nat} {s : ScR} {W : World} (h : ScAt B s W) : W.cell? ⟨B, 1, none⟩ = some (.int .i64 s.h) := h.at
theorem ScAt.c18 {B : Nat} {s : ScR} {W : World} (h : ScAt B s W) (hs : ScWf s) : W.cell? ⟨B, 18, none⟩ = some (.slice s.oo s.os.length s.oc) := h.at.trans (scL_os hs)
theorem ScAt.cam {B : Nat} {s : ScR} {W : World} (h : ScAt B s W) : W.rangeAt B 2 (s.cam.map encI) := fun j v hj => h.at.trans (scL_cam hj)
theorem ObjAt.c0 {W : World} {b j : Nat} {x : ObjR} (h : ObjAt W b j x) : W.cell? ⟨b, j, none⟩ = some (.int .i64 x.id) := h.cells 0 _ (objL_id x)
theorem ObjAt.c17 {W : World} {b j : Nat} {x : ObjR} (h : ObjAt W b j x) : W.cell? ⟨b, j + 17, none⟩ = some (.slice x.vo x.vs.length x.vc) := h.cells 17 _ (objL_vs h.wf)
theorem ObjAt.c18 {W : World} {b j : Nat} {x : ObjR} (h : ObjAt W b j x) : W.cell? ⟨b, j + 18, none⟩ = some (.slice x.tq x.ts.length x.tc) := h.cells 18 _ (objL_ts h.wf)
theorem ObjAt.mat {W : World} {b j : Nat} {x : ObjR} (h : ObjAt W b j x) : W.rangeAt b (j + 1) (x.m.map encI) := fun i v hi => by
  rw [Nat.add_assoc]
  exact h.cells (1 + i) _ (objL_m hi)
def bI (b : Bool) : Int := if b then 1 else 0
def bigZ (x : ObjR) : Bool := decide (80 < x.vs.length) || decide (80 < x.ts.length)
def greatZ (s : ScR) : Bool := decide (20 < s.os.length) || s.os.any bigZ
set_option maxRecDepth 100000 in
set_option maxHeartbeats 1000000 in
theorem zgreat_any (s : ScR) (w : World) (hs : ScWf s) (h : ObjsAt w s.oo s.os) :
    Calls Try.prog 4 #[.agg (scC s)] w fun e w' => e = .returned (.int .i64 (bI (greatZ s))) ∧ Below w.heap.size w w' := by
  have HB : Hid (Below w.heap.size w (w.alloc (.cells (scC s) 28))) := Lib.hid (by go_grown)
  have HO := Lib.hid (h.below HB.out)
  have c18 : (w.alloc (.cells (scC s) 28)).cell? ⟨w.heap.size, 18, none⟩ = some (.slice s.oo s.os.length s.oc) := (ScAt.new w s).c18 hs
  have hcap := hs.cap.1
  clear h hs
  by_cases h2 : 20 < s.os.length
  · have e : greatZ s = true := by unfold greatZ; rw [decide_eq_true h2]; rfl
    have t1 : (20 : Int) < (s.os.length : Int) := by omega
    rw [e]
    clear h2 e
    go_enter Try.func4, Try.ntmps4
    go_wp2_with fail
    go_ret
    exact ⟨rfl, HB.out⟩
  · have t1 : ¬ (20 : Int) < (s.os.length : Int) := by omega
    have HG : Hid (greatZ s = s.os.any bigZ) := Lib.hid (by unfold greatZ; rw [decide_eq_false h2]; rfl)
    obtain ⟨n, hn⟩ : ∃ n, s.os.length = n := ⟨_, rfl⟩
    have HN := Lib.hid hn
    have hn200 : n ≤ 20 := by omega
    rw [hn] at t1 c18
    have n0 : (0 : Int) ≤ (n : Int) := by omega
    have n1 : (n : Int) ≤ 20 := by omega
    clear h2 hn hcap
    go_enter Try.func4, Try.ntmps4
    go_wp2_with fail
    generalize (w.alloc (.cells (scC s) 28)) = V at HB HO c18 ⊢
    go_loop [3] (fun u => ∃ k : Nat, u = .int .i64 (k : Int) ∧ k ≤ n ∧ (s.os.take k).any bigZ = false) (fun u => n - (intOf u).toNat)
    case atStart => exact ⟨0, rfl, by omega, rfl⟩
    case round =>
      obtain ⟨k, rfl, hk, ha⟩ := hrel
      have HA := Lib.hid ha
      clear ha
      have k0 : (0 : Int) ≤ (k : Int) := by omega
      by_cases hkn : k < n
      · have t2 : (k : Int) < (n : Int) := by omega
        have hkl : k < s.os.length := by rw [HN.out]; exact hkn
        obtain ⟨x, hx⟩ : ∃ x, s.os[k]? = some x := ⟨_, List.getElem?_eq_getElem hkl⟩
        obtain ⟨b, off, e, hat⟩ := HO.out k x hx
        have d17 := hat.c17
        have d18 := hat.c18
        have HS : Hid ((s.os.take (k + 1)).any bigZ = bigZ x) := Lib.hid (by
          rw [List.take_add_one, hx, List.any_append, HA.out]
          simp)
        have HXX : Hid (bigZ x = true → greatZ s = true) := Lib.hid (fun h => by
          rw [HG.out, List.any_eq_true]
          exact ⟨x, List.mem_of_getElem? hx, h⟩)
        have HBZ : Hid (bigZ x = (decide (80 < x.vs.length) || decide (80 < x.ts.length))) := Lib.hid rfl
        have hv1 := hat.wf.vcap.1
        have hv2 := hat.wf.tcap.1
        obtain ⟨m, hm⟩ : ∃ m, x.vs.length = m := ⟨_, rfl⟩
        obtain ⟨m2, hm2⟩ : ∃ m, x.ts.length = m := ⟨_, rfl⟩
        rw [hm] at HBZ d17 hv1
        rw [hm2] at HBZ d18 hv2
        rw [e] at c18
        clear hx hat hm hm2 e
        by_cases h3 : 80 < m
        · have t3 : (80 : Int) < (m : Int) := by omega
          go_wp2_with fail
          go_ret
          exact ⟨by rw [HXX.out (by rw [HBZ.out, decide_eq_true h3]; rfl)]; rfl, HB.out⟩
        · have t3 : ¬ (80 : Int) < (m : Int) := by omega
          by_cases h4 : 80 < m2
          · have t4 : (80 : Int) < (m2 : Int) := by omega
            go_wp2_with fail
            go_ret
            exact ⟨by rw [HXX.out (by rw [HBZ.out, decide_eq_true h4, decide_eq_false h3]; rfl)]; rfl, HB.out⟩
          · have t4 : ¬ (80 : Int) < (m2 : Int) := by omega
            go_wp2_with fail
            go_round
            case rel => exact ⟨k + 1, by go_num, by omega, by rw [HS.out, HBZ.out, decide_eq_false h3, decide_eq_false h4]; rfl⟩
            case measure => simp [intOf]; omega
      · obtain rfl : k = n := by omega
        have t2 : ¬ (k : Int) < (k : Int) := by omega
        have HE : Hid (greatZ s = false) := Lib.hid (by rw [HG.out]; have := HA.out; rw [List.take_of_length_le (by rw [HN.out]; omega)] at this; exact this)
        go_wp2_with fail
        go_ret
        exact ⟨by rw [HE.out]; rfl, HB.out⟩
/-- where the first is, from a place on -/
def findZ (l : List ObjR) (id : Int) : Option Nat := l.findIdx? fun x => decide (x.id = id)
def RetFind (o : Option Nat) (w : World) (e : Ending) (w' : World) : Prop := e = .returned (.tuple #[.int .i64 ((o.getD 0 : Nat) : Int), .bool o.isSome]) ∧ Below w.heap.size w w'
set_option maxRecDepth 100000 in
set_option maxHeartbeats 1000000 in
theorem zfind_any (s : ScR) (id : Int) (w : World) (hs : ScWf s) (h : ObjsAt w s.oo s.os) :
    Calls Try.prog 8 #[.agg (scC s), .int .i64 id] w (RetFind (findZ s.os id) w) := by
  have HB : Hid (Below w.heap.size w (w.alloc (.cells (scC s) 28))) := Lib.hid (by go_grown)
  have HO := Lib.hid (h.below HB.out)
  have c18 : (w.alloc (.cells (scC s) 28)).cell? ⟨w.heap.size, 18, none⟩ = some (.slice s.oo s.os.length s.oc) := (ScAt.new w s).c18 hs
  have hcap := hs.cap.1
  obtain ⟨n, hn⟩ : ∃ n, s.os.length = n := ⟨_, rfl⟩
  have HN := Lib.hid hn
  rw [hn] at c18 hcap
  have n0 : (0 : Int) ≤ (n : Int) := by omega
  have n1 : (n : Int) ≤ 9223372036854775807 := by omega
  clear hn hs h hcap
  go_enter Try.func8, Try.ntmps8
  go_wp2_with fail
  generalize (w.alloc (.cells (scC s) 28)) = V at HB HO c18 ⊢
  go_loop [6] (fun u => ∃ k : Nat, u = .int .i64 (k : Int) ∧ k ≤ n ∧ findZ (s.os.take k) id = none) (fun u => n - (intOf u).toNat)
  case atStart => exact ⟨0, rfl, by omega, rfl⟩
  case round =>
    obtain ⟨k, rfl, hk, ha⟩ := hrel
    have HA := Lib.hid ha
    clear ha
    have k0 : (0 : Int) ≤ (k : Int) := by omega
    by_cases hkn : k < n
    · have t2 : (k : Int) < (n : Int) := by omega
      have hkl : k < s.os.length := by rw [HN.out]; exact hkn
      obtain ⟨x, hx⟩ : ∃ x, s.os[k]? = some x := ⟨_, List.getElem?_eq_getElem hkl⟩
      obtain ⟨b, off, e, hat⟩ := HO.out k x hx
      have d0 := hat.c0
      have HS : Hid (x.id ≠ id → findZ (s.os.take (k + 1)) id = none) := Lib.hid (fun h => by
        have := HA.out
        unfold findZ at this ⊢
        rw [List.take_add_one, hx, List.findIdx?_append, this]
        simp [h])
      have HF : Hid (x.id = id → findZ s.os id = some k) := Lib.hid (fun h => by
        have h0 := HA.out
        unfold findZ at h0 ⊢
        rw [← List.take_append_drop k s.os, List.findIdx?_append, h0, List.drop_eq_getElem_cons hkl]
        have hx' : s.os[k] = x := by rw [List.getElem?_eq_getElem hkl] at hx; exact Option.some.inj hx
        simp [List.findIdx?_cons, hx', h]
        omega)
      obtain ⟨z, hz⟩ : ∃ z, x.id = z := ⟨_, rfl⟩
      rw [hz] at HS HF d0
      rw [e] at c18
      clear hx hat e hz
      by_cases h3 : z = id
      · have hR := HF.out h3
        rw [hR]
        have HR : True := trivial
        clear hR
        go_wp2_with fail
        go_ret2
        exact ⟨rfl, HB.out⟩
      · go_wp2_with fail
        go_round
        case rel => exact ⟨k + 1, by go_num, by omega, HS.out h3⟩
        case measure => simp [intOf]; omega
    · obtain rfl : k = n := by omega
      have t2 : ¬ (k : Int) < (k : Int) := by omega
      have HE : Hid (findZ s.os id = none) := Lib.hid (by have := HA.out; rw [List.take_of_length_le (by rw [HN.out]; omega)] at this; exact this)
      go_wp2_with fail
      go_ret2
      exact ⟨by rw [HE.out]; rfl, HB.out⟩
end Go.Proofs.Ytbbhmhihpdmoiaa.Fx
set_option linter.unusedVariables false
set_option linter.unusedSimpArgs false
namespace Go.Proofs.Ytbbhmhihpdmoiaa.Fx
open Go Go.RowKit
def farZ (n : Int) : Bool := decide (1073741824 < n) || decide (n < -1073741824)
theorem objL_one (x : ObjR) : (objL x).toArray.all (·.oneCell') = true := by
  rw [List.all_toArray, List.all_eq_true]
  intro v hv
  unfold objL at hv
  rcases List.mem_cons.1 hv with rfl | hv
  · rfl
  rcases List.mem_append.1 hv with hv | hv
  · obtain ⟨z, _, rfl⟩ := List.mem_map.1 hv
    rfl
  · rcases List.mem_cons.1 hv with rfl | hv
    · rfl
    rcases List.mem_cons.1 hv with rfl | hv
    · rfl
    cases hv
theorem triL_one (t : TriR) : (triL t).toArray.all (·.oneCell') = true := by simp [triL, Value.oneCell']
/-- a scene in its row, one of its objects in the next -/
structure HoI (s : ScR) (x : ObjR) (w V : World) : Prop where
  sc : ScAt w.heap.size s V
  xr : V.heap[w.heap.size + 1]? = some (.cells (objL x).toArray 44 (0, 0))
  ob : ObjsAt V s.oo s.os
  vs : VertsAt V x.vo x.vs
  ts : TrisAt V x.tq x.ts
  bel : Below w.heap.size w V
theorem HoI.up {s : ScR} {x : ObjR} {w V X : World} (i : HoI s x w V) (hb : Below V.heap.size V X) : HoI s x w X :=
  ⟨i.sc.below hb, keep_row hb i.xr, i.ob.below hb, i.vs.below hb, i.ts.below hb, bnext i.bel hb⟩
theorem HoI.new {s : ScR} {x : ObjR} {k : Nat} {w : World} (hs : ScWf s) (h : ObjsAt w s.oo s.os) (hx : s.os[k]? = some x) : HoI s x w ((w.alloc (.cells (scC s) 28)).alloc (.cells (objL x).toArray 44)) := by
  have hB : Below w.heap.size w ((w.alloc (.cells (scC s) 28)).alloc (.cells (objL x).toArray 44)) := by go_grown
  obtain ⟨b, off, e, hat⟩ := h k x hx
  refine ⟨step_row (ScAt.new w s), ?_, h.below hB, hat.verts.below hB, hat.tris.below hB, hB⟩
  have := heap_alloc_new (w.alloc (.cells (scC s) 28)) (.cells (objL x).toArray 44)
  rw [World.size_alloc] at this
  exact this
theorem HoI.at {s : ScR} {x : ObjR} {w V : World} {j : Nat} (i : HoI s x w V) : V.cell? ⟨w.heap.size + 1, j, none⟩ = (objL x)[j]? := by
  rw [cell_of_row _ _ _ _ _ _ i.xr]
  simp
theorem HoI.x0 {s : ScR} {x : ObjR} {w V : World} (i : HoI s x w V) : V.cell? ⟨w.heap.size + 1, 0, none⟩ = some (.int .i64 x.id) := i.at
theorem HoI.x17 {s : ScR} {x : ObjR} {w V : World} (i : HoI s x w V) (hw : ObjWf x) : V.cell? ⟨w.heap.size + 1, 17, none⟩ = some (.slice x.vo x.vs.length x.vc) := i.at.trans (objL_vs hw)
theorem HoI.x18 {s : ScR} {x : ObjR} {w V : World} (i : HoI s x w V) (hw : ObjWf x) : V.cell? ⟨w.heap.size + 1, 18, none⟩ = some (.slice x.tq x.ts.length x.tc) := i.at.trans (objL_ts hw)
theorem HoI.mat {s : ScR} {x : ObjR} {w V : World} (i : HoI s x w V) : V.rangeAt (w.heap.size + 1) 1 (x.m.map encI) := fun j v hj => i.at.trans (objL_m hj)
theorem HoI.cam {s : ScR} {x : ObjR} {w V : World} (i : HoI s x w V) : V.rangeAt w.heap.size 2 (s.cam.map encI) := i.sc.cam
def fineV (v : List Int) : Bool := !(farZ (v.getD 0 0) || farZ (v.getD 1 0) || farZ (v.getD 2 0))
def fineT (n : Int) (t : TriR) : Bool := !(decide (t.a < 0) || decide (t.b < 0) || decide (t.c < 0) || decide (n ≤ t.a) || decide (n ≤ t.b) || decide (n ≤ t.c))
def keep4 (s : ScR) (x : ObjR) (k : Nat) : Bool := (s.os.take k).all (fun y => decide (y.id ≠ x.id)) && (decide (1 ≤ x.id) && decide (x.id ≤ 65535))
def keep7 (s : ScR) (x : ObjR) (k : Nat) : Bool := x.vs.all fineV && decide ((x.vs.length : Int) ≤ 64)
def keep8 (s : ScR) (x : ObjR) (k : Nat) : Bool := x.ts.all (fineT (x.vs.length : Int)) && decide ((x.ts.length : Int) ≤ 64)
theorem all_snoc {α : Type} {l : List α} {p : α → Bool} {k : Nat} {x : α} (hx : l[k]? = some x) (h : (l.take k).all p = true) : (l.take (k + 1)).all p = p x := by
  rw [List.take_add_one, hx, List.all_append, h]
  simp
theorem all_no {α : Type} {l : List α} {p : α → Bool} {k : Nat} {x : α} (hx : l[k]? = some x) (h : p x = false) : l.all p = false := by
  rw [List.all_eq_false]
  exact ⟨x, List.mem_of_getElem? hx, by simp [h]⟩
def T8Rel (s : ScR) (x : ObjR) (w : World) (m : Nat) (g : Nat) (u : Value) (W : World) : Prop :=
  ∃ i, g = m - i ∧ u = .int .i64 (i : Int) ∧ i ≤ m ∧ (x.ts.take i).all (fineT (x.vs.length : Int)) = true ∧ HoI s x w W
def T4Rel (s : ScR) (x : ObjR) (w : World) (k : Nat) (g : Nat) (u : Value) (W : World) : Prop :=
  ∃ i, g = k - i ∧ u = .int .i64 (i : Int) ∧ i ≤ k ∧ (s.os.take i).all (fun y => decide (y.id ≠ x.id)) = true ∧ HoI s x w W
end Go.Proofs.Ytbbhmhihpdmoiaa.Fx
