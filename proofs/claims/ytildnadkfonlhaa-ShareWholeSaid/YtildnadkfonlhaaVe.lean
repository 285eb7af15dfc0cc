/- What the program's rules ask of one object: its five closures, walked. -/
import Derived.Test.YtildnadkfonlhaaProg
import Derived.Test.YtildnadkfonlhaaVa
import Derived.Test.YtildnadkfonlhaaVc
import Derived.Test.YtildnadkfonlhaaVd
import Derived.Test.YtildnadkfonlhaaSd
import Derived.Test.YtildnadkfonlhaaMu
set_option linter.unusedVariables false
set_option linter.unusedSimpArgs false
namespace Go.Proofs.Ytildnadkfonlhaa.Fx
open Go Go.RowKit Go.Shelf
theorem pfar1_any (n : Int) (w : World) : Calls Try.prog 53 #[.int .i64 n] w fun e w' => e = .returned (.bool (farZ n)) ∧ w' = w := by
  by_cases h2 : n < -1073741824
  · have e : farZ n = true := by unfold farZ; rw [decide_eq_true h2, Bool.or_true]
    rw [e]
    clear e
    go_enter Try.func53, Try.ntmps53
    go_wp2_with fail
    go_ret
    exact ⟨rfl, rfl⟩
  · by_cases h1 : 1073741824 < n
    · have e : farZ n = true := by unfold farZ; rw [decide_eq_true h1]; rfl
      rw [e]
      clear e
      go_enter Try.func53, Try.ntmps53
      go_wp2_with fail
      go_ret
      exact ⟨rfl, rfl⟩
    · have e : farZ n = false := by unfold farZ; rw [decide_eq_false h1, decide_eq_false h2]; rfl
      rw [e]
      clear e
      go_enter Try.func53, Try.ntmps53
      go_wp2_with fail
      go_ret
      exact ⟨rfl, rfl⟩
theorem far_any3 {v : List Int} (h : v.length = 3) : v.any farZ = !fineV v := by
  match v, h with
  | [a, b, c], _ => simp [fineV, Bool.or_assoc]
set_option maxRecDepth 100000 in
theorem pfar_any (v : List Int) (w : World) (hv : v.length = 3) : Calls Try.prog 42 #[.agg (v.map encI).toArray] w (RetBool (!fineV v) w) := by
  have hI : IntsAt (w.alloc (.cells (v.map encI).toArray 82)) (some ⟨w.heap.size, 0, none⟩) v := fun i hi => ⟨_, _, rfl, by
    rw [cell_of_row _ _ _ _ _ _ (heap_alloc_new _ _), Nat.zero_add]
    simp [List.getElem?_eq_getElem hi, List.getD_eq_getElem?_getD, encI]⟩
  have HC := Lib.hid (has_q farZ 53 #[] (enters_of Try.func53 (by kernel_rfl) rfl) _ 3 v _ hI (by omega) (fun W x _ _ => (pfar1_any x W).mono fun _ _ h => ⟨h.1, h.2 ▸ Below.refl _ _⟩))
  have HB : Hid (Below w.heap.size w (w.alloc (.cells (v.map encI).toArray 82))) := Lib.hid ((Below.refl _ w).alloc (Nat.le_refl _) _)
  rw [far_any3 hv, hv] at HC
  generalize fineV v = r at HC ⊢
  generalize (v.map encI).toArray = cs at *
  clear hI hv
  go_enter Try.func42, Try.ntmps42
  go_wp2_with fail
  refine HC.out.mono ?_
  rintro e w1 ⟨rfl, hb⟩
  have HB1 := Lib.hid (bnext HB.out hb)
  clear hb
  go_wp2_with fail
  go_ret
  exact ⟨rfl, HB1.out⟩
/-- an object in its box -/
structure BoxO (x : ObjR) (B : Nat) (V : World) : Prop where
  row : V.heap[B]? = some (.cells (objL x).toArray 48 (0, 0))
  wf : ObjWf x
theorem BoxO.at {x : ObjR} {B j : Nat} {V : World} (i : BoxO x B V) : V.cell? ⟨B, j, none⟩ = (objL x)[j]? := by
  rw [cell_of_row _ _ _ _ _ _ i.row]
  simp
theorem BoxO.c0 {x : ObjR} {B : Nat} {V : World} (i : BoxO x B V) : V.cell? ⟨B, 0, none⟩ = some (.int .i64 x.id) := i.at
theorem BoxO.c17 {x : ObjR} {B : Nat} {V : World} (i : BoxO x B V) : V.cell? ⟨B, 17, none⟩ = some (.slice x.vo x.vs.length x.vc) := i.at.trans (objL_vs i.wf)
theorem BoxO.c18 {x : ObjR} {B : Nat} {V : World} (i : BoxO x B V) : V.cell? ⟨B, 18, none⟩ = some (.slice x.tq x.ts.length x.tc) := i.at.trans (objL_ts i.wf)
theorem BoxO.mat {x : ObjR} {B : Nat} {V : World} (i : BoxO x B V) : V.rangeAt B 1 (x.m.map encI) := fun j v hj => i.at.trans (objL_m hj)
theorem BoxO.up {x : ObjR} {B : Nat} {V X : World} (hb : Below V.heap.size V X) (i : BoxO x B V) : BoxO x B X := ⟨keep_row hb i.row, i.wf⟩
theorem BoxO.new (x : ObjR) (w : World) (h : ObjWf x) : BoxO x w.heap.size (w.alloc (.cells (objL x).toArray 48)) := ⟨heap_alloc_new _ _, h⟩
theorem ObjsAt.wf {W : World} {o : Option Addr} {l : List ObjR} {k : Nat} {x : ObjR} (h : ObjsAt W o l) (hx : l[k]? = some x) : ObjWf x ∧ VertsAt W x.vo x.vs ∧ TrisAt W x.tq x.ts := by
  obtain ⟨b, off, e, hat⟩ := h k x hx
  exact ⟨hat.wf, hat.verts, hat.tris⟩
theorem ScAt.all {A : Nat} {s : ScR} {W : World} (h : ScAt A s W) : W.rangeAt A 0 (scL s) := fun j v hj => by
  rw [Nat.zero_add]
  exact h.at.trans hj
theorem sizeS {s : ScR} (hs : ScWf s) : (Try.prog.info? 32).map (·.size) = some (scL s).length := by rw [scL_len hs]; kernel_rfl
theorem find_first {s : ScR} {x : ObjR} {k : Nat} (hx : s.os[k]? = some x) : ((s.os.take k).all fun y => decide (y.id ≠ x.id)) = decide ((findZ s.os x.id).getD 0 = k) := by
  obtain ⟨hkl, hx'⟩ := List.getElem?_eq_some_iff.1 hx
  cases h : findZ (s.os.take k) x.id with
  | none =>
    rw [find_hit hx h rfl]
    have : ((s.os.take k).all fun y => decide (y.id ≠ x.id)) = true := by
      unfold findZ at h
      rw [List.findIdx?_eq_none_iff] at h
      rw [List.all_eq_true]
      intro y hy
      have := h y hy
      simpa using this
    rw [this]
    simp
  | some i =>
    have hi : findZ s.os x.id = some i := by
      unfold findZ at h ⊢
      rw [← List.take_append_drop k s.os, List.findIdx?_append, h]
      rfl
    have hlt : i < k := by
      unfold findZ at h
      obtain ⟨h1, _⟩ := List.findIdx?_eq_some_iff_getElem.1 h
      simp at h1
      omega
    have : ((s.os.take k).all fun y => decide (y.id ≠ x.id)) = false := by
      unfold findZ at h
      obtain ⟨h1, h2, _⟩ := List.findIdx?_eq_some_iff_getElem.1 h
      rw [List.all_eq_false]
      exact ⟨_, List.getElem_mem h1, by simpa using h2⟩
    rw [this, hi]
    simp
    omega
set_option maxRecDepth 100000 in
set_option maxHeartbeats 4000000 in
theorem duty1 (s : ScR) (x : ObjR) (k A : Nat) (w : World) (hs : ScWf s) (ha : ScAt A s w) (h : ObjsAt w s.oo s.os) (hx : s.os[k]? = some x) :
    Calls Try.prog 35 #[.int .i64 (k : Int), .agg (objL x).toArray, .pointer (some ⟨A, 0, none⟩)] w (RetBool (keep4 s x k) w) := by
  have HB : Hid (Below w.heap.size w (w.alloc (.cells (objL x).toArray 48))) := Lib.hid ((Below.refl _ w).alloc (Nat.le_refl _) _)
  have HX := Lib.hid (BoxO.new x w (h.wf hx).1)
  have HA := Lib.hid (ha.below HB.out)
  have hall := Lib.hid (sizeS hs)
  have HF := Lib.hid (pfind_any s x.id _ hs (h.below HB.out))
  have HK : Hid (keep4 s x k = (decide ((findZ s.os x.id).getD 0 = k) && (decide (1 ≤ x.id) && decide (x.id ≤ 65535)))) := Lib.hid (by unfold keep4; rw [find_first hx])
  have c0 := HX.out.c0
  have k0 : (0 : Int) ≤ (k : Int) := by omega
  unfold RetFind at HF
  rw [HK.out]
  clear h hx ha hs HK
  generalize x.id = z at c0 HF ⊢
  generalize findZ s.os z = fz at HF ⊢
  generalize fz.isSome = fb at HF
  generalize fz.getD 0 = f at HF ⊢
  go_enter Try.func35, Try.ntmps35
  go_wp2_with (refine wpList_load_mid rfl 32 (.tmp 2) rfl A 0 rfl (scL s) _ HA.out.all Try.underlying32 rfl hall.out ?_)
  refine HF.out.mono ?_
  rintro e w1 ⟨rfl, hb⟩
  have c1 := keep_cell hb c0
  have HB1 := Lib.hid (bnext HB.out hb)
  clear hb HF c0
  by_cases h1 : 1 ≤ z
  · by_cases h2 : z ≤ 65535
    · by_cases h3 : f = k
      · subst h3
        go_wp2_with fail
        go_ret
        exact ⟨by (first | (simp [*]; done) | (simp; omega) | (simp [*]; omega)), HB1.out⟩
      · have t3 : ¬ (f : Int) = (k : Int) := by omega
        go_wp2_with fail
        go_ret
        exact ⟨by (first | (simp [*]; done) | (simp; omega) | (simp [*]; omega)), HB1.out⟩
    · go_wp2_with fail
      go_ret
      exact ⟨by (first | (simp [*]; done) | (simp; omega) | (simp [*]; omega)), HB1.out⟩
  · go_wp2_with fail
    go_ret
    exact ⟨by (first | (simp [*]; done) | (simp; omega) | (simp [*]; omega)), HB1.out⟩
set_option maxRecDepth 100000 in
set_option maxHeartbeats 4000000 in
theorem duty2 (s : ScR) (x : ObjR) (k : Nat) (w : World) (hx : ObjWf x) :
    Calls Try.prog 37 #[.int .i64 (k : Int), .agg (objL x).toArray] w (RetBool (keep5 s x k) w) := by
  have HB : Hid (Below w.heap.size w (w.alloc (.cells (objL x).toArray 48))) := Lib.hid ((Below.refl _ w).alloc (Nat.le_refl _) _)
  have HX := Lib.hid (BoxO.new x w hx)
  have hM := Lib.hid (sizeM hx.len)
  have HC := Lib.hid (check_any x.m 16777216 (w.alloc (.cells (objL x).toArray 48)) hx.len (by omega) (by omega))
  have HK : Hid (keep5 s x k = wB 16777216 x.m 16) := Lib.hid rfl
  rw [HK.out]
  clear hx HK
  cases hb : wB 16777216 x.m 16 with
  | true =>
    rw [hb] at HC
    clear hb
    go_enter Try.func37, Try.ntmps37
    go_wp2_with (refine wpList_load_mid rfl 29 (.tmp 5) rfl w.heap.size 1 rfl (x.m.map encI) _ HX.out.mat Try.underlying29 rfl hM.out ?_)
    refine HC.out.mono ?_
    rintro e w1 ⟨rfl, hb⟩
    have HB1 := Lib.hid (bnext HB.out hb)
    clear hb
    go_wp2_with fail
    go_ret
    exact ⟨rfl, HB1.out⟩
  | false =>
    rw [hb] at HC
    clear hb
    go_enter Try.func37, Try.ntmps37
    go_wp2_with (refine wpList_load_mid rfl 29 (.tmp 5) rfl w.heap.size 1 rfl (x.m.map encI) _ HX.out.mat Try.underlying29 rfl hM.out ?_)
    refine HC.out.mono ?_
    rintro e w1 ⟨rfl, hb⟩
    have HB1 := Lib.hid (bnext HB.out hb)
    clear hb
    go_wp2_with fail
    go_ret
    exact ⟨rfl, HB1.out⟩
/-- what the program asks of both matrices -/
def keep6p (s : ScR) (k : Nat) : Bool := wB 67108864 ((bothO s (k : Int)).getD zero16) 16
theorem bothO_len (s : ScR) (k : Int) : ((bothO s k).getD zero16).length = 16 := by
  cases h : bothO s k with
  | none => rfl
  | some m =>
    unfold bothO at h
    split at h
    · cases hx : s.os[k.toNat]? with
      | none => rw [hx] at h; cases h
      | some x =>
        rw [hx] at h
        exact mulO_len h
    · cases h
set_option maxRecDepth 100000 in
set_option maxHeartbeats 4000000 in
theorem duty3 (s : ScR) (x : ObjR) (k A : Nat) (w : World) (hs : ScWf s) (ha : ScAt A s w) (h : ObjsAt w s.oo s.os) (hx : s.os[k]? = some x) :
    Calls Try.prog 38 #[.int .i64 (k : Int), .agg (objL x).toArray, .pointer (some ⟨A, 0, none⟩)] w (RetBool (keep6p s k) w) := by
  have HB : Hid (Below w.heap.size w (w.alloc (.cells (objL x).toArray 48))) := Lib.hid ((Below.refl _ w).alloc (Nat.le_refl _) _)
  have HA := Lib.hid (ha.below HB.out)
  have hall := Lib.hid (sizeS hs)
  have HF := Lib.hid (pboth_any s (k : Int) _ hs (h.below HB.out))
  have HU := Lib.hid (bothO_len s (k : Int))
  have HC := Lib.hid (fun (W : World) => check_any ((bothO s (k : Int)).getD zero16) 67108864 W HU.out (by omega) (by omega))
  have HK : Hid (keep6p s k = wB 67108864 ((bothO s (k : Int)).getD zero16) 16) := Lib.hid rfl
  unfold RetBoth at HF
  rw [HK.out]
  clear h hx ha hs HK
  generalize (if (bothO s (k : Int)).isSome = true then (0 : Int) else 60) = er at HF
  generalize (bothO s (k : Int)).getD zero16 = u at *
  have hM := Lib.hid (sizeM HU.out)
  have hUA := Lib.hid (show (Try.prog.info? 29).map (·.size) = some (mC u).size by rw [size16, mC_size, HU.out])
  have hUL := Lib.hid (show 16 = (mC u).size by rw [mC_size, HU.out])
  cases hb : wB 67108864 u 16 with
  | true =>
    rw [hb] at HC
    clear hb
    go_enter Try.func38, Try.ntmps38
    go_wp2_with (refine wpList_load_mid rfl 32 (.tmp 2) rfl A 0 rfl (scL s) _ HA.out.all Try.underlying32 rfl hall.out ?_)
    refine HF.out.mono ?_
    rintro e w1 ⟨rfl, hb⟩
    have HB1 := Lib.hid (bnext HB.out hb)
    have HB2 : Hid (Below w.heap.size w (w1.alloc (.cells (mC u) 29))) := Lib.hid (Below.alloc HB1.out HB1.out.size _)
    have HRU := Lib.hid (range_mC (heap_alloc_new w1 (.cells (mC u) 29)))
    clear hb
    go_wp2_with (first | (refine wpList_store_new rfl 29 (.tmp 6) (.tmp 12) rfl w1.heap.size _ _ (mC u) rfl rfl rfl hUA.out hUL.out (mC_one _) ?_) | (refine wpList_load_mid rfl 29 (.tmp 6) rfl w1.heap.size 0 rfl (u.map encI) _ HRU.out Try.underlying29 rfl hM.out ?_))
    refine (HC.out _).mono ?_
    rintro e w2 ⟨rfl, hb⟩
    have HB3 := Lib.hid (bnext HB2.out hb)
    clear hb
    go_wp2_with fail
    go_ret
    exact ⟨rfl, HB3.out⟩
  | false =>
    rw [hb] at HC
    clear hb
    go_enter Try.func38, Try.ntmps38
    go_wp2_with (refine wpList_load_mid rfl 32 (.tmp 2) rfl A 0 rfl (scL s) _ HA.out.all Try.underlying32 rfl hall.out ?_)
    refine HF.out.mono ?_
    rintro e w1 ⟨rfl, hb⟩
    have HB1 := Lib.hid (bnext HB.out hb)
    have HB2 : Hid (Below w.heap.size w (w1.alloc (.cells (mC u) 29))) := Lib.hid (Below.alloc HB1.out HB1.out.size _)
    have HRU := Lib.hid (range_mC (heap_alloc_new w1 (.cells (mC u) 29)))
    clear hb
    go_wp2_with (first | (refine wpList_store_new rfl 29 (.tmp 6) (.tmp 12) rfl w1.heap.size _ _ (mC u) rfl rfl rfl hUA.out hUL.out (mC_one _) ?_) | (refine wpList_load_mid rfl 29 (.tmp 6) rfl w1.heap.size 0 rfl (u.map encI) _ HRU.out Try.underlying29 rfl hM.out ?_))
    refine (HC.out _).mono ?_
    rintro e w2 ⟨rfl, hb⟩
    have HB3 := Lib.hid (bnext HB2.out hb)
    clear hb
    go_wp2_with fail
    go_ret
    exact ⟨rfl, HB3.out⟩
theorem any_not {α : Type} (l : List α) (p : α → Bool) : l.any (fun x => !p x) = !l.all p := by
  induction l with
  | nil => rfl
  | cons a t ih => simp [ih, Bool.not_and]
set_option maxRecDepth 100000 in
set_option maxHeartbeats 4000000 in
theorem duty4 (s : ScR) (x : ObjR) (k : Nat) (w : World) (hx : ObjWf x) (hv : VertsAt w x.vo x.vs) :
    Calls Try.prog 40 #[.int .i64 (k : Int), .agg (objL x).toArray] w (RetBool (keep7 s x k) w) := by
  have HB : Hid (Below w.heap.size w (w.alloc (.cells (objL x).toArray 48))) := Lib.hid ((Below.refl _ w).alloc (Nat.le_refl _) _)
  have HX := Lib.hid (BoxO.new x w hx)
  have HC := Lib.hid (has_v (fun v => !fineV v) 42 #[] (enters_of Try.func42 (by kernel_rfl) rfl) x.vo x.vc x.vs _ (hv.below HB.out) (by have := hx.vcap.1; omega) (fun W v _ hm => by
    obtain ⟨i, hi⟩ := List.mem_iff_getElem?.1 hm
    obtain ⟨b, off, e, h1, h2⟩ := hv i v hi
    exact pfar_any v W h2.len))
  have c17 := HX.out.c17
  have HK : Hid (keep7 s x k = (x.vs.all fineV && decide ((x.vs.length : Int) ≤ 64))) := Lib.hid rfl
  have hc := hx.vcap.1
  rw [HK.out]
  rw [any_not] at HC
  clear hx hv HK
  generalize x.vs.all fineV = r at HC ⊢
  generalize x.vs.length = m at *
  have m0 : (0 : Int) ≤ (m : Int) := by omega
  by_cases hm : (m : Int) ≤ 64
  · go_enter Try.func40, Try.ntmps40
    go_wp2_with fail
    refine HC.out.mono ?_
    rintro e w1 ⟨rfl, hb⟩
    have HB1 := Lib.hid (bnext HB.out hb)
    clear hb
    go_wp2_with fail
    go_ret
    exact ⟨by simp [hm], HB1.out⟩
  · go_enter Try.func40, Try.ntmps40
    go_wp2_with fail
    go_ret
    exact ⟨by simp [hm], HB.out⟩
/-- is a number no place among n? -/
def outN (n z : Int) : Bool := decide (z < 0) || decide (n ≤ z)
theorem pplaces1_any (A : Nat) (o : Option Addr) (n c : Nat) (z : Int) (w : World) (h : w.cell? ⟨A, 0, none⟩ = some (.slice o n c)) : Calls Try.prog 55 #[.int .i64 z, .pointer (some ⟨A, 0, none⟩)] w fun e w' => e = .returned (.bool (outN (n : Int) z)) ∧ w' = w := by
  have n0 : (0 : Int) ≤ (n : Int) := by omega
  by_cases h2 : z < 0
  · have e : outN (n : Int) z = true := by unfold outN; rw [decide_eq_true h2]; rfl
    rw [e]
    clear e
    go_enter Try.func55, Try.ntmps55
    go_wp2_with fail
    go_ret
    exact ⟨rfl, rfl⟩
  · by_cases h1 : (n : Int) ≤ z
    · have e : outN (n : Int) z = true := by unfold outN; rw [decide_eq_true h1, Bool.or_true]
      rw [e]
      clear e
      go_enter Try.func55, Try.ntmps55
      go_wp2_with fail
      go_ret
      exact ⟨rfl, rfl⟩
    · have e : outN (n : Int) z = false := by unfold outN; rw [decide_eq_false h1, decide_eq_false h2]; rfl
      rw [e]
      clear e
      go_enter Try.func55, Try.ntmps55
      go_wp2_with fail
      go_ret
      exact ⟨rfl, rfl⟩
set_option maxRecDepth 100000 in
theorem pplaces_any (o o2 : Option Addr) (n c c2 : Nat) (l : List Int) (w : World) (hl : IntsAt w o2 l) (hn : l.length = 3) : Calls Try.prog 45 #[.slice o n c, .slice o2 3 c2] w (RetBool (!l.any (outN (n : Int))) w) := by
  have HB : Hid (Below w.heap.size w (w.alloc (.cells #[.slice o n c] 45))) := Lib.hid ((Below.refl _ w).alloc (Nat.le_refl _) _)
  have h0 : (w.alloc (.cells #[.slice o n c] 45)).cell? ⟨w.heap.size, 0, none⟩ = some (.slice o n c) := by
    rw [cell_of_row _ _ _ _ _ _ (heap_alloc_new _ _)]
    rfl
  have HC := Lib.hid (has_i (outN (n : Int)) 55 #[.pointer (some ⟨w.heap.size, 0, none⟩)] (enters_of Try.func55 (by kernel_rfl) rfl) o2 c2 l _ (hl.below HB.out) (by omega) (fun W z hb _ => (pplaces1_any w.heap.size o n c z W (keep_cell hb h0)).mono fun _ _ h => ⟨h.1, h.2 ▸ Below.refl _ _⟩))
  rw [hn] at HC
  generalize l.any (outN (n : Int)) = r at HC ⊢
  clear hl hn h0
  go_enter Try.func45, Try.ntmps45
  go_wp2_with fail
  refine HC.out.mono ?_
  rintro e w1 ⟨rfl, hb⟩
  have HB1 := Lib.hid (bnext HB.out hb)
  clear hb
  go_wp2_with fail
  go_ret
  exact ⟨rfl, HB1.out⟩
theorem fine_out (n : Int) (t : TriR) : (!([t.a, t.b, t.c].any (outN n))) = fineT n t := by
  unfold fineT outN
  simp only [List.any_cons, List.any_nil, Bool.or_false]
  congr 1
  cases decide (t.a < 0) <;> cases decide (t.b < 0) <;> cases decide (t.c < 0) <;> cases decide (n ≤ t.a) <;> cases decide (n ≤ t.b) <;> cases decide (n ≤ t.c) <;> rfl
set_option maxRecDepth 100000 in
set_option maxHeartbeats 2000000 in
theorem plost_any (x : ObjR) (B : Nat) (t : TriR) (w : World) (i : BoxO x B w) : Calls Try.prog 44 #[.agg (triL t).toArray, .pointer (some ⟨B, 0, none⟩)] w (RetBool (!fineT (x.vs.length : Int) t) w) := by
  obtain ⟨V, hV⟩ : ∃ V, w.alloc (.cells (triL t).toArray 86) = V := ⟨_, rfl⟩
  have HB : Hid (Below w.heap.size w V) := Lib.hid (by rw [← hV]; exact (Below.refl _ w).alloc (Nat.le_refl _) _)
  have c17 := (i.up HB.out).c17
  have hrow : V.heap[w.heap.size]? = some (.cells (triL t).toArray 86 (0, 0)) := by rw [← hV]; exact heap_alloc_new _ _
  have d0 : V.cell? ⟨w.heap.size, 0, none⟩ = some (.int .i64 t.a) := by rw [cell_of_row _ _ _ _ _ _ hrow]; rfl
  have d1 : V.cell? ⟨w.heap.size, 1, none⟩ = some (.int .i64 t.b) := by rw [cell_of_row _ _ _ _ _ _ hrow]; rfl
  have d2 : V.cell? ⟨w.heap.size, 2, none⟩ = some (.int .i64 t.c) := by rw [cell_of_row _ _ _ _ _ _ hrow]; rfl
  have HC := Lib.hid (pplaces_any x.vo (some ⟨V.heap.size, 0, none⟩) x.vs.length x.vc 3 [t.a, t.b, t.c] (V.alloc (.cells #[.int .i64 t.a, .int .i64 t.b, .int .i64 t.c] 3)) (fun j hj => ⟨_, _, rfl, by
    rw [cell_of_row _ _ _ _ _ _ (heap_alloc_new _ _), Nat.zero_add]
    match j, hj with
    | 0, _ => rfl
    | 1, _ => rfl
    | 2, _ => rfl⟩) rfl)
  have HB2 : Hid (Below w.heap.size w (V.alloc (.cells #[.int .i64 t.a, .int .i64 t.b, .int .i64 t.c] 3))) := Lib.hid (HB.out.alloc HB.out.size _)
  rw [fine_out] at HC
  have HV := Lib.hid hV
  clear hrow i hV
  generalize fineT (x.vs.length : Int) t = r at HC ⊢
  generalize t.a = ta at *
  generalize t.b = tb at *
  generalize t.c = tc at *
  generalize (triL t).toArray = tl at HV ⊢
  go_enter Try.func44, Try.ntmps44
  go_wp2_with (rw [HV.out])
  refine HC.out.mono ?_
  rintro e w1 ⟨rfl, hb⟩
  have HB1 := Lib.hid (bnext HB2.out hb)
  clear hb
  go_wp2_with fail
  go_ret
  exact ⟨rfl, HB1.out⟩
set_option maxRecDepth 100000 in
set_option maxHeartbeats 4000000 in
theorem duty5 (s : ScR) (x : ObjR) (k : Nat) (w : World) (hx : ObjWf x) (hv : TrisAt w x.tq x.ts) :
    Calls Try.prog 43 #[.int .i64 (k : Int), .agg (objL x).toArray] w (RetBool (keep8 s x k) w) := by
  have HB : Hid (Below w.heap.size w (w.alloc (.cells (objL x).toArray 48))) := Lib.hid ((Below.refl _ w).alloc (Nat.le_refl _) _)
  have HX := Lib.hid (BoxO.new x w hx)
  have HC := Lib.hid (has_t (fun t => !fineT (x.vs.length : Int) t) 44 #[.pointer (some ⟨w.heap.size, 0, none⟩)] (enters_of Try.func44 (by kernel_rfl) rfl) x.tq x.tc x.ts _ (hv.below HB.out) (by have := hx.tcap.1; omega) (fun W t hb _ =>
    plost_any x w.heap.size t W (HX.out.up hb)))
  have c18 := HX.out.c18
  have HK : Hid (keep8 s x k = (x.ts.all (fineT (x.vs.length : Int)) && decide ((x.ts.length : Int) ≤ 64))) := Lib.hid rfl
  have hc := hx.tcap.1
  rw [HK.out]
  rw [any_not] at HC
  clear hx hv HK
  generalize x.ts.all (fineT (x.vs.length : Int)) = r at HC ⊢
  generalize x.ts.length = m at *
  have m0 : (0 : Int) ≤ (m : Int) := by omega
  by_cases hm : (m : Int) ≤ 64
  · go_enter Try.func43, Try.ntmps43
    go_wp2_with fail
    refine HC.out.mono ?_
    rintro e w1 ⟨rfl, hb⟩
    have HB1 := Lib.hid (bnext HB.out hb)
    clear hb
    go_wp2_with fail
    go_ret
    exact ⟨by simp [hm], HB1.out⟩
  · go_enter Try.func43, Try.ntmps43
    go_wp2_with fail
    go_ret
    exact ⟨by simp [hm], HB.out⟩
end Go.Proofs.Ytildnadkfonlhaa.Fx
