/- What products with the identity are, and what a product turned is: plain. -/
import Derived.Test.YtgkcbadfjhicnaaProg
import Derived.Test.YtgkcbadfjhicnaaMk
set_option linter.unusedVariables false
set_option linter.unusedSimpArgs false
namespace Go.Proofs.Ytgkcbadfjhicnaa.Fx
open Go Go.RowKit Go.Shelf Wm
def Okk (x : Int) : Prop := (0 : Int) ≤ 4611686018427387904 ∧ -4611686018427387904 ≤ x ∧ x ≤ 4611686018427387904
def ent (a b : List Int) (i j : Nat) : Int := pq (rowOf a i) (rowOf (tr b) j)
def prodL (a b : List Int) : List Int := (List.range 16).map fun p => ent a b (p / 4) (p % 4)
/-- may the product be? -/
def MayMul (a b : List Int) : Prop := wB 4611686018427387904 a 16 = true ∧ wB 4611686018427387904 b 16 = true ∧ ∀ i, i < 4 → ∀ j, j < 4 → Okk (ent a b i j)
theorem tr_getD (m : List Int) (p : Nat) (h : p < 16) : (tr m).getD p 0 = m.getD (p % 4 * 4 + p / 4) 0 := by
  unfold tr
  rw [List.getD_eq_getElem?_getD, List.getElem?_map, List.getElem?_range h]
  rfl
theorem rowOf_getD (m : List Int) (r j : Nat) (h : j < 4) : (rowOf m r).getD j 0 = m.getD (r * 4 + j) 0 := by
  have hd : j = 0 ∨ j = 1 ∨ j = 2 ∨ j = 3 := by omega
  rcases hd with rfl | rfl | rfl | rfl <;> rfl
theorem apRows_getD (m v : List Int) (j : Nat) (h : j < 4) : (apRows m v).getD j 0 = pq (rowOf m j) v := by
  have hd : j = 0 ∨ j = 1 ∨ j = 2 ∨ j = 3 := by omega
  rcases hd with rfl | rfl | rfl | rfl <;> rfl
theorem col_iff (a b : List Int) (r : Nat) (hr : r < 4) : (colO a b r).isSome = true ↔ wB 4611686018427387904 a 16 = true ∧ (∀ i, i < 4 → Okk (b.getD (i * 4 + r) 0)) ∧ ∀ i, i < 4 → Okk (ent a b i r) := by
  have e1 : wB 4611686018427387904 (rowOf (tr b) r) 4 = true ↔ ∀ i, i < 4 → Okk (b.getD (i * 4 + r) 0) := by
    rw [wB_iff]
    refine forall_congr' fun i => forall_congr' fun hi => ?_
    rw [rowOf_getD _ _ _ hi, tr_getD _ _ (by omega), show (r * 4 + i) % 4 = i by omega, show (r * 4 + i) / 4 = r by omega]
    rfl
  have e2 : wB 4611686018427387904 (apRows a (rowOf (tr b) r)) 4 = true ↔ ∀ i, i < 4 → Okk (ent a b i r) := by
    rw [wB_iff]
    refine forall_congr' fun i => forall_congr' fun hi => ?_
    rw [apRows_getD _ _ _ hi]
    rfl
  rw [← e1, ← e2]
  unfold colO apO
  split
  · rename_i h; exact ⟨fun _ => h, fun _ => rfl⟩
  · rename_i h; exact ⟨fun h2 => (by cases h2), fun h2 => absurd h2 h⟩
theorem col_some {a b : List Int} {r : Nat} (h : (colO a b r).isSome = true) : colO a b r = some (apRows a (rowOf (tr b) r)) := by
  unfold colO apO at h ⊢
  split
  · rfl
  · rename_i hn; rw [if_neg hn] at h; cases h
theorem mulO_may {a b : List Int} (h : MayMul a b) : mulO a b = some (prodL a b) := by
  obtain ⟨ha, hb, hp⟩ := h
  have hs : ∀ r, r < 4 → (colO a b r).isSome = true := fun r hr => (col_iff a b r hr).2 ⟨ha, fun i hi => (wB_iff.1 hb) (i * 4 + r) (by omega), fun i hi => hp i hi r hr⟩
  unfold mulO
  rw [if_pos ⟨hs 0 (by omega), hs 1 (by omega), hs 2 (by omega), hs 3 (by omega)⟩]
  congr 1
  unfold tr prodL
  refine List.map_congr_left fun p hp2 => ?_
  rw [List.mem_range] at hp2
  unfold csA
  rw [List.getD_eq_getElem?_getD, List.getElem?_map, List.getElem?_range (by omega)]
  show colA a b (p % 4 * 4 + p / 4) = _
  unfold colA
  rw [show (p % 4 * 4 + p / 4) / 4 = p % 4 by omega, show (p % 4 * 4 + p / 4) % 4 = p / 4 by omega, col_some (hs (p % 4) (by omega))]
  show (apRows a (rowOf (tr b) (p % 4))).getD (p / 4) 0 = _
  rw [apRows_getD _ _ _ (by omega)]
  rfl
theorem mulO_not {a b : List Int} (h : ¬ MayMul a b) : mulO a b = none := by
  unfold mulO
  rw [if_neg]
  rintro ⟨h0, h1, h2, h3⟩
  have hs : ∀ r, r < 4 → (colO a b r).isSome = true := by
    intro r hr
    have hd : r = 0 ∨ r = 1 ∨ r = 2 ∨ r = 3 := by omega
    rcases hd with rfl | rfl | rfl | rfl <;> assumption
  refine h ⟨((col_iff a b 0 (by omega)).1 h0).1, wB_iff.2 fun j hj => ?_, fun i hi j hj => ((col_iff a b j hj).1 (hs j hj)).2.2 i hi⟩
  have := ((col_iff a b (j % 4) (by omega)).1 (hs (j % 4) (by omega))).2.1 (j / 4) (by omega)
  rw [show j / 4 * 4 + j % 4 = j by omega] at this
  exact this
theorem ent_one (a : List Int) (i j : Nat) (hi : i < 4) (hj : j < 4) : ent a idl i j = a.getD (i * 4 + j) 0 := by
  have hd : j = 0 ∨ j = 1 ∨ j = 2 ∨ j = 3 := by omega
  rcases hd with rfl | rfl | rfl | rfl
  · show (a.getD (i * 4) 0 * 65536 + a.getD (i * 4 + 1) 0 * 0 + a.getD (i * 4 + 2) 0 * 0 + a.getD (i * 4 + 3) 0 * 0) / 65536 = a.getD (i * 4) 0
    omega
  · show (a.getD (i * 4) 0 * 0 + a.getD (i * 4 + 1) 0 * 65536 + a.getD (i * 4 + 2) 0 * 0 + a.getD (i * 4 + 3) 0 * 0) / 65536 = a.getD (i * 4 + 1) 0
    omega
  · show (a.getD (i * 4) 0 * 0 + a.getD (i * 4 + 1) 0 * 0 + a.getD (i * 4 + 2) 0 * 65536 + a.getD (i * 4 + 3) 0 * 0) / 65536 = a.getD (i * 4 + 2) 0
    omega
  · show (a.getD (i * 4) 0 * 0 + a.getD (i * 4 + 1) 0 * 0 + a.getD (i * 4 + 2) 0 * 0 + a.getD (i * 4 + 3) 0 * 65536) / 65536 = a.getD (i * 4 + 3) 0
    omega
theorem row_tr (b : List Int) (j : Nat) (hj : j < 4) : rowOf (tr b) j = [b.getD j 0, b.getD (4 + j) 0, b.getD (8 + j) 0, b.getD (12 + j) 0] := by
  have hd : j = 0 ∨ j = 1 ∨ j = 2 ∨ j = 3 := by omega
  rcases hd with rfl | rfl | rfl | rfl <;> rfl
theorem one_ent (b : List Int) (i j : Nat) (hi : i < 4) (hj : j < 4) : ent idl b i j = b.getD (i * 4 + j) 0 := by
  unfold ent
  rw [row_tr b j hj]
  have hd : i = 0 ∨ i = 1 ∨ i = 2 ∨ i = 3 := by omega
  rcases hd with rfl | rfl | rfl | rfl
  · show (65536 * b.getD j 0 + 0 * b.getD (4 + j) 0 + 0 * b.getD (8 + j) 0 + 0 * b.getD (12 + j) 0) / 65536 = _
    rw [show 0 * 4 + j = j by omega]; omega
  · show (0 * b.getD j 0 + 65536 * b.getD (4 + j) 0 + 0 * b.getD (8 + j) 0 + 0 * b.getD (12 + j) 0) / 65536 = _
    rw [show 1 * 4 + j = 4 + j by omega]; omega
  · show (0 * b.getD j 0 + 0 * b.getD (4 + j) 0 + 65536 * b.getD (8 + j) 0 + 0 * b.getD (12 + j) 0) / 65536 = _
    rw [show 2 * 4 + j = 8 + j by omega]; omega
  · show (0 * b.getD j 0 + 0 * b.getD (4 + j) 0 + 0 * b.getD (8 + j) 0 + 65536 * b.getD (12 + j) 0) / 65536 = _
    rw [show 3 * 4 + j = 12 + j by omega]; omega
theorem list_of {a l : List Int} (ha : a.length = 16) (hl : l.length = 16) (h : ∀ p, p < 16 → l.getD p 0 = a.getD p 0) : l = a := by
  refine List.ext_getElem (hl.trans ha.symm) fun p h1 h2 => ?_
  have := h p (by omega)
  simpa [List.getD_eq_getElem?_getD, h1, h2] using this
theorem prodL_getD (a b : List Int) (p : Nat) (h : p < 16) : (prodL a b).getD p 0 = ent a b (p / 4) (p % 4) := by
  unfold prodL
  rw [List.getD_eq_getElem?_getD, List.getElem?_map, List.getElem?_range h]
  rfl
theorem prodL_len (a b : List Int) : (prodL a b).length = 16 := by simp [prodL]
theorem wB_idl : wB 4611686018427387904 idl 16 = true := by
  show _ = _
  kernel_rfl
theorem mul_one {a : List Int} (ha : a.length = 16) (h : wB 4611686018427387904 a 16 = true) : mulO a idl = some a := by
  have hm : MayMul a idl := ⟨h, wB_idl, fun i hi j hj => by rw [ent_one a i j hi hj]; exact (wB_iff.1 h) (i * 4 + j) (by omega)⟩
  rw [mulO_may hm, list_of ha (prodL_len _ _) fun p hp => by rw [prodL_getD _ _ _ hp, ent_one _ _ _ (by omega) (by omega), show p / 4 * 4 + p % 4 = p by omega]]
theorem one_mul {a : List Int} (ha : a.length = 16) (h : wB 4611686018427387904 a 16 = true) : mulO idl a = some a := by
  have hm : MayMul idl a := ⟨wB_idl, h, fun i hi j hj => by rw [one_ent a i j hi hj]; exact (wB_iff.1 h) (i * 4 + j) (by omega)⟩
  rw [mulO_may hm, list_of ha (prodL_len _ _) fun p hp => by rw [prodL_getD _ _ _ hp, one_ent _ _ _ (by omega) (by omega), show p / 4 * 4 + p % 4 = p by omega]]
theorem mul_one_no {a : List Int} (h : wB 4611686018427387904 a 16 = false) : mulO a idl = none := mulO_not fun hm => by rw [hm.1] at h; cases h
theorem one_mul_no {a : List Int} (h : wB 4611686018427387904 a 16 = false) : mulO idl a = none := mulO_not fun hm => by rw [hm.2.1] at h; cases h
theorem ent_tr (a b : List Int) (i j : Nat) (hi : i < 4) (hj : j < 4) : ent (tr b) (tr a) i j = ent a b j i := by
  unfold ent pq
  have e : rowOf (tr (tr a)) j = rowOf a j := by
    rw [row_tr _ _ hj, tr_getD _ _ (by omega), tr_getD _ _ (by omega), tr_getD _ _ (by omega), tr_getD _ _ (by omega)]
    unfold rowOf
    rw [show j % 4 * 4 + j / 4 = j * 4 by omega, show (4 + j) % 4 * 4 + (4 + j) / 4 = j * 4 + 1 by omega, show (8 + j) % 4 * 4 + (8 + j) / 4 = j * 4 + 2 by omega, show (12 + j) % 4 * 4 + (12 + j) / 4 = j * 4 + 3 by omega]
  rw [e]
  congr 1
  unfold dot
  simp only [Int.mul_comm]
theorem wB_tr (m : List Int) : wB 4611686018427387904 (tr m) 16 = wB 4611686018427387904 m 16 := by
  rw [Bool.eq_iff_iff, wB_iff, wB_iff]
  constructor
  · intro h j hj
    have := h (j % 4 * 4 + j / 4) (by omega)
    rw [tr_getD _ _ (by omega), show (j % 4 * 4 + j / 4) % 4 * 4 + (j % 4 * 4 + j / 4) / 4 = j by omega] at this
    exact this
  · intro h j hj
    rw [tr_getD _ _ hj]
    exact h (j % 4 * 4 + j / 4) (by omega)
theorem may_tr {a b : List Int} : MayMul (tr b) (tr a) ↔ MayMul a b := by
  unfold MayMul
  rw [wB_tr, wB_tr]
  constructor
  · rintro ⟨h1, h2, h3⟩
    exact ⟨h2, h1, fun i hi j hj => by rw [← ent_tr a b j i hj hi]; exact h3 j hj i hi⟩
  · rintro ⟨h1, h2, h3⟩
    exact ⟨h2, h1, fun i hi j hj => by rw [ent_tr a b i j hi hj]; exact h3 j hj i hi⟩
theorem mul_tr {a b : List Int} (h : MayMul a b) : mulO (tr b) (tr a) = some (tr (prodL a b)) := by
  rw [mulO_may (may_tr.2 h), list_of (tr_len _) (prodL_len _ _) fun p hp => by rw [prodL_getD _ _ _ hp, tr_getD _ _ hp, prodL_getD _ _ _ (by omega), ent_tr _ _ _ _ (by omega) (by omega), show (p % 4 * 4 + p / 4) / 4 = p % 4 by omega, show (p % 4 * 4 + p / 4) % 4 = p / 4 by omega]]
theorem mul_tr_no {a b : List Int} (h : ¬ MayMul a b) : mulO (tr b) (tr a) = none := mulO_not fun hm => h (may_tr.1 hm)
theorem one_ap {v : List Int} (hv : v.length = 4) (h : wB 4611686018427387904 v 4 = true) : apO idl v = some v := by
  have e : apRows idl v = v := by
    rw [list4 hv]
    generalize v.getD 0 0 = a
    generalize v.getD 1 0 = b
    generalize v.getD 2 0 = c
    generalize v.getD 3 0 = d
    show [(65536 * a + 0 * b + 0 * c + 0 * d) / 65536, (0 * a + 65536 * b + 0 * c + 0 * d) / 65536, (0 * a + 0 * b + 65536 * c + 0 * d) / 65536, (0 * a + 0 * b + 0 * c + 65536 * d) / 65536] = _
    congr 1
    · omega
    congr 1
    · omega
    congr 1
    · omega
    congr 1
    omega
  unfold apO
  rw [e, if_pos ⟨wB_idl, h, h⟩]
theorem one_ap_no {v : List Int} (h : wB 4611686018427387904 v 4 = false) : apO idl v = none := by
  unfold apO
  rw [if_neg (by rw [h]; simp)]
/-- a matrix whose first row is a vector -/
def first (v : List Int) : List Int := [v.getD 0 0, v.getD 1 0, v.getD 2 0, v.getD 3 0, 0, 0, 0, 0, 0, 0, 0, 0, 0, 0, 0, 0]
theorem first_may (v : List Int) : wB 4611686018427387904 (first v) 16 = wB 4611686018427387904 v 4 := by
  rw [Bool.eq_iff_iff, wB_iff, wB_iff]
  constructor
  · intro h j hj
    have := h j (by omega)
    have hd : j = 0 ∨ j = 1 ∨ j = 2 ∨ j = 3 := by omega
    rcases hd with rfl | rfl | rfl | rfl <;> exact this
  · intro h j hj
    have h0 := h 0 (by omega)
    have h1 := h 1 (by omega)
    have h2 := h 2 (by omega)
    have h3 := h 3 (by omega)
    rcases j with _ | _ | _ | _ | j
    · exact h0
    · exact h1
    · exact h2
    · exact h3
    · have e : (first v).getD (j + 4) 0 = 0 := by
        have hz : (List.replicate 12 (0 : Int)).getD j 0 = 0 := by
          rw [List.getD_eq_getElem?_getD, List.getElem?_replicate]
          split <;> rfl
        exact hz
      show (0 : Int) ≤ _ ∧ _ ≤ (first v).getD (j + 4) 0 ∧ (first v).getD (j + 4) 0 ≤ _
      rw [e]
      omega
end Go.Proofs.Ytgkcbadfjhicnaa.Fx
