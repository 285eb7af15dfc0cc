import Derived.Laws.Rows
import Derived.Test.YtbbhmhihpdmoiaaGreatProg
import Derived.OwnWalkIn
import Derived.Laws.OwnMore
import Derived.Laws.AppendOwn
import Derived.Great.BuildSlice
import Derived.Test.YtbbhmhihpdmoiaaGreatMw00
import Derived.Test.YtbbhmhihpdmoiaaGreatMw04
import Derived.Test.YtbbhmhihpdmoiaaGreatMw05
import Derived.Test.YtbbhmhihpdmoiaaGreatMw19
import Derived.Test.YtbbhmhihpdmoiaaGreatMw24
set_option linter.unusedVariables false
set_option linter.unusedSimpArgs false
namespace Go.Proofs.YtbbhmhihpdmoiaaGreat.Fx
open Go Go.RowKit
open Go.Proofs.YtbbhmhihpdmoiaaGreat.Pk (form fold unf rd rd_form rd_has rd_most unf_fold fold_unf M64 By form_bytes form_len)
abbrev Prs (κ : Type) := List Nat → Nat → Option (κ × Nat)
structure Good {κ : Type} (P : Prs κ) (F : κ → List Nat) (D : κ → Prop) : Prop where
 put : ∀ k, D k → ∀ l a t, a ≤ l.length → l.drop a = F k ++ t → P l a = some (k, a + (F k).length)
 get : ∀ l a k b, By l → a ≤ l.length → P l a = some (k, b) → D k ∧ l.drop a = F k ++ l.drop b ∧ b = a + (F k).length ∧ b ≤ l.length
 bytes : ∀ k, D k → By (F k)
def pU (most : Nat) : Prs Int := fun l a => (rd most (l.drop a)).map fun q => ((q.1 : Int), a + q.2)
def pI : Prs Int := fun l a => (rd M64 (l.drop a)).map fun q => (unf q.1, a + q.2)
def fU (z : Int) : List Nat := form z.toNat
def fI (z : Int) : List Nat := form (fold z)
theorem drop_part {l : List Nat} {a j : Nat} {m : List Nat} (ha : a ≤ l.length) (h : (l.drop a).take j = m) (hj : j = m.length) : l.drop a = m ++ l.drop (a + j) ∧ a + j ≤ l.length := by
 have h1 : l.drop a = (l.drop a).take j ++ (l.drop a).drop j := (List.take_append_drop j _).symm
 rw [h, List.drop_drop] at h1
 refine ⟨h1, ?_⟩
 have h2 := congrArg List.length h
 rw [List.length_take, List.length_drop] at h2
 omega
theorem goodU {most : Nat} (hm : most < 18446744073709551616) : Good (pU most) fU (fun z => 0 ≤ z ∧ z ≤ (most : Int)) where
 put k hk l a t ha h := by
  unfold pU fU
  rw [h]
  unfold fU
  rw [rd_form k.toNat most t (by omega) (by omega)]
  simp
  omega
 get l a k b hb ha h := by
  unfold pU at h
  rw [Option.map_eq_some_iff] at h
  obtain ⟨⟨n, j⟩, hr, e⟩ := h
  simp only [Prod.mk.injEq] at e
  obtain ⟨rfl, rfl⟩ := e
  obtain ⟨h1, h2, h3⟩ := rd_has (fun c hc => hb c (List.mem_of_mem_drop hc)) hr
  have hle : n ≤ most := by
   rw [rd_most _ (by unfold M64; omega)] at hr
   cases h0 : rd M64 (l.drop a) with
   | none => rw [h0] at hr; simp at hr
   | some q =>
    rw [h0] at hr
    simp at hr
    obtain ⟨hq, e1, _⟩ := hr
    rw [← e1]
    exact hq
  obtain ⟨h4, h5⟩ := drop_part ha h1 h3
  refine ⟨by omega, ?_, ?_, h5⟩
  ·unfold fU
   simpa using h4
  ·unfold fU
   simpa using h3
 bytes k hk := form_bytes (by omega)
theorem fold_lt {z : Int} (h : Num z) : fold z < 18446744073709551616 := by
 obtain ⟨h0, h1⟩ := h
 unfold fold
 split <;> omega
theorem unf_num {n : Nat} (h : n < 18446744073709551616) : Num (unf n) := by
 unfold unf Num
 split <;> omega
theorem goodI : Good pI fI Num where
 put k hk l a t ha h := by
  unfold pI fI
  rw [h]
  unfold fI
  rw [rd_form (fold k) M64 t (fold_lt hk) (by have := fold_lt hk; unfold M64; omega)]
  simp only [Option.map_some]
  rw [unf_fold hk.1 hk.2]
 get l a k b hb ha h := by
  unfold pI at h
  rw [Option.map_eq_some_iff] at h
  obtain ⟨⟨n, j⟩, hr, e⟩ := h
  simp only [Prod.mk.injEq] at e
  obtain ⟨rfl, rfl⟩ := e
  obtain ⟨h1, h2, h3⟩ := rd_has (fun c hc => hb c (List.mem_of_mem_drop hc)) hr
  obtain ⟨h4, h5⟩ := drop_part ha h1 h3
  refine ⟨unf_num h2, ?_, ?_, h5⟩
  ·unfold fI
   rw [fold_unf h2]
   exact h4
  ·unfold fI
   rw [fold_unf h2, h3]
 bytes k hk := form_bytes (fold_lt hk)
def pSeq {κ μ : Type} (P : Prs κ) (Q : Prs μ) : Prs (κ × μ) := fun l a => match P l a with
 | none => none
 | some (k, b) => match Q l b with
  | none => none
  | some (m, c) => some ((k, m), c)
theorem drop_of {l m t : List Nat} {a : Nat} (ha : a ≤ l.length) (h : l.drop a = m ++ t) : l.drop (a + m.length) = t ∧ a + m.length ≤ l.length := by
 refine ⟨by rw [← List.drop_drop, h]; simp, ?_⟩
 have := congrArg List.length h
 rw [List.length_drop, List.length_append] at this
 omega
theorem By.app {a b : List Nat} (h : By a) (k : By b) : By (a ++ b) := fun c hc => by
 rcases List.mem_append.1 hc with hc | hc
 ·exact h c hc
 ·exact k c hc
theorem Good.seq {κ μ : Type} {P : Prs κ} {Q : Prs μ} {F : κ → List Nat} {G : μ → List Nat} {D : κ → Prop} {E : μ → Prop} (h : Good P F D) (k : Good Q G E) : Good (pSeq P Q) (fun x => F x.1 ++ G x.2) (fun x => D x.1 ∧ E x.2) where
 put x hx l a t ha hd := by
  rw [List.append_assoc] at hd
  have h1 := h.put x.1 hx.1 l a _ ha hd
  obtain ⟨h2, h3⟩ := drop_of ha hd
  have h4 := k.put x.2 hx.2 l _ t h3 h2
  unfold pSeq
  rw [h1]
  dsimp only
  rw [h4]
  simp [Nat.add_assoc]
 get l a x b hb ha hd := by
  unfold pSeq at hd
  cases h1 : P l a with
  | none => rw [h1] at hd; cases hd
  | some q =>
   obtain ⟨k1, b1⟩ := q
   rw [h1] at hd
   dsimp only at hd
   cases h2 : Q l b1 with
   | none => rw [h2] at hd; cases hd
   | some q2 =>
    obtain ⟨k2, b2⟩ := q2
    rw [h2] at hd
    cases hd
    obtain ⟨d1, e1, f1, g1⟩ := h.get l a k1 b1 hb ha h1
    obtain ⟨d2, e2, f2, g2⟩ := k.get l b1 k2 b hb g1 h2
    exact ⟨⟨d1, d2⟩, by rw [e1, e2, List.append_assoc], by simp only [List.length_append]; omega, g2⟩
 bytes x hx := By.app (h.bytes _ hx.1) (k.bytes _ hx.2)
def pList {κ : Type} (P : Prs κ) : Nat → Prs (List κ)
 | 0 => fun _ a => some ([], a)
 | n + 1 => fun l a => match P l a with
  | none => none
  | some (k, b) => match pList P n l b with
   | none => none
   | some (ks, c) => some (k :: ks, c)
theorem Good.list {κ : Type} {P : Prs κ} {F : κ → List Nat} {D : κ → Prop} (h : Good P F D) : ∀ n, Good (pList P n) (fun ks => ks.flatMap F) (fun ks => ks.length = n ∧ ∀ k ∈ ks, D k)
 | 0 =>
  { put := fun ks hk l a t ha hd => by
      have : ks = [] := List.length_eq_zero_iff.1 hk.1
      subst this
      rfl
    get := fun l a ks b hb ha hd => by
      unfold pList at hd
      cases hd
      exact ⟨⟨rfl, fun k hk => by simp at hk⟩, by simp, by simp, ha⟩
    bytes := fun ks hk => by
      have : ks = [] := List.length_eq_zero_iff.1 hk.1
      subst this
      intro c hc
      simp at hc }
 | n + 1 =>
  { put := fun ks hk l a t ha hd => by
      cases ks with
      | nil => simp at hk
      | cons x xs =>
        rw [List.flatMap_cons, List.append_assoc] at hd
        have h1 := h.put x (hk.2 x (by simp)) l a _ ha hd
        obtain ⟨h2, h3⟩ := drop_of ha hd
        have h4 := (Good.list h n).put xs ⟨by simpa using hk.1, fun k hk' => hk.2 k (by simp [hk'])⟩ l _ t h3 h2
        unfold pList
        rw [h1]
        dsimp only
        rw [h4]
        simp [Nat.add_assoc]
    get := fun l a ks b hb ha hd => by
      unfold pList at hd
      cases h1 : P l a with
      | none => rw [h1] at hd; cases hd
      | some q =>
        obtain ⟨k1, b1⟩ := q
        rw [h1] at hd
        dsimp only at hd
        cases h2 : pList P n l b1 with
        | none => rw [h2] at hd; cases hd
        | some q2 =>
          obtain ⟨k2, b2⟩ := q2
          rw [h2] at hd
          cases hd
          obtain ⟨d1, e1, f1, g1⟩ := h.get l a k1 b1 hb ha h1
          obtain ⟨d2, e2, f2, g2⟩ := (Good.list h n).get l b1 k2 b hb g1 h2
          refine ⟨⟨by simpa using d2.1, fun k hk => ?_⟩, by rw [List.flatMap_cons, e1, e2, List.append_assoc], by simp only [List.flatMap_cons, List.length_append]; omega, g2⟩
          rcases List.mem_cons.1 hk with rfl | hk
          · exact d1
          · exact d2.2 k hk
    bytes := fun ks hk => by
      intro c hc
      obtain ⟨x, hx, hc⟩ := List.mem_flatMap.1 hc
      exact h.bytes x (hk.2 x hx) c hc }
def pMany {κ : Type} (most : Nat) (P : Prs κ) : Prs (List κ) := fun l a => match pU most l a with
 | none => none
 | some (n, b) => pList P n.toNat l b
def fMany {κ : Type} (F : κ → List Nat) (ks : List κ) : List Nat := fU ks.length ++ ks.flatMap F
theorem Good.many {κ : Type} {P : Prs κ} {F : κ → List Nat} {D : κ → Prop} (h : Good P F D) {most : Nat} (hm : most < 18446744073709551616) : Good (pMany most P) (fMany F) (fun ks => ks.length ≤ most ∧ ∀ k ∈ ks, D k) where
 put ks hk l a t ha hd := by
  unfold fMany at hd ⊢
  rw [List.append_assoc] at hd
  have h1 := (goodU hm).put (ks.length : Int) (by omega) l a _ ha hd
  obtain ⟨h2, h3⟩ := drop_of ha hd
  have h4 := (h.list ks.length).put ks ⟨rfl, hk.2⟩ l _ t h3 h2
  unfold pMany
  rw [h1]
  dsimp only
  rw [Int.toNat_natCast, h4]
  simp [Nat.add_assoc]
 get l a ks b hb ha hd := by
  unfold pMany at hd
  cases h1 : pU most l a with
  | none => rw [h1] at hd; cases hd
  | some q =>
   obtain ⟨k1, b1⟩ := q
   rw [h1] at hd
   dsimp only at hd
   obtain ⟨d1, e1, f1, g1⟩ := (goodU hm).get l a k1 b1 hb ha h1
   obtain ⟨d2, e2, f2, g2⟩ := (h.list k1.toNat).get l b1 ks b hb g1 hd
   have hk : k1 = (ks.length : Int) := by rw [d2.1]; omega
   subst hk
   exact ⟨⟨by omega, d2.2⟩, by unfold fMany; rw [e1, e2, List.append_assoc], by unfold fMany; rw [List.length_append]; omega, g2⟩
 bytes ks hk := By.app ((goodU hm).bytes _ (by omega)) ((h.list ks.length).bytes ks ⟨rfl, hk.2⟩)
def pMap {κ μ : Type} (f : κ → μ) (P : Prs κ) : Prs μ := fun l a => (P l a).map fun q => (f q.1, q.2)
theorem Good.map {κ μ : Type} {P : Prs κ} {F : κ → List Nat} {D : κ → Prop} (h : Good P F D) (f : κ → μ) (g : μ → κ) (hf : ∀ y, f (g y) = y) (hg : ∀ x, g (f x) = x) : Good (pMap f P) (fun y => F (g y)) (fun y => D (g y)) where
 put y hy l a t ha hd := by
  unfold pMap
  rw [h.put (g y) hy l a t ha hd]
  simp [hf]
 get l a y b hb ha hd := by
  unfold pMap at hd
  rw [Option.map_eq_some_iff] at hd
  obtain ⟨⟨k, c⟩, h1, e⟩ := hd
  simp only [Prod.mk.injEq] at e
  obtain ⟨rfl, rfl⟩ := e
  rw [hg]
  exact h.get l a k c hb ha h1
 bytes y hy := h.bytes _ hy
def triOf (q : Int × Int × Int × Int) : TriR := ⟨q.1, q.2.1, q.2.2.1, q.2.2.2⟩
def ofTri (t : TriR) : Int × Int × Int × Int := (t.a, t.b, t.c, t.col)
def pMat : Prs (List Int) := pList pI 16
def pVert : Prs (List Int) := pList pI 3
def pTri : Prs TriR := pMap triOf (pSeq (pU 63) (pSeq (pU 63) (pSeq (pU 63) (pU 4294967295))))
def pObj : Prs (Int × List Int × List (List Int) × List TriR) := pSeq (pU 65535) (pSeq pMat (pSeq (pMany 64 pVert) (pMany 64 pTri)))
def pFrame : Prs (Int × Int × List Int) := pSeq (pU 64) (pSeq (pU 64) pMat)
abbrev KeyS := Int × Int × List Int × List (Int × List Int × List (List Int) × List TriR)
def pSc : Prs KeyS := pSeq (pU 64) (pSeq (pU 64) (pSeq pMat (pMany 16 pObj)))
def keyS (s : ScR) : KeyS := (s.w, s.h, s.cam, s.os.map keyO)
theorem keyS_same (a b : ScR) : sameS a b ↔ keyS a = keyS b := by
 unfold sameS keyS
 simp [Prod.mk.injEq]
def fNums (m : List Int) : List Nat := m.flatMap fI
def fTri (t : TriR) : List Nat := fU t.a ++ (fU t.b ++ (fU t.c ++ fU t.col))
def fObj (x : Int × List Int × List (List Int) × List TriR) : List Nat := fU x.1 ++ (fNums x.2.1 ++ (fMany fNums x.2.2.1 ++ fMany fTri x.2.2.2))
def fSc (s : KeyS) : List Nat := fU s.1 ++ (fU s.2.1 ++ (fNums s.2.2.1 ++ fMany fObj s.2.2.2))
def dNums (n : Nat) (m : List Int) : Prop := m.length = n ∧ ∀ z ∈ m, Num z
def dTri (t : TriR) : Prop := (0 ≤ t.a ∧ t.a ≤ 63) ∧ (0 ≤ t.b ∧ t.b ≤ 63) ∧ (0 ≤ t.c ∧ t.c ≤ 63) ∧ (0 ≤ t.col ∧ t.col ≤ 4294967295)
def dObj (x : Int × List Int × List (List Int) × List TriR) : Prop := (0 ≤ x.1 ∧ x.1 ≤ 65535) ∧ dNums 16 x.2.1 ∧ (x.2.2.1.length ≤ 64 ∧ ∀ v ∈ x.2.2.1, dNums 3 v) ∧ (x.2.2.2.length ≤ 64 ∧ ∀ t ∈ x.2.2.2, dTri t)
def dSc (s : KeyS) : Prop := (0 ≤ s.1 ∧ s.1 ≤ 64) ∧ (0 ≤ s.2.1 ∧ s.2.1 ≤ 64) ∧ dNums 16 s.2.2.1 ∧ (s.2.2.2.length ≤ 16 ∧ ∀ x ∈ s.2.2.2, dObj x)
theorem good64 : Good (pU 64) fU (fun z => 0 ≤ z ∧ z ≤ 64) := goodU (by omega)
theorem good63 : Good (pU 63) fU (fun z => 0 ≤ z ∧ z ≤ 63) := goodU (by omega)
theorem good32 : Good (pU 4294967295) fU (fun z => 0 ≤ z ∧ z ≤ 4294967295) := goodU (by omega)
theorem good16 : Good (pU 65535) fU (fun z => 0 ≤ z ∧ z ≤ 65535) := goodU (by omega)
theorem goodTri : Good pTri fTri dTri := (good63.seq (good63.seq (good63.seq good32))).map triOf ofTri (fun _ => rfl) (fun _ => rfl)
theorem goodObj : Good pObj fObj dObj := good16.seq ((goodI.list 16).seq (((goodI.list 3).many (by omega)).seq (goodTri.many (by omega))))
theorem goodSc : Good pSc fSc dSc := good64.seq (good64.seq ((goodI.list 16).seq (goodObj.many (by omega))))
theorem pSc_eq (l : List Nat) (a : Nat) : pSc l a = match pFrame l a with
  | none => none
  | some (k, b) => match pMany 16 pObj l b with
   | none => none
   | some (os, c) => some ((k.1, k.2.1, k.2.2, os), c) := by
 unfold pSc pFrame pSeq
 cases pU 64 l a with
 | none => rfl
 | some q =>
  dsimp only
  cases pU 64 l q.2 with
  | none => rfl
  | some q2 =>
   dsimp only
   cases pMat l q2.2 with
   | none => rfl
   | some q3 => 
    dsimp only
    cases pMany 16 pObj l q3.2 with
    | none => rfl
    | some q4 => rfl
end Go.Proofs.YtbbhmhihpdmoiaaGreat.Fx

set_option linter.unusedVariables false
set_option linter.unusedSimpArgs false
namespace Go.Proofs.YtbbhmhihpdmoiaaGreat.Fx
open Go Go.RowKit
section
variable {α : Type} {t : TypeId} {n : Nat} {f : α → List Value}
def OwnG (t : TypeId) (n : Nat) (f : α → List Value) (W : World) (B : Nat) (v : Value) (l : List α) : Prop := W.ownsRow B t n v l.length (l.flatMap f)
theorem OwnG.below {w W : World} {B : Nat} {v : Value} {l : List α} (h : Below w.heap.size w W) (s : OwnG t n f w B v l) : OwnG t n f W B v l := by
 obtain ⟨h1, h2⟩ := s
 refine ⟨h1, ?_⟩
 rcases h2 with h2 | ⟨g, cap, cur, e, hb, hg, h3⟩
 ·exact Or.inl h2
 ·exact Or.inr ⟨g, cap, cur, e, hb, keep_row h hg, h3⟩
theorem OwnG.kept {B C : Nat} {v : Value} {l : List α} {W X : World} (s : OwnG t n f W C v l) (k : Kept B W X) : OwnG t n f X C v l := by
 obtain ⟨h1, h2⟩ := s
 refine ⟨h1, ?_⟩
 rcases h2 with h2 | ⟨g, cap, cur, e, hb, hg, h3⟩
 ·exact .inl h2
 ·exact .inr ⟨g, cap, cur, e, hb, k.cells hg, h3⟩
theorem OwnG.blk {w : World} {B : Nat} {v : Value} {l : List α} (s : OwnG t n f w B v l) : ∀ k, v.ownBlock = some k → B ≤ k := by
 intro k hk
 obtain ⟨h1, h2⟩ := s
 rcases h2 with ⟨rfl, _⟩ | ⟨g, cap, cur, rfl, hb, _⟩
 ·cases hk
 ·cases hk
  exact hb
theorem OwnG.lt {w : World} {B : Nat} {v : Value} {l : List α} (s : OwnG t n f w B v l) : ∀ k, v.ownBlock = some k → k < w.heap.size := by
 intro k hk
 obtain ⟨h1, h2⟩ := s
 rcases h2 with ⟨rfl, _⟩ | ⟨g, cap, cur, rfl, hb, hg, _⟩
 ·cases hk
 ·cases hk
  exact (Array.getElem?_eq_some_iff.1 hg).1
theorem OwnG.row {w : World} {B : Nat} {v : Value} {l : List α} (s : OwnG t n f w B v l) : ∀ k, v.ownBlock = some k → ∃ cur, w.heap[k]? = some (.cells cur t (0, 0)) := by
 intro k hk
 obtain ⟨h1, h2⟩ := s
 rcases h2 with ⟨rfl, _⟩ | ⟨g, cap, cur, rfl, hb, hg, _⟩
 ·cases hk
 ·cases hk
  exact ⟨cur, hg⟩
theorem OwnG.base {w : World} {B C : Nat} {v : Value} {l : List α} (hc : C ≤ B) (s : OwnG t n f w B v l) : OwnG t n f w C v l := by
 obtain ⟨h1, h2⟩ := s
 refine ⟨h1, ?_⟩
 rcases h2 with h2 | ⟨g, cap, cur, e, hb, hg, h3⟩
 ·exact Or.inl h2
 ·exact Or.inr ⟨g, cap, cur, e, Nat.le_trans hc hb, hg, h3⟩
theorem OwnG.cellset {B m j : Nat} {v u : Value} {l : List α} {W : World} (s : OwnG t n f W B v l) (hm : v.ownBlock ≠ some m) : OwnG t n f (W.setCell ⟨m, j, none⟩ u) B v l := by
 obtain ⟨h1, h2⟩ := s
 refine ⟨h1, ?_⟩
 rcases h2 with h2 | ⟨g, cap, cur, e, hb, hg, h3⟩
 ·exact .inl h2
 ·subst e
  exact .inr ⟨g, cap, cur, rfl, hb, by rw [heap_setCell_other _ _ _ _ (by intro e; exact hm (by show some g = some m; rw [show g = m from e]))]; exact hg, h3⟩
theorem OwnG.grown {B : Nat} {v : Value} {l : List α} {W X : World} {row : Option Nat} (s : OwnG t n f W B v l) (hg : W.grownBy X row) (hr : ∀ k, row = some k → v.ownBlock ≠ some k) : OwnG t n f X B v l := by
 obtain ⟨h1, h2⟩ := s
 refine ⟨h1, ?_⟩
 rcases h2 with h2 | ⟨g, cap, cur, e, hb, hgg, h3⟩
 ·exact .inl h2
 ·subst e
  exact .inr ⟨g, cap, cur, rfl, hb, by rw [hg.block g (Array.getElem?_eq_some_iff.1 hgg).1 (fun e => hr g e.symm rfl)]; exact hgg, h3⟩
theorem OwnG.nil (t : TypeId) (n : Nat) (f : α → List Value) (W : World) (B : Nat) : OwnG t n f W B (.slice none 0 0) [] := ⟨by simp, .inl ⟨rfl, rfl⟩⟩
theorem flatG_at {l : List α} (hl : ∀ x ∈ l, (f x).length = n) : ∀ {k : Nat} {x : α}, l[k]? = some x → ∀ j v, (f x)[j]? = some v → (l.flatMap f)[k * n + j]? = some v := by
 induction l with
 | nil => intro k x h; simp at h
 | cons y tl ih =>
  intro k x h j v hv
  have hy := hl y (by simp)
  rw [List.flatMap_cons]
  cases k with
  | zero =>
   simp at h
   subst h
   rw [Nat.zero_mul, Nat.zero_add, List.getElem?_append_left (List.getElem?_eq_some_iff.1 hv).1]
   exact hv
  | succ k =>
   have hk : (k + 1) * n + j - n = k * n + j := by rw [Nat.add_mul]; omega
   rw [List.getElem?_append_right (by rw [hy, Nat.add_mul]; omega), hy, hk]
   exact ih (fun z hz => hl z (by simp [hz])) (by simpa using h) j v hv
theorem flatG_len {l : List α} (hl : ∀ x ∈ l, (f x).length = n) : (l.flatMap f).length = l.length * n := by
 induction l with
 | nil => simp
 | cons y tl ih =>
  rw [List.flatMap_cons, List.length_append, hl y (by simp), ih (fun z hz => hl z (by simp [hz])), List.length_cons, Nat.add_mul]
  omega
structure LiesG (t : TypeId) (n : Nat) (f : α → List Value) (W : World) (B : Nat) (o : Option Addr) (l : List α) : Prop where
 at_ : ∀ k z, l[k]? = some z → ∃ g cur, o = some ⟨g, 0, none⟩ ∧ B ≤ g ∧ W.heap[g]? = some (.cells cur t (0, 0)) ∧ l.length * n ≤ cur.size ∧ W.rangeAt g (0 + k * n) (f z)
theorem OwnG.form {W : World} {B : Nat} {v : Value} {l : List α} (s : OwnG t n f W B v l) (hl : ∀ x ∈ l, (f x).length = n) : ∃ o cap, v = .slice o l.length cap ∧ CapOk o l.length cap ∧ LiesG t n f W B o l := by
 obtain ⟨h1, h2⟩ := s
 rcases h2 with ⟨rfl, h0⟩ | ⟨g, cap, cur, rfl, hb, hg, hle, hm, hsz, htk⟩
 ·refine ⟨none, 0, by rw [h0], ⟨⟨by omega, by omega⟩, fun _ => rfl⟩, ⟨fun k z hk => ?_⟩⟩
  have := (List.getElem?_eq_some_iff.1 hk).1
  omega
 ·unfold maxLen at hm
  refine ⟨some ⟨g, 0, none⟩, cap, rfl, ⟨⟨hle, by omega⟩, fun h => by cases h⟩, ⟨fun k z hk => ⟨g, cur, rfl, hb, hg, by rw [hsz]; exact Nat.mul_le_mul_right n hle, ?_⟩⟩⟩
  intro j u hj
  have hf := flatG_at hl hk j u hj
  rw [cell_of_row _ _ _ _ _ _ hg, Nat.zero_add]
  rw [← htk, List.getElem?_take] at hf
  split at hf
  ·simpa using hf
  ·cases hf
theorem LiesG.list {W : World} {B : Nat} {o : Option Addr} {l : List α} (s : LiesG t n f W B o l) : ListAt (fun b j z => W.rangeAt b j (f z)) n o l := fun k z hk => by
 obtain ⟨g, cur, e, _, _, _, h⟩ := s.at_ k z hk
 exact ⟨g, 0, e, h⟩
theorem src_at {W : World} {ad : Addr} {l : List α} (hn : 0 < n) (hs : ListAt (fun b j z => W.rangeAt b j (f z)) n (some ad) l) (hl : ∀ x ∈ l, (f x).length = n) : ∀ j u, (l.flatMap f)[j]? = some u → W.cell? (ad.add j) = some u := by
 intro j u hj
 have hjl : j < l.length * n := by
  rw [← flatG_len hl]
  exact (List.getElem?_eq_some_iff.1 hj).1
 have hk : j / n < l.length := (Nat.div_lt_iff_lt_mul hn).2 hjl
 obtain ⟨z, hz⟩ : ∃ z, l[j / n]? = some z := ⟨_, List.getElem?_eq_getElem hk⟩
 obtain ⟨b, off, e, hr⟩ := hs _ z hz
 cases e
 have hzl := hl z (List.mem_of_getElem? hz)
 have hm : j % n < (f z).length := by rw [hzl]; exact Nat.mod_lt _ hn
 have h1 := flatG_at hl hz (j % n) _ (List.getElem?_eq_getElem hm)
 have hjj : j / n * n + j % n = j := by rw [Nat.mul_comm]; exact Nat.div_add_mod j n
 rw [hjj, hj] at h1
 have h2 := hr (j % n) _ (List.getElem?_eq_getElem hm)
 rw [Nat.add_assoc, hjj, ← h1] at h2
 rw [Addr.add_lit]
 exact h2
structure InfoG (t : TypeId) (n bytes : Nat) : Prop where
 pos : 0 < n
 few : bytes ≤ 1000
 get : ∃ i z, Tryz.prog.info? t = some i ∧ i.zero = some z ∧ i.size = n ∧ i.bytes = bytes ∧ z.cells.size = n
theorem InfoG.of {t : TypeId} {n bytes : Nat} (hp : 0 < n) (hf : bytes ≤ 1000) (hm : (Tryz.prog.info? t).map (fun i => (i.zero.map (fun z => z.cells.size), i.size, i.bytes)) = some (some n, n, bytes)) : InfoG t n bytes := by
 refine ⟨hp, hf, ?_⟩
 cases hi : Tryz.prog.info? t with
 | none => rw [hi] at hm; cases hm
 | some i =>
  rw [hi] at hm
  simp only [Option.map_some, Option.some.injEq, Prod.mk.injEq] at hm
  obtain ⟨hz, hs, hb⟩ := hm
  cases hzz : i.zero with
  | none => rw [hzz] at hz; cases hz
  | some z =>
   rw [hzz] at hz
   exact ⟨i, z, rfl, hzz, hs, hb, by simpa using hz⟩
theorem run_appG {bytes : Nat} (hi : InfoG t n bytes) (ts ty : TypeId) (hu : Tryz.prog.underlying ts = some (.slice t)) (W : World) (B : Nat) (v : Value) (L M : List α) (hB : B ≤ W.heap.size) (hown : OwnG t n f W B v L) (ox : Option Addr) (c : Nat)
  (hc : ox = none → c = 0) (hsrc : ListAt (fun b j z => W.rangeAt b j (f z)) n ox M) (hlen : ∀ z ∈ M, (f z).length = n) (hone : ∀ z ∈ M, ∀ u ∈ f z, u.oneCell' = true) (hL : L.length + M.length ≤ 1000000) :
  ∃ v' X, (Builtin.append_ #[ts, ts] ty #[v, .slice ox M.length c]).run Tryz.prog W = .ok v' X ∧ OwnG t n f X B v' (L ++ M) ∧ W.grownBy X v.ownBlock := by
 obtain ⟨i, z, h2, h3, h4, h5, h6⟩ := hi.get
 cases ox with
 | none =>
  have hM : M = [] := by
   cases M with
   | nil => rfl
   | cons y tl =>
    obtain ⟨b, off, e, _⟩ := hsrc 0 y rfl
    cases e
  subst hM
  rw [hc rfl]
  refine ⟨v, W, run_append_owned_none (P := Tryz.prog) (w := W) B ts ty t i n hu h2 v L.length (L.flatMap f) hown, by rw [List.append_nil]; exact hown, ⟨rfl, rfl, rfl, Nat.le_refl _, fun _ _ _ => rfl⟩⟩
 | some ad =>
  have hb : (L.length + M.length) * bytes ≤ 1000000 * 1000 := Nat.mul_le_mul hL hi.few
  obtain ⟨v', X, hrun, r1, r2, r3⟩ := run_append_own (P := Tryz.prog) W B ts ty t i z n bytes hu h2 h3 h4 h5 h6 hi.pos v L.length (L.flatMap f) hown ad M.length c (M.flatMap f) (flatG_len hlen) (src_at hi.pos hsrc hlen)
   (fun u hu => by obtain ⟨z, hz, hzu⟩ := List.mem_flatMap.1 hu; exact hone z hz u hzu) (by unfold maxLen; omega) (by omega) hB
  exact ⟨v', X, hrun, by unfold OwnG; rw [List.length_append, List.flatMap_append]; exact r1, r2⟩
theorem app_G {bytes : Nat} (hi : InfoG t n bytes) {ops : Array Oper} {rest : List Oper} {o : Oper} {a : Act} {Q : Exit → Act → World → Prop} {W : World} (hgd : o.guard = none) (sx x : Operand) (ts : TypeId)
  (ho : o.op = .call { callee := .builtin .append, args := #[sx, x], argTypes := #[ts, ts] }) (hu : Tryz.prog.underlying ts = some (.slice t)) (B : Nat) (v : Value) (L M : List α) (hs : a.eval sx = v) (hB : B ≤ W.heap.size) (hown : OwnG t n f W B v L)
  (ox : Option Addr) (c : Nat) (hx : a.eval x = .slice ox M.length c) (hc : ox = none → c = 0) (hsrc : ListAt (fun b j z => W.rangeAt b j (f z)) n ox M) (hlen : ∀ z ∈ M, (f z).length = n) (hone : ∀ z ∈ M, ∀ u ∈ f z, u.oneCell' = true) (hL : L.length + M.length ≤ 1000000)
  (h : ∀ v' X, OwnG t n f X B v' (L ++ M) → W.grownBy X v.ownBlock → Hid (wpList Tryz.prog ops Q rest (a.put o.dst v') X)) :
  wpList Tryz.prog ops Q (o :: rest) a W := by
 obtain ⟨v', X, hrun, r1, r2⟩ := run_appG hi ts o.type hu W B v L M hB hown ox c hc hsrc hlen hone hL
 refine wpList_plain hgd fun K hK' => ?_
 unfold Oper.wp
 simp [execOp, ho, resolve, invoke, builtin, hs, hx, hrun, Result.andThen]
 exact hK' _ _ (h v' X r1 r2).out
theorem one_src {W : World} {g : Nat} {z : α} (h : W.heap[g]? = some (.cells (f z).toArray t (0, 0))) : ListAt (fun b j z => W.rangeAt b j (f z)) n (some ⟨g, 0, none⟩) [z] := fun k y hk => by
 have h0 : k = 0 := by have := (List.getElem?_eq_some_iff.1 hk).1; simp at this; omega
 subst h0
 simp at hk
 subst hk
 refine ⟨g, 0, rfl, fun j u hj => ?_⟩
 rw [cell_of_row _ _ _ _ _ _ h]
 simpa using hj
theorem run_buildOne {bytes : Nat} (hi : InfoG t n bytes) (hm : n ≤ 1000) (ts : TypeId) (hu : Tryz.prog.underlying ts = some (.slice t)) (W : World) (cs : Array Value) (hc : cs.size = n) :
  (Instr.buildSlice ts 1 #[(0, .agg cs)]).run Tryz.prog W = .ok (.slice (some ⟨W.heap.size, 0, none⟩) 1 1) (W.alloc (.cells cs t)) := by
 obtain ⟨i, z, h2, h3, h4, h5, h6⟩ := hi.get
 refine run_buildSlice W ts t 1 _ cs i z hu h2 h3 (by rw [h4]; omega) (by rw [h4]; have := hi.pos; omega) ?_
 rw [h4]
 have := Great.fill_whole hi.pos [.agg cs] ((Array.range (1 * n)).map (z.cells[· % z.cells.size]!)) (fun v hv => by simp at hv; subst hv; exact hc) (by simp)
 simpa [Value.cells] using this
theorem build_one {bytes : Nat} (hi : InfoG t n bytes) (hm : n ≤ 1000) {ops : Array Oper} {rest : List Oper} {o : Oper} {a : Act} {Q : Exit → Act → World → Prop} {W : World} (hgd : o.guard = none) (x : Operand) (ts : TypeId)
  (ho : o.op = .buildSlice ts 1 #[(0, x)]) (hu : Tryz.prog.underlying ts = some (.slice t)) (cs : Array Value) (hx : a.eval x = .agg cs) (hc : cs.size = n)
  (h : wpList Tryz.prog ops Q rest (a.put o.dst (.slice (some ⟨W.heap.size, 0, none⟩) 1 1)) (W.alloc (.cells cs t))) :
  wpList Tryz.prog ops Q (o :: rest) a W := by
 have hrun := run_buildOne hi hm ts hu W cs hc
 refine wpList_plain hgd fun K hK' => ?_
 unfold Oper.wp
 simp [execOp, ho, hx, hrun, Result.andThen]
 exact hK' _ _ h
end
theorem enc_one (x : List Int) : ∀ u ∈ x.map encI, u.oneCell' = true := fun u hu => by
 obtain ⟨z, _, rfl⟩ := List.mem_map.1 hu
 rfl
theorem tri_one (x : TriR) : ∀ u ∈ triL x, u.oneCell' = true := fun u hu => by
 simp only [triL, List.mem_cons, List.not_mem_nil, or_false] at hu
 rcases hu with rfl | rfl | rfl | rfl <;> rfl
theorem obj_one1 (x : ObjR) : ∀ u ∈ objL x, u.oneCell' = true := fun v hv => by
 simp only [objL, List.mem_cons, List.mem_append, List.mem_map, List.not_mem_nil, or_false] at hv
 rcases hv with rfl | ⟨z, _, rfl⟩ | rfl | rfl <;> rfl
theorem infoGv : InfoG 85 3 24 := InfoG.of (by omega) (by omega) (by kernel_rfl)
theorem infoGt : InfoG 87 4 32 := InfoG.of (by omega) (by omega) (by kernel_rfl)
theorem infoGo : InfoG 73 19 184 := InfoG.of (by omega) (by omega) (by kernel_rfl)
theorem VertsAt.src {W : World} {o : Option Addr} {l : List (List Int)} (h : VertsAt W o l) : ListAt (fun b j z => W.rangeAt b j (z.map encI)) 3 o l := fun k z hk => by
 obtain ⟨b, off, e, h1, _⟩ := h k z hk
 exact ⟨b, off, e, h1⟩
theorem TrisAt.src {W : World} {o : Option Addr} {l : List TriR} (h : TrisAt W o l) : ListAt (fun b j z => W.rangeAt b j (triL z)) 4 o l := fun k z hk => by
 obtain ⟨b, off, e, h1, _⟩ := h k z hk
 exact ⟨b, off, e, h1⟩
theorem VertsAt.wf {W : World} {o : Option Addr} {l : List (List Int)} (h : VertsAt W o l) : ∀ x ∈ l, VertWf x := fun x hx => by
 obtain ⟨k, hk⟩ := List.getElem?_of_mem hx
 obtain ⟨_, _, _, _, hw⟩ := h k x hk
 exact hw
theorem TrisAt.wf {W : World} {o : Option Addr} {l : List TriR} (h : TrisAt W o l) : ∀ x ∈ l, TriWf x := fun x hx => by
 obtain ⟨k, hk⟩ := List.getElem?_of_mem hx
 obtain ⟨_, _, _, _, hw⟩ := h k x hk
 exact hw
theorem LiesG.verts {W : World} {B : Nat} {o : Option Addr} {l : List (List Int)} (s : LiesG 85 3 (fun x => x.map encI) W B o l) (hw : ∀ x ∈ l, VertWf x) : VertsAt W o l := fun k z hk => by
 obtain ⟨g, cur, e, _, _, _, h⟩ := s.at_ k z hk
 exact ⟨g, 0, e, h, hw z (List.mem_of_getElem? hk)⟩
theorem LiesG.tris {W : World} {B : Nat} {o : Option Addr} {l : List TriR} (s : LiesG 87 4 triL W B o l) (hw : ∀ x ∈ l, TriWf x) : TrisAt W o l := fun k z hk => by
 obtain ⟨g, cur, e, _, _, _, h⟩ := s.at_ k z hk
 exact ⟨g, 0, e, h, hw z (List.mem_of_getElem? hk)⟩
end Go.Proofs.YtbbhmhihpdmoiaaGreat.Fx
