/- Corners, in plain words: what may be seen, a corner's numbers, a corner's pixel. No program in sight. The document's product by a quotient, rounded down: walked. The document's Size and Seen: walked. The document's Corner: walked. Lists of corners; two of them held against one another: the document's Same, walked. The document's Corners: walked. The document's Pixel: walked. The document's Through: walked. What is moved, in plain numbers; an open corner. No program's walk. A list of vertices of three numbers, and three numbers of 32 bits, that came in. Which vertices may be, and planes: the program's May, isPlane, inside and the document's May, walked. Sizes, a corner's number within an image, a number of a corner, and what may be seen: the program's Check, within, part and seen, walked. A vertex' corner: the program's Corner, walked. A corner's pixel: the program's Pixel, walked. Helpers for lists that are told one by one: rows loaded and made within a round, marks left behind. Corners of a list of vertices: the program's iterator and the loop over it, walked. What a matrix makes of a list of vertices: the program's iterator and the loop over it, walked. Corners and pixels are the document's: the law ViewCorners, walked from what the program's functions answer. The chapter's first examples: stage 10's alive, walked from what the program's functions answer. Corners of a list: the program's Corners, walked; what the program's four functions answer. What a matrix makes of vertices is the document's: the law ViewThrough, walked from what the program's Through answers. Vertices through a matrix: the program's Through, walked. -/
import Derived.Test.YtgkglkoipocgaaaKd
import Derived.Test.YtgkglkoipocgaaaProg
import Derived.Test.YtgkglkoipocgaaaD2
import Derived.Test.YtgkglkoipocgaaaQ4
import Derived.Test.YtgkglkoipocgaaaKe
import Derived.Test.YtgkglkoipocgaaaHg
import Derived.Laws.StructEq
import Derived.Test.YtgkglkoipocgaaaMu
import Derived.Test.YtgkglkoipocgaaaSa
import Derived.ProofKit
import Derived.OpenShut
import Derived.ChangeMaps5
import Derived.Lib.SmallJoins
import Derived.Test.YtgkglkoipocgaaaW6
import Derived.BigQuiet
import Derived.Test.YtgkglkoipocgaaaIt
import Derived.Shelf.Abstract
import Derived.Shelf.RegionOpen
import Derived.WalkKit
import Derived.OwnWalkIn
import Derived.TacticsInMore
import Derived.LoopNIn
import Derived.LoopIn
import Derived.WalkMore
import Derived.Lib.Hide
import Derived.Outline
import Derived.Deep.QuietTactic
import Derived.Test.YtgkglkoipocgaaaKm
import Derived.Test.YtgkglkoipocgaaaSj
set_option linter.unusedVariables false
set_option linter.unusedSimpArgs false
namespace Go.Proofs.Ytgkglkoipocgaaa.Fx

/-- may an image be of this size? -/
def sizeK (w h : Int) : Bool := decide (1 ≤ w) && decide (w ≤ 64) && decide (1 ≤ h) && decide (h ≤ 64)
theorem size_iff (w h : Int) : sizeK w h = true ↔ (1 ≤ w ∧ w ≤ 64) ∧ (1 ≤ h ∧ h ≤ 64) := by
  unfold sizeK
  simp only [Bool.and_eq_true, decide_eq_true_eq]
  omega
/-- may a vertex be seen? -/
def seenK (v : List Int) : Bool := mayK v && decide (4096 ≤ nv v 3) && decide (-3 * nv v 3 ≤ nv v 0) && decide (nv v 0 ≤ 3 * nv v 3) && decide (-3 * nv v 3 ≤ nv v 1) && decide (nv v 1 ≤ 3 * nv v 3)
theorem seen_iff (v : List Int) : seenK v = true ↔ mayK v = true ∧ 4096 ≤ nv v 3 ∧ (-3 * nv v 3 ≤ nv v 0 ∧ nv v 0 ≤ 3 * nv v 3) ∧ (-3 * nv v 3 ≤ nv v 1 ∧ nv v 1 ≤ 3 * nv v 3) := by
  unfold seenK
  simp only [Bool.and_eq_true, decide_eq_true_eq]
  constructor
  · rintro ⟨⟨⟨⟨⟨h1, h2⟩, h3⟩, h4⟩, h5⟩, h6⟩
    exact ⟨h1, h2, ⟨h3, h4⟩, h5, h6⟩
  · rintro ⟨h1, h2, ⟨h3, h4⟩, h5, h6⟩
    exact ⟨⟨⟨⟨⟨h1, h2⟩, h3⟩, h4⟩, h5⟩, h6⟩
/-- a corner's numbers -/
def cornX (x w W : Int) : Int := ((x + w) * (8 * W)) / w
def cornY (y w H : Int) : Int := ((w - y) * (8 * H)) / w
def quotZ (z w : Int) : Int := (z * 16777215) / w
def cutZ (q : Int) : Int := if q ≤ 0 then 0 else if 16777215 ≤ q then 16777215 else q
def cornZ (z w : Int) : Int := cutZ (quotZ z w)
def cornK (v : List Int) (W H : Int) : List Int := [cornX (nv v 0) (nv v 3) W, cornY (nv v 1) (nv v 3) H, cornZ (nv v 2) (nv v 3)]
/-- Corner's answer: a corner, or none -/
def cornO (v : List Int) (W H : Int) : Option (List Int) := if sizeK W H = true ∧ seenK v = true then some (cornK v W H) else none
def cornV (v : List Int) (W H : Int) : List Int := (cornO v W H).getD [0, 0, 0]
def cornE (v : List Int) (W H : Int) : Int := if (cornO v W H).isSome = true then 0 else 100
def cornsB (l : List (List Int)) (W H : Int) : Bool := sizeK W H && l.all seenK
def cornsV (l : List (List Int)) (W H : Int) : List (List Int) := if cornsB l W H = true then l.map fun v => cornK v W H else []
def cornsE (l : List (List Int)) (W H : Int) : Int := if cornsB l W H = true then 0 else 100

/-! ### bounds: nothing overflows -/
theorem corn_num {x w W : Int} (hw : 0 < w) (hb : w < 8796093022208) (hx : -3 * w ≤ x ∧ x ≤ 3 * w) (hW : 1 ≤ W ∧ W ≤ 64) :
    (-9007199254740992 ≤ (x + w) * (8 * W) ∧ (x + w) * (8 * W) ≤ 18014398509481984) ∧ -16 * W ≤ cornX x w W ∧ cornX x w W ≤ 32 * W := by
  have h1 : (x + w) * (8 * W) ≤ (4 * w) * (8 * W) := Int.mul_le_mul_of_nonneg_right (by omega) (by omega)
  have h2 : (-2 * w) * (8 * W) ≤ (x + w) * (8 * W) := Int.mul_le_mul_of_nonneg_right (by omega) (by omega)
  have h3 : (4 * w) * (8 * W) ≤ (4 * w) * 512 := Int.mul_le_mul_of_nonneg_left (by omega) (by omega)
  have h4 : (2 * w) * (8 * W) ≤ (2 * w) * 512 := Int.mul_le_mul_of_nonneg_left (by omega) (by omega)
  have e : (-2 * w) * (8 * W) = -((2 * w) * (8 * W)) := by rw [← Int.neg_mul]; congr 1; omega
  refine ⟨by omega, ?_, ?_⟩
  · unfold cornX
    rw [Int.le_ediv_iff_mul_le hw]
    have : -16 * W * w = (-2 * w) * (8 * W) := by
      rw [show (-16 * W * w : Int) = -16 * (W * w) from Int.mul_assoc _ _ _, show (-2 * w) * (8 * W) = -16 * (w * W) by
        rw [show (8 * W : Int) = W * 8 from Int.mul_comm _ _, ← Int.mul_assoc, Int.mul_assoc (-2) w W]
        omega, Int.mul_comm w W]
    omega
  · unfold cornX
    have : (x + w) * (8 * W) / w < 32 * W + 1 := by
      rw [Int.ediv_lt_iff_lt_mul hw, Int.add_mul _ 1 w]
      have : 32 * W * w = (4 * w) * (8 * W) := by
        rw [show (32 * W * w : Int) = 32 * (W * w) from Int.mul_assoc _ _ _, show (4 * w) * (8 * W) = 32 * (w * W) by
          rw [show (8 * W : Int) = W * 8 from Int.mul_comm _ _, ← Int.mul_assoc, Int.mul_assoc 4 w W]
          omega, Int.mul_comm w W]
      omega
    omega
theorem cornY_X (y w H : Int) : cornY y w H = cornX (-y) w H := by
  unfold cornY cornX
  congr 2
  omega
theorem quot_num {z w : Int} (hw : 4096 ≤ w) (hz : -8796093022208 < z ∧ z < 8796093022208) :
    (-147573943742075536672358400 ≤ z * 16777215 ∧ z * 16777215 ≤ 147573943742075536672358400) ∧ -36028797018963968 ≤ quotZ z w ∧ quotZ z w ≤ 36028797018963968 := by
  refine ⟨by omega, ?_, ?_⟩
  · unfold quotZ
    rw [Int.le_ediv_iff_mul_le (by omega)]
    omega
  · unfold quotZ
    have : z * 16777215 / w < 36028797018963968 + 1 := by
      rw [Int.ediv_lt_iff_lt_mul (by omega)]
      omega
    omega
theorem cut_range (q : Int) : 0 ≤ cutZ q ∧ cutZ q ≤ 16777215 := by
  unfold cutZ
  split
  · omega
  · split <;> omega
theorem corn_range {v : List Int} {W H : Int} (hs : sizeK W H = true) (hv : seenK v = true) :
    (-16 * W ≤ cornX (nv v 0) (nv v 3) W ∧ cornX (nv v 0) (nv v 3) W ≤ 32 * W) ∧ (-16 * H ≤ cornY (nv v 1) (nv v 3) H ∧ cornY (nv v 1) (nv v 3) H ≤ 32 * H) ∧ (0 ≤ cornZ (nv v 2) (nv v 3) ∧ cornZ (nv v 2) (nv v 3) ≤ 16777215) := by
  obtain ⟨h1, h2⟩ := (size_iff W H).1 hs
  obtain ⟨hm, h3, h4, h5⟩ := (seen_iff v).1 hv
  have := may_nums hm
  refine ⟨(corn_num (by omega) (by omega) h4 h1).2, ?_, cut_range _⟩
  rw [cornY_X]
  exact (corn_num (by omega) (by omega) (by omega) h2).2

/-! ### P10.5 -/
/-- a vertex times a number above 0 -/
def timesK (k : Int) (v : List Int) : List Int := v.map (· * k)
theorem times_get (k : Int) (v : List Int) (i : Nat) : nv (timesK k v) i = nv v i * k := by
  unfold nv timesK
  rw [List.getD_eq_getElem?_getD, List.getElem?_map, List.getD_eq_getElem?_getD]
  cases v[i]? <;> simp
theorem corn_times {k : Int} (hk : 0 < k) (v : List Int) (W H : Int) : cornK (timesK k v) W H = cornK v W H := by
  unfold cornK
  simp only [times_get]
  unfold cornX cornY cornZ quotZ
  rw [← Int.add_mul, ← Int.sub_mul, Int.mul_right_comm _ k, Int.mul_ediv_mul_of_pos_left _ _ hk, Int.mul_right_comm _ k, Int.mul_ediv_mul_of_pos_left _ _ hk, Int.mul_right_comm _ k, Int.mul_ediv_mul_of_pos_left _ _ hk]
theorem seen_times {k : Int} (hk : 0 < k) {v : List Int} (hv : seenK v = true) : seenK (timesK k v) = mayK (timesK k v) := by
  obtain ⟨hm, h3, h4, h5⟩ := (seen_iff v).1 hv
  cases hm' : mayK (timesK k v) with
  | false => unfold seenK; rw [hm']; rfl
  | true =>
    rw [seen_iff]
    simp only [times_get]
    have a1 : -3 * nv v 3 * k ≤ nv v 0 * k := Int.mul_le_mul_of_nonneg_right h4.1 (by omega)
    have a2 : nv v 0 * k ≤ 3 * nv v 3 * k := Int.mul_le_mul_of_nonneg_right h4.2 (by omega)
    have a3 : -3 * nv v 3 * k ≤ nv v 1 * k := Int.mul_le_mul_of_nonneg_right h5.1 (by omega)
    have a4 : nv v 1 * k ≤ 3 * nv v 3 * k := Int.mul_le_mul_of_nonneg_right h5.2 (by omega)
    have a5 : nv v 3 * 1 ≤ nv v 3 * k := Int.mul_le_mul_of_nonneg_left (by omega) (by omega)
    rw [Int.mul_assoc] at a1 a2 a3 a4
    exact ⟨hm', by omega, ⟨a1, a2⟩, a3, a4⟩
theorem cornX_le {x y w W : Int} (hw : 0 < w) (hW : 0 ≤ W) (h : x ≤ y) : cornX x w W ≤ cornX y w W :=
  Int.ediv_le_ediv hw (Int.mul_le_mul_of_nonneg_right (by omega) (by omega))
theorem cornY_le {x y w H : Int} (hw : 0 < w) (hH : 0 ≤ H) (h : x ≤ y) : cornY y w H ≤ cornY x w H :=
  Int.ediv_le_ediv hw (Int.mul_le_mul_of_nonneg_right (by omega) (by omega))
theorem cut_le {p q : Int} (h : p ≤ q) : cutZ p ≤ cutZ q := by
  unfold cutZ
  split <;> split <;> (try split) <;> (try split) <;> omega
theorem cornZ_le {x y w : Int} (hw : 0 < w) (h : x ≤ y) : cornZ x w ≤ cornZ y w :=
  cut_le (Int.ediv_le_ediv hw (Int.mul_le_mul_of_nonneg_right h (by omega)))
/-- a vertex and its mirror image -/
theorem cornX_mirror {w : Int} (hw : 0 < w) (x W : Int) : 0 ≤ 16 * W - cornX x w W - cornX (-x) w W ∧ 16 * W - cornX x w W - cornX (-x) w W ≤ 1 := by
  unfold cornX
  have e : (-x + w) * (8 * W) = -((x + w) * (8 * W)) + 16 * W * w := by
    have a : -((x + w) * (8 * W)) = (-x - w) * (8 * W) := by rw [← Int.neg_mul]; congr 1; omega
    have b : 16 * W * w = (2 * w) * (8 * W) := by
      rw [Int.mul_comm (16 * W) w, show (16 * W : Int) = 2 * (8 * W) by omega, ← Int.mul_assoc, Int.mul_comm w 2]
    rw [a, b, ← Int.add_mul]
    congr 1
    omega
  rw [e, Int.add_mul_ediv_right _ _ (by omega)]
  generalize (x + w) * (8 * W) = p
  have h1 := Int.mul_ediv_add_emod p w
  have h2 := Int.emod_nonneg p (show w ≠ 0 by omega)
  have h3 := Int.emod_lt_of_pos p hw
  have l1 : -(p / w) - 1 ≤ -p / w := by
    rw [Int.le_ediv_iff_mul_le hw, Int.sub_mul, Int.neg_mul, Int.mul_comm (p / w) w]
    omega
  have l2 : -p / w < -(p / w) + 1 := by
    rw [Int.ediv_lt_iff_lt_mul hw, Int.add_mul, Int.neg_mul, Int.mul_comm (p / w) w]
    omega
  omega
theorem cornY_mirror {w : Int} (hw : 0 < w) (y H : Int) : 0 ≤ 16 * H - cornY y w H - cornY (-y) w H ∧ 16 * H - cornY y w H - cornY (-y) w H ≤ 1 := by
  rw [cornY_X, cornY_X]
  exact cornX_mirror hw (-y) H
def mirrorK (v : List Int) : List Int := [-(nv v 0), -(nv v 1), nv v 2, nv v 3]
theorem may_mirror (v : List Int) : mayK (mirrorK v) = mayK v := by
  rw [Bool.eq_iff_iff, may_iff, may_iff]
  constructor
  · intro h i hi
    have h0 := h 0 (by omega)
    have h1 := h 1 (by omega)
    have h2 := h 2 (by omega)
    have h3 := h 3 (by omega)
    simp [mirrorK, nv] at h0 h1 h2 h3
    match i, hi with
    | 0, _ => unfold nv; simp; omega
    | 1, _ => unfold nv; simp; omega
    | 2, _ => unfold nv; simp; omega
    | 3, _ => unfold nv; simp; omega
  · intro h i hi
    have h0 := h 0 (by omega)
    have h1 := h 1 (by omega)
    have h2 := h 2 (by omega)
    have h3 := h 3 (by omega)
    match i, hi with
    | 0, _ => show -8796093022208 < -(nv v 0) ∧ -(nv v 0) < 8796093022208; omega
    | 1, _ => show -8796093022208 < -(nv v 1) ∧ -(nv v 1) < 8796093022208; omega
    | 2, _ => exact h2
    | 3, _ => exact h3
theorem seen_mirror (v : List Int) : seenK (mirrorK v) = seenK v := by
  rw [Bool.eq_iff_iff, seen_iff, seen_iff, may_mirror, show nv (mirrorK v) 0 = -(nv v 0) from rfl, show nv (mirrorK v) 1 = -(nv v 1) from rfl, show nv (mirrorK v) 3 = nv v 3 from rfl]
  constructor <;> rintro ⟨h1, h2, h3, h4⟩ <;> exact ⟨h1, h2, by omega, by omega⟩

/-! ### pixels -/
def pixB (c : List Int) (W H : Int) : Bool := sizeK W H && decide (0 ≤ nv c 0) && decide (nv c 0 < 16 * W) && decide (0 ≤ nv c 1) && decide (nv c 1 < 16 * H)
def pixX (c : List Int) (W H : Int) : Int := if pixB c W H = true then nv c 0 / 16 else 0
def pixY (c : List Int) (W H : Int) : Int := if pixB c W H = true then nv c 1 / 16 else 0
theorem pix_iff (c : List Int) (W H : Int) : pixB c W H = true ↔ sizeK W H = true ∧ (0 ≤ nv c 0 ∧ nv c 0 < 16 * W) ∧ (0 ≤ nv c 1 ∧ nv c 1 < 16 * H) := by
  unfold pixB
  simp only [Bool.and_eq_true, decide_eq_true_eq]
  constructor
  · rintro ⟨⟨⟨⟨h1, h2⟩, h3⟩, h4⟩, h5⟩
    exact ⟨h1, ⟨h2, h3⟩, h4, h5⟩
  · rintro ⟨h1, ⟨h2, h3⟩, h4, h5⟩
    exact ⟨⟨⟨⟨h1, h2⟩, h3⟩, h4⟩, h5⟩
/-- the one pixel of a corner -/
theorem pix_one {c : Int} {x : Int} : (16 * x ≤ c ∧ c < 16 * x + 16) ↔ x = c / 16 := by omega
theorem cornX_in {x w W : Int} (hw : 0 < w) (hW : 1 ≤ W) : (0 ≤ cornX x w W ∧ cornX x w W < 16 * W) ↔ (-w ≤ x ∧ x < w) := by
  unfold cornX
  rw [Int.le_ediv_iff_mul_le hw, Int.ediv_lt_iff_lt_mul hw, Int.zero_mul]
  have e : 16 * W * w = (2 * w) * (8 * W) := by
    rw [Int.mul_comm (16 * W) w, show (16 * W : Int) = 2 * (8 * W) by omega, ← Int.mul_assoc, Int.mul_comm w 2]
  rw [e]
  have hp : 0 < 8 * W := by omega
  constructor
  · rintro ⟨h1, h2⟩
    have h2' := Int.lt_of_mul_lt_mul_right h2 (by omega)
    have h1' : 0 ≤ x + w := Int.nonneg_of_mul_nonneg_left h1 hp
    omega
  · rintro ⟨h1, h2⟩
    exact ⟨Int.mul_nonneg (by omega) (by omega), Int.mul_lt_mul_of_pos_right (by omega) hp⟩
theorem cornY_in {y w H : Int} (hw : 0 < w) (hH : 1 ≤ H) : (0 ≤ cornY y w H ∧ cornY y w H < 16 * H) ↔ (-w < y ∧ y ≤ w) := by
  rw [cornY_X, cornX_in hw hH]
  omega
/-- a corner stands in a pixel just if .. -/
theorem corn_pix {v : List Int} {W H : Int} (hs : sizeK W H = true) (hv : seenK v = true) :
    pixB (cornK v W H) W H = true ↔ (-(nv v 3) ≤ nv v 0 ∧ nv v 0 < nv v 3) ∧ (-(nv v 3) < nv v 1 ∧ nv v 1 ≤ nv v 3) := by
  obtain ⟨h1, h2⟩ := (size_iff W H).1 hs
  obtain ⟨_, h3, _, _⟩ := (seen_iff v).1 hv
  rw [pix_iff, show nv (cornK v W H) 0 = cornX (nv v 0) (nv v 3) W from rfl, show nv (cornK v W H) 1 = cornY (nv v 1) (nv v 3) H from rfl, cornX_in (by omega) (by omega), cornY_in (by omega) (by omega)]
  exact ⟨fun h => h.2, fun h => ⟨hs, h⟩⟩
/-- what is left by clipping may be seen -/
theorem clip_seen10 {a b c v : List Int} (ha : mayK a = true) (hb : mayK b = true) (hc : mayK c = true) (h : v ∈ clipN [a, b, c] 7) : seenK v = true := by
  have hm := (clip_cuts ha hb hc (Nat.le_refl 7)).2 v h
  have := clip_seen h
  rw [seen_iff]
  exact ⟨hm, by omega, ⟨by omega, by omega⟩, by omega, by omega⟩
end Go.Proofs.Ytgkglkoipocgaaa.Fx
namespace Go.Proofs.Ytgkglkoipocgaaa.Fx
open Go Go.RowKit Wm
def RetJn (z : Int) (w : World) (e : Ending) (w' : World) : Prop := e = .returned (.int .i64 z) ∧ Below w.heap.size w w'
set_option maxRecDepth 100000 in
set_option maxHeartbeats 8000000 in
theorem zdown_any10 (a b c q : Int) (w : World) (ha : -9223372036854775808 ≤ a ∧ a ≤ 9223372036854775807) (hb : -9223372036854775808 ≤ b ∧ b ≤ 9223372036854775807) (hc : 0 < c ∧ c ≤ 9223372036854775807) (hq0 : (a * b) / c = q) (hqn : -9223372036854775808 ≤ q ∧ q ≤ 9223372036854775807) :
    Calls Try.prog 30 #[.int .i64 a, .int .i64 b, .int .i64 c] w (RetJn q w) := by
  obtain ⟨p, hp⟩ : ∃ p, a * b = p := ⟨_, rfl⟩
  have hpl := prod_lt2 ha hb
  rw [hp] at hpl hq0
  have h9 : (65536 : Nat) ^ 9 = 22300745198530623141535718272648361505980416 := by decide
  have cOa : Hid (Ans 42 #[.int .i64 a] (.agg (bv a))) := Lib.hid fun w => of_z a w (by omega) (by omega)
  have cOb : Hid (Ans 42 #[.int .i64 b] (.agg (bv b))) := Lib.hid fun w => of_z b w (by omega) (by omega)
  have cOc : Hid (Ans 42 #[.int .i64 c] (.agg (bv c))) := Lib.hid fun w => of_z c w (by omega) (by omega)
  have cM : Hid (Ans 41 #[.agg (bv a), .agg (bv b)] (.agg (bv p))) := Lib.hid fun w => by
    have := mul_z a b w (by rw [h9]; omega) (by rw [h9]; omega)
    rw [hp] at this
    exact this
  obtain ⟨r, hr⟩ : ∃ r, rs p c = r := ⟨_, rfl⟩
  have hqd : dv p c = q := by unfold dv; rw [if_pos (by omega)]; exact hq0
  have cD : Hid (Ans 43 #[.agg (bv p), .agg (bv c)] (.tuple #[.agg (bv q), .agg (bv r), .int .i64 0])) := Lib.hid fun w => by
    have := zdiv_z p c w (by rw [h9]; omega) (by omega) (by rw [h9]; omega)
    rw [hqd, hr] at this
    exact this
  have hin : In q := by unfold In; omega
  obtain ⟨h, l, hat⟩ := At.ex hin
  have cT : Hid (Ans 44 #[.agg (bv q)] (.tuple #[.agg #[.int .i64 h, .int .u64 l], .bool true])) := Lib.hid fun w => by
    have e18 : (65536 : Nat) ^ 18 = 497323236409786642155382248146820840100456150797347717440463976893159497012533375533056 := by decide
    refine (to_z q w (by rw [e18]; omega) hin).mono ?_
    rintro e w' ⟨h', l', rfl, ha, hb⟩
    rw [show valE q = q from if_pos hin] at ha
    obtain ⟨rfl, rfl⟩ := At.uniq hat ha
    exact ⟨by rw [decide_eq_true hin], hb⟩
  have hA := hat
  unfold At at hA
  have hwr : IntKind.i64.wrap (l : Int) = q := by rw [IntKind.wrap_i64]; omega
  have HWR := Lib.hid hwr
  have HB0 : Hid (Below w.heap.size w w) := Lib.hid (Below.refl _ _)
  clear hp hpl h9 hr hqd hin hat hA hq0 hqn ha hb hc
  go_enter Try.func30, Try.ntmps30
  go_wp2_with fail
  refine (cOa.out _).mono ?_
  rintro e w1 ⟨rfl, hb1⟩
  have HB1 := Lib.hid (bnext HB0.out hb1)
  clear hb1 HB0 cOa
  go_wp2_with fail
  refine (cOb.out _).mono ?_
  rintro e w2 ⟨rfl, hb2⟩
  have HB2 := Lib.hid (bnext HB1.out hb2)
  clear hb2 HB1 cOb
  go_wp2_with fail
  refine (cM.out _).mono ?_
  rintro e w3 ⟨rfl, hb3⟩
  have HB3 := Lib.hid (bnext HB2.out hb3)
  clear hb3 HB2 cM
  have Z1 : Hid (BigAt w3.heap.size 0 (w3.alloc (.cells #[.bool false, .int .u64 0, .int .u64 0, .int .u64 0, .int .u64 0, .int .u64 0, .int .u64 0, .int .u64 0, .int .u64 0, .int .u64 0, .int .u64 0, .int .u64 0, .int .u64 0, .int .u64 0, .int .u64 0, .int .u64 0, .int .u64 0, .int .u64 0, .int .u64 0, .int .u64 0, .int .u64 0] 79))) := Lib.hid (heap_alloc_new _ _)
  have RP0 : Hid (RowAt 79 w3.heap.size (bv p) ((w3.alloc (.cells #[.bool false, .int .u64 0, .int .u64 0, .int .u64 0, .int .u64 0, .int .u64 0, .int .u64 0, .int .u64 0, .int .u64 0, .int .u64 0, .int .u64 0, .int .u64 0, .int .u64 0, .int .u64 0, .int .u64 0, .int .u64 0, .int .u64 0, .int .u64 0, .int .u64 0, .int .u64 0, .int .u64 0] 79)).setRow w3.heap.size (bv p))) := Lib.hid (BigAt.row Z1.out p)
  have HB4 : Hid (Below w.heap.size w ((w3.alloc (.cells #[.bool false, .int .u64 0, .int .u64 0, .int .u64 0, .int .u64 0, .int .u64 0, .int .u64 0, .int .u64 0, .int .u64 0, .int .u64 0, .int .u64 0, .int .u64 0, .int .u64 0, .int .u64 0, .int .u64 0, .int .u64 0, .int .u64 0, .int .u64 0, .int .u64 0, .int .u64 0, .int .u64 0] 79)).setRow w3.heap.size (bv p))) := Lib.hid (Below.row (HB3.out.alloc HB3.out.size _) (by have := HB3.out.size; omega) _)
  clear HB3
  go_wp2_with (refine wpList_store_big rfl 79 (.tmp 7) (.tmp 17) rfl (w3.heap.size) _ _ (bv p) rfl rfl Z1.out (bv_info _) (bv_same 0 _) (bv_one _) ?_)
  generalize ((w3.alloc (.cells #[.bool false, .int .u64 0, .int .u64 0, .int .u64 0, .int .u64 0, .int .u64 0, .int .u64 0, .int .u64 0, .int .u64 0, .int .u64 0, .int .u64 0, .int .u64 0, .int .u64 0, .int .u64 0, .int .u64 0, .int .u64 0, .int .u64 0, .int .u64 0, .int .u64 0, .int .u64 0, .int .u64 0] 79)).setRow w3.heap.size (bv p)) = wr at RP0 HB4 ⊢
  clear Z1
  generalize w3.heap.size = B at RP0 ⊢
  rename_i K7 hK7
  refine (wpIn_wide (n := 5)).1 (give_region (S := fun X => Below wr.heap.size wr X) (Z := []) (by kernel_rfl) (by kernel_rfl) below_mono (fun d _ _ _ _ h => by cases d <;> exact h) (bdrew0 _ _ 1) (fun hG vw0 hw0 => ?_))
  refine grow_pure [] 0 (.agg (bv p)) hG rfl (by kernel_rfl) hw0 (by kernel_rfl) ?_ ?_
  · intro wz hSw; exact exec_load_row 79 (.tmp 7) (by kernel_rfl) B (by kernel_rfl) _ _ _ _ (RowAt.below hSw RP0.out) Try.underlying79 (by kernel_rfl) (bv_info _)
  intro vw1 hw1 hbn
  clear hbn hw0 vw0
  (try simp only [Act.put, List.getElem_toArray, List.getElem_cons_zero, List.getElem_cons_succ, List.setIfInBounds_toArray, List.set_cons_zero, List.set_cons_succ])
  refine grow_pure [] 1 (?_) hG rfl (by kernel_rfl) hw1 (by kernel_rfl) ?_ ?_
  rotate_left
  · intro wz hSw; (first | (go_simp; done) | (go_simp; with_reducible rfl))
  intro vw2 hw2 hbn
  clear hbn hw1 vw1
  (try simp only [Act.put, List.getElem_toArray, List.getElem_cons_zero, List.getElem_cons_succ, List.setIfInBounds_toArray, List.set_cons_zero, List.set_cons_succ])
  refine grow_call [] 2 42 #[.int .i64 c] (.agg (bv c)) hG rfl (by kernel_rfl) hw2 (by kernel_rfl) ?_ (cOc.out) ?_
  · intro wz; (first | (go_simp; done) | (go_simp; with_reducible rfl))
  intro vw3 hw3 hbn
  clear hbn hw2 vw2
  (try simp only [Act.put, List.getElem_toArray, List.getElem_cons_zero, List.getElem_cons_succ, List.setIfInBounds_toArray, List.set_cons_zero, List.set_cons_succ])
  refine grow_call [] 3 43 #[.agg (bv p), .agg (bv c)] (.tuple #[.agg (bv q), .agg (bv r), .int .i64 0]) hG rfl (by kernel_rfl) hw3 (by kernel_rfl) ?_ (cD.out) ?_
  · intro wz; (first | (go_simp; done) | (go_simp; with_reducible rfl))
  intro vw4 hw4 hbn
  clear hbn hw3 vw3
  (try simp only [Act.put, List.getElem_toArray, List.getElem_cons_zero, List.getElem_cons_succ, List.setIfInBounds_toArray, List.set_cons_zero, List.set_cons_succ])
  refine grow_pure [] 4 (?_) hG rfl (by kernel_rfl) hw4 (by kernel_rfl) ?_ ?_
  rotate_left
  · intro wz hSw; (first | (go_simp; done) | (go_simp; with_reducible rfl))
  intro vw5 hw5 hbn
  clear hbn hw4 vw4
  (try simp only [Act.put, List.getElem_toArray, List.getElem_cons_zero, List.getElem_cons_succ, List.setIfInBounds_toArray, List.set_cons_zero, List.set_cons_succ])
  refine grow_pure [] 5 (?_) hG rfl (by kernel_rfl) hw5 (by kernel_rfl) ?_ ?_
  rotate_left
  · intro wz hSw; (first | (go_simp; done) | (go_simp; with_reducible rfl))
  intro vw6 hw6 hbn
  clear hbn hw5 vw5
  (try simp only [Act.put, List.getElem_toArray, List.getElem_cons_zero, List.getElem_cons_succ, List.setIfInBounds_toArray, List.set_cons_zero, List.set_cons_succ])
  refine grow_pure [] 6 (?_) hG rfl (by kernel_rfl) hw6 (by kernel_rfl) ?_ ?_
  rotate_left
  · intro wz hSw; (first | (go_simp; done) | (go_simp; with_reducible rfl))
  intro vw7 hw7 hbn
  clear hbn hw6 vw6
  (try simp only [Act.put, List.getElem_toArray, List.getElem_cons_zero, List.getElem_cons_succ, List.setIfInBounds_toArray, List.set_cons_zero, List.set_cons_succ])
  refine grow_pure [] 7 (?_) hG rfl (by kernel_rfl) hw7 (by kernel_rfl) ?_ ?_
  rotate_left
  · intro wz hSw; (first | (go_simp; done) | (go_simp; with_reducible rfl))
  intro vw8 hw8 hbn
  clear hbn hw7 vw7
  (try simp only [Act.put, List.getElem_toArray, List.getElem_cons_zero, List.getElem_cons_succ, List.setIfInBounds_toArray, List.set_cons_zero, List.set_cons_succ])
  refine give_step2 8 9 (by kernel_rfl) rfl rfl (fun K hK => ?_) (fun K hK => ?_)
  · go_simp
    obtain ⟨bQ, hbQ⟩ : ∃ b, vw8.heap.size = b := ⟨_, rfl⟩
    have gbQ : wr.heap.size ≤ bQ := by rw [← hbQ]; exact hw8.size
    rw [hbQ]
    have hw90 : Below wr.heap.size wr (vw8.alloc (.cells #[.bool false, .int .u64 0, .int .u64 0, .int .u64 0, .int .u64 0, .int .u64 0, .int .u64 0, .int .u64 0, .int .u64 0, .int .u64 0, .int .u64 0, .int .u64 0, .int .u64 0, .int .u64 0, .int .u64 0, .int .u64 0, .int .u64 0, .int .u64 0, .int .u64 0, .int .u64 0, .int .u64 0] 79)) := Below.alloc hw8 (by have := hw8.size; omega) _
    have TQ := (show RowAt 79 bQ #[.bool false, .int .u64 0, .int .u64 0, .int .u64 0, .int .u64 0, .int .u64 0, .int .u64 0, .int .u64 0, .int .u64 0, .int .u64 0, .int .u64 0, .int .u64 0, .int .u64 0, .int .u64 0, .int .u64 0, .int .u64 0, .int .u64 0, .int .u64 0, .int .u64 0, .int .u64 0, .int .u64 0] (vw8.alloc (.cells #[.bool false, .int .u64 0, .int .u64 0, .int .u64 0, .int .u64 0, .int .u64 0, .int .u64 0, .int .u64 0, .int .u64 0, .int .u64 0, .int .u64 0, .int .u64 0, .int .u64 0, .int .u64 0, .int .u64 0, .int .u64 0, .int .u64 0, .int .u64 0, .int .u64 0, .int .u64 0, .int .u64 0] 79)) by rw [← hbQ]; exact RowAt.new _ _ _)
    refine hK.out _ _ (fun _ => hw90) (fun vw9 hbn => ?_)
    have hw9 := below_mono _ _ hw90 hbn
    have RQ := RowAt.below hbn TQ
    clear TQ
    clear hbn hK K hw8 hw90
    (try simp only [Act.put, List.getElem_toArray, List.getElem_cons_zero, List.getElem_cons_succ, List.setIfInBounds_toArray, List.set_cons_zero, List.set_cons_succ])
    clear hbQ
    refine give_step 9 (by kernel_rfl) rfl (fun K hK => ?_)
    go_simp
    obtain ⟨bR, hbR⟩ : ∃ b, vw9.heap.size = b := ⟨_, rfl⟩
    have gbR : wr.heap.size ≤ bR := by rw [← hbR]; exact hw9.size
    have nR_Q : bQ ≠ bR := by have := RQ.lt; omega
    rw [hbR]
    have hw100 : Below wr.heap.size wr (vw9.alloc (.cells #[.bool false, .int .u64 0, .int .u64 0, .int .u64 0, .int .u64 0, .int .u64 0, .int .u64 0, .int .u64 0, .int .u64 0, .int .u64 0, .int .u64 0, .int .u64 0, .int .u64 0, .int .u64 0, .int .u64 0, .int .u64 0, .int .u64 0, .int .u64 0, .int .u64 0, .int .u64 0, .int .u64 0] 79)) := Below.alloc hw9 (by have := hw9.size; omega) _
    have TQ := RowAt.alloc RQ (.cells #[.bool false, .int .u64 0, .int .u64 0, .int .u64 0, .int .u64 0, .int .u64 0, .int .u64 0, .int .u64 0, .int .u64 0, .int .u64 0, .int .u64 0, .int .u64 0, .int .u64 0, .int .u64 0, .int .u64 0, .int .u64 0, .int .u64 0, .int .u64 0, .int .u64 0, .int .u64 0, .int .u64 0] 79)
    have TR := (show RowAt 79 bR #[.bool false, .int .u64 0, .int .u64 0, .int .u64 0, .int .u64 0, .int .u64 0, .int .u64 0, .int .u64 0, .int .u64 0, .int .u64 0, .int .u64 0, .int .u64 0, .int .u64 0, .int .u64 0, .int .u64 0, .int .u64 0, .int .u64 0, .int .u64 0, .int .u64 0, .int .u64 0, .int .u64 0] (vw9.alloc (.cells #[.bool false, .int .u64 0, .int .u64 0, .int .u64 0, .int .u64 0, .int .u64 0, .int .u64 0, .int .u64 0, .int .u64 0, .int .u64 0, .int .u64 0, .int .u64 0, .int .u64 0, .int .u64 0, .int .u64 0, .int .u64 0, .int .u64 0, .int .u64 0, .int .u64 0, .int .u64 0, .int .u64 0] 79)) by rw [← hbR]; exact RowAt.new _ _ _)
    refine hK.out _ _ (fun _ => hw100) (fun vw10 hbn => ?_)
    have hw10 := below_mono _ _ hw100 hbn
    replace RQ := RowAt.below hbn TQ
    have RR := RowAt.below hbn TR
    clear TQ
    clear TR
    clear hbn hK K hw9 hw100
    (try simp only [Act.put, List.getElem_toArray, List.getElem_cons_zero, List.getElem_cons_succ, List.setIfInBounds_toArray, List.set_cons_zero, List.set_cons_succ])
    clear hbR
    refine give_step 10 (by kernel_rfl) rfl (fun K hK => ?_)
    rw [if_pos (by kernel_rfl)]
    refine wpIn_store_row (fun _ => trivial) 79 (.tmp 8) (.tmp 23) (by kernel_rfl) (bQ) _ _ (bv q) (by kernel_rfl) (by kernel_rfl) RQ (bv_info _) (bv_same 0 _) (bv_one _) ?_
    have hw110 : Below wr.heap.size wr (vw10.setRow bQ (bv q)) := Below.row hw10 (by omega) _
    have TQ := RowAt.row RQ (bv q)
    have TR := RowAt.other RR (by first | assumption | (apply Ne.symm; assumption) | omega) (bv q)
    refine hK.out _ _ (fun _ => hw110) (fun vw11 hbn => ?_)
    have hw11 := below_mono _ _ hw110 hbn
    replace RQ := RowAt.below hbn TQ
    replace RR := RowAt.below hbn TR
    clear TQ
    clear TR
    clear hbn hK K hw10 hw110
    (try simp only [Act.put, List.getElem_toArray, List.getElem_cons_zero, List.getElem_cons_succ, List.setIfInBounds_toArray, List.set_cons_zero, List.set_cons_succ])
    refine give_step 11 (by kernel_rfl) rfl (fun K hK => ?_)
    rw [if_pos (by kernel_rfl)]
    refine wpIn_store_row (fun _ => trivial) 79 (.tmp 9) (.tmp 24) (by kernel_rfl) (bR) _ _ (bv r) (by kernel_rfl) (by kernel_rfl) RR (bv_info _) (bv_same 0 _) (bv_one _) ?_
    have hw120 : Below wr.heap.size wr (vw11.setRow bR (bv r)) := Below.row hw11 (by omega) _
    have TQ := RowAt.other RQ (by first | assumption | (apply Ne.symm; assumption) | omega) (bv r)
    have TR := RowAt.row RR (bv r)
    refine hK.out _ _ (fun _ => hw120) (fun vw12 hbn => ?_)
    have hw12 := below_mono _ _ hw120 hbn
    replace RQ := RowAt.below hbn TQ
    replace RR := RowAt.below hbn TR
    clear TQ
    clear TR
    clear hbn hK K hw11 hw120
    (try simp only [Act.put, List.getElem_toArray, List.getElem_cons_zero, List.getElem_cons_succ, List.setIfInBounds_toArray, List.set_cons_zero, List.set_cons_succ])
    refine grow_pure [] 12 (?_) hG rfl (by kernel_rfl) hw12 (by kernel_rfl) ?_ ?_
    rotate_left
    · intro wz hSw; (first | (go_simp; done) | (go_simp; with_reducible rfl))
    intro vw13 hw13 hbn
    replace RQ := RowAt.below hbn RQ
    replace RR := RowAt.below hbn RR
    clear hbn hw12 vw12
    (try simp only [Act.put, List.getElem_toArray, List.getElem_cons_zero, List.getElem_cons_succ, List.setIfInBounds_toArray, List.set_cons_zero, List.set_cons_succ])
    refine give_done (by kernel_rfl) (?_) _
    refine hK7 _ _ ?_
    have RQH := Lib.hid RQ
    have HBF := Lib.hid (bnext HB4.out hw13)
    clear RQ RR hK7 hG HB4 RP0 cOc cD gbQ gbR hw13
    (try clear nQ_R)
    (try clear nR_Q)
    go_wp2_with (refine wpList_load_row rfl 79 (.tmp 8) rfl (bQ) rfl _ _ _ _ RQH.out Try.underlying79 rfl (bv_info _) ?_)
    refine (cT.out _).mono ?_
    rintro e w9 ⟨rfl, hb9⟩
    have Bn := bnext HBF.out hb9
    have HE : Hid (Below w.heap.size w (w9.alloc (.cells #[.int .i64 h, .int .u64 l] 85))) := Lib.hid (Bn.alloc Bn.size _)
    clear hb9 Bn HBF RQH cT
    have hwr := HWR.out
    go_wp2_with fail
    go_ret
    exact ⟨rfl, by first | exact HE.out | exact HE.out.setCell (by first | exact HBS | simp) _⟩
  · go_simp
    obtain ⟨bR, hbR⟩ : ∃ b, vw8.heap.size = b := ⟨_, rfl⟩
    have gbR : wr.heap.size ≤ bR := by rw [← hbR]; exact hw8.size
    rw [hbR]
    have hw90 : Below wr.heap.size wr (vw8.alloc (.cells #[.bool false, .int .u64 0, .int .u64 0, .int .u64 0, .int .u64 0, .int .u64 0, .int .u64 0, .int .u64 0, .int .u64 0, .int .u64 0, .int .u64 0, .int .u64 0, .int .u64 0, .int .u64 0, .int .u64 0, .int .u64 0, .int .u64 0, .int .u64 0, .int .u64 0, .int .u64 0, .int .u64 0] 79)) := Below.alloc hw8 (by have := hw8.size; omega) _
    have TR := (show RowAt 79 bR #[.bool false, .int .u64 0, .int .u64 0, .int .u64 0, .int .u64 0, .int .u64 0, .int .u64 0, .int .u64 0, .int .u64 0, .int .u64 0, .int .u64 0, .int .u64 0, .int .u64 0, .int .u64 0, .int .u64 0, .int .u64 0, .int .u64 0, .int .u64 0, .int .u64 0, .int .u64 0, .int .u64 0] (vw8.alloc (.cells #[.bool false, .int .u64 0, .int .u64 0, .int .u64 0, .int .u64 0, .int .u64 0, .int .u64 0, .int .u64 0, .int .u64 0, .int .u64 0, .int .u64 0, .int .u64 0, .int .u64 0, .int .u64 0, .int .u64 0, .int .u64 0, .int .u64 0, .int .u64 0, .int .u64 0, .int .u64 0, .int .u64 0] 79)) by rw [← hbR]; exact RowAt.new _ _ _)
    refine hK.out _ _ (fun _ => hw90) (fun vw9 hbn => ?_)
    have hw9 := below_mono _ _ hw90 hbn
    have RR := RowAt.below hbn TR
    clear TR
    clear hbn hK K hw8 hw90
    (try simp only [Act.put, List.getElem_toArray, List.getElem_cons_zero, List.getElem_cons_succ, List.setIfInBounds_toArray, List.set_cons_zero, List.set_cons_succ])
    clear hbR
    refine give_step 8 (by kernel_rfl) rfl (fun K hK => ?_)
    go_simp
    obtain ⟨bQ, hbQ⟩ : ∃ b, vw9.heap.size = b := ⟨_, rfl⟩
    have gbQ : wr.heap.size ≤ bQ := by rw [← hbQ]; exact hw9.size
    have nQ_R : bR ≠ bQ := by have := RR.lt; omega
    rw [hbQ]
    have hw100 : Below wr.heap.size wr (vw9.alloc (.cells #[.bool false, .int .u64 0, .int .u64 0, .int .u64 0, .int .u64 0, .int .u64 0, .int .u64 0, .int .u64 0, .int .u64 0, .int .u64 0, .int .u64 0, .int .u64 0, .int .u64 0, .int .u64 0, .int .u64 0, .int .u64 0, .int .u64 0, .int .u64 0, .int .u64 0, .int .u64 0, .int .u64 0] 79)) := Below.alloc hw9 (by have := hw9.size; omega) _
    have TR := RowAt.alloc RR (.cells #[.bool false, .int .u64 0, .int .u64 0, .int .u64 0, .int .u64 0, .int .u64 0, .int .u64 0, .int .u64 0, .int .u64 0, .int .u64 0, .int .u64 0, .int .u64 0, .int .u64 0, .int .u64 0, .int .u64 0, .int .u64 0, .int .u64 0, .int .u64 0, .int .u64 0, .int .u64 0, .int .u64 0] 79)
    have TQ := (show RowAt 79 bQ #[.bool false, .int .u64 0, .int .u64 0, .int .u64 0, .int .u64 0, .int .u64 0, .int .u64 0, .int .u64 0, .int .u64 0, .int .u64 0, .int .u64 0, .int .u64 0, .int .u64 0, .int .u64 0, .int .u64 0, .int .u64 0, .int .u64 0, .int .u64 0, .int .u64 0, .int .u64 0, .int .u64 0] (vw9.alloc (.cells #[.bool false, .int .u64 0, .int .u64 0, .int .u64 0, .int .u64 0, .int .u64 0, .int .u64 0, .int .u64 0, .int .u64 0, .int .u64 0, .int .u64 0, .int .u64 0, .int .u64 0, .int .u64 0, .int .u64 0, .int .u64 0, .int .u64 0, .int .u64 0, .int .u64 0, .int .u64 0, .int .u64 0] 79)) by rw [← hbQ]; exact RowAt.new _ _ _)
    refine hK.out _ _ (fun _ => hw100) (fun vw10 hbn => ?_)
    have hw10 := below_mono _ _ hw100 hbn
    replace RR := RowAt.below hbn TR
    have RQ := RowAt.below hbn TQ
    clear TR
    clear TQ
    clear hbn hK K hw9 hw100
    (try simp only [Act.put, List.getElem_toArray, List.getElem_cons_zero, List.getElem_cons_succ, List.setIfInBounds_toArray, List.set_cons_zero, List.set_cons_succ])
    clear hbQ
    refine give_step 10 (by kernel_rfl) rfl (fun K hK => ?_)
    rw [if_pos (by kernel_rfl)]
    refine wpIn_store_row (fun _ => trivial) 79 (.tmp 8) (.tmp 23) (by kernel_rfl) (bQ) _ _ (bv q) (by kernel_rfl) (by kernel_rfl) RQ (bv_info _) (bv_same 0 _) (bv_one _) ?_
    have hw110 : Below wr.heap.size wr (vw10.setRow bQ (bv q)) := Below.row hw10 (by omega) _
    have TR := RowAt.other RR (by first | assumption | (apply Ne.symm; assumption) | omega) (bv q)
    have TQ := RowAt.row RQ (bv q)
    refine hK.out _ _ (fun _ => hw110) (fun vw11 hbn => ?_)
    have hw11 := below_mono _ _ hw110 hbn
    replace RR := RowAt.below hbn TR
    replace RQ := RowAt.below hbn TQ
    clear TR
    clear TQ
    clear hbn hK K hw10 hw110
    (try simp only [Act.put, List.getElem_toArray, List.getElem_cons_zero, List.getElem_cons_succ, List.setIfInBounds_toArray, List.set_cons_zero, List.set_cons_succ])
    refine give_step 11 (by kernel_rfl) rfl (fun K hK => ?_)
    rw [if_pos (by kernel_rfl)]
    refine wpIn_store_row (fun _ => trivial) 79 (.tmp 9) (.tmp 24) (by kernel_rfl) (bR) _ _ (bv r) (by kernel_rfl) (by kernel_rfl) RR (bv_info _) (bv_same 0 _) (bv_one _) ?_
    have hw120 : Below wr.heap.size wr (vw11.setRow bR (bv r)) := Below.row hw11 (by omega) _
    have TR := RowAt.row RR (bv r)
    have TQ := RowAt.other RQ (by first | assumption | (apply Ne.symm; assumption) | omega) (bv r)
    refine hK.out _ _ (fun _ => hw120) (fun vw12 hbn => ?_)
    have hw12 := below_mono _ _ hw120 hbn
    replace RR := RowAt.below hbn TR
    replace RQ := RowAt.below hbn TQ
    clear TR
    clear TQ
    clear hbn hK K hw11 hw120
    (try simp only [Act.put, List.getElem_toArray, List.getElem_cons_zero, List.getElem_cons_succ, List.setIfInBounds_toArray, List.set_cons_zero, List.set_cons_succ])
    refine grow_pure [] 12 (?_) hG rfl (by kernel_rfl) hw12 (by kernel_rfl) ?_ ?_
    rotate_left
    · intro wz hSw; (first | (go_simp; done) | (go_simp; with_reducible rfl))
    intro vw13 hw13 hbn
    replace RR := RowAt.below hbn RR
    replace RQ := RowAt.below hbn RQ
    clear hbn hw12 vw12
    (try simp only [Act.put, List.getElem_toArray, List.getElem_cons_zero, List.getElem_cons_succ, List.setIfInBounds_toArray, List.set_cons_zero, List.set_cons_succ])
    refine give_done (by kernel_rfl) (?_) _
    refine hK7 _ _ ?_
    have RQH := Lib.hid RQ
    have HBF := Lib.hid (bnext HB4.out hw13)
    clear RQ RR hK7 hG HB4 RP0 cOc cD gbQ gbR hw13
    (try clear nQ_R)
    (try clear nR_Q)
    go_wp2_with (refine wpList_load_row rfl 79 (.tmp 8) rfl (bQ) rfl _ _ _ _ RQH.out Try.underlying79 rfl (bv_info _) ?_)
    refine (cT.out _).mono ?_
    rintro e w9 ⟨rfl, hb9⟩
    have Bn := bnext HBF.out hb9
    have HE : Hid (Below w.heap.size w (w9.alloc (.cells #[.int .i64 h, .int .u64 l] 85))) := Lib.hid (Bn.alloc Bn.size _)
    clear hb9 Bn HBF RQH cT
    have hwr := HWR.out
    go_wp2_with fail
    go_ret
    exact ⟨rfl, by first | exact HE.out | exact HE.out.setCell (by first | exact HBS | simp) _⟩
end Go.Proofs.Ytgkglkoipocgaaa.Fx
namespace Go.Proofs.Ytgkglkoipocgaaa.Fx
open Go Go.RowKit Wm
set_option maxRecDepth 100000 in
set_option maxHeartbeats 2000000 in
theorem zsize_any10 (W H : Int) (w : World) : Calls Try.prog 19 #[.int .i64 W, .int .i64 H] w (RetBool (sizeK W H) w) := by
  have HL : Hid (Below w.heap.size w w) := Lib.hid (Below.refl _ _)
  have HY : Hid (1 ≤ W → W ≤ 64 → 1 ≤ H → H ≤ 64 → sizeK W H = true) := Lib.hid fun a b c d => (size_iff W H).2 ⟨⟨a, b⟩, c, d⟩
  have HN : Hid (¬ (1 ≤ W ∧ W ≤ 64 ∧ 1 ≤ H ∧ H ≤ 64) → sizeK W H = false) := Lib.hid fun h => by
    cases e : sizeK W H with
    | false => rfl
    | true => have := (size_iff W H).1 e; omega
  go_enter Try.func19, Try.ntmps19
  by_cases h0 : 1 ≤ W
  · skip
    by_cases h1 : W ≤ 64
    · skip
      by_cases h2 : 1 ≤ H
      · skip
        by_cases h3 : H ≤ 64
        · skip
          have HS := Lib.hid (HY.out h0 h1 h2 h3)
          go_wp2_with fail
          go_ret
          exact ⟨by rw [HS.out]; rfl, HL.out⟩
        · have HS := Lib.hid (HN.out (by omega))
          go_wp2_with fail
          go_ret
          exact ⟨by rw [HS.out]; rfl, HL.out⟩
      · have HS := Lib.hid (HN.out (by omega))
        go_wp2_with fail
        go_ret
        exact ⟨by rw [HS.out]; rfl, HL.out⟩
    · have HS := Lib.hid (HN.out (by omega))
      go_wp2_with fail
      go_ret
      exact ⟨by rw [HS.out]; rfl, HL.out⟩
  · have HS := Lib.hid (HN.out (by omega))
    go_wp2_with fail
    go_ret
    exact ⟨by rw [HS.out]; rfl, HL.out⟩
def MsN (v : List Int) (n : Nat) : Bool := (List.range n).all fun i => decide (-8796093022208 < nv v i) && decide (nv v i < 8796093022208)
theorem msN_bad {v : List Int} {k : Nat} (hk : k < 4) (h : v.getD k 0 ≤ -8796093022208 ∨ 8796093022208 ≤ v.getD k 0) : seenK v = false := by
  cases e : seenK v with
  | false => rfl
  | true =>
    have := (may_iff v).1 ((seen_iff v).1 e).1 k hk
    unfold nv at this
    omega
theorem msN_next {v : List Int} {k : Nat} (h : MsN v k = true) (h1 : ¬ v.getD k 0 ≤ -8796093022208) (h2 : ¬ 8796093022208 ≤ v.getD k 0) : MsN v (k + 1) = true := by
  unfold MsN at h ⊢
  rw [List.range_succ, List.all_append, h]
  simp [nv] at h1 h2 ⊢
  omega
def MsRel (v : List Int) (w : World) (g : Nat) (s3 : Value) (W : World) : Prop := ∃ r : Nat, g = 4 - r ∧ s3 = .int .i64 (r : Int) ∧ r ≤ 4 ∧ MsN v r = true ∧ RowAt 23 w.heap.size (mC v) W ∧ Below w.heap.size w W
set_option maxRecDepth 100000 in
set_option maxHeartbeats 4000000 in
theorem zseen_any10 (v : List Int) (w : World) (hv : VecWf v) : Calls Try.prog 29 #[.agg (mC v)] w (RetBool (seenK v) w) := by
  have HV := Lib.hid hv
  have HI : Hid (RowAt 23 w.heap.size (mC v) (w.alloc (.cells (mC v) 23))) := Lib.hid (RowAt.new _ _ _)
  have HB : Hid (Below w.heap.size w (w.alloc (.cells (mC v) 23))) := Lib.hid (by go_grown)
  clear hv
  go_enter Try.func29, Try.ntmps29
  go_wp2_with fail
  generalize (w.alloc (.cells (mC v) 23)) = V at HI HB ⊢
  go_loopg [3] 4 (MsRel v w)
  case atStart => exact ⟨0, rfl, rfl, by omega, rfl, HI.out, HB.out⟩
  case round =>
    obtain ⟨r, hg, rfl, hr4, hm, hrow, hbl⟩ := hrel
    subst hg
    have HM := Lib.hid hm
    have HL := Lib.hid hbl
    have HR0 := Lib.hid hrow
    clear hm hbl HB hrow
    by_cases hr : r < 4
    · have r1 : (r : Int) < 4 := by omega
      have hcell : wr.cell? ⟨w.heap.size, r, none⟩ = some (.int .i64 (v.getD r 0)) := by rw [HR0.out.cell, mC_cell (by rw [HV.out.len]; exact hr)]
      have HNO : Hid (v.getD r 0 ≤ -8796093022208 ∨ 8796093022208 ≤ v.getD r 0 → seenK v = false) := Lib.hid (msN_bad hr)
      have HYES : Hid (¬ v.getD r 0 ≤ -8796093022208 → ¬ 8796093022208 ≤ v.getD r 0 → MsN v (r + 1) = true) := Lib.hid (msN_next HM.out)
      generalize v.getD r 0 = x at hcell HNO HYES
      by_cases h2 : 8796093022208 ≤ x
      · have HR := Lib.hid (HNO.out (.inr h2))
        clear HNO HYES
        go_wp2_with fail
        go_ret
        exact ⟨by rw [HR.out]; rfl, HL.out⟩
      · by_cases h1 : x ≤ -8796093022208
        · have HR := Lib.hid (HNO.out (.inl h1))
          clear HNO HYES
          go_wp2_with fail
          go_ret
          exact ⟨by rw [HR.out]; rfl, HL.out⟩
        · have HR := Lib.hid (HYES.out h1 h2)
          clear HNO HYES
          go_wp2_with fail
          go_roundg (4 - (r + 1))
          case measure => omega
          case rel => exact ⟨r + 1, rfl, by go_num, by omega, HR.out, HR0.out, HL.out⟩
    · obtain rfl : r = 4 := by omega
      have r1 : ¬ ((4 : Nat) : Int) < 4 := by omega
      have hmk : mayK v = true := HM.out
      have hc0 : wr.cell? ⟨w.heap.size, 0, none⟩ = some (.int .i64 (nv v 0)) := by rw [HR0.out.cell, mC_cell (by rw [HV.out.len]; omega)]; rfl
      have hc1 : wr.cell? ⟨w.heap.size, 1, none⟩ = some (.int .i64 (nv v 1)) := by rw [HR0.out.cell, mC_cell (by rw [HV.out.len]; omega)]; rfl
      have hc3 : wr.cell? ⟨w.heap.size, 3, none⟩ = some (.int .i64 (nv v 3)) := by rw [HR0.out.cell, mC_cell (by rw [HV.out.len]; omega)]; rfl
      have bb := may_nums hmk
      have HY : Hid (4096 ≤ nv v 3 → -3 * nv v 3 ≤ nv v 0 → nv v 0 ≤ 3 * nv v 3 → -3 * nv v 3 ≤ nv v 1 → nv v 1 ≤ 3 * nv v 3 → seenK v = true) := Lib.hid fun a b c d e => (seen_iff v).2 ⟨hmk, a, ⟨b, c⟩, d, e⟩
      have HN : Hid (¬ (4096 ≤ nv v 3 ∧ -3 * nv v 3 ≤ nv v 0 ∧ nv v 0 ≤ 3 * nv v 3 ∧ -3 * nv v 3 ≤ nv v 1 ∧ nv v 1 ≤ 3 * nv v 3) → seenK v = false) := Lib.hid fun h => by
        cases e : seenK v with
        | false => rfl
        | true => have := ((seen_iff v).1 e).2; omega
      have b0 := bb.1
      have b1 := bb.2.1
      have b3 := bb.2.2.2
      clear bb hmk HM HR0 HV
      generalize nv v 0 = x0 at hc0 HY HN b0
      generalize nv v 1 = x1 at hc1 HY HN b1
      generalize nv v 3 = x3 at hc3 HY HN b3
      have m1 : -9223372036854775808 ≤ 3 * x3 ∧ 3 * x3 ≤ 9223372036854775807 := by omega
      have m2 : -9223372036854775808 ≤ -3 * x3 ∧ -3 * x3 ≤ 9223372036854775807 := by omega
      by_cases h0 : 4096 ≤ x3
      · skip
        by_cases h1 : -3 * x3 ≤ x0
        · skip
          by_cases h2 : x0 ≤ 3 * x3
          · skip
            by_cases h3 : -3 * x3 ≤ x1
            · skip
              by_cases h4 : x1 ≤ 3 * x3
              · skip
                have HS := Lib.hid (HY.out h0 h1 h2 h3 h4)
                go_wp2_with fail
                go_ret
                exact ⟨by rw [HS.out]; rfl, HL.out⟩
              · have HS := Lib.hid (HN.out (by omega))
                go_wp2_with fail
                go_ret
                exact ⟨by rw [HS.out]; rfl, HL.out⟩
            · have HS := Lib.hid (HN.out (by omega))
              go_wp2_with fail
              go_ret
              exact ⟨by rw [HS.out]; rfl, HL.out⟩
          · have HS := Lib.hid (HN.out (by omega))
            go_wp2_with fail
            go_ret
            exact ⟨by rw [HS.out]; rfl, HL.out⟩
        · have HS := Lib.hid (HN.out (by omega))
          go_wp2_with fail
          go_ret
          exact ⟨by rw [HS.out]; rfl, HL.out⟩
      · have HS := Lib.hid (HN.out (by omega))
        go_wp2_with fail
        go_ret
        exact ⟨by rw [HS.out]; rfl, HL.out⟩
end Go.Proofs.Ytgkglkoipocgaaa.Fx
namespace Go.Proofs.Ytgkglkoipocgaaa.Fx
open Go Go.RowKit Wm
theorem vec_info10 {l : List Int} (h : l.length = 4) : (Try.prog.info? 23).map (·.size) = some (mC l).size := by rw [mC_size, h]; kernel_rfl
theorem corner_info {l : List Int} (h : l.length = 3) : (Try.prog.info? 26).map (·.size) = some (mC l).size := by rw [mC_size, h]; kernel_rfl
structure Cp (v : List Int) (w W : World) : Prop where
  rv : RowAt 23 w.heap.size (mC v) W
  rr : RowAt 26 (w.heap.size + 1) #[.int .i64 0, .int .i64 0, .int .i64 0] W
  bel : Below w.heap.size w W
theorem Cp.up {v : List Int} {w W X : World} (h : Cp v w W) (hb : Below W.heap.size W X) : Cp v w X := ⟨h.rv.below hb, h.rr.below hb, bnext h.bel hb⟩
theorem Cp.new (v : List Int) (w : World) : Cp v w ((w.alloc (.cells (mC v) 23)).alloc (.cells #[.int .i64 0, .int .i64 0, .int .i64 0] 26)) := ⟨RowAt.alloc (RowAt.new _ _ _) _, heap_alloc2_new _ _ _, by go_grown⟩
/-- .. and the corner that is made -/
structure Cn (v : List Int) (x y z : Int) (g : Nat) (w W : World) : Prop where
  rv : RowAt 23 w.heap.size (mC v) W
  rr : RowAt 26 (w.heap.size + 1) #[.int .i64 0, .int .i64 0, .int .i64 0] W
  rc : RowAt 26 g #[.int .i64 x, .int .i64 y, .int .i64 z] W
  bel : Below w.heap.size w W
  lt : w.heap.size + 1 < g
theorem Cn.up {v : List Int} {x y z : Int} {g : Nat} {w W X : World} (h : Cn v x y z g w W) (hb : Below W.heap.size W X) : Cn v x y z g w X := ⟨h.rv.below hb, h.rr.below hb, h.rc.below hb, bnext h.bel hb, h.lt⟩
theorem cell_else {t : TypeId} {g k j : Nat} {cs : Array Value} {W : World} (h : RowAt t g cs W) (hk : g ≠ k) (v : Value) : RowAt t g cs (W.setCell ⟨k, j, none⟩ v) := by
  unfold RowAt
  rw [heap_setCell_other _ _ _ _ (by show _ ≠ _; omega)]
  exact h
theorem Cn.put0 {v : List Int} {x y z q : Int} {g : Nat} {w W : World} (h : Cn v x y z g w W) : Cn v q y z g w (W.setCell ⟨g, 0, none⟩ (.int .i64 q)) := by
  have hB := h.lt
  exact ⟨cell_else h.rv (by omega) _, cell_else h.rr (by omega) _, heap_setCell_same _ _ 0 _ _ _ h.rc, h.bel.setCell (p := ⟨g, 0, none⟩) (by show _ ≤ g; omega) _, hB⟩
theorem Cn.put1 {v : List Int} {x y z q : Int} {g : Nat} {w W : World} (h : Cn v x y z g w W) : Cn v x q z g w (W.setCell ⟨g, 1, none⟩ (.int .i64 q)) := by
  have hB := h.lt
  exact ⟨cell_else h.rv (by omega) _, cell_else h.rr (by omega) _, heap_setCell_same _ _ 1 _ _ _ h.rc, h.bel.setCell (p := ⟨g, 1, none⟩) (by show _ ≤ g; omega) _, hB⟩
theorem Cn.put2 {v : List Int} {x y z q : Int} {g : Nat} {w W : World} (h : Cn v x y z g w W) : Cn v x y q g w (W.setCell ⟨g, 2, none⟩ (.int .i64 q)) := by
  have hB := h.lt
  exact ⟨cell_else h.rv (by omega) _, cell_else h.rr (by omega) _, heap_setCell_same _ _ 2 _ _ _ h.rc, h.bel.setCell (p := ⟨g, 2, none⟩) (by show _ ≤ g; omega) _, hB⟩
set_option maxRecDepth 100000 in
set_option maxHeartbeats 4000000 in
theorem zCorner_no (v : List Int) (W H : Int) (s e : Bool) (w : World) (lv : v.length = 4) (cs : Ans 19 #[.int .i64 W, .int .i64 H] (.bool s)) (ce : Ans 29 #[.agg (mC v)] (.bool e)) (h : (s && e) = false) :
    Calls Try.prog 12 #[.agg (mC v), .int .i64 W, .int .i64 H] w fun e w' => e = .returned (.tuple #[.agg #[.int .i64 0, .int .i64 0, .int .i64 0], .int .i64 100]) ∧ Below w.heap.size w w' := by
  have CS := Lib.hid cs
  have CE := Lib.hid ce
  have IV := Lib.hid (vec_info10 lv)
  have I0 := Lib.hid (Cp.new v w)
  clear lv cs ce
  go_enter Try.func12, Try.ntmps12
  go_wp2_with fail
  generalize ((w.alloc (.cells (mC v) 23)).alloc (.cells #[.int .i64 0, .int .i64 0, .int .i64 0] 26)) = V at I0 ⊢
  refine (CS.out _).mono ?_
  rintro e w1 ⟨rfl, hb1⟩
  have I1 := Lib.hid (I0.out.up hb1)
  clear hb1 I0 CS
  go_wp2_with (refine wpList_load_row rfl 23 (.tmp 3) rfl w.heap.size rfl _ _ _ _ I1.out.rv Try.underlying23 rfl IV.out ?_)
  refine (CE.out _).mono ?_
  rintro e w2 ⟨rfl, hb2⟩
  have I2 := Lib.hid (I1.out.up hb2)
  clear hb2 I1 CE
  have fin : ∀ X, Cp v w X → True := fun _ _ => trivial
  clear fin
  cases s <;> cases e <;> (try (exfalso; revert h; decide))
  all_goals
    clear h
    go_wp2_with (refine wpList_store_big rfl 26 (.tmp 6) (.tmp 23) rfl (w.heap.size + 1) _ _ #[.int .i64 0, .int .i64 0, .int .i64 0] rfl rfl I2.out.rr (by kernel_rfl) rfl (by kernel_rfl) ?_)
    (try simp only [Exit.inBlock, Exit.then])
    exact bodyPost_ret (v := .tuple #[.agg #[.int .i64 0, .int .i64 0, .int .i64 0], .int .i64 100]) (results_row_tmp rfl _ _ (w.heap.size + 1) _ #[.int .i64 0, .int .i64 0, .int .i64 0] _ _ (.int .i64 100) rfl (I2.out.rr.row _) Try.underlying26 rfl (by kernel_rfl) rfl) rfl ⟨rfl, Below.row I2.out.bel (by omega) _⟩
set_option maxRecDepth 100000 in
set_option maxHeartbeats 8000000 in
theorem zCorner_yes (v : List Int) (W H x0 x1 x2 x3 qx qy qz qc : Int) (w : World) (lv : v.length = 4) (cs : Ans 19 #[.int .i64 W, .int .i64 H] (.bool true)) (ce : Ans 29 #[.agg (mC v)] (.bool true))
    (e0 : nv v 0 = x0) (e1 : nv v 1 = x1) (e2 : nv v 2 = x2) (e3 : nv v 3 = x3) (b0 : -9223372036854775808 ≤ x0 + x3 ∧ x0 + x3 ≤ 9223372036854775807) (b1 : -9223372036854775808 ≤ x3 - x1 ∧ x3 - x1 ≤ 9223372036854775807) (bW : -9223372036854775808 ≤ 8 * W ∧ 8 * W ≤ 9223372036854775807) (bH : -9223372036854775808 ≤ 8 * H ∧ 8 * H ≤ 9223372036854775807)
    (cx : Ans 30 #[.int .i64 (x0 + x3), .int .i64 (8 * W), .int .i64 x3] (.int .i64 qx)) (cy : Ans 30 #[.int .i64 (x3 - x1), .int .i64 (8 * H), .int .i64 x3] (.int .i64 qy)) (cz : Ans 30 #[.int .i64 x2, .int .i64 16777215, .int .i64 x3] (.int .i64 qz)) (hqc : cutZ qz = qc) :
    Calls Try.prog 12 #[.agg (mC v), .int .i64 W, .int .i64 H] w fun e w' => e = .returned (.tuple #[.agg #[.int .i64 qx, .int .i64 qy, .int .i64 qc], .int .i64 0]) ∧ Below w.heap.size w w' := by
  have CS := Lib.hid cs
  have CE := Lib.hid ce
  have CX := Lib.hid cx
  have CY := Lib.hid cy
  have CZ := Lib.hid cz
  have IV := Lib.hid (vec_info10 lv)
  have I0 := Lib.hid (Cp.new v w)
  have HC0 : Hid (∀ X, RowAt 23 w.heap.size (mC v) X → X.cell? ⟨w.heap.size, 0, none⟩ = some (.int .i64 x0)) := Lib.hid fun X h => by rw [h.cell, mC_cell (by omega), ← e0]; rfl
  have HC1 : Hid (∀ X, RowAt 23 w.heap.size (mC v) X → X.cell? ⟨w.heap.size, 1, none⟩ = some (.int .i64 x1)) := Lib.hid fun X h => by rw [h.cell, mC_cell (by omega), ← e1]; rfl
  have HC2 : Hid (∀ X, RowAt 23 w.heap.size (mC v) X → X.cell? ⟨w.heap.size, 2, none⟩ = some (.int .i64 x2)) := Lib.hid fun X h => by rw [h.cell, mC_cell (by omega), ← e2]; rfl
  have HC3 : Hid (∀ X, RowAt 23 w.heap.size (mC v) X → X.cell? ⟨w.heap.size, 3, none⟩ = some (.int .i64 x3)) := Lib.hid fun X h => by rw [h.cell, mC_cell (by omega), ← e3]; rfl
  have HQ := Lib.hid hqc
  clear lv cs ce cx cy cz hqc e0 e1 e2 e3
  go_enter Try.func12, Try.ntmps12
  go_wp2_with fail
  generalize ((w.alloc (.cells (mC v) 23)).alloc (.cells #[.int .i64 0, .int .i64 0, .int .i64 0] 26)) = V at I0 ⊢
  refine (CS.out _).mono ?_
  rintro e w1 ⟨rfl, hb1⟩
  have I1 := Lib.hid (I0.out.up hb1)
  clear hb1 I0 CS
  go_wp2_with (refine wpList_load_row rfl 23 (.tmp 3) rfl w.heap.size rfl _ _ _ _ I1.out.rv Try.underlying23 rfl IV.out ?_)
  refine (CE.out _).mono ?_
  rintro e w2 ⟨rfl, hb2⟩
  have I2 := Lib.hid (I1.out.up hb2)
  clear hb2 I1 CE
  have R2 : Hid (RowAt 26 w2.heap.size #[.int .i64 0, .int .i64 0, .int .i64 0] (w2.alloc (.cells #[.int .i64 0, .int .i64 0, .int .i64 0] 26))) := Lib.hid (RowAt.new _ _ _)
  obtain ⟨w3, hw3⟩ : ∃ X, (w2.alloc (.cells #[.int .i64 0, .int .i64 0, .int .i64 0] 26)).setRow w2.heap.size #[.int .i64 0, .int .i64 0, .int .i64 0] = X := ⟨_, rfl⟩
  obtain ⟨g, hg⟩ : ∃ g, w2.heap.size = g := ⟨_, rfl⟩
  have b3 : Below w2.heap.size w2 w3 := by rw [← hw3]; exact Below.row ((Below.refl _ _).alloc (Nat.le_refl _) _) (Nat.le_refl _) _
  have I3 : Hid (Cn v 0 0 0 g w w3) := Lib.hid ⟨I2.out.rv.below b3, I2.out.rr.below b3, by rw [← hw3, ← hg]; exact R2.out.row _, bnext I2.out.bel b3, by rw [← hg]; exact I2.out.rr.lt⟩
  have HW3 := Lib.hid hw3
  have HG := Lib.hid hg
  clear I2 hw3 hg b3
  have c0 := HC0.out _ I3.out.rv
  have c3 := HC3.out _ I3.out.rv
  go_wp2_with (first | (rw [HW3.out, HG.out]) | (rw [HW3.out]) | (refine wpList_store_big rfl 26 (.tmp 10) (.tmp 24) rfl w2.heap.size _ _ #[.int .i64 0, .int .i64 0, .int .i64 0] rfl rfl R2.out (by kernel_rfl) rfl (by kernel_rfl) ?_))
  refine (CX.out _).mono ?_
  rintro e w4 ⟨rfl, hb4⟩
  have I4 := Lib.hid (I3.out.up hb4)
  clear hb4 I3 CX c0 c3 HW3 HG R2
  obtain ⟨w5, hw5⟩ : ∃ X, w4.setCell ⟨g, 0, none⟩ (.int .i64 qx) = X := ⟨_, rfl⟩
  have I5 : Hid (Cn v qx 0 0 g w w5) := Lib.hid (by rw [← hw5]; exact I4.out.put0)
  have HW5 := Lib.hid hw5
  have k4 : w4.cell? ⟨g, 0, none⟩ = some (.int .i64 0) := by rw [I4.out.rc.cell]; rfl
  have f4 : w4.frozen? ⟨g, 0, none⟩ = false := I4.out.rc.free
  have c1 := HC1.out _ I5.out.rv
  have c3 := HC3.out _ I5.out.rv
  clear hw5
  go_wp2_with (rw [HW5.out])
  refine (CY.out _).mono ?_
  rintro e w6 ⟨rfl, hb6⟩
  have I6 := Lib.hid (I5.out.up hb6)
  clear hb6 I5 CY c1 c3 HW5 k4 f4 I4
  obtain ⟨w7, hw7⟩ : ∃ X, w6.setCell ⟨g, 1, none⟩ (.int .i64 qy) = X := ⟨_, rfl⟩
  have I7 : Hid (Cn v qx qy 0 g w w7) := Lib.hid (by rw [← hw7]; exact I6.out.put1)
  have HW7 := Lib.hid hw7
  have k6 : w6.cell? ⟨g, 1, none⟩ = some (.int .i64 0) := by rw [I6.out.rc.cell]; rfl
  have f6 : w6.frozen? ⟨g, 1, none⟩ = false := I6.out.rc.free
  have c2 := HC2.out _ I7.out.rv
  have c3 := HC3.out _ I7.out.rv
  clear hw7
  go_wp2_with (rw [HW7.out])
  refine (CZ.out _).mono ?_
  rintro e w8 ⟨rfl, hb8⟩
  have I8 := Lib.hid (I7.out.up hb8)
  clear hb8 I7 CZ c2 c3 HW7 k6 f6 I6
  have k8 : w8.cell? ⟨g, 2, none⟩ = some (.int .i64 0) := by rw [I8.out.rc.cell]; rfl
  have f8 : w8.frozen? ⟨g, 2, none⟩ = false := I8.out.rc.free
  by_cases h1 : 0 < qz
  · by_cases h2 : qz < 16777215
    · obtain rfl : qz = qc := by rw [← HQ.out]; unfold cutZ; rw [if_neg (by omega), if_neg (by omega)]
      obtain ⟨w9, hw9⟩ : ∃ X, w8.setCell ⟨g, 2, none⟩ (.int .i64 qz) = X := ⟨_, rfl⟩
      have I9 : Hid (Cn v qx qy qz g w w9) := Lib.hid (by rw [← hw9]; exact I8.out.put2)
      have HW9 := Lib.hid hw9
      clear hw9 HQ
      go_wp2_with (first | (refine wpList_load_row rfl 26 (.tmp 10) rfl g rfl _ _ _ _ I9.out.rc Try.underlying26 rfl (by kernel_rfl) ?_) | (refine wpList_store_big rfl 26 (.tmp 6) (.tmp 63) rfl (w.heap.size + 1) _ _ _ rfl rfl I9.out.rr (by kernel_rfl) rfl (by kernel_rfl) ?_) | (rw [HW9.out]))
      (try simp only [Exit.inBlock, Exit.then])
      exact bodyPost_ret (v := .tuple #[.agg _, .int .i64 0]) (results_row_tmp rfl _ _ (w.heap.size + 1) _ _ _ _ (.int .i64 0) rfl (I9.out.rr.row _) Try.underlying26 rfl (by kernel_rfl) rfl) rfl ⟨rfl, Below.row I9.out.bel (by omega) _⟩
    · obtain rfl : 16777215 = qc := by rw [← HQ.out]; unfold cutZ; rw [if_neg (by omega), if_pos (by omega)]
      obtain ⟨w9, hw9⟩ : ∃ X, w8.setCell ⟨g, 2, none⟩ (.int .i64 16777215) = X := ⟨_, rfl⟩
      have I9 : Hid (Cn v qx qy 16777215 g w w9) := Lib.hid (by rw [← hw9]; exact I8.out.put2)
      have HW9 := Lib.hid hw9
      clear hw9 HQ
      go_wp2_with (first | (refine wpList_load_row rfl 26 (.tmp 10) rfl g rfl _ _ _ _ I9.out.rc Try.underlying26 rfl (by kernel_rfl) ?_) | (refine wpList_store_big rfl 26 (.tmp 6) (.tmp 63) rfl (w.heap.size + 1) _ _ _ rfl rfl I9.out.rr (by kernel_rfl) rfl (by kernel_rfl) ?_) | (rw [HW9.out]))
      (try simp only [Exit.inBlock, Exit.then])
      exact bodyPost_ret (v := .tuple #[.agg _, .int .i64 0]) (results_row_tmp rfl _ _ (w.heap.size + 1) _ _ _ _ (.int .i64 0) rfl (I9.out.rr.row _) Try.underlying26 rfl (by kernel_rfl) rfl) rfl ⟨rfl, Below.row I9.out.bel (by omega) _⟩
  · obtain rfl : 0 = qc := by rw [← HQ.out]; unfold cutZ; rw [if_pos (by omega)]
    have I9 := Lib.hid I8.out
    clear HQ
    go_wp2_with (first | (refine wpList_load_row rfl 26 (.tmp 10) rfl g rfl _ _ _ _ I9.out.rc Try.underlying26 rfl (by kernel_rfl) ?_) | (refine wpList_store_big rfl 26 (.tmp 6) (.tmp 63) rfl (w.heap.size + 1) _ _ _ rfl rfl I9.out.rr (by kernel_rfl) rfl (by kernel_rfl) ?_))
    (try simp only [Exit.inBlock, Exit.then])
    exact bodyPost_ret (v := .tuple #[.agg _, .int .i64 0]) (results_row_tmp rfl _ _ (w.heap.size + 1) _ _ _ _ (.int .i64 0) rfl (I9.out.rr.row _) Try.underlying26 rfl (by kernel_rfl) rfl) rfl ⟨rfl, Below.row I9.out.bel (by omega) _⟩
theorem zCorner_any (v : List Int) (W H : Int) (w : World) (hv : VecWf v) :
    Calls Try.prog 12 #[.agg (mC v), .int .i64 W, .int .i64 H] w fun e w' => e = .returned (.tuple #[.agg (mC (cornV v W H)), .int .i64 (cornE v W H)]) ∧ Below w.heap.size w w' := by
  have cs : Ans 19 #[.int .i64 W, .int .i64 H] (.bool (sizeK W H)) := fun w => zsize_any10 W H w
  have ce : Ans 29 #[.agg (mC v)] (.bool (seenK v)) := fun w => zseen_any10 v w hv
  by_cases hk : sizeK W H = true ∧ seenK v = true
  · have e1 : cornV v W H = cornK v W H := by unfold cornV cornO; rw [if_pos hk]; rfl
    have e2 : cornE v W H = 0 := by unfold cornE cornO; rw [if_pos hk]; rfl
    rw [e1, e2]
    obtain ⟨h1, h2⟩ := (size_iff W H).1 hk.1
    obtain ⟨hm, h3, h4, h5⟩ := (seen_iff v).1 hk.2
    have bb := may_nums hm
    obtain ⟨b0, b1, b2, b3⟩ := bb
    rw [hk.1] at cs
    rw [hk.2] at ce
    have nx := corn_num (x := nv v 0) (w := nv v 3) (by omega) (by omega) h4 h1
    have ny := corn_num (x := -(nv v 1)) (w := nv v 3) (by omega) (by omega) (by omega) h2
    have nz := quot_num (z := nv v 2) h3 b2
    rw [← cornY_X] at ny
    exact zCorner_yes v W H _ _ _ _ _ _ _ _ w hv.len cs ce rfl rfl rfl rfl (by omega) (by omega) (by omega) (by omega)
      (fun w => zdown_any10 _ _ _ (cornX (nv v 0) (nv v 3) W) w (by omega) (by omega) (by omega) rfl (by omega))
      (fun w => zdown_any10 _ _ _ (cornY (nv v 1) (nv v 3) H) w (by omega) (by omega) (by omega) rfl (by omega))
      (fun w => zdown_any10 _ _ _ (quotZ (nv v 2) (nv v 3)) w (by omega) (by omega) (by omega) rfl (by omega)) rfl
  · have e1 : cornV v W H = [0, 0, 0] := by unfold cornV cornO; rw [if_neg hk]; rfl
    have e2 : cornE v W H = 100 := by unfold cornE cornO; rw [if_neg hk]; rfl
    rw [e1, e2]
    exact zCorner_no v W H _ _ w hv.len cs ce (by
      cases h1 : sizeK W H <;> cases h2 : seenK v <;> first | rfl | exact absurd ⟨h1, h2⟩ hk)
end Go.Proofs.Ytgkglkoipocgaaa.Fx
namespace Go.Proofs.Ytgkglkoipocgaaa.Fx
open Go Go.RowKit Go.Shelf Wm
theorem exec_mid3 {P : Program} {o : Oper} {a : Act} {w : World} (ty : TypeId) (x : Operand) (ho : o.op = .load ty x)
    (b off : Nat) (hx : a.eval x = .pointer (some ⟨b, off, none⟩)) (cs : List Value) (d : TypeDesc) (hc : w.rangeAt b off cs)
    (hu : P.underlying ty = some d) (hd : d.isRow = true) (hi : (P.info? ty).map (·.size) = some cs.length) :
    (execOp a.eval o).run P w = .ok (.value (.agg cs.toArray)) w := by
  unfold execOp
  simp only [ho, hx, Instr.loadAt, Instr.sureAddr, Sem.run_bind, Sem.run_pure, Result.andThen_ok, run_loadVar_mid w b off ty cs d hc hu hd hi]
theorem infoG3 : InfoG 26 3 24 := InfoG.of (by omega) (by omega) (by kernel_rfl)
def CrnsAt (W : World) (o : Option Addr) (l : List (List Int)) : Prop := ListAt (fun b j v => W.rangeAt b j (v.map encI) ∧ v.length = 3) 3 o l
theorem CrnsAt.below {w W : World} {o : Option Addr} {l : List (List Int)} (hb : Below w.heap.size w W) (h : CrnsAt w o l) : CrnsAt W o l := fun k z hk => by
  obtain ⟨b, off, e, h1, h2⟩ := h k z hk
  exact ⟨b, off, e, range_below hb h1, h2⟩
theorem LiesG.crns {W : World} {B : Nat} {o : Option Addr} {l : List (List Int)} (s : LiesG 26 3 (fun x => x.map encI) W B o l) (hw : ∀ x ∈ l, x.length = 3) : CrnsAt W o l := fun k z hk => by
  obtain ⟨g, cur, e, _, _, _, h⟩ := s.at_ k z hk
  exact ⟨g, 0, e, h, hw z (List.mem_of_getElem? hk)⟩
theorem crn_len {l : List (List Int)} (h : ∀ x ∈ l, x.length = 3) : ∀ x ∈ l, (x.map encI).length = 3 := fun x hx => by rw [List.length_map]; exact h x hx
abbrev OwnC (W : World) (B : Nat) (v : Value) (l : List (List Int)) : Prop := OwnG 26 3 (fun x => List.map encI x) W B v l
theorem OwnC.form {W : World} {B : Nat} {v : Value} {l : List (List Int)} (s : OwnC W B v l) (hl : ∀ x ∈ l, x.length = 3) : ∃ o cap, v = .slice o l.length cap ∧ CapOk o l.length cap ∧ CrnsAt W o l := by
  obtain ⟨o, cap, e, hc, h⟩ := OwnG.form s (crn_len hl)
  exact ⟨o, cap, e, hc, h.crns hl⟩
theorem CrnsAt.get {W : World} {o : Option Addr} {l : List (List Int)} (h : CrnsAt W o l) {k : Nat} (hk : k < l.length) : ∃ b off, o = some ⟨b, off, none⟩ ∧ W.rangeAt b (off + k * 3) ((l.getD k []).map encI) ∧ (l.getD k []).length = 3 := by
  have e : l[k]? = some (l.getD k []) := by rw [List.getD_eq_getElem?_getD, List.getElem?_eq_getElem hk]; rfl
  obtain ⟨b, off, e1, h1, h2⟩ := h k _ e
  exact ⟨b, off, e1, h1, h2⟩
theorem crnL {v : List Int} (hv : v.length = 3) : (Try.prog.info? 26).map (·.size) = some (v.map encI).length := by
  rw [List.length_map, hv]
  kernel_rfl
theorem list3 {x : List Int} (h : x.length = 3) : ∃ a b c, x = [a, b, c] := by
  match x, h with
  | [a, b, c], _ => exact ⟨a, b, c, rfl⟩
set_option maxRecDepth 100000 in
theorem eqIn_crn (w : World) (x y : List Int) (hx : x.length = 3) (hy : y.length = 3) : (Op.equalIn 10000 26 (.agg (mC x)) (.agg (mC y))).run Try.prog w = .ok (x == y) w := by
  obtain ⟨a, b, c, rfl⟩ := list3 hx
  obtain ⟨a', b', c', rfl⟩ := list3 hy
  have h : ((Op.equalIn 10000 26 (.agg #[.int .i64 a, .int .i64 b, .int .i64 c]) (.agg #[.int .i64 a', .int .i64 b', .int .i64 c'])).run Try.prog w) = .ok (a == a' && (b == b' && c == c')) w := by
    go_simp
    by_cases h1 : a = a' <;> by_cases h2 : b = b' <;> by_cases h3 : c = c' <;> simp [h1, h2, h3]
  show ((Op.equalIn 10000 26 (.agg #[.int .i64 a, .int .i64 b, .int .i64 c]) (.agg #[.int .i64 a', .int .i64 b', .int .i64 c'])).run Try.prog w) = _
  rw [h]
  congr 1
  by_cases h1 : a = a' <;> by_cases h2 : b = b' <;> by_cases h3 : c = c' <;> simp [h1, h2, h3]
theorem exec_bin10 {o : Oper} {a : Act} {w : World} (x y : Operand) (ho : o.op = .binOp .neq 26 x y 26) (vx vy : Value) (b : Bool) (hx : a.eval x = vx) (hy : a.eval y = vy) (hg : (eqGuard .neq 26 x y vx vy).run Try.prog w = .ok () w) (h : (binOp .neq 26 vx vy).run Try.prog w = .ok (.bool b) w) :
    (execOp a.eval o).run Try.prog w = .ok (.value (.bool b)) w := by
  unfold execOp
  simp only [ho, hx, hy, Sem.run_bind, hg, h, Result.andThen_ok, Sem.run_pure]
theorem same_no10 {l m : List (List Int)} {k : Nat} (h : ¬ l.getD k [] = m.getD k []) : ¬ l = m := fun e => h (by rw [e])
theorem same_yes10 {l m : List (List Int)} {n : Nat} (hl : l.length = n) (hm : m.length = n) (h : ∀ j, j < n → l.getD j [] = m.getD j []) : l = m := by
  refine List.ext_getElem (by omega) fun i h1 h2 => ?_
  have := h i (by omega)
  rw [List.getD_eq_getElem?_getD, List.getD_eq_getElem?_getD, List.getElem?_eq_getElem h1, List.getElem?_eq_getElem h2] at this
  simpa using this
def SmRel10 (l m : List (List Int)) (w : World) (n g : Nat) (s5 : Value) (W : World) : Prop := ∃ k, g = n - k ∧ s5 = .int .i64 (k : Int) ∧ k ≤ n ∧ (∀ j, j < k → l.getD j [] = m.getD j []) ∧ Below w.heap.size w W
set_option maxRecDepth 100000 in
set_option maxHeartbeats 4000000 in
theorem zsame10_any (l m : List (List Int)) (o p : Option Addr) (c d : Nat) (w : World) (hl : CrnsAt w o l) (hm : CrnsAt w p m) (cl : l.length ≤ 9223372036854775807) (cm : m.length ≤ 9223372036854775807) :
    Calls Try.prog 18 #[.slice o l.length c, .slice p m.length d] w (RetBool (decide (l = m)) w) := by
  by_cases hn : l.length = m.length
  · obtain ⟨n, hn2⟩ : ∃ n, m.length = n := ⟨_, rfl⟩
    have HLN := Lib.hid (hn.trans hn2)
    have HMN := Lib.hid hn2
    rw [hn.trans hn2] at cl ⊢
    rw [hn2]
    have HL := Lib.hid hl
    have HM := Lib.hid hm
    have n0 : (0 : Int) ≤ (n : Int) := by omega
    have n1 : (n : Int) ≤ 9223372036854775807 := by omega
    clear hl hm cl cm hn hn2
    go_enter Try.func18, Try.ntmps18
    go_wp2_with fail
    go_loopg [5] n (SmRel10 l m w n)
    case atStart => exact ⟨0, rfl, rfl, by omega, fun j hj => absurd hj (by omega), Below.refl _ _⟩
    case round =>
      obtain ⟨k, hg, rfl, hk, hs, hbl⟩ := hrel
      subst hg
      have HS := Lib.hid hs
      have HB := Lib.hid hbl
      have k0 : (0 : Int) ≤ (k : Int) := by omega
      clear hs
      by_cases hkn : k < n
      · have t1 : (k : Int) < (n : Int) := by omega
        obtain ⟨b1, off1, e1, hr1, hw1⟩ := (HL.out.below hbl).get (k := k) (by rw [HLN.out]; exact hkn)
        obtain ⟨b2, off2, e2, hr2, hw2⟩ := (HM.out.below hbl).get (k := k) (by rw [HMN.out]; exact hkn)
        subst e1 e2
        obtain ⟨x, hx⟩ : ∃ x, l.getD k [] = x := ⟨_, rfl⟩
        obtain ⟨y, hy⟩ : ∃ y, m.getD k [] = y := ⟨_, rfl⟩
        rw [hx] at hr1 hw1
        rw [hy] at hr2 hw2
        have HX := Lib.hid hx
        have HY := Lib.hid hy
        have R1 := Lib.hid hr1
        have R2 := Lib.hid hr2
        have I1 := Lib.hid (crnL hw1)
        have I2 := Lib.hid (crnL hw2)
        obtain ⟨q, hq⟩ : ∃ q, (x == y) = q := ⟨_, rfl⟩
        have HNE : Hid (∀ w, (binOp .neq 26 (.agg (x.map encI).toArray) (.agg (y.map encI).toArray)).run Try.prog w = .ok (.bool (!q)) w) := Lib.hid (fun w => by
          have h := eqIn_crn w x y hw1 hw2
          unfold mC at h
          rw [run_neq_struct, h, hq]
          rfl)
        have HQ := Lib.hid hq
        clear hq
        clear hx hy hr1 hr2 hw1 hw2 hbl
        go_wp2_with fail
        rename_i K5 hK5
        refine (wpIn_wide (n := 5)).1 (give_region (S := fun X => Below wr.heap.size wr X) (Z := []) (by kernel_rfl) (by kernel_rfl) below_mono (fun d _ _ _ _ h => by cases d <;> exact h) (bdrew0 _ _ 1) (fun hG vw0 hw0 => ?_))
        refine grow_pure [] 0 (?_) hG rfl (by kernel_rfl) hw0 (by kernel_rfl) ?_ ?_
        rotate_left
        · intro wz hSw; (first | (go_simp; done) | (go_simp; with_reducible rfl))
        intro vw1 hw1 hbn
        clear hbn hw0 vw0
        (try simp only [Act.put, List.getElem_toArray, List.getElem_cons_zero, List.getElem_cons_succ, List.setIfInBounds_toArray, List.set_cons_zero, List.set_cons_succ])
        refine grow_pure [] 1 (?_) hG rfl (by kernel_rfl) hw1 (by kernel_rfl) ?_ ?_
        rotate_left
        · intro wz hSw; (first | (go_simp; done) | (go_simp; with_reducible rfl))
        intro vw2 hw2 hbn
        clear hbn hw1 vw1
        (try simp only [Act.put, List.getElem_toArray, List.getElem_cons_zero, List.getElem_cons_succ, List.setIfInBounds_toArray, List.set_cons_zero, List.set_cons_succ])
        refine grow_pure [] 2 (.pointer (some ⟨b1, off1 + k * 3, none⟩)) hG rfl (by kernel_rfl) hw2 (by kernel_rfl) ?_ ?_
        · intro wz hSw; (first | (go_simp; done) | (go_simp; with_reducible rfl))
        intro vw3 hw3 hbn
        clear hbn hw2 vw2
        (try simp only [Act.put, List.getElem_toArray, List.getElem_cons_zero, List.getElem_cons_succ, List.setIfInBounds_toArray, List.set_cons_zero, List.set_cons_succ])
        refine grow_pure [] 3 (.agg (x.map encI).toArray) hG rfl (by kernel_rfl) hw3 (by kernel_rfl) ?_ ?_
        · intro wz hSw; exact exec_mid3 26 (.tmp 19) (by kernel_rfl) b1 (off1 + k * 3) (by kernel_rfl) _ _ (range_below hSw R1.out) Try.underlying26 (by kernel_rfl) I1.out
        intro vw4 hw4 hbn
        clear hbn hw3 vw3
        (try simp only [Act.put, List.getElem_toArray, List.getElem_cons_zero, List.getElem_cons_succ, List.setIfInBounds_toArray, List.set_cons_zero, List.set_cons_succ])
        refine grow_pure [] 4 (?_) hG rfl (by kernel_rfl) hw4 (by kernel_rfl) ?_ ?_
        rotate_left
        · intro wz hSw; (first | (go_simp; done) | (go_simp; with_reducible rfl))
        intro vw5 hw5 hbn
        clear hbn hw4 vw4
        (try simp only [Act.put, List.getElem_toArray, List.getElem_cons_zero, List.getElem_cons_succ, List.setIfInBounds_toArray, List.set_cons_zero, List.set_cons_succ])
        refine grow_pure [] 5 (?_) hG rfl (by kernel_rfl) hw5 (by kernel_rfl) ?_ ?_
        rotate_left
        · intro wz hSw; (first | (go_simp; done) | (go_simp; with_reducible rfl))
        intro vw6 hw6 hbn
        clear hbn hw5 vw5
        (try simp only [Act.put, List.getElem_toArray, List.getElem_cons_zero, List.getElem_cons_succ, List.setIfInBounds_toArray, List.set_cons_zero, List.set_cons_succ])
        refine grow_pure [] 6 (.pointer (some ⟨b2, off2 + k * 3, none⟩)) hG rfl (by kernel_rfl) hw6 (by kernel_rfl) ?_ ?_
        · intro wz hSw; (first | (go_simp; done) | (go_simp; with_reducible rfl))
        intro vw7 hw7 hbn
        clear hbn hw6 vw6
        (try simp only [Act.put, List.getElem_toArray, List.getElem_cons_zero, List.getElem_cons_succ, List.setIfInBounds_toArray, List.set_cons_zero, List.set_cons_succ])
        refine grow_pure [] 7 (.agg (y.map encI).toArray) hG rfl (by kernel_rfl) hw7 (by kernel_rfl) ?_ ?_
        · intro wz hSw; exact exec_mid3 26 (.tmp 23) (by kernel_rfl) b2 (off2 + k * 3) (by kernel_rfl) _ _ (range_below hSw R2.out) Try.underlying26 (by kernel_rfl) I2.out
        intro vw8 hw8 hbn
        clear hbn hw7 vw7
        (try simp only [Act.put, List.getElem_toArray, List.getElem_cons_zero, List.getElem_cons_succ, List.setIfInBounds_toArray, List.set_cons_zero, List.set_cons_succ])
        refine grow_pure [] 8 (.bool (!q)) hG rfl (by kernel_rfl) hw8 (by kernel_rfl) ?_ ?_
        · intro wz hSw; exact exec_bin10 (.tmp 20) (.tmp 24) (by kernel_rfl) _ _ _ (by kernel_rfl) (by kernel_rfl) (by go_simp) (HNE.out wz)
        intro vw9 hw9 hbn
        clear hbn hw8 vw8
        (try simp only [Act.put, List.getElem_toArray, List.getElem_cons_zero, List.getElem_cons_succ, List.setIfInBounds_toArray, List.set_cons_zero, List.set_cons_succ])
        refine give_done (by kernel_rfl) (?_) _
        refine hK5 _ _ ?_
        have HB2 := Lib.hid (bnext HB.out hw9)
        clear hK5 hG R1 R2 HNE I1 I2 hw9
        cases q with
        | true =>
          have HXY : Hid (x = y) := Lib.hid (by simpa using HQ.out)
          go_wp2_with fail
          go_roundg (n - (k + 1))
          case measure => omega
          case rel =>
            refine ⟨k + 1, rfl, by go_num, by omega, fun j hj => ?_, HB2.out⟩
            by_cases hjk : j < k
            · exact HS.out j hjk
            · obtain rfl : j = k := by omega
              rw [HX.out, HY.out]; exact HXY.out
        | false =>
          have HNO : Hid (¬ l = m) := Lib.hid (same_no10 (k := k) (by rw [HX.out, HY.out]; simpa using HQ.out))
          go_wp2_with fail
          go_ret
          exact ⟨by rw [decide_eq_false HNO.out]; rfl, HB2.out⟩
      · obtain rfl : k = n := by omega
        have t1 : ¬ (k : Int) < (k : Int) := by omega
        have HY : Hid (l = m) := Lib.hid (same_yes10 HLN.out HMN.out HS.out)
        clear hbl
        go_wp2_with fail
        go_ret
        exact ⟨by rw [decide_eq_true HY.out]; rfl, HB.out⟩
  · have HNO : Hid (¬ l = m) := Lib.hid (fun e => hn (by rw [e]))
    obtain ⟨n1, h1⟩ : ∃ n, l.length = n := ⟨_, rfl⟩
    obtain ⟨n2, h2⟩ : ∃ n, m.length = n := ⟨_, rfl⟩
    rw [h1, h2] at hn ⊢
    have t0 : ¬ (n1 : Int) = (n2 : Int) := by omega
    have t1 : ((n1 : Int) == (n2 : Int)) = false := by simpa using t0
    have t2 : ((n1 : Int) != (n2 : Int)) = true := by simpa using t0
    clear hl hm cl cm hn h1 h2
    go_enter Try.func18, Try.ntmps18
    go_wp2_with fail
    go_ret
    exact ⟨by rw [decide_eq_false HNO.out]; rfl, Below.refl _ _⟩
end Go.Proofs.Ytgkglkoipocgaaa.Fx
namespace Go.Proofs.Ytgkglkoipocgaaa.Fx
open Go Go.RowKit Wm
theorem stop10 {P : Program} {ops : Array Oper} {rest : List Oper} {op : Oper} {a : Act} {w : World} {Q : Exit → Act → World → Prop} (d : Option Tmp) (h : op.dst = d) (k : Hid (wpList P ops Q (op :: rest) a w)) : wpList P ops Q (op :: rest) a w := k.out
theorem bgrown10 {B : Nat} {W X Y : World} {row : Option Nat} (hB : B ≤ W.heap.size) (hb : Below B W X) (hg : X.grownBy Y row) (hr : ∀ k, row = some k → B ≤ k) : Below B W Y :=
  ⟨hg.os.trans hb.os, hg.tape.trans hb.tape, hg.output.trans hb.output, Nat.le_trans hb.size hg.size, fun k hk => (hg.block k (Nat.lt_of_lt_of_le hk (Nat.le_trans hB hb.size)) (fun e => by have := hr k e.symm; omega)).trans (hb.block k hk)⟩
/-- the corners of the first k -/
def cornN (l : List (List Int)) (W H : Int) (k : Nat) : List (List Int) := (List.range k).map fun i => cornK (l.getD i []) W H
theorem cornN_succ (l : List (List Int)) (W H : Int) (k : Nat) : cornN l W H (k + 1) = cornN l W H k ++ [cornK (l.getD k []) W H] := by
  unfold cornN
  rw [List.range_succ, List.map_append]
  rfl
theorem cornN_len (l : List (List Int)) (W H : Int) (k : Nat) : (cornN l W H k).length = k := by simp [cornN]
theorem cornN_all (l : List (List Int)) (W H : Int) : cornN l W H l.length = l.map fun v => cornK v W H := by
  unfold cornN
  refine List.ext_getElem (by simp) fun i h1 h2 => ?_
  simp at h1
  simp [List.getD_eq_getElem?_getD, List.getElem?_eq_getElem h1]
def RetCs (L : List (List Int)) (er : Int) (w : World) (e : Ending) (w' : World) : Prop := ∃ v, e = .returned (.tuple #[v, .int .i64 er]) ∧ OwnC w' w.heap.size v L ∧ Below w.heap.size w w'
def CsRel (l : List (List Int)) (W H : Int) (w : World) (n g : Nat) (s9 s10 : Value) (X : World) : Prop :=
  ∃ k, g = n - k ∧ s10 = .int .i64 (k : Int) ∧ k ≤ n ∧ (∀ j, j < k → seenK (l.getD j []) = true) ∧ OwnC X w.heap.size s9 (cornN l W H k) ∧ Below w.heap.size w X
set_option maxRecDepth 100000 in
set_option maxHeartbeats 2000000 in
theorem zCorners_no (n c : Nat) (o : Option Addr) (W H : Int) (w : World) (cs : Ans 19 #[.int .i64 W, .int .i64 H] (.bool false)) :
    Calls Try.prog 14 #[.slice o n c, .int .i64 W, .int .i64 H] w (RetCs [] 100 w) := by
  have CS := Lib.hid cs
  clear cs
  go_enter Try.func14, Try.ntmps14
  go_wp2_with fail
  refine (CS.out _).mono ?_
  rintro e w1 ⟨rfl, hb1⟩
  have HB1 := Lib.hid hb1
  clear hb1 CS
  go_wp2_with fail
  go_ret2
  exact ⟨_, rfl, OwnG.nil _ _ _ _ _, HB1.out⟩
set_option maxRecDepth 100000 in
set_option maxHeartbeats 8000000 in
theorem zCorners_yes (l : List (List Int)) (o : Option Addr) (c : Nat) (W H : Int) (w : World) (h : VecsAt w o l) (hlen : l.length ≤ 100) (hs : sizeK W H = true) :
    Calls Try.prog 14 #[.slice o l.length c, .int .i64 W, .int .i64 H] w (RetCs (cornsV l W H) (cornsE l W H) w) := by
  have CS : Hid (Ans 19 #[.int .i64 W, .int .i64 H] (.bool true)) := Lib.hid fun w => by have := zsize_any10 W H w; rw [hs] at this; exact this
  obtain ⟨n, hn⟩ : ∃ n, l.length = n := ⟨_, rfl⟩
  have HN := Lib.hid hn
  have HL := Lib.hid h
  have HSZ := Lib.hid hs
  rw [hn] at hlen ⊢
  have n0 : (0 : Int) ≤ (n : Int) := by omega
  have n1 : (n : Int) ≤ 100 := by omega
  clear hn h hlen hs
  go_enter Try.func14, Try.ntmps14
  go_wp2_with fail
  refine (CS.out _).mono ?_
  rintro e w1 ⟨rfl, hb1⟩
  have HB1 := Lib.hid hb1
  clear hb1 CS
  go_wp2_with fail
  go_loopg [9, 10] n (CsRel l W H w n)
  case atStart => exact ⟨0, rfl, rfl, by omega, fun j hj => absurd hj (by omega), OwnG.nil _ _ _ _ _, HB1.out⟩
  case round =>
    obtain ⟨k, hg, rfl, hk, ha, ho, hbl⟩ := hrel
    subst hg
    have HA := Lib.hid ha
    have HO := Lib.hid ho
    have HB := Lib.hid hbl
    have HLN : Hid ((cornN l W H k).length ≤ 100) := Lib.hid (by rw [cornN_len]; omega)
    have k0 : (0 : Int) ≤ (k : Int) := by omega
    clear ho ha HB1
    by_cases hkn : k < n
    · have t1 : (k : Int) < (n : Int) := by omega
      obtain ⟨b1, off1, e1, hr1, hw1⟩ := (HL.out.below hbl).get (k := k) (by rw [HN.out]; exact hkn)
      subst e1
      obtain ⟨a, hA⟩ : ∃ a, l.getD k [] = a := ⟨_, rfl⟩
      have HE := Lib.hid (cornN_succ l W H k)
      have HAN : Hid (seenK a = true → ∀ j, j < k + 1 → seenK (l.getD j []) = true) := Lib.hid fun hs j hj => by
        by_cases hjk : j < k
        · exact HA.out j hjk
        · obtain rfl : j = k := by omega
          rw [hA]
          exact hs
      have HBAD : Hid (seenK a = false → cornsV l W H = [] ∧ cornsE l W H = 100) := Lib.hid fun hs => by
        have e : cornsB l W H = false := by
          unfold cornsB
          have : l.all seenK = false := by
            rw [List.all_eq_false]
            refine ⟨a, ?_, by rw [hs]; exact Bool.false_ne_true⟩
            have hkl : k < l.length := by rw [HN.out]; exact hkn
            rw [← hA, List.getD_eq_getElem?_getD, List.getElem?_eq_getElem hkl]
            exact List.getElem_mem hkl
          rw [this, Bool.and_false]
        unfold cornsV cornsE
        rw [e]
        exact ⟨rfl, rfl⟩
      rw [hA] at hr1 hw1 HE
      have CC0 : Hid (Ans 12 #[.agg (a.map encI).toArray, .int .i64 W, .int .i64 H] (.tuple #[.agg (mC (cornV a W H)), .int .i64 (cornE a W H)])) := Lib.hid fun w => zCorner_any a W H w hw1
      obtain ⟨la, hla⟩ : ∃ la, a.map encI = la := ⟨_, rfl⟩
      have IA : Hid ((Try.prog.info? 23).map (·.size) = some la.length) := Lib.hid (by rw [← hla, List.length_map, hw1.len]; kernel_rfl)
      have HR1 : Hid (wr.rangeAt b1 (off1 + k * 4) la) := Lib.hid (by rw [← hla]; exact hr1)
      rw [hla] at CC0
      clear hr1 hbl HA hA
      cases hs : seenK a with
      | false =>
        have hk' : ¬ (sizeK W H = true ∧ seenK a = true) := by rw [hs]; simp
        have e1 : cornV a W H = [0, 0, 0] := by unfold cornV cornO; rw [if_neg hk']; rfl
        have e2 : cornE a W H = 100 := by unfold cornE cornO; rw [if_neg hk']; rfl
        have CQ : Hid (Ans 12 #[.agg la.toArray, .int .i64 W, .int .i64 H] (.tuple #[.agg #[.int .i64 0, .int .i64 0, .int .i64 0], .int .i64 100])) := Lib.hid (by have := CC0.out; rw [e1, e2] at this; exact this)
        have HBB := Lib.hid (HBAD.out hs)
        clear CC0 hs hk' e1 e2 hla HAN HBAD hw1
        go_wp2_with (first | (with_reducible refine stop10 (some 28) rfl ?_; refine Lib.hid ?_; refine wpList_load_mid rfl 23 (.tmp 27) rfl b1 (off1 + k * 4) rfl la _ HR1.out Try.underlying23 rfl IA.out ?_))
        refine (CQ.out _).mono ?_
        rintro e w4 ⟨rfl, hb4⟩
        have HB4 := Lib.hid (bnext HB.out hb4)
        have N4 : Hid (RowAt 26 w4.heap.size #[.int .i64 0, .int .i64 0, .int .i64 0] (w4.alloc (.cells #[.int .i64 0, .int .i64 0, .int .i64 0] 26))) := Lib.hid (RowAt.new _ _ _)
        obtain ⟨w5, hw5⟩ : ∃ X, (w4.alloc (.cells #[.int .i64 0, .int .i64 0, .int .i64 0] 26)).setRow w4.heap.size #[.int .i64 0, .int .i64 0, .int .i64 0] = X := ⟨_, rfl⟩
        obtain ⟨gc, hgc⟩ : ∃ g, w4.heap.size = g := ⟨_, rfl⟩
        have HB5 : Hid (Below w.heap.size w w5) := Lib.hid (by rw [← hw5]; exact Below.row (HB4.out.alloc HB4.out.size _) HB4.out.size _)
        have HW5 := Lib.hid hw5
        have HGC := Lib.hid hgc
        clear hb4 CQ hw5 hgc
        go_wp2_with (first | (rw [HW5.out, HGC.out]) | (rw [HW5.out]) | (refine wpList_store_big rfl 26 (.tmp 11) (.tmp 32) rfl w4.heap.size _ _ #[.int .i64 0, .int .i64 0, .int .i64 0] rfl rfl N4.out (by kernel_rfl) rfl (by kernel_rfl) ?_))
        go_ret2
        exact ⟨_, by rw [HBB.out.2]; rfl, by rw [HBB.out.1]; exact OwnG.nil _ _ _ _ _, HB5.out⟩
      | true =>
        have hk' : sizeK W H = true ∧ seenK a = true := ⟨HSZ.out, hs⟩
        have e1 : cornV a W H = cornK a W H := by unfold cornV cornO; rw [if_pos hk']; rfl
        have e2 : cornE a W H = 0 := by unfold cornE cornO; rw [if_pos hk']; rfl
        obtain ⟨cv, hcv⟩ : ∃ cv, cornK a W H = cv := ⟨_, rfl⟩
        obtain ⟨lc, hlc⟩ : ∃ lc, cv.map encI = lc := ⟨_, rfl⟩
        have CQ : Hid (Ans 12 #[.agg la.toArray, .int .i64 W, .int .i64 H] (.tuple #[.agg lc.toArray, .int .i64 0])) := Lib.hid (by have := CC0.out; rw [e1, e2, hcv] at this; unfold mC at this; rw [hlc] at this; exact this)
        have HAN2 := Lib.hid (HAN.out hs)
        rw [hcv] at HE
        have LC3 : Hid (lc.length = 3) := Lib.hid (by rw [← hlc, ← hcv]; rfl)
        have HLC := Lib.hid hlc
        have IC : Hid ((Try.prog.info? 26).map (·.size) = some lc.length) := Lib.hid (by rw [LC3.out]; kernel_rfl)
        have IC2 : Hid ((Try.prog.info? 26).map (·.size) = some lc.toArray.size) := Lib.hid (by have := IC.out; simpa using this)
        have SC : Hid (lc.toArray.size = 3) := Lib.hid (by have := LC3.out; simpa using this)
        have OC : Hid (lc.toArray.all (·.oneCell') = true) := Lib.hid (by rw [← hlc]; exact mC_one _)
        have ZC : Hid ((#[.int .i64 0, .int .i64 0, .int .i64 0] : Array Value).size = lc.toArray.size) := Lib.hid (by rw [SC.out]; rfl)
        clear CC0 hs hk' e1 e2 hla HAN HBAD hw1 hlc hcv
        go_wp2_with (first | (with_reducible refine stop10 (some 28) rfl ?_; refine Lib.hid ?_; refine wpList_load_mid rfl 23 (.tmp 27) rfl b1 (off1 + k * 4) rfl la _ HR1.out Try.underlying23 rfl IA.out ?_))
        refine (CQ.out _).mono ?_
        rintro e w4 ⟨rfl, hb4⟩
        have HB4 := Lib.hid (bnext HB.out hb4)
        have HO4 := Lib.hid (OwnG.below hb4 HO.out)
        have N4 : Hid (RowAt 26 w4.heap.size #[.int .i64 0, .int .i64 0, .int .i64 0] (w4.alloc (.cells #[.int .i64 0, .int .i64 0, .int .i64 0] 26))) := Lib.hid (RowAt.new _ _ _)
        obtain ⟨w5, hw5⟩ : ∃ X, (w4.alloc (.cells #[.int .i64 0, .int .i64 0, .int .i64 0] 26)).setRow w4.heap.size lc.toArray = X := ⟨_, rfl⟩
        obtain ⟨gc, hgc⟩ : ∃ g, w4.heap.size = g := ⟨_, rfl⟩
        have b5 : Below w4.heap.size w4 w5 := by rw [← hw5]; exact Below.row ((Below.refl _ _).alloc (Nat.le_refl _) _) (Nat.le_refl _) _
        have HB5 := Lib.hid (bnext HB4.out b5)
        have HO5 := Lib.hid (OwnG.below b5 HO4.out)
        have RC : Hid (RowAt 26 gc lc.toArray w5) := Lib.hid (by rw [← hw5, ← hgc]; exact N4.out.row _)
        have HW5 := Lib.hid hw5
        have HGC := Lib.hid hgc
        obtain ⟨V9, hV9⟩ : ∃ V, w5.alloc (.cells lc.toArray 26) = V := ⟨_, rfl⟩
        have HV9 := Lib.hid hV9
        have HSX : Hid (w.heap.size ≤ V9.heap.size) := Lib.hid (by rw [← hV9]; have := HB5.out.size; simp; omega)
        have HOX : Hid (OwnC V9 w.heap.size u9 (cornN l W H k)) := Lib.hid (by rw [← hV9]; exact OwnG.below ((Below.refl _ _).alloc (Nat.le_refl _) _) HO5.out)
        have HRN : Hid (V9.heap[w5.heap.size]? = some (.cells (cv.map encI).toArray 26 (0, 0))) := Lib.hid (by rw [← hV9, HLC.out]; exact heap_alloc_new _ _)
        have HB9 : Hid (Below w.heap.size w V9) := Lib.hid (by rw [← hV9]; exact HB5.out.alloc HB5.out.size _)
        have HBK := Lib.hid (OwnG.blk HO5.out)
        clear hb4 CQ hw5 hgc hV9 b5 HO HO4 HB HB4
        go_wp2_with (first | (rw [HW5.out, HGC.out]) | (rw [HW5.out]) | (refine wpList_store_big rfl 26 (.tmp 11) (.tmp 32) rfl (w4.heap.size) _ _ lc.toArray rfl rfl N4.out IC2.out ZC.out OC.out ?_) | (rw [HV9.out]) | (refine wpList_load_row rfl 26 (.tmp 11) rfl (gc) rfl _ lc.toArray _ _ RC.out Try.underlying26 rfl IC2.out ?_) | (with_reducible refine stop10 (some 39) rfl ?_; refine Lib.hid ?_; refine build_one infoG3 (by omega) rfl (.tmp 38) 32 rfl Try.underlying32 lc.toArray rfl SC.out ?_) | (at_builtin; refine app_G infoG3 rfl (.tmp 37) (.tmp 39) 32 rfl Try.underlying32 w.heap.size u9 (cornN l W H k) [cv] rfl HSX.out HOX.out (some ⟨w5.heap.size, 0, none⟩) 1 rfl (fun h => by cases h) (one_src HRN.out) (fun z hz => by simp at hz; subst hz; rw [HLC.out]; exact LC3.out) (fun z _ => enc_one z) (by have := HLN.out; simp; omega) ?_))
        intro v8 w8 ho8 hg8
        refine Lib.hid ?_
        have HBE := Lib.hid (bgrown10 (Nat.le_refl _) HB9.out hg8 HBK.out)
        have HO8 := Lib.hid ho8
        clear ho8 hg8 HOX HRN HV9 HSX HO5 HB5 HB9 HBK HLC
        go_wp2_with fail
        go_roundg (n - (k + 1))
        case measure => omega
        case rel => exact ⟨k + 1, rfl, by go_num, by omega, HAN2.out, by rw [HE.out]; exact HO8.out, HBE.out⟩
    · obtain rfl : k = n := by omega
      have t1 : ¬ (k : Int) < (k : Int) := by omega
      have HE : Hid (cornsV l W H = cornN l W H k ∧ cornsE l W H = 0) := Lib.hid (by
        have e : cornsB l W H = true := by
          unfold cornsB
          rw [HSZ.out, Bool.true_and, List.all_eq_true]
          intro x hx
          obtain ⟨i, hi⟩ := List.getElem?_of_mem hx
          have hil := (List.getElem?_eq_some_iff.1 hi).1
          have := HA.out i (by rw [← HN.out]; exact hil)
          rwa [List.getD_eq_getElem?_getD, hi] at this
        unfold cornsV cornsE
        rw [e, if_pos rfl, if_pos rfl, ← cornN_all, HN.out]
        exact ⟨rfl, rfl⟩)
      clear hbl
      go_wp2_with fail
      go_ret2
      exact ⟨_, by rw [HE.out.2]; rfl, by rw [HE.out.1]; exact HO.out, HB.out⟩
theorem zCorners_any (l : List (List Int)) (o : Option Addr) (c : Nat) (W H : Int) (w : World) (h : VecsAt w o l) (hlen : l.length ≤ 100) :
    Calls Try.prog 14 #[.slice o l.length c, .int .i64 W, .int .i64 H] w (RetCs (cornsV l W H) (cornsE l W H) w) := by
  cases hs : sizeK W H with
  | true => exact zCorners_yes l o c W H w h hlen hs
  | false =>
    have e : cornsB l W H = false := by unfold cornsB; rw [hs]; rfl
    unfold cornsV cornsE
    rw [e]
    exact zCorners_no _ _ _ _ _ _ (fun w => by have := zsize_any10 W H w; rw [hs] at this; exact this)
end Go.Proofs.Ytgkglkoipocgaaa.Fx
namespace Go.Proofs.Ytgkglkoipocgaaa.Fx
open Go Go.RowKit Wm
def PaRel (w : World) (g : Nat) (s10 : Value) (W : World) : Prop := g = 0 ∧ s10 = .int .i64 0 ∧ Below w.heap.size w W
set_option maxRecDepth 100000 in
set_option maxHeartbeats 4000000 in
theorem zPixel_no (c : List Int) (W H : Int) (w : World) (cs : Ans 19 #[.int .i64 W, .int .i64 H] (.bool false)) :
    Calls Try.prog 16 #[.agg (mC c), .int .i64 W, .int .i64 H] w fun e w' => e = .returned (.tuple #[.int .i64 0, .int .i64 0, .bool false]) ∧ Below w.heap.size w w' := by
  have CS := Lib.hid cs
  have HB : Hid (Below w.heap.size w (w.alloc (.cells (mC c) 26))) := Lib.hid (by go_grown)
  clear cs
  go_enter Try.func16, Try.ntmps16
  go_wp2_with fail
  generalize (w.alloc (.cells (mC c) 26)) = V at HB ⊢
  refine (CS.out _).mono ?_
  rintro e w1 ⟨rfl, hb1⟩
  have HB1 := Lib.hid (bnext HB.out hb1)
  clear hb1 HB CS
  go_wp2_with fail
  go_loopg [10] 0 (PaRel w)
  case atStart => exact ⟨rfl, rfl, HB1.out⟩
  case round =>
    obtain ⟨hg, rfl, hbl⟩ := hrel
    subst hg
    have HL := Lib.hid hbl
    clear hbl HB1
    by_cases h : 0 < H
    · go_wp2_with fail
      go_ret3
      exact ⟨rfl, HL.out⟩
    · go_wp2_with fail
      go_ret3
      exact ⟨rfl, HL.out⟩
def NoP (c0 c1 : Int) (n y : Nat) : Prop := ¬ (0 ≤ c0 ∧ c0 < 16 * (n : Int) ∧ 0 ≤ c1 ∧ c1 < 16 * (y : Int))
def NoQ (c0 c1 : Int) (x y : Nat) : Prop := ¬ (0 ≤ c0 ∧ c0 < 16 * (x : Int) ∧ 16 * (y : Int) ≤ c1 ∧ c1 < 16 * (y : Int) + 16)
theorem noP_next {c0 c1 : Int} {n y : Nat} (h : NoP c0 c1 n y) (g : NoQ c0 c1 n y) : NoP c0 c1 n (y + 1) := by unfold NoP NoQ at *; omega
theorem noQ_next {c0 c1 : Int} {x y : Nat} (h : NoQ c0 c1 x y) (g : ¬ (16 * (x : Int) ≤ c0 ∧ c0 < 16 * (x : Int) + 16 ∧ 16 * (y : Int) ≤ c1 ∧ c1 < 16 * (y : Int) + 16)) : NoQ c0 c1 (x + 1) y := by unfold NoQ at *; omega
def PoRel (c0 c1 : Int) (c : List Int) (n m : Nat) (w : World) (g : Nat) (s10 : Value) (W : World) : Prop := ∃ y : Nat, g = m - y ∧ s10 = .int .i64 (y : Int) ∧ y ≤ m ∧ NoP c0 c1 n y ∧ RowAt 26 w.heap.size (mC c) W ∧ Below w.heap.size w W
def PiRel (c0 c1 : Int) (c : List Int) (n y : Nat) (w : World) (g : Nat) (s11 : Value) (W : World) : Prop := ∃ x : Nat, g = n - x ∧ s11 = .int .i64 (x : Int) ∧ x ≤ n ∧ NoQ c0 c1 x y ∧ RowAt 26 w.heap.size (mC c) W ∧ Below w.heap.size w W
set_option maxRecDepth 100000 in
set_option maxHeartbeats 8000000 in
theorem zPixel_yes (c : List Int) (c0 c1 px py : Int) (pb : Bool) (n m : Nat) (w : World) (lc : c.length = 3) (cs : Ans 19 #[.int .i64 (n : Int), .int .i64 (m : Int)] (.bool true)) (hn : n ≤ 64) (hm : m ≤ 64) (e0 : nv c 0 = c0) (e1 : nv c 1 = c1)
    (hf : ∀ x y : Nat, x < n → y < m → 16 * (x : Int) ≤ c0 → c0 < 16 * (x : Int) + 16 → 16 * (y : Int) ≤ c1 → c1 < 16 * (y : Int) + 16 → px = (x : Int) ∧ py = (y : Int) ∧ pb = true) (hno : NoP c0 c1 n m → px = 0 ∧ py = 0 ∧ pb = false) :
    Calls Try.prog 16 #[.agg (mC c), .int .i64 (n : Int), .int .i64 (m : Int)] w fun e w' => e = .returned (.tuple #[.int .i64 px, .int .i64 py, .bool pb]) ∧ Below w.heap.size w w' := by
  have CS := Lib.hid cs
  have HF := Lib.hid hf
  have HNO := Lib.hid hno
  have HC0 : Hid (∀ X, RowAt 26 w.heap.size (mC c) X → X.cell? ⟨w.heap.size, 0, none⟩ = some (.int .i64 c0)) := Lib.hid fun X h => by rw [h.cell, mC_cell (by omega), ← e0]; rfl
  have HC1 : Hid (∀ X, RowAt 26 w.heap.size (mC c) X → X.cell? ⟨w.heap.size, 1, none⟩ = some (.int .i64 c1)) := Lib.hid fun X h => by rw [h.cell, mC_cell (by omega), ← e1]; rfl
  have HR : Hid (RowAt 26 w.heap.size (mC c) (w.alloc (.cells (mC c) 26))) := Lib.hid (RowAt.new _ _ _)
  have HB : Hid (Below w.heap.size w (w.alloc (.cells (mC c) 26))) := Lib.hid (by go_grown)
  have m1 : (m : Int) ≤ 64 := by omega
  have n1 : (n : Int) ≤ 64 := by omega
  clear cs hf hno e0 e1 lc
  go_enter Try.func16, Try.ntmps16
  go_wp2_with fail
  generalize (w.alloc (.cells (mC c) 26)) = V at HB HR ⊢
  refine (CS.out _).mono ?_
  rintro e w1 ⟨rfl, hb1⟩
  have HB1 := Lib.hid (bnext HB.out hb1)
  have HR1 := Lib.hid (HR.out.below hb1)
  clear hb1 HB CS HR
  go_wp2_with fail
  go_loopg [10] m (PoRel c0 c1 c n m w)
  case atStart => exact ⟨0, rfl, rfl, by omega, by unfold NoP; omega, HR1.out, HB1.out⟩
  case round =>
    obtain ⟨y, hg, rfl, hy, hp, hrow, hbl⟩ := hrel
    subst hg
    have HP := Lib.hid hp
    have HR2 := Lib.hid hrow
    have HB2 := Lib.hid hbl
    clear hp hrow hbl HB1 HR1
    by_cases hym : y < m
    · have t1 : (y : Int) < (m : Int) := by omega
      go_wp2_with fail
      go_loopg [11] n (PiRel c0 c1 c n y w)
      case atStart => exact ⟨0, rfl, rfl, by omega, by unfold NoQ; omega, HR2.out, HB2.out⟩
      case round =>
        obtain ⟨x, hg, rfl, hx, hq, hrow, hbl⟩ := hrel
        subst hg
        have HQ := Lib.hid hq
        have HR3 := Lib.hid hrow
        have HB3 := Lib.hid hbl
        clear hq hrow hbl HB2 HR2
        by_cases hxn : x < n
        · have t2 : (x : Int) < (n : Int) := by omega
          have k0 := HC0.out _ HR3.out
          have k1 := HC1.out _ HR3.out
          have HNX := Lib.hid (fun g => noQ_next (x := x) (y := y) HQ.out g)
          have HFX := Lib.hid (HF.out x y hxn hym)
          by_cases d0 : 16 * (x : Int) ≤ c0
          · by_cases d1 : c0 < 16 * (x : Int) + 16
            · by_cases d2 : 16 * (y : Int) ≤ c1
              · by_cases d3 : c1 < 16 * (y : Int) + 16
                · have HE := Lib.hid (HFX.out d0 d1 d2 d3)
                  go_wp2_with fail
                  go_ret3
                  exact ⟨by rw [HE.out.1, HE.out.2.1, HE.out.2.2]; rfl, HB3.out⟩
                · have HNQ := Lib.hid (HNX.out (by omega))
                  clear HNX HFX
                  go_wp2_with fail
                  go_roundg (n - (x + 1))
                  case measure => omega
                  case rel => exact ⟨x + 1, rfl, by go_num, by omega, HNQ.out, HR3.out, HB3.out⟩
              · have HNQ := Lib.hid (HNX.out (by omega))
                clear HNX HFX
                go_wp2_with fail
                go_roundg (n - (x + 1))
                case measure => omega
                case rel => exact ⟨x + 1, rfl, by go_num, by omega, HNQ.out, HR3.out, HB3.out⟩
            · have HNQ := Lib.hid (HNX.out (by omega))
              clear HNX HFX
              go_wp2_with fail
              go_roundg (n - (x + 1))
              case measure => omega
              case rel => exact ⟨x + 1, rfl, by go_num, by omega, HNQ.out, HR3.out, HB3.out⟩
          · have HNQ := Lib.hid (HNX.out (by omega))
            clear HNX HFX
            go_wp2_with fail
            go_roundg (n - (x + 1))
            case measure => omega
            case rel => exact ⟨x + 1, rfl, by go_num, by omega, HNQ.out, HR3.out, HB3.out⟩
        · obtain rfl : x = n := by omega
          have t2 : ¬ (x : Int) < (x : Int) := by omega
          have HPN := Lib.hid (noP_next HP.out HQ.out)
          go_wp2_with fail
          go_roundg (m - (y + 1))
          case measure => omega
          case rel => exact ⟨y + 1, rfl, by go_num, by omega, HPN.out, HR3.out, HB3.out⟩
    · obtain rfl : y = m := by omega
      have t1 : ¬ (y : Int) < (y : Int) := by omega
      have HE := Lib.hid (HNO.out HP.out)
      go_wp2_with fail
      go_ret3
      exact ⟨by rw [HE.out.1, HE.out.2.1, HE.out.2.2]; rfl, HB2.out⟩
theorem zPixel_any (c : List Int) (W H : Int) (w : World) (lc : c.length = 3) :
    Calls Try.prog 16 #[.agg (mC c), .int .i64 W, .int .i64 H] w fun e w' => e = .returned (.tuple #[.int .i64 (pixX c W H), .int .i64 (pixY c W H), .bool (pixB c W H)]) ∧ Below w.heap.size w w' := by
  have cs : Ans 19 #[.int .i64 W, .int .i64 H] (.bool (sizeK W H)) := fun w => zsize_any10 W H w
  cases hs : sizeK W H with
  | false =>
    have e : pixB c W H = false := by unfold pixB; rw [hs]; rfl
    rw [hs] at cs
    unfold pixX pixY
    rw [e]
    exact zPixel_no c W H w cs
  | true =>
    obtain ⟨h1, h2⟩ := (size_iff W H).1 hs
    obtain ⟨n, rfl⟩ : ∃ n : Nat, W = (n : Int) := ⟨W.toNat, by omega⟩
    obtain ⟨m, rfl⟩ : ∃ m : Nat, H = (m : Int) := ⟨H.toNat, by omega⟩
    rw [hs] at cs
    refine zPixel_yes c _ _ _ _ _ n m w lc cs (by omega) (by omega) rfl rfl ?_ ?_
    · intro x y hx hy d0 d1 d2 d3
      have e : pixB c n m = true := (pix_iff _ _ _).2 ⟨hs, ⟨by omega, by omega⟩, by omega, by omega⟩
      unfold pixX pixY
      rw [e, if_pos rfl, if_pos rfl]
      exact ⟨by omega, by omega, rfl⟩
    · intro hno
      have e : pixB c n m = false := by
        cases e : pixB c n m with
        | false => rfl
        | true => have := ((pix_iff _ _ _).1 e).2; unfold NoP at hno; omega
      unfold pixX pixY
      rw [e]
      exact ⟨rfl, rfl, rfl⟩
end Go.Proofs.Ytgkglkoipocgaaa.Fx
namespace Go.Proofs.Ytgkglkoipocgaaa.Fx
open Go Go.RowKit Wm
/-- a vertex, with One behind -/
def thrX (x : List Int) : List Int := [x.getD 0 0, x.getD 1 0, x.getD 2 0, 65536]
/-- the first k, through the matrix -/
def thrN (m : List Int) (l : List (List Int)) (k : Nat) : List (List Int) := (List.range k).map fun i => apRows m (thrX (l.getD i []))
def thrB (m : List Int) (l : List (List Int)) : Bool := l.all fun x => (apO m (thrX x)).isSome
def thrV (m : List Int) (l : List (List Int)) : List (List Int) := if thrB m l = true then thrN m l l.length else []
def thrE (m : List Int) (l : List (List Int)) : Int := if thrB m l = true then 0 else 30
theorem thrN_succ (m : List Int) (l : List (List Int)) (k : Nat) : thrN m l (k + 1) = thrN m l k ++ [apRows m (thrX (l.getD k []))] := by
  unfold thrN
  rw [List.range_succ, List.map_append]
  rfl
theorem thrN_len (m : List Int) (l : List (List Int)) (k : Nat) : (thrN m l k).length = k := by simp [thrN]
theorem ap_some {m v u : List Int} (h : apO m v = some u) : u = apRows m v := by
  unfold apO at h
  split at h
  · exact (Option.some.inj h).symm
  · cases h
theorem thr_bad {m : List Int} {l : List (List Int)} {k : Nat} (hk : k < l.length) (h : apO m (thrX (l.getD k [])) = none) : thrB m l = false := by
  unfold thrB
  rw [List.all_eq_false]
  refine ⟨l.getD k [], ?_, by rw [h]; exact Bool.false_ne_true⟩
  rw [List.getD_eq_getElem?_getD, List.getElem?_eq_getElem hk]
  exact List.getElem_mem hk
theorem thr_all {m : List Int} {l : List (List Int)} (h : ∀ j, j < l.length → (apO m (thrX (l.getD j []))).isSome = true) : thrB m l = true := by
  unfold thrB
  rw [List.all_eq_true]
  intro x hx
  obtain ⟨i, hi⟩ := List.getElem?_of_mem hx
  have := h i (List.getElem?_eq_some_iff.1 hi).1
  rwa [List.getD_eq_getElem?_getD, hi] at this
theorem vert_get10 {W : World} {o : Option Addr} {l : List (List Int)} (h : VertsAt W o l) {k : Nat} (hk : k < l.length) : ∃ b off, o = some ⟨b, off, none⟩ ∧ W.rangeAt b (off + k * 3) ((l.getD k []).map encI) ∧ VertWf (l.getD k []) := by
  have e : l[k]? = some (l.getD k []) := by rw [List.getD_eq_getElem?_getD, List.getElem?_eq_getElem hk]; rfl
  obtain ⟨b, off, e1, h1, h2⟩ := h k _ e
  exact ⟨b, off, e1, h1, h2⟩
def RetTh (L : List (List Int)) (er : Int) (w : World) (e : Ending) (w' : World) : Prop := ∃ v, e = .returned (.tuple #[v, .int .i64 er]) ∧ OwnK w' w.heap.size v L ∧ Below w.heap.size w w'
def ThRel (m : List Int) (l : List (List Int)) (w : World) (n g : Nat) (s6 s7 : Value) (X : World) : Prop :=
  ∃ k, g = n - k ∧ s7 = .int .i64 (k : Int) ∧ k ≤ n ∧ (∀ j, j < k → (apO m (thrX (l.getD j []))).isSome = true) ∧ OwnK X (w.heap.size + 1) s6 (thrN m l k) ∧ RowAt 44 w.heap.size (mC m) X ∧ Below w.heap.size w X
set_option maxRecDepth 100000 in
set_option maxHeartbeats 8000000 in
theorem zThrough_any (m : List Int) (l : List (List Int)) (o : Option Addr) (c : Nat) (w : World) (lm : m.length = 16) (bm : ∀ j, -9223372036854775808 ≤ m.getD j 0 ∧ m.getD j 0 ≤ 9223372036854775807) (h : VertsAt w o l) (hlen : l.length ≤ 1000) :
    Calls Try.prog 21 #[.agg (mC m), .slice o l.length c] w (RetTh (thrV m l) (thrE m l) w) := by
  obtain ⟨n, hn⟩ : ∃ n, l.length = n := ⟨_, rfl⟩
  have HN := Lib.hid hn
  have HL := Lib.hid h
  have LM := Lib.hid lm
  have BM := Lib.hid bm
  have HINF : Hid ((Try.prog.info? 44).map (·.size) = some (mC m).size) := Lib.hid (by rw [mC_size, lm]; kernel_rfl)
  have HR0 : Hid (RowAt 44 w.heap.size (mC m) (w.alloc (.cells (mC m) 44))) := Lib.hid (RowAt.new _ _ _)
  have HB0 : Hid (Below w.heap.size w (w.alloc (.cells (mC m) 44))) := Lib.hid (by go_grown)
  rw [hn] at hlen ⊢
  have n0 : (0 : Int) ≤ (n : Int) := by omega
  have n1 : (n : Int) ≤ 1000 := by omega
  clear hn h hlen lm bm
  go_enter Try.func21, Try.ntmps21
  go_wp2_with fail
  generalize (w.alloc (.cells (mC m) 44)) = V0 at HR0 HB0 ⊢
  go_loopg [6, 7] n (ThRel m l w n)
  case atStart => exact ⟨0, rfl, rfl, by omega, fun j hj => absurd hj (by omega), OwnG.nil _ _ _ _ _, HR0.out, HB0.out⟩
  case round =>
    obtain ⟨k, hg, rfl, hk, ha, ho, hrow, hbl⟩ := hrel
    subst hg
    have HA := Lib.hid ha
    have HO := Lib.hid ho
    have HM := Lib.hid hrow
    have HB := Lib.hid hbl
    have HLN : Hid ((thrN m l k).length ≤ 1000) := Lib.hid (by rw [thrN_len]; omega)
    have k0 : (0 : Int) ≤ (k : Int) := by omega
    clear ho ha hrow HR0 HB0
    by_cases hkn : k < n
    · have t1 : (k : Int) < (n : Int) := by omega
      obtain ⟨b1, off1, e1, hr1, hw1⟩ := vert_get10 (HL.out.below hbl) (k := k) (by rw [HN.out]; exact hkn)
      subst e1
      obtain ⟨x, hx⟩ : ∃ x, l.getD k [] = x := ⟨_, rfl⟩
      have HE := Lib.hid (thrN_succ m l k)
      have HAN : Hid ((apO m (thrX x)).isSome = true → ∀ j, j < k + 1 → (apO m (thrX (l.getD j []))).isSome = true) := Lib.hid fun hs j hj => by
        by_cases hjk : j < k
        · exact HA.out j hjk
        · obtain rfl : j = k := by omega
          rw [hx]
          exact hs
      have HBAD : Hid (apO m (thrX x) = none → thrB m l = false) := Lib.hid fun hs => thr_bad (k := k) (by rw [HN.out]; exact hkn) (by rw [hx]; exact hs)
      rw [hx] at hr1 hw1 HE
      obtain ⟨q, hq⟩ : ∃ q, apO m (thrX x) = q := ⟨_, rfl⟩
      obtain ⟨u, hu⟩ : ∃ u, q.getD [0, 0, 0, 0] = u := ⟨_, rfl⟩
      obtain ⟨er, her⟩ : ∃ er : Int, (if q.isSome then (0 : Int) else 30) = er := ⟨_, rfl⟩
      have HLU : Hid (u.length = 4) := Lib.hid (by
        rw [← hu]
        cases q with
        | none => rfl
        | some y => rw [ap_some hq]; rfl)
      have cA : Hid (Ans 37 #[.agg (mC m), .agg #[.int .i64 (x.getD 0 0), .int .i64 (x.getD 1 0), .int .i64 (x.getD 2 0), .int .i64 65536]] (.tuple #[.agg (mC u), .int .i64 er])) := Lib.hid fun w => by
        have := zapply_any m (thrX x) w LM.out rfl BM.out (fun j => by
          match j with
          | 0 => exact hw1.num 0
          | 1 => exact hw1.num 1
          | 2 => exact hw1.num 2
          | 3 => exact ⟨(by decide : (-9223372036854775808 : Int) ≤ 65536), (by decide : (65536 : Int) ≤ 9223372036854775807)⟩
          | j + 4 => exact ⟨by simp [thrX], by simp [thrX]⟩)
        unfold RetV at this
        rw [hq, hu, her] at this
        exact this
      have HC : Hid (∀ X, Below wr.heap.size wr X → X.cell? ⟨b1, off1 + k * 3, none⟩ = some (.int .i64 (x.getD 0 0)) ∧ X.cell? ⟨b1, off1 + k * 3 + 1, none⟩ = some (.int .i64 (x.getD 1 0)) ∧ X.cell? ⟨b1, off1 + k * 3 + 2, none⟩ = some (.int .i64 (x.getD 2 0))) := Lib.hid (fun X hX => by
        have hr := range_below hX hr1
        obtain ⟨a, b, c, rfl⟩ := list3 hw1.len
        exact ⟨hr 0 _ rfl, hr 1 _ rfl, hr 2 _ rfl⟩)
      have HQ := Lib.hid hq
      have HU := Lib.hid hu
      have HER := Lib.hid her
      have INFU : Hid ((Try.prog.info? 23).map (·.size) = some (mC u).size) := Lib.hid (by rw [mC_size, HLU.out]; kernel_rfl)
      clear hq hu her hr1 hw1 hx hbl
      generalize x.getD 0 0 = a0 at cA HC
      generalize x.getD 1 0 = a1 at cA HC
      generalize x.getD 2 0 = a2 at cA HC
      go_wp2_with fail
      rename_i K5 hK5
      refine (wpIn_wide (n := 5)).1 (give_region (S := fun X => Below wr.heap.size wr X) (Z := []) (by kernel_rfl) (by kernel_rfl) below_mono (fun d _ _ _ _ h => by cases d <;> exact h) (bdrew0 _ _ 1) (fun hG vw0 hw0 => ?_))
      refine grow_pure [] 0 (.agg (mC m)) hG rfl (by kernel_rfl) hw0 (by kernel_rfl) ?_ ?_
      · intro wz hSw; exact exec_load_row 44 (.tmp 2) (by kernel_rfl) (w.heap.size) (by kernel_rfl) _ _ _ _ (RowAt.below hSw HM.out) Try.underlying44 (by kernel_rfl) HINF.out
      intro vw1 hw1 hbn
      clear hbn hw0 vw0
      (try simp only [Act.put, List.getElem_toArray, List.getElem_cons_zero, List.getElem_cons_succ, List.setIfInBounds_toArray, List.set_cons_zero, List.set_cons_succ])
      refine grow_pure [] 1 (?_) hG rfl (by kernel_rfl) hw1 (by kernel_rfl) ?_ ?_
      rotate_left
      · intro wz hSw; (first | (go_simp; done) | (go_simp; with_reducible rfl))
      intro vw2 hw2 hbn
      clear hbn hw1 vw1
      (try simp only [Act.put, List.getElem_toArray, List.getElem_cons_zero, List.getElem_cons_succ, List.setIfInBounds_toArray, List.set_cons_zero, List.set_cons_succ])
      refine grow_pure [] 2 (?_) hG rfl (by kernel_rfl) hw2 (by kernel_rfl) ?_ ?_
      rotate_left
      · intro wz hSw; (first | (go_simp; done) | (go_simp; with_reducible rfl))
      intro vw3 hw3 hbn
      clear hbn hw2 vw2
      (try simp only [Act.put, List.getElem_toArray, List.getElem_cons_zero, List.getElem_cons_succ, List.setIfInBounds_toArray, List.set_cons_zero, List.set_cons_succ])
      refine grow_pure [] 3 (.pointer (some ⟨b1, off1 + k * 3, none⟩)) hG rfl (by kernel_rfl) hw3 (by kernel_rfl) ?_ ?_
      · intro wz hSw; (first | (go_simp; done) | (go_simp; with_reducible rfl))
      intro vw4 hw4 hbn
      clear hbn hw3 vw3
      (try simp only [Act.put, List.getElem_toArray, List.getElem_cons_zero, List.getElem_cons_succ, List.setIfInBounds_toArray, List.set_cons_zero, List.set_cons_succ])
      refine grow_pure [] 4 (.pointer (some ⟨b1, off1 + k * 3, none⟩)) hG rfl (by kernel_rfl) hw4 (by kernel_rfl) ?_ ?_
      · intro wz hSw; (first | (go_simp; done) | (go_simp; with_reducible rfl))
      intro vw5 hw5 hbn
      clear hbn hw4 vw4
      (try simp only [Act.put, List.getElem_toArray, List.getElem_cons_zero, List.getElem_cons_succ, List.setIfInBounds_toArray, List.set_cons_zero, List.set_cons_succ])
      refine grow_pure [] 5 (.int .i64 a0) hG rfl (by kernel_rfl) hw5 (by kernel_rfl) ?_ ?_
      · intro wz hSw; obtain ⟨q0, q1, q2⟩ := HC.out wz hSw; (first | (go_simp; done) | (go_simp; with_reducible rfl))
      intro vw6 hw6 hbn
      clear hbn hw5 vw5
      (try simp only [Act.put, List.getElem_toArray, List.getElem_cons_zero, List.getElem_cons_succ, List.setIfInBounds_toArray, List.set_cons_zero, List.set_cons_succ])
      refine grow_pure [] 6 (?_) hG rfl (by kernel_rfl) hw6 (by kernel_rfl) ?_ ?_
      rotate_left
      · intro wz hSw; (first | (go_simp; done) | (go_simp; with_reducible rfl))
      intro vw7 hw7 hbn
      clear hbn hw6 vw6
      (try simp only [Act.put, List.getElem_toArray, List.getElem_cons_zero, List.getElem_cons_succ, List.setIfInBounds_toArray, List.set_cons_zero, List.set_cons_succ])
      refine grow_pure [] 7 (?_) hG rfl (by kernel_rfl) hw7 (by kernel_rfl) ?_ ?_
      rotate_left
      · intro wz hSw; (first | (go_simp; done) | (go_simp; with_reducible rfl))
      intro vw8 hw8 hbn
      clear hbn hw7 vw7
      (try simp only [Act.put, List.getElem_toArray, List.getElem_cons_zero, List.getElem_cons_succ, List.setIfInBounds_toArray, List.set_cons_zero, List.set_cons_succ])
      refine grow_pure [] 8 (.pointer (some ⟨b1, off1 + k * 3, none⟩)) hG rfl (by kernel_rfl) hw8 (by kernel_rfl) ?_ ?_
      · intro wz hSw; (first | (go_simp; done) | (go_simp; with_reducible rfl))
      intro vw9 hw9 hbn
      clear hbn hw8 vw8
      (try simp only [Act.put, List.getElem_toArray, List.getElem_cons_zero, List.getElem_cons_succ, List.setIfInBounds_toArray, List.set_cons_zero, List.set_cons_succ])
      refine grow_pure [] 9 (.pointer (some ⟨b1, off1 + k * 3 + 1, none⟩)) hG rfl (by kernel_rfl) hw9 (by kernel_rfl) ?_ ?_
      · intro wz hSw; (first | (go_simp; done) | (go_simp; with_reducible rfl))
      intro vw10 hw10 hbn
      clear hbn hw9 vw9
      (try simp only [Act.put, List.getElem_toArray, List.getElem_cons_zero, List.getElem_cons_succ, List.setIfInBounds_toArray, List.set_cons_zero, List.set_cons_succ])
      refine grow_pure [] 10 (.int .i64 a1) hG rfl (by kernel_rfl) hw10 (by kernel_rfl) ?_ ?_
      · intro wz hSw; obtain ⟨q0, q1, q2⟩ := HC.out wz hSw; (first | (go_simp; done) | (go_simp; with_reducible rfl))
      intro vw11 hw11 hbn
      clear hbn hw10 vw10
      (try simp only [Act.put, List.getElem_toArray, List.getElem_cons_zero, List.getElem_cons_succ, List.setIfInBounds_toArray, List.set_cons_zero, List.set_cons_succ])
      refine grow_pure [] 11 (?_) hG rfl (by kernel_rfl) hw11 (by kernel_rfl) ?_ ?_
      rotate_left
      · intro wz hSw; (first | (go_simp; done) | (go_simp; with_reducible rfl))
      intro vw12 hw12 hbn
      clear hbn hw11 vw11
      (try simp only [Act.put, List.getElem_toArray, List.getElem_cons_zero, List.getElem_cons_succ, List.setIfInBounds_toArray, List.set_cons_zero, List.set_cons_succ])
      refine grow_pure [] 12 (?_) hG rfl (by kernel_rfl) hw12 (by kernel_rfl) ?_ ?_
      rotate_left
      · intro wz hSw; (first | (go_simp; done) | (go_simp; with_reducible rfl))
      intro vw13 hw13 hbn
      clear hbn hw12 vw12
      (try simp only [Act.put, List.getElem_toArray, List.getElem_cons_zero, List.getElem_cons_succ, List.setIfInBounds_toArray, List.set_cons_zero, List.set_cons_succ])
      refine grow_pure [] 13 (.pointer (some ⟨b1, off1 + k * 3, none⟩)) hG rfl (by kernel_rfl) hw13 (by kernel_rfl) ?_ ?_
      · intro wz hSw; (first | (go_simp; done) | (go_simp; with_reducible rfl))
      intro vw14 hw14 hbn
      clear hbn hw13 vw13
      (try simp only [Act.put, List.getElem_toArray, List.getElem_cons_zero, List.getElem_cons_succ, List.setIfInBounds_toArray, List.set_cons_zero, List.set_cons_succ])
      refine grow_pure [] 14 (.pointer (some ⟨b1, off1 + k * 3 + 2, none⟩)) hG rfl (by kernel_rfl) hw14 (by kernel_rfl) ?_ ?_
      · intro wz hSw; (first | (go_simp; done) | (go_simp; with_reducible rfl))
      intro vw15 hw15 hbn
      clear hbn hw14 vw14
      (try simp only [Act.put, List.getElem_toArray, List.getElem_cons_zero, List.getElem_cons_succ, List.setIfInBounds_toArray, List.set_cons_zero, List.set_cons_succ])
      refine grow_pure [] 15 (.int .i64 a2) hG rfl (by kernel_rfl) hw15 (by kernel_rfl) ?_ ?_
      · intro wz hSw; obtain ⟨q0, q1, q2⟩ := HC.out wz hSw; (first | (go_simp; done) | (go_simp; with_reducible rfl))
      intro vw16 hw16 hbn
      clear hbn hw15 vw15
      (try simp only [Act.put, List.getElem_toArray, List.getElem_cons_zero, List.getElem_cons_succ, List.setIfInBounds_toArray, List.set_cons_zero, List.set_cons_succ])
      refine grow_pure [] 16 (.agg #[.int .i64 a0, .int .i64 a1, .int .i64 a2, .int .i64 65536]) hG rfl (by kernel_rfl) hw16 (by kernel_rfl) ?_ ?_
      · intro wz hSw; (first | (go_simp; done) | (go_simp; with_reducible rfl))
      intro vw17 hw17 hbn
      clear hbn hw16 vw16
      (try simp only [Act.put, List.getElem_toArray, List.getElem_cons_zero, List.getElem_cons_succ, List.setIfInBounds_toArray, List.set_cons_zero, List.set_cons_succ])
      refine grow_call [] 17 37 #[.agg (mC m), .agg #[.int .i64 a0, .int .i64 a1, .int .i64 a2, .int .i64 65536]] (.tuple #[.agg (mC u), .int .i64 er]) hG rfl (by kernel_rfl) hw17 (by kernel_rfl) ?_ (cA.out) ?_
      · intro wz; (first | (go_simp; done) | (go_simp; with_reducible rfl))
      intro vw18 hw18 hbn
      clear hbn hw17 vw17
      (try simp only [Act.put, List.getElem_toArray, List.getElem_cons_zero, List.getElem_cons_succ, List.setIfInBounds_toArray, List.set_cons_zero, List.set_cons_succ])
      refine grow_pure [] 18 (?_) hG rfl (by kernel_rfl) hw18 (by kernel_rfl) ?_ ?_
      rotate_left
      · intro wz hSw; (first | (go_simp; done) | (go_simp; with_reducible rfl))
      intro vw19 hw19 hbn
      clear hbn hw18 vw18
      (try simp only [Act.put, List.getElem_toArray, List.getElem_cons_zero, List.getElem_cons_succ, List.setIfInBounds_toArray, List.set_cons_zero, List.set_cons_succ])
      refine grow_pure [] 19 (?_) hG rfl (by kernel_rfl) hw19 (by kernel_rfl) ?_ ?_
      rotate_left
      · intro wz hSw; (first | (go_simp; done) | (go_simp; with_reducible rfl))
      intro vw20 hw20 hbn
      clear hbn hw19 vw19
      (try simp only [Act.put, List.getElem_toArray, List.getElem_cons_zero, List.getElem_cons_succ, List.setIfInBounds_toArray, List.set_cons_zero, List.set_cons_succ])
      refine grow_pure [] 20 (?_) hG rfl (by kernel_rfl) hw20 (by kernel_rfl) ?_ ?_
      rotate_left
      · intro wz hSw; (first | (go_simp; done) | (go_simp; with_reducible rfl))
      intro vw21 hw21 hbn
      clear hbn hw20 vw20
      (try simp only [Act.put, List.getElem_toArray, List.getElem_cons_zero, List.getElem_cons_succ, List.setIfInBounds_toArray, List.set_cons_zero, List.set_cons_succ])
      refine give_step 21 (by kernel_rfl) rfl (fun K hK => ?_)
      go_simp
      obtain ⟨bC, hbC⟩ : ∃ b, vw21.heap.size = b := ⟨_, rfl⟩
      have gbC : wr.heap.size ≤ bC := by rw [← hbC]; exact hw21.size
      rw [hbC]
      have hw220 : Below wr.heap.size wr (vw21.alloc (.cells #[.int .i64 0, .int .i64 0, .int .i64 0, .int .i64 0] 23)) := Below.alloc hw21 (by have := hw21.size; omega) _
      have TC := (show RowAt 23 bC #[.int .i64 0, .int .i64 0, .int .i64 0, .int .i64 0] (vw21.alloc (.cells #[.int .i64 0, .int .i64 0, .int .i64 0, .int .i64 0] 23)) by rw [← hbC]; exact RowAt.new _ _ _)
      refine hK.out _ _ (fun _ => hw220) (fun vw22 hbn => ?_)
      have hw22 := below_mono _ _ hw220 hbn
      have RC := RowAt.below hbn TC
      clear TC
      clear hbn hK K hw21 hw220
      (try simp only [Act.put, List.getElem_toArray, List.getElem_cons_zero, List.getElem_cons_succ, List.setIfInBounds_toArray, List.set_cons_zero, List.set_cons_succ])
      clear hbC
      refine give_step 22 (by kernel_rfl) rfl (fun K hK => ?_)
      rw [if_pos (by kernel_rfl)]
      refine wpIn_store_row (fun _ => trivial) 23 (.tmp 8) (.tmp 35) (by kernel_rfl) (bC) _ _ (mC u) (by kernel_rfl) (by kernel_rfl) RC INFU.out (by rw [mC_size, HLU.out]; rfl) (mC_one _) ?_
      have hw230 : Below wr.heap.size wr (vw22.setRow bC (mC u)) := Below.row hw22 (by omega) _
      have TC := RowAt.row RC (mC u)
      refine hK.out _ _ (fun _ => hw230) (fun vw23 hbn => ?_)
      have hw23 := below_mono _ _ hw230 hbn
      replace RC := RowAt.below hbn TC
      clear TC
      clear hbn hK K hw22 hw230
      (try simp only [Act.put, List.getElem_toArray, List.getElem_cons_zero, List.getElem_cons_succ, List.setIfInBounds_toArray, List.set_cons_zero, List.set_cons_succ])
      refine grow_pure [] 23 (?_) hG rfl (by kernel_rfl) hw23 (by kernel_rfl) ?_ ?_
      rotate_left
      · intro wz hSw; (first | (go_simp; done) | (go_simp; with_reducible rfl))
      intro vw24 hw24 hbn
      replace RC := RowAt.below hbn RC
      clear hbn hw23 vw23
      (try simp only [Act.put, List.getElem_toArray, List.getElem_cons_zero, List.getElem_cons_succ, List.setIfInBounds_toArray, List.set_cons_zero, List.set_cons_succ])
      refine give_done (by kernel_rfl) (?_) _
      refine hK5 _ _ ?_
      have RCH := Lib.hid RC
      have HWW := Lib.hid hw24
      clear RC hK5 hG cA HC gbC hw24
      obtain ⟨w5, hw5⟩ : ∃ X, X = vw24 := ⟨_, rfl⟩
      subst hw5
      have HBW := Lib.hid (bnext HB.out HWW.out)
      have HMW := Lib.hid (HM.out.below HWW.out)
      have HOW := Lib.hid (OwnG.below HWW.out HO.out)
      clear HB HM HO HWW
      cases q with
      | none =>
        obtain rfl : er = 30 := HER.out.symm
        have HBB := Lib.hid (HBAD.out HQ.out)
        clear HBAD HAN HQ HU
        go_wp2_with fail
        go_ret2
        exact ⟨_, by unfold thrE; rw [HBB.out]; rfl, by unfold thrV; rw [HBB.out]; exact OwnG.nil _ _ _ _ _, HBW.out⟩
      | some y =>
        obtain rfl : y = u := HU.out
        obtain rfl : er = 0 := HER.out.symm
        have HAN2 := Lib.hid (HAN.out (by rw [HQ.out]; rfl))
        have HYE := Lib.hid (ap_some HQ.out)
        obtain ⟨lc, hlc⟩ : ∃ lc, y.map encI = lc := ⟨_, rfl⟩
        have HLC := Lib.hid hlc
        have LC4 : Hid (lc.length = 4) := Lib.hid (by rw [← hlc, List.length_map]; exact HLU.out)
        have IC2 : Hid ((Try.prog.info? 23).map (·.size) = some lc.toArray.size) := Lib.hid (by have := INFU.out; unfold mC at this; rw [hlc] at this; exact this)
        have SC : Hid (lc.toArray.size = 4) := Lib.hid (by have := LC4.out; simpa using this)
        have RC : Hid (RowAt 23 bC lc.toArray w5) := Lib.hid (by have := RCH.out; unfold mC at this; rw [hlc] at this; exact this)
        obtain ⟨V9, hV9⟩ : ∃ V, w5.alloc (.cells lc.toArray 23) = V := ⟨_, rfl⟩
        have HV9 := Lib.hid hV9
        have b9 : Below w5.heap.size w5 V9 := by rw [← hV9]; exact (Below.refl _ _).alloc (Nat.le_refl _) _
        have HSX : Hid (w.heap.size + 1 ≤ V9.heap.size) := Lib.hid (by have := HMW.out.lt; have := b9.size; omega)
        have HOX : Hid (OwnK V9 (w.heap.size + 1) u6 (thrN m l k)) := Lib.hid (OwnG.below b9 HOW.out)
        have HRN : Hid (V9.heap[w5.heap.size]? = some (.cells (y.map encI).toArray 23 (0, 0))) := Lib.hid (by rw [← hV9, HLC.out]; exact heap_alloc_new _ _)
        have HB9 := Lib.hid (bnext HBW.out b9)
        have HM9 := Lib.hid (HMW.out.below b9)
        have HBK : Hid (∀ k, u6.ownBlock = some k → w.heap.size ≤ k) := Lib.hid (fun k hk => by have := OwnG.blk HOW.out k hk; omega)
        have HNB : Hid (∀ k, u6.ownBlock = some k → k ≠ w.heap.size) := Lib.hid (fun k hk => by have := OwnG.blk HOW.out k hk; omega)
        clear hlc hV9 b9 HBAD HAN HQ HU HOW HMW RCH
        go_wp2_with (first | (rw [HV9.out]) | (refine wpList_load_row rfl 23 (.tmp 8) rfl (bC) rfl _ lc.toArray _ _ RC.out Try.underlying23 rfl IC2.out ?_) | (with_reducible refine stop10 (some 42) rfl ?_; refine Lib.hid ?_; refine build_one infoG4 (by omega) rfl (.tmp 41) 24 rfl Try.underlying24 lc.toArray rfl SC.out ?_) | (at_builtin; refine app_G infoG4 rfl (.tmp 40) (.tmp 42) 24 rfl Try.underlying24 (w.heap.size + 1) u6 (thrN m l k) [y] rfl HSX.out HOX.out (some ⟨w5.heap.size, 0, none⟩) 1 rfl (fun h => by cases h) (one_src HRN.out) (fun z hz => by simp at hz; subst hz; rw [HLC.out]; exact LC4.out) (fun z _ => enc_one z) (by have := HLN.out; simp; omega) ?_))
        intro v8 w8 ho8 hg8
        refine Lib.hid ?_
        have HBE := Lib.hid (bgrown10 (Nat.le_refl _) HB9.out hg8 HBK.out)
        have HM8 : Hid (RowAt 44 w.heap.size (mC m) w8) := Lib.hid (by
          unfold RowAt
          rw [hg8.block w.heap.size HM9.out.lt (fun e => HNB.out _ e.symm rfl)]
          exact HM9.out)
        have HO8 := Lib.hid ho8
        clear ho8 hg8 HOX HRN HV9 HSX HB9 HBK HM9 HNB RC
        go_wp2_with fail
        go_roundg (n - (k + 1))
        case measure => omega
        case rel => exact ⟨k + 1, rfl, by go_num, by omega, HAN2.out, by rw [HE.out, ← HYE.out]; exact HO8.out, HM8.out, HBE.out⟩
    · obtain rfl : k = n := by omega
      have t1 : ¬ (k : Int) < (k : Int) := by omega
      have HE : Hid (thrB m l = true) := Lib.hid (thr_all (fun j hj => HA.out j (by rw [← HN.out]; exact hj)))
      have HNN := Lib.hid HN.out
      clear hbl
      go_wp2_with fail
      go_ret2
      exact ⟨_, by unfold thrE; rw [HE.out]; rfl, by unfold thrV; rw [HE.out, if_pos rfl, HNN.out]; exact OwnG.base (by omega) HO.out, HB.out⟩
end Go.Proofs.Ytgkglkoipocgaaa.Fx
namespace Go.Proofs.Ytgkglkoipocgaaa.Fx
open Go Go.RowKit Wm
theorem pq_move (x y z b : Int) : pq [65536, 0, 0, b] [x, y, z, 65536] = x + b := by
  unfold pq dot
  simp
  omega
theorem ap_move (bx by_ bz : Int) (hx : -2147483648 ≤ bx ∧ bx ≤ 2147483647) (hy : -2147483648 ≤ by_ ∧ by_ ≤ 2147483647) (hz : -2147483648 ≤ bz ∧ bz ≤ 2147483647) (x : List Int)
    (h : ∀ i, i < 3 → -1073741824 ≤ x.getD i 0 ∧ x.getD i 0 ≤ 1073741824) : apO (mvl bx by_ bz) (thrX x) = some [x.getD 0 0 + bx, x.getD 1 0 + by_, x.getD 2 0 + bz, 65536] := by
  have h0 := h 0 (by omega)
  have h1 := h 1 (by omega)
  have h2 := h 2 (by omega)
  unfold thrX
  generalize x.getD 0 0 = a at *
  generalize x.getD 1 0 = b at *
  generalize x.getD 2 0 = c at *
  have e0 : pq (rowOf (mvl bx by_ bz) 0) [a, b, c, 65536] = a + bx := by show pq [65536, 0, 0, bx] _ = _; unfold pq dot; simp; omega
  have e1 : pq (rowOf (mvl bx by_ bz) 1) [a, b, c, 65536] = b + by_ := by show pq [0, 65536, 0, by_] _ = _; unfold pq dot; simp; omega
  have e2 : pq (rowOf (mvl bx by_ bz) 2) [a, b, c, 65536] = c + bz := by show pq [0, 0, 65536, bz] _ = _; unfold pq dot; simp; omega
  have e3 : pq (rowOf (mvl bx by_ bz) 3) [a, b, c, 65536] = 65536 := by show pq [0, 0, 0, 65536] _ = _; unfold pq dot; simp
  have er : apRows (mvl bx by_ bz) [a, b, c, 65536] = [a + bx, b + by_, c + bz, 65536] := by unfold apRows; rw [e0, e1, e2, e3]
  unfold apO
  rw [er, if_pos]
  refine ⟨?_, ?_, ?_⟩ <;> simp [wB, okB, mvl, List.range_succ] <;> omega
theorem idl_mvl : idl = mvl 0 0 0 := rfl
theorem ap_id (x : List Int) (h : ∀ i, i < 3 → -1073741824 ≤ x.getD i 0 ∧ x.getD i 0 ≤ 1073741824) : apO idl (thrX x) = some (thrX x) := by
  rw [idl_mvl, ap_move 0 0 0 (by omega) (by omega) (by omega) x h]
  simp [thrX]
/-- what is put through two parts of a list is put through the whole -/
theorem thrB_app (m : List Int) (l r : List (List Int)) : thrB m (l ++ r) = (thrB m l && thrB m r) := by unfold thrB; rw [List.all_append]
theorem thrN_all (m : List Int) (l : List (List Int)) : thrN m l l.length = l.map fun x => apRows m (thrX x) := by
  unfold thrN
  refine List.ext_getElem (by simp) fun i h1 h2 => ?_
  simp at h1
  simp [List.getD_eq_getElem?_getD, List.getElem?_eq_getElem h1]
theorem thrV_app (m : List Int) (l r : List (List Int)) (h : thrB m (l ++ r) = true) : thrV m (l ++ r) = thrV m l ++ thrV m r := by
  have h' := h
  rw [thrB_app, Bool.and_eq_true] at h'
  unfold thrV
  rw [h, h'.1, h'.2, if_pos rfl, if_pos rfl, if_pos rfl, thrN_all, thrN_all, thrN_all, List.map_append]
theorem thrV_take (m : List Int) (l : List (List Int)) (k : Nat) (h : thrB m l = true) : thrV m (l.take k) ++ thrV m (l.drop k) = thrV m l := by
  rw [← thrV_app m _ _ (by rw [List.take_append_drop]; exact h), List.take_append_drop]
section
open Go.ChangeShapes Go.WideShapes
variable {H : Type} {enc : TypeId × Value → H} {w : World} {base : Nat} {held : Bool}
set_option maxRecDepth 100000 in
/-- a corner that came in -/
theorem open_corner {r : Reach} {b0 : Nat} {v : Value} {d : DataW H} {p : List MemPlace}
    (hv : Value.okWide Try.prog w r b0 26 v) (h : DataW.Trod enc Try.prog w base (fun _ => true) held 26 v d p) :
    ∃ (l : List Int), v = .agg (mC l) ∧ l.length = 3 ∧ (∀ j, Num (l.getD j 0)) := by
  obtain ⟨v0, v1, v2, y0, y1, y2, n, rfl, rfl, rfl, h0, h1, h2⟩ := Joins.open_agg3 Try.underlying26 (by kernel_rfl) (by kernel_rfl) hv h
  obtain ⟨a0, e0, rfl, w0⟩ := DataW.trod_int Try.underlying2 h0
  obtain ⟨a1, e1, rfl, w1⟩ := DataW.trod_int Try.underlying2 h1
  obtain ⟨a2, e2, rfl, w2⟩ := DataW.trod_int Try.underlying2 h2
  simp at e0 e1 e2
  subst e0 e1 e2
  refine ⟨[a0, a1, a2], rfl, rfl, fun j => ?_⟩
  match j with
  | 0 => exact num_i64 w0
  | 1 => exact num_i64 w1
  | 2 => exact num_i64 w2
  | j + 3 => exact ⟨by simp, by simp⟩
end
end Go.Proofs.Ytgkglkoipocgaaa.Fx
namespace Go.Proofs.Ytgkglkoipocgaaa.Fx
open Go Go.RowKit Go.ChangeShapes Go.WideShapes
section
variable {H : Type} {enc : TypeId × Value → H} {w : World} {base : Nat} {held : Bool}
set_option maxRecDepth 100000 in
theorem open_verts {r : Reach} {b0 : Nat} {v : Value} {d : DataW H} {ps : List MemPlace}
    (hv : Value.okWide Try.prog w r b0 45 v) (h : DataW.Trod enc Try.prog w base (fun _ => true) held 45 v d ps) :
    ∃ (xs : List (List Int)) (o : Option Addr) (c : Nat), v = .slice o xs.length c ∧ CapOk o xs.length c ∧ VertsAt w o xs := by
  obtain ⟨a1, len, cap, rfl⟩ := okWide_slice Try.underlying45 hv
  obtain ⟨fuel, hf⟩ := h
  obtain ⟨o, l, c, e, h1, h2⟩ := trod_list (P := fun b j v => w.rangeAt b j (v.map encI) ∧ VertWf v) (n := 3) (by omega) Try.underlying45 (by kernel_rfl) (fun _ _ _ _ _ hl hat h => vert_of hl hat h) hf
  exact ⟨l, o, c, e, h1, h2⟩
set_option maxRecDepth 100000 in
theorem open_b3 {r : Reach} {b0 : Nat} {v : Value} {d : DataW H} {ps : List MemPlace}
    (hv : Value.okWide Try.prog w r b0 61 v) (h : DataW.Trod enc Try.prog w base (fun _ => true) held 61 v d ps) :
    ∃ x0 x1 x2 : Int, v = .agg #[.int .i32 x0, .int .i32 x1, .int .i32 x2] ∧ (-2147483648 ≤ x0 ∧ x0 ≤ 2147483647) ∧ (-2147483648 ≤ x1 ∧ x1 ≤ 2147483647) ∧ (-2147483648 ≤ x2 ∧ x2 ≤ 2147483647) ∧ ps = [] := by
  have ht := Try.underlying61
  have he := Try.underlying21
  have hc : Try.prog.cellsOf 21 = 1 := by kernel_rfl
  have hC : Try.prog.cellsOf 61 = 3 := by kernel_rfl
  obtain ⟨cs, rfl⟩ := okWide_array ht hv
  obtain ⟨fuel, hf⟩ := h
  obtain ⟨xs, m, _, hx, hl, hlen, hel⟩ := DataW.trod_array ht hf
  have one : ∀ i, i < 3 → ∃ x : Int, (Value.agg cs).cells.toList[i]? = some (.int .i32 x) ∧ (-2147483648 ≤ x ∧ x ≤ 2147483647) ∧ ∀ y, xs[i]? = some y → y.2 = [] := by
    intro i hi
    have h1 := hel i hi
    rw [hc, Nat.mul_one] at h1
    obtain ⟨y, hy⟩ : ∃ y, xs[i]? = some y := ⟨xs[i]'(by omega), by simp [show i < xs.length by omega]⟩
    rw [hy] at h1
    obtain ⟨z, e1, rfl, hz⟩ := DataW.trod_int he h1
    have hz2 : -2147483648 ≤ z ∧ z ≤ 2147483647 := by
      simp [Lit.wf, IntKind.min, IntKind.max, IntKind.signed, IntKind.bits] at hz
      omega
    refine ⟨z, ?_, hz2, fun y' hy' => by rw [hy] at hy'; cases hy'; rfl⟩
    have : (((Value.agg cs).cells.toList.drop i).take 1)[0]? = some (Value.int .i32 z) := by rw [e1]; rfl
    simpa [List.getElem?_take, List.getElem?_drop] using this
  obtain ⟨x0, c0, b0', p0⟩ := one 0 (by omega)
  obtain ⟨x1, c1, b1', p1⟩ := one 1 (by omega)
  obtain ⟨x2, c2, b2', p2⟩ := one 2 (by omega)
  have hl2 : (Value.agg cs).cells.toList.length = 3 := hl.trans hC
  refine ⟨x0, x1, x2, ?_, b0', b1', b2', ?_⟩
  · have hcs : (Value.agg cs).cells = cs := rfl
    rw [hcs] at c0 c1 c2 hl2
    congr 1
    apply Array.ext_getElem?
    intro i
    by_cases h0 : i = 0
    · subst h0; simpa using c0
    by_cases h1 : i = 1
    · subst h1; simpa using c1
    by_cases h2 : i = 2
    · subst h2; simpa using c2
    have : cs.size = 3 := by simpa using hl2
    rw [Array.getElem?_eq_none (by omega), Array.getElem?_eq_none (by simp; omega)]
  · have e : ps = xs.flatMap (·.2) := by
      have := congrArg Prod.snd hx
      simpa using this
    rw [e, List.flatMap_eq_nil_iff]
    intro y hy
    obtain ⟨i, hi⟩ := List.getElem?_of_mem hy
    have hin : i < 3 := by
      have := (List.getElem?_eq_some_iff.1 hi).1
      omega
    obtain rfl | rfl | rfl : i = 0 ∨ i = 1 ∨ i = 2 := by omega
    · exact p0 y hi
    · exact p1 y hi
    · exact p2 y hi
end
end Go.Proofs.Ytgkglkoipocgaaa.Fx
namespace Go.Proofs.Ytgkglkoipocgaaa.Fx
open Go Go.RowKit
theorem vecC_at {v : List Int} (hv : v.length = 4) {r : Nat} (hr : r < 4) (w : World) : (Instr.index 23 (.agg (mC v)) (.int .i64 (r : Int))).run Try.prog w = .ok (.int .i64 (v.getD r 0)) w := by
  rw [list4 hv]
  exact vec_at _ _ _ _ r hr w
theorem vecSize : (Try.prog.info? 23).map (·.size) = some 4 := by kernel_rfl
theorem vec_info {v : List Int} (hv : v.length = 4) : (Try.prog.info? 23).map (·.size) = some (mC v).size := by rw [vecSize, mC_size, hv]
def mayN (v : List Int) (k : Nat) : Bool := (List.range k).all fun i => decide (-8796093022208 < nv v i) && decide (nv v i < 8796093022208)
theorem mayN_step (v : List Int) (k : Nat) : mayN v (k + 1) = (mayN v k && (decide (-8796093022208 < nv v k) && decide (nv v k < 8796093022208))) := by
  unfold mayN
  rw [List.range_succ, List.all_append]
  simp
theorem mayN_next {v : List Int} {k : Nat} (h : mayN v k = true) (h1 : ¬ v.getD k 0 ≤ -8796093022208) (h2 : ¬ 8796093022208 ≤ v.getD k 0) : mayN v (k + 1) = true := by
  rw [mayN_step, h, decide_eq_true (show (-8796093022208 : Int) < nv v k by unfold nv; omega), decide_eq_true (show nv v k < (8796093022208 : Int) by unfold nv; omega)]
  rfl
theorem mayN_bad {v : List Int} {k : Nat} (hk : k < 4) (h : v.getD k 0 ≤ -8796093022208 ∨ 8796093022208 ≤ v.getD k 0) : mayK v = false := by
  cases e : mayK v with
  | false => rfl
  | true =>
    have := (may_iff v).1 e k hk
    unfold nv at this
    omega
def MyRel9 (v : List Int) (w : World) (g : Nat) (s4 s6 : Value) (W : World) : Prop := ∃ r : Nat, g = 4 - r ∧ s6 = .int .i64 (r : Int) ∧ r ≤ 4 ∧ mayN v r = true ∧ Below w.heap.size w W
set_option maxRecDepth 100000 in
set_option maxHeartbeats 2000000 in
theorem pmay_any (v : List Int) (w : World) (hv : VecWf v) : Calls Try.prog 39 #[.agg (mC v)] w (RetBool (mayK v) w) := by
  have HV := Lib.hid hv
  have HI : Hid (RowAt 23 w.heap.size (mC v) (w.alloc (.cells (mC v) 23))) := Lib.hid (RowAt.new _ _ _)
  have HB : Hid (Below w.heap.size w (w.alloc (.cells (mC v) 23))) := Lib.hid (by go_grown)
  have HINF := Lib.hid (vec_info hv.len)
  clear hv
  go_enter Try.func39, Try.ntmps39
  go_wp2_with (refine wpList_load_row rfl 23 (.tmp 1) rfl w.heap.size rfl _ _ _ _ HI.out Try.underlying23 rfl HINF.out ?_)
  generalize (w.alloc (.cells (mC v) 23)) = V at HI HB ⊢
  go_loopg [4, 6] 4 (MyRel9 v w)
  case atStart => exact ⟨0, rfl, rfl, by omega, rfl, HB.out⟩
  case round =>
    obtain ⟨r, hg, rfl, hr4, hm, hbl⟩ := hrel
    subst hg
    have HM := Lib.hid hm
    have HL := Lib.hid hbl
    clear hm hbl HB
    by_cases hr : r < 4
    · have r1 : (r : Int) < 4 := by omega
      have hix := fun w => vecC_at HV.out.len hr w
      have HNO : Hid (v.getD r 0 ≤ -8796093022208 ∨ 8796093022208 ≤ v.getD r 0 → mayK v = false) := Lib.hid (mayN_bad hr)
      have HYES : Hid (¬ v.getD r 0 ≤ -8796093022208 → ¬ 8796093022208 ≤ v.getD r 0 → mayN v (r + 1) = true) := Lib.hid (mayN_next HM.out)
      generalize v.getD r 0 = x at hix HNO HYES
      by_cases h1 : x ≤ -8796093022208
      · have HR := Lib.hid (HNO.out (.inl h1))
        clear HNO HYES
        go_wp2_with fail
        go_ret
        exact ⟨by rw [HR.out]; rfl, HL.out⟩
      · by_cases h2 : 8796093022208 ≤ x
        · have HR := Lib.hid (HNO.out (.inr h2))
          clear HNO HYES
          go_wp2_with fail
          go_ret
          exact ⟨by rw [HR.out]; rfl, HL.out⟩
        · have HR := Lib.hid (HYES.out h1 h2)
          clear HNO HYES
          go_wp2_with fail
          go_roundg (4 - (r + 1))
          case measure => omega
          case rel => exact ⟨r + 1, rfl, by go_num, by omega, HR.out, HL.out⟩
    · obtain rfl : r = 4 := by omega
      have r1 : ¬ ((4 : Nat) : Int) < 4 := by omega
      go_wp2_with fail
      go_ret
      exact ⟨by have := HM.out; unfold mayK; unfold mayN at this; rw [this]; rfl, HL.out⟩
def MzRel9 (v : List Int) (w : World) (g : Nat) (s3 : Value) (W : World) : Prop := ∃ r : Nat, g = 4 - r ∧ s3 = .int .i64 (r : Int) ∧ r ≤ 4 ∧ mayN v r = true ∧ RowAt 23 w.heap.size (mC v) W ∧ Below w.heap.size w W
/-- whether there is a plane -/
def isK (z : Int) : Bool := decide (0 ≤ z ∧ z ≤ 6)
theorem isK_nat {z : Int} (h : isK z = true) : ∃ k : Nat, z = (k : Int) ∧ k < 7 := by
  have := of_decide_eq_true h
  exact ⟨z.toNat, by omega, by omega⟩
end Go.Proofs.Ytgkglkoipocgaaa.Fx
namespace Go.Proofs.Ytgkglkoipocgaaa.Fx
open Go Go.RowKit Wm
set_option maxRecDepth 100000 in
set_option maxHeartbeats 2000000 in
theorem pCheck_any (W H : Int) (w : World) : Calls Try.prog 17 #[.int .i64 W, .int .i64 H] w fun e w' => e = .returned (.int .i64 (if sizeK W H = true then 0 else 100)) ∧ Below w.heap.size w w' := by
  have HL : Hid (Below w.heap.size w w) := Lib.hid (Below.refl _ _)
  obtain ⟨er, her⟩ : ∃ x, (if sizeK W H = true then (0 : Int) else 100) = x := ⟨_, rfl⟩
  rw [her]
  have HY : Hid (1 ≤ W → W ≤ 64 → 1 ≤ H → H ≤ 64 → er = 0) := Lib.hid fun a b c d => by rw [← her, if_pos ((size_iff W H).2 ⟨⟨a, b⟩, c, d⟩)]
  have HN : Hid (¬ (1 ≤ W ∧ W ≤ 64 ∧ 1 ≤ H ∧ H ≤ 64) → er = 100) := Lib.hid fun h => by
    rw [← her, if_neg (fun e => by have := (size_iff W H).1 e; omega)]
  clear her
  go_enter Try.func17, Try.ntmps17
  by_cases h0 : W < 1
  · skip
    have HS := Lib.hid (HN.out (by omega))
    go_wp2_with fail
    go_ret
    exact ⟨by rw [HS.out]; rfl, HL.out⟩
  · skip
    by_cases h1 : 64 < W
    · skip
      have HS := Lib.hid (HN.out (by omega))
      go_wp2_with fail
      go_ret
      exact ⟨by rw [HS.out]; rfl, HL.out⟩
    · skip
      by_cases h2 : H < 1
      · skip
        have HS := Lib.hid (HN.out (by omega))
        go_wp2_with fail
        go_ret
        exact ⟨by rw [HS.out]; rfl, HL.out⟩
      · skip
        by_cases h3 : 64 < H
        · skip
          have HS := Lib.hid (HN.out (by omega))
          go_wp2_with fail
          go_ret
          exact ⟨by rw [HS.out]; rfl, HL.out⟩
        · skip
          have HS := Lib.hid (HY.out (by omega) (by omega) (by omega) (by omega))
          go_wp2_with fail
          go_ret
          exact ⟨by rw [HS.out]; rfl, HL.out⟩
set_option maxRecDepth 100000 in
set_option maxHeartbeats 2000000 in
theorem pwithin_any10 (n W : Int) (w : World) (hW : 1 ≤ W ∧ W ≤ 64) : Calls Try.prog 33 #[.int .i64 n, .int .i64 W] w (RetBool (decide (0 ≤ n) && decide (n < 16 * W)) w) := by
  have HL : Hid (Below w.heap.size w w) := Lib.hid (Below.refl _ _)
  have m1 : -9223372036854775808 ≤ 16 * W ∧ 16 * W ≤ 9223372036854775807 := by omega
  obtain ⟨bb, hbb⟩ : ∃ b, (decide (0 ≤ n) && decide (n < 16 * W)) = b := ⟨_, rfl⟩
  rw [hbb]
  have HBB := Lib.hid hbb
  clear hbb hW
  go_enter Try.func33, Try.ntmps33
  by_cases h0 : 0 ≤ n
  · skip
    by_cases h1 : n < 16 * W
    · skip
      have HS : Hid (bb = true) := Lib.hid (by rw [← HBB.out, decide_eq_true h0, decide_eq_true h1]; rfl)
      go_wp2_with fail
      go_ret
      exact ⟨by rw [HS.out]; rfl, HL.out⟩
    · skip
      have HS : Hid (bb = false) := Lib.hid (by rw [← HBB.out]; rw [decide_eq_false h1, Bool.and_false])
      go_wp2_with fail
      go_ret
      exact ⟨by rw [HS.out]; rfl, HL.out⟩
  · skip
    have HS : Hid (bb = false) := Lib.hid (by rw [← HBB.out]; rw [decide_eq_false h0]; rfl)
    go_wp2_with fail
    go_ret
    exact ⟨by rw [HS.out]; rfl, HL.out⟩
set_option maxRecDepth 100000 in
theorem ppart_any10 (n t c q e : Int) (h : Ans 40 #[.int .i64 n, .int .i64 t, .int .i64 c] (.tuple #[.int .i64 q, .int .i64 e])) : Ans 28 #[.int .i64 n, .int .i64 t, .int .i64 c] (.int .i64 q) := by
  intro w
  have HM := Lib.hid h
  clear h
  go_enter Try.func28, Try.ntmps28
  go_wp2_with fail
  refine (HM.out _).mono ?_
  rintro e w1 ⟨rfl, hb⟩
  have HB := Lib.hid hb
  clear hb HM
  go_wp2_with fail
  go_ret
  exact ⟨rfl, HB.out⟩
theorem ppart_num10 (n t c q : Int) (hn : Num n) (ht : Num t) (hc : 0 < c ∧ c ≤ 9223372036854775807) (hq : (n * t) / c = q) (hb : Num q) : Ans 28 #[.int .i64 n, .int .i64 t, .int .i64 c] (.int .i64 q) := by
  refine ppart_any10 n t c q 0 fun w => ?_
  have ed : dv (n * t) c = q := by unfold dv; rw [if_pos hc.1, hq]
  have hin : In64 q := by unfold In64; have h1 := hb.1; have h2 := hb.2; omega
  have := muldiv_any n t c w hn.1 hn.2 ht.1 ht.2 (by omega) hc.2 (by omega)
  rw [ed, if_pos hin, if_pos hin] at this
  exact this
/-- the last words of seen -/
def tailK (x0 x1 x3 : Int) : Bool := decide (4096 ≤ x3) && decide (max x0 (-x0) ≤ 3 * x3) && decide (max x1 (-x1) ≤ 3 * x3)
theorem seen_tail {v : List Int} (h : mayK v = true) : seenK v = tailK (nv v 0) (nv v 1) (nv v 3) := by
  unfold seenK tailK
  rw [h, Bool.true_and]
  generalize nv v 0 = x0
  generalize nv v 1 = x1
  generalize nv v 3 = x3
  rw [Bool.eq_iff_iff]
  simp only [Bool.and_eq_true, decide_eq_true_eq]
  omega
theorem tail_yes {x0 x1 x3 : Int} (a : 4096 ≤ x3) (b : max x0 (-x0) ≤ 3 * x3) (c : max x1 (-x1) ≤ 3 * x3) : tailK x0 x1 x3 = true := by unfold tailK; rw [decide_eq_true a, decide_eq_true b, decide_eq_true c]; rfl
theorem tail_no {x0 x1 x3 : Int} (h : ¬ (4096 ≤ x3 ∧ max x0 (-x0) ≤ 3 * x3 ∧ max x1 (-x1) ≤ 3 * x3)) : tailK x0 x1 x3 = false := by
  cases e : tailK x0 x1 x3 with
  | false => rfl
  | true =>
    unfold tailK at e
    simp only [Bool.and_eq_true, decide_eq_true_eq] at e
    omega
def PsRel (v : List Int) (w : World) (g : Nat) (s4 s9 : Value) (W : World) : Prop := ∃ r : Nat, g = 4 - r ∧ s9 = .int .i64 (r : Int) ∧ r ≤ 4 ∧ MsN v r = true ∧ RowAt 23 w.heap.size (mC v) W ∧ Below w.heap.size w W
set_option maxRecDepth 100000 in
set_option maxHeartbeats 4000000 in
theorem pseen_any10 (v : List Int) (w : World) (hv : VecWf v) : Calls Try.prog 27 #[.agg (mC v)] w (RetBool (seenK v) w) := by
  have HV := Lib.hid hv
  have HI : Hid (RowAt 23 w.heap.size (mC v) (w.alloc (.cells (mC v) 23))) := Lib.hid (RowAt.new _ _ _)
  have HB : Hid (Below w.heap.size w (w.alloc (.cells (mC v) 23))) := Lib.hid (by go_grown)
  have HINF := Lib.hid (vec_info hv.len)
  clear hv
  go_enter Try.func27, Try.ntmps27
  go_wp2_with (refine wpList_load_row rfl 23 (.tmp 1) rfl w.heap.size rfl _ _ _ _ HI.out Try.underlying23 rfl HINF.out ?_)
  generalize (w.alloc (.cells (mC v) 23)) = V at HI HB ⊢
  go_loopg [4, 9] 4 (PsRel v w)
  case atStart => exact ⟨0, rfl, rfl, by omega, rfl, HI.out, HB.out⟩
  case round =>
    obtain ⟨r, hg, rfl, hr4, hm, hrow, hbl⟩ := hrel
    subst hg
    have HM := Lib.hid hm
    have HL := Lib.hid hbl
    have HR0 := Lib.hid hrow
    clear hm hbl HB hrow
    by_cases hr : r < 4
    · have r1 : (r : Int) < 4 := by omega
      have hix := fun w => vecC_at HV.out.len hr w
      have HNO : Hid (v.getD r 0 ≤ -8796093022208 ∨ 8796093022208 ≤ v.getD r 0 → seenK v = false) := Lib.hid (msN_bad hr)
      have HYES : Hid (¬ v.getD r 0 ≤ -8796093022208 → ¬ 8796093022208 ≤ v.getD r 0 → MsN v (r + 1) = true) := Lib.hid (msN_next HM.out)
      generalize v.getD r 0 = x at hix HNO HYES
      by_cases h1 : x ≤ -8796093022208
      · have HR := Lib.hid (HNO.out (.inl h1))
        clear HNO HYES
        go_wp2_with fail
        go_ret
        exact ⟨by rw [HR.out]; rfl, HL.out⟩
      · by_cases h2 : 8796093022208 ≤ x
        · have HR := Lib.hid (HNO.out (.inr h2))
          clear HNO HYES
          go_wp2_with fail
          go_ret
          exact ⟨by rw [HR.out]; rfl, HL.out⟩
        · have HR := Lib.hid (HYES.out h1 h2)
          clear HNO HYES
          go_wp2_with fail
          go_roundg (4 - (r + 1))
          case measure => omega
          case rel => exact ⟨r + 1, rfl, by go_num, by omega, HR.out, HR0.out, HL.out⟩
    · obtain rfl : r = 4 := by omega
      have r1 : ¬ ((4 : Nat) : Int) < 4 := by omega
      have hmk : mayK v = true := HM.out
      have hc0 : wr.cell? ⟨w.heap.size, 0, none⟩ = some (.int .i64 (nv v 0)) := by rw [HR0.out.cell, mC_cell (by rw [HV.out.len]; omega)]; rfl
      have hc1 : wr.cell? ⟨w.heap.size, 1, none⟩ = some (.int .i64 (nv v 1)) := by rw [HR0.out.cell, mC_cell (by rw [HV.out.len]; omega)]; rfl
      have hc3 : wr.cell? ⟨w.heap.size, 3, none⟩ = some (.int .i64 (nv v 3)) := by rw [HR0.out.cell, mC_cell (by rw [HV.out.len]; omega)]; rfl
      have bb := may_nums hmk
      have HS := Lib.hid (seen_tail hmk)
      have b0 := bb.1
      have b1 := bb.2.1
      have b3 := bb.2.2.2
      have bx : w.heap.size < wr.heap.size := HR0.out.lt
      clear bb hmk HM HR0 HV
      generalize nv v 0 = x0 at hc0 HS b0
      generalize nv v 1 = x1 at hc1 HS b1
      generalize nv v 3 = x3 at hc3 HS b3
      have m1 : -9223372036854775808 ≤ 3 * x3 ∧ 3 * x3 ≤ 9223372036854775807 := by omega
      have m2 : -9223372036854775808 ≤ -x0 ∧ -x0 ≤ 9223372036854775807 := by omega
      have m3 : -9223372036854775808 ≤ -x1 ∧ -x1 ≤ 9223372036854775807 := by omega
      go_wp2_with fail
      go_quiet (fail)
      by_cases h0 : 4096 ≤ x3
      · skip
        by_cases h1 : max x0 (-x0) ≤ 3 * x3
        · skip
          by_cases h2 : max x1 (-x1) ≤ 3 * x3
          · skip
            have HT : Hid (tailK x0 x1 x3 = true) := Lib.hid (tail_yes (by omega) (by omega) (by omega))
            go_wp2_with fail
            go_ret
            exact ⟨by rw [HS.out, HT.out]; rfl, bdrewN _ HL.out⟩
          · skip
            have HT : Hid (tailK x0 x1 x3 = false) := Lib.hid (tail_no (by omega))
            go_wp2_with fail
            go_ret
            exact ⟨by rw [HS.out, HT.out]; rfl, bdrewN _ HL.out⟩
        · skip
          have HT : Hid (tailK x0 x1 x3 = false) := Lib.hid (tail_no (by omega))
          go_wp2_with fail
          go_ret
          exact ⟨by rw [HS.out, HT.out]; rfl, bdrewN _ HL.out⟩
      · skip
        have HT : Hid (tailK x0 x1 x3 = false) := Lib.hid (tail_no (by omega))
        go_wp2_with fail
        go_ret
        exact ⟨by rw [HS.out, HT.out]; rfl, bdrewN _ HL.out⟩
end Go.Proofs.Ytgkglkoipocgaaa.Fx
namespace Go.Proofs.Ytgkglkoipocgaaa.Fx
open Go Go.RowKit Wm
theorem wpList_midg10 {P : Program} {ops : Array Oper} {rest : List Oper} {op : Oper} {a : Act} {w : World} {Q : Exit → Act → World → Prop} (hw : Region.wanted op (yielded ops a.tmps) = true) (ty : TypeId) (x : Operand) (ho : op.op = .load ty x)
    (b o : Nat) (hx : a.eval x = .pointer (some ⟨b, o, none⟩)) (cs : List Value) (d : TypeDesc) (hc : w.rangeAt b o cs)
    (hu : P.underlying ty = some d) (hd : d.isRow = true) (hi : (P.info? ty).map (·.size) = some cs.length)
    (h : wpList P ops Q rest (a.put op.dst (.agg cs.toArray)) w) : wpList P ops Q (op :: rest) a w :=
  wpList_step fun K hK => by
    rw [if_pos hw]
    exact wp_load_mid ty x ho b o hx cs d hc hu hd hi (hK _ _ h)
theorem row_range10 {t : TypeId} {g : Nat} {ls : List Value} {W : World} (h : RowAt t g ls.toArray W) : W.rangeAt g 0 ls := fun i v hi => by
  rw [h.cell, Nat.zero_add]
  simpa using hi
set_option maxRecDepth 100000 in
set_option maxHeartbeats 4000000 in
theorem pCorner_nosize (v : List Int) (W H : Int) (w : World) (cs : Ans 17 #[.int .i64 W, .int .i64 H] (.int .i64 100)) :
    Calls Try.prog 11 #[.agg (mC v), .int .i64 W, .int .i64 H] w fun e w' => e = .returned (.tuple #[.agg #[.int .i64 0, .int .i64 0, .int .i64 0], .int .i64 100]) ∧ Below w.heap.size w w' := by
  have CS := Lib.hid cs
  have I0 := Lib.hid (Cp.new v w)
  clear cs
  go_enter Try.func11, Try.ntmps11
  go_wp2_with fail
  generalize ((w.alloc (.cells (mC v) 23)).alloc (.cells #[.int .i64 0, .int .i64 0, .int .i64 0] 26)) = V at I0 ⊢
  refine (CS.out _).mono ?_
  rintro e w1 ⟨rfl, hb1⟩
  have I2 := Lib.hid (I0.out.up hb1)
  clear hb1 I0 CS
  go_wp2_with (refine wpList_store_big rfl 26 (.tmp 6) (.tmp 21) rfl (w.heap.size + 1) _ _ #[.int .i64 0, .int .i64 0, .int .i64 0] rfl rfl I2.out.rr (by kernel_rfl) rfl (by kernel_rfl) ?_)
  (try simp only [Exit.inBlock, Exit.then])
  exact bodyPost_ret (v := .tuple #[.agg #[.int .i64 0, .int .i64 0, .int .i64 0], .int .i64 100]) (results_row_tmp rfl _ _ (w.heap.size + 1) _ #[.int .i64 0, .int .i64 0, .int .i64 0] _ _ (.int .i64 100) rfl (I2.out.rr.row _) Try.underlying26 rfl (by kernel_rfl) rfl) rfl ⟨rfl, Below.row I2.out.bel (by omega) _⟩
set_option maxRecDepth 100000 in
set_option maxHeartbeats 4000000 in
theorem pCorner_noseen (v : List Int) (ls : List Value) (W H : Int) (w : World) (lv : ls.length = 4) (hls : mC v = ls.toArray) (cs : Ans 17 #[.int .i64 W, .int .i64 H] (.int .i64 0)) (ce : Ans 27 #[.agg ls.toArray] (.bool false)) :
    Calls Try.prog 11 #[.agg (mC v), .int .i64 W, .int .i64 H] w fun e w' => e = .returned (.tuple #[.agg #[.int .i64 0, .int .i64 0, .int .i64 0], .int .i64 100]) ∧ Below w.heap.size w w' := by
  have CS := Lib.hid cs
  have CE := Lib.hid ce
  have IV : Hid ((Try.prog.info? 23).map (·.size) = some ls.length) := Lib.hid (by rw [lv]; kernel_rfl)
  have I0 := Lib.hid (Cp.new v w)
  have HLS := Lib.hid hls
  clear cs ce lv hls
  go_enter Try.func11, Try.ntmps11
  go_wp2_with fail
  generalize ((w.alloc (.cells (mC v) 23)).alloc (.cells #[.int .i64 0, .int .i64 0, .int .i64 0] 26)) = V at I0 ⊢
  refine (CS.out _).mono ?_
  rintro e w1 ⟨rfl, hb1⟩
  have I1 := Lib.hid (I0.out.up hb1)
  clear hb1 I0 CS
  have r1 : w1.rangeAt w.heap.size 0 ls := row_range10 (by rw [← HLS.out]; exact I1.out.rv)
  go_wp2_with (refine wpList_midg10 rfl 23 (.tmp 3) rfl w.heap.size 0 rfl ls _ r1 Try.underlying23 rfl IV.out ?_)
  refine (CE.out _).mono ?_
  rintro e w2 ⟨rfl, hb2⟩
  have I2 := Lib.hid (I1.out.up hb2)
  clear hb2 I1 CE r1
  go_wp2_with (refine wpList_store_big rfl 26 (.tmp 6) (.tmp 21) rfl (w.heap.size + 1) _ _ #[.int .i64 0, .int .i64 0, .int .i64 0] rfl rfl I2.out.rr (by kernel_rfl) rfl (by kernel_rfl) ?_)
  (try simp only [Exit.inBlock, Exit.then])
  exact bodyPost_ret (v := .tuple #[.agg #[.int .i64 0, .int .i64 0, .int .i64 0], .int .i64 100]) (results_row_tmp rfl _ _ (w.heap.size + 1) _ #[.int .i64 0, .int .i64 0, .int .i64 0] _ _ (.int .i64 100) rfl (I2.out.rr.row _) Try.underlying26 rfl (by kernel_rfl) rfl) rfl ⟨rfl, Below.row I2.out.bel (by omega) _⟩
set_option maxRecDepth 100000 in
set_option maxHeartbeats 8000000 in
theorem pCorner_yes (v : List Int) (ls : List Value) (W H x0 x1 x2 x3 qx qy qz qc : Int) (w : World) (lv : v.length = 4) (lls : ls.length = 4) (hls : mC v = ls.toArray) (cs : Ans 17 #[.int .i64 W, .int .i64 H] (.int .i64 0)) (ce : Ans 27 #[.agg ls.toArray] (.bool true))
    (e0 : nv v 0 = x0) (e1 : nv v 1 = x1) (e2 : nv v 2 = x2) (e3 : nv v 3 = x3) (b0 : -9223372036854775808 ≤ x0 + x3 ∧ x0 + x3 ≤ 9223372036854775807) (b1 : -9223372036854775808 ≤ x3 - x1 ∧ x3 - x1 ≤ 9223372036854775807) (bW : -9223372036854775808 ≤ 8 * W ∧ 8 * W ≤ 9223372036854775807) (bH : -9223372036854775808 ≤ 8 * H ∧ 8 * H ≤ 9223372036854775807)
    (cx : Ans 28 #[.int .i64 (x0 + x3), .int .i64 (8 * W), .int .i64 x3] (.int .i64 qx)) (cy : Ans 28 #[.int .i64 (x3 - x1), .int .i64 (8 * H), .int .i64 x3] (.int .i64 qy)) (cz : Ans 28 #[.int .i64 x2, .int .i64 16777215, .int .i64 x3] (.int .i64 qz)) (hqc : cutZ qz = qc) :
    Calls Try.prog 11 #[.agg (mC v), .int .i64 W, .int .i64 H] w fun e w' => e = .returned (.tuple #[.agg #[.int .i64 qx, .int .i64 qy, .int .i64 qc], .int .i64 0]) ∧ Below w.heap.size w w' := by
  have CS := Lib.hid cs
  have CE := Lib.hid ce
  have CX := Lib.hid cx
  have CY := Lib.hid cy
  have CZ := Lib.hid cz
  have IV : Hid ((Try.prog.info? 23).map (·.size) = some ls.length) := Lib.hid (by rw [lls]; kernel_rfl)
  have I0 := Lib.hid (Cp.new v w)
  have HLS := Lib.hid hls
  have HC0 : Hid (∀ X, RowAt 23 w.heap.size (mC v) X → X.cell? ⟨w.heap.size, 0, none⟩ = some (.int .i64 x0)) := Lib.hid fun X h => by rw [h.cell, mC_cell (by omega), ← e0]; rfl
  have HC1 : Hid (∀ X, RowAt 23 w.heap.size (mC v) X → X.cell? ⟨w.heap.size, 1, none⟩ = some (.int .i64 x1)) := Lib.hid fun X h => by rw [h.cell, mC_cell (by omega), ← e1]; rfl
  have HC2 : Hid (∀ X, RowAt 23 w.heap.size (mC v) X → X.cell? ⟨w.heap.size, 2, none⟩ = some (.int .i64 x2)) := Lib.hid fun X h => by rw [h.cell, mC_cell (by omega), ← e2]; rfl
  have HC3 : Hid (∀ X, RowAt 23 w.heap.size (mC v) X → X.cell? ⟨w.heap.size, 3, none⟩ = some (.int .i64 x3)) := Lib.hid fun X h => by rw [h.cell, mC_cell (by omega), ← e3]; rfl
  have HQ := Lib.hid hqc
  clear lv lls hls cs ce cx cy cz hqc e0 e1 e2 e3
  go_enter Try.func11, Try.ntmps11
  go_wp2_with fail
  generalize ((w.alloc (.cells (mC v) 23)).alloc (.cells #[.int .i64 0, .int .i64 0, .int .i64 0] 26)) = V at I0 ⊢
  refine (CS.out _).mono ?_
  rintro e w1 ⟨rfl, hb1⟩
  have I1 := Lib.hid (I0.out.up hb1)
  clear hb1 I0 CS
  have r1 : w1.rangeAt w.heap.size 0 ls := row_range10 (by rw [← HLS.out]; exact I1.out.rv)
  go_wp2_with (refine wpList_midg10 rfl 23 (.tmp 3) rfl w.heap.size 0 rfl ls _ r1 Try.underlying23 rfl IV.out ?_)
  refine (CE.out _).mono ?_
  rintro e w2 ⟨rfl, hb2⟩
  have I2 := Lib.hid (I1.out.up hb2)
  clear hb2 I1 CE r1 IV HLS
  have c0 := HC0.out _ I2.out.rv
  have c1 := HC1.out _ I2.out.rv
  have c2 := HC2.out _ I2.out.rv
  have c3 := HC3.out _ I2.out.rv
  have z0 : w.heap.size < w2.heap.size := I2.out.rv.lt
  clear HC0 HC1 HC2 HC3
  go_wp2_with fail
  go_quiet (fail)
  have B2 := Lib.hid I2.out.bel
  have R2 := Lib.hid I2.out.rr
  clear I2 c0 c1 c2 c3 z0
  generalize hV : World.drewN w2 _ = V2
  have bV : Below w2.heap.size w2 V2 := by rw [← hV]; exact bdrewN _ (Below.refl _ _)
  have RD := Lib.hid (R2.out.below bV)
  have BD := Lib.hid (bnext B2.out bV)
  clear hV bV
  clear R2 B2
  go_wp2_with fail
  refine (CX.out _).mono ?_
  rintro e w3 ⟨rfl, hb3⟩
  have R3 := Lib.hid (RD.out.below hb3)
  have B3 := Lib.hid (bnext BD.out hb3)
  clear hb3 RD BD CX
  go_wp2_with fail
  refine (CY.out _).mono ?_
  rintro e w4 ⟨rfl, hb4⟩
  have R4 := Lib.hid (R3.out.below hb4)
  have B4 := Lib.hid (bnext B3.out hb4)
  clear hb4 R3 B3 CY
  go_wp2_with fail
  refine (CZ.out _).mono ?_
  rintro e w5 ⟨rfl, hb5⟩
  have R5 := Lib.hid (R4.out.below hb5)
  have B5 := Lib.hid (bnext B4.out hb5)
  clear hb5 R4 B4 CZ
  clear b0 b1 bW bH
  have hz5 : w.heap.size + 1 < w5.heap.size := R5.out.lt
  have HE : Hid (min (max qz 0) 16777215 = qc) := Lib.hid (by rw [← HQ.out]; unfold cutZ; split <;> (try split) <;> omega)
  clear HQ
  go_wp2_with (refine wpList_store_big rfl 26 (.tmp 6) (.tmp 49) rfl (w.heap.size + 1) _ _ #[.int .i64 qx, .int .i64 qy, .int .i64 (min (max qz 0) 16777215)] rfl rfl R5.out (by kernel_rfl) rfl (by kernel_rfl) ?_)
  (try simp only [Exit.inBlock, Exit.then])
  rw [← HE.out]
  exact bodyPost_ret (v := .tuple #[.agg #[.int .i64 qx, .int .i64 qy, .int .i64 (min (max qz 0) 16777215)], .int .i64 0]) (results_row_tmp rfl _ _ (w.heap.size + 1) _ #[.int .i64 qx, .int .i64 qy, .int .i64 (min (max qz 0) 16777215)] _ _ (.int .i64 0) rfl (R5.out.row _) Try.underlying26 rfl (by kernel_rfl) rfl) rfl ⟨rfl, Below.row B5.out (by omega) _⟩
theorem pCorner_any (v : List Int) (W H : Int) (w : World) (hv : VecWf v) :
    Calls Try.prog 11 #[.agg (mC v), .int .i64 W, .int .i64 H] w fun e w' => e = .returned (.tuple #[.agg (mC (cornV v W H)), .int .i64 (cornE v W H)]) ∧ Below w.heap.size w w' := by
  have cs : Ans 17 #[.int .i64 W, .int .i64 H] (.int .i64 (if sizeK W H = true then 0 else 100)) := fun w => pCheck_any W H w
  have ce : Ans 27 #[.agg (v.map encI).toArray] (.bool (seenK v)) := fun w => pseen_any10 v w hv
  have hl : (v.map encI).length = 4 := by rw [List.length_map, hv.len]
  by_cases hs : sizeK W H = true
  · rw [if_pos hs] at cs
    by_cases hk : seenK v = true
    · have hb : sizeK W H = true ∧ seenK v = true := ⟨hs, hk⟩
      have e1 : cornV v W H = cornK v W H := by unfold cornV cornO; rw [if_pos hb]; rfl
      have e2 : cornE v W H = 0 := by unfold cornE cornO; rw [if_pos hb]; rfl
      rw [e1, e2]
      obtain ⟨h1, h2⟩ := (size_iff W H).1 hs
      obtain ⟨hm, h3, h4, h5⟩ := (seen_iff v).1 hk
      have bb := may_nums hm
      obtain ⟨b0, b1, b2, b3⟩ := bb
      rw [hk] at ce
      have nx := corn_num (x := nv v 0) (w := nv v 3) (by omega) (by omega) h4 h1
      have ny := corn_num (x := -(nv v 1)) (w := nv v 3) (by omega) (by omega) (by omega) h2
      have nz := quot_num (z := nv v 2) h3 b2
      rw [← cornY_X] at ny
      have N (x : Int) (h : -9223372036854775808 ≤ x ∧ x ≤ 9223372036854775807) : Num x := h
      exact pCorner_yes v (v.map encI) W H _ _ _ _ _ _ _ _ w hv.len hl rfl cs ce rfl rfl rfl rfl (by omega) (by omega) (by omega) (by omega)
        (ppart_num10 _ _ _ (cornX (nv v 0) (nv v 3) W) (N _ (by omega)) (N _ (by omega)) (by omega) rfl (N _ (by omega)))
        (ppart_num10 _ _ _ (cornY (nv v 1) (nv v 3) H) (N _ (by omega)) (N _ (by omega)) (by omega) rfl (N _ (by omega)))
        (ppart_num10 _ _ _ (quotZ (nv v 2) (nv v 3)) (N _ (by omega)) (N _ (by omega)) (by omega) rfl (N _ (by omega))) rfl
    · have hb : ¬ (sizeK W H = true ∧ seenK v = true) := fun h => hk h.2
      have e1 : cornV v W H = [0, 0, 0] := by unfold cornV cornO; rw [if_neg hb]; rfl
      have e2 : cornE v W H = 100 := by unfold cornE cornO; rw [if_neg hb]; rfl
      rw [e1, e2]
      rw [Bool.eq_false_iff.2 hk] at ce
      exact pCorner_noseen v (v.map encI) W H w hl rfl cs ce
  · have hb : ¬ (sizeK W H = true ∧ seenK v = true) := fun h => hs h.1
    have e1 : cornV v W H = [0, 0, 0] := by unfold cornV cornO; rw [if_neg hb]; rfl
    have e2 : cornE v W H = 100 := by unfold cornE cornO; rw [if_neg hb]; rfl
    rw [if_neg hs] at cs
    rw [e1, e2]
    exact pCorner_nosize v W H w cs
end Go.Proofs.Ytgkglkoipocgaaa.Fx
namespace Go.Proofs.Ytgkglkoipocgaaa.Fx
open Go Go.RowKit Wm
theorem pix_no {c : List Int} {W H : Int} (h : pixB c W H = false) : pixX c W H = 0 ∧ pixY c W H = 0 := by
  unfold pixX pixY
  rw [h]
  exact ⟨rfl, rfl⟩
set_option maxRecDepth 100000 in
set_option maxHeartbeats 4000000 in
theorem pPixel_any (c : List Int) (W H : Int) (w : World) (lc : c.length = 3) (cn : ∀ j, Num (c.getD j 0)) :
    Calls Try.prog 15 #[.agg (mC c), .int .i64 W, .int .i64 H] w fun e w' => e = .returned (.tuple #[.int .i64 (pixX c W H), .int .i64 (pixY c W H), .bool (pixB c W H)]) ∧ Below w.heap.size w w' := by
  have CS : Hid (Ans 17 #[.int .i64 W, .int .i64 H] (.int .i64 (if sizeK W H = true then 0 else 100))) := Lib.hid fun w => pCheck_any W H w
  obtain ⟨x0, e0⟩ : ∃ x, nv c 0 = x := ⟨_, rfl⟩
  obtain ⟨x1, e1⟩ : ∃ x, nv c 1 = x := ⟨_, rfl⟩
  have HC0 : Hid (∀ X, RowAt 26 w.heap.size (mC c) X → X.cell? ⟨w.heap.size, 0, none⟩ = some (.int .i64 x0)) := Lib.hid fun X h => by rw [h.cell, mC_cell (by omega), ← e0]; rfl
  have HC1 : Hid (∀ X, RowAt 26 w.heap.size (mC c) X → X.cell? ⟨w.heap.size, 1, none⟩ = some (.int .i64 x1)) := Lib.hid fun X h => by rw [h.cell, mC_cell (by omega), ← e1]; rfl
  have HP := pix_iff c W H
  have HX : Hid (pixB c W H = false → pixX c W H = 0 ∧ pixY c W H = 0) := Lib.hid pix_no
  have HX1 : Hid (pixB c W H = true → pixX c W H = x0 / 16 ∧ pixY c W H = x1 / 16) := Lib.hid fun h => by unfold pixX pixY; rw [if_pos h, if_pos h, e0, e1]; exact ⟨rfl, rfl⟩
  rw [e0, e1] at HP
  have HPF : Hid (¬ (sizeK W H = true ∧ (0 ≤ x0 ∧ x0 < 16 * W) ∧ 0 ≤ x1 ∧ x1 < 16 * H) → pixB c W H = false) := Lib.hid fun h => by
    cases e : pixB c W H with
    | false => rfl
    | true => exact absurd (HP.1 e) h
  have HPT : Hid ((sizeK W H = true ∧ (0 ≤ x0 ∧ x0 < 16 * W) ∧ 0 ≤ x1 ∧ x1 < 16 * H) → pixB c W H = true) := Lib.hid HP.2
  have HSI := Lib.hid (size_iff W H)
  generalize pixX c W H = px at HX HX1 ⊢
  generalize pixY c W H = py at HX HX1 ⊢
  generalize pixB c W H = pb at HX HX1 HPF HPT ⊢
  have HR : Hid (RowAt 26 w.heap.size (mC c) (w.alloc (.cells (mC c) 26))) := Lib.hid (RowAt.new _ _ _)
  have HB : Hid (Below w.heap.size w (w.alloc (.cells (mC c) 26))) := Lib.hid (by go_grown)
  clear lc cn e0 e1 HP
  go_enter Try.func15, Try.ntmps15
  go_wp2_with fail
  generalize (w.alloc (.cells (mC c) 26)) = V at HR HB ⊢
  refine (CS.out _).mono ?_
  rintro e w1 ⟨rfl, hb1⟩
  have R1 := Lib.hid (HR.out.below hb1)
  have BB := Lib.hid (bnext HB.out hb1)
  clear hb1 HR HB CS
  by_cases hs : sizeK W H = true
  · rw [if_pos hs]
    obtain ⟨d1, d2⟩ := HSI.out.1 hs
    have W0 : Hid (Ans 33 #[.int .i64 x0, .int .i64 W] (.bool (decide (0 ≤ x0) && decide (x0 < 16 * W)))) := Lib.hid fun w => pwithin_any10 x0 W w d1
    have W1 : Hid (Ans 33 #[.int .i64 x1, .int .i64 H] (.bool (decide (0 ≤ x1) && decide (x1 < 16 * H)))) := Lib.hid fun w => pwithin_any10 x1 H w d2
    have HS := Lib.hid hs
    have c0 := HC0.out _ R1.out
    have z0 : w.heap.size < w1.heap.size := R1.out.lt
    have HD := Lib.hid (And.intro d1 d2)
    clear hs d1 d2
    by_cases g0 : 0 ≤ x0 ∧ x0 < 16 * W
    · rw [decide_eq_true g0.1, decide_eq_true g0.2] at W0
      go_wp2_with fail
      refine (W0.out _).mono ?_
      rintro e w2 ⟨rfl, hb2⟩
      have R2 := Lib.hid (R1.out.below hb2)
      have BB2 := Lib.hid (bnext BB.out hb2)
      have c1 := HC1.out _ R2.out
      have z1 : w.heap.size < w2.heap.size := R2.out.lt
      clear hb2 R1 BB c0 z0 W0
      have G0 := Lib.hid g0
      clear g0
      by_cases g1 : 0 ≤ x1 ∧ x1 < 16 * H
      · rw [decide_eq_true g1.1, decide_eq_true g1.2] at W1
        have PT := Lib.hid (HPT.out ⟨HS.out, G0.out, g1⟩)
        have EX := Lib.hid (HX1.out PT.out)
        have y1 : (0 : Int) ≤ x1 := g1.1
        have y0 : (0 : Int) ≤ x0 := G0.out.1
        have G1 := Lib.hid g1
        clear g1 HPF HPT HX HX1
        go_wp2_with fail
        refine (W1.out _).mono ?_
        rintro e w3 ⟨rfl, hb3⟩
        have R3 := Lib.hid (R2.out.below hb3)
        have BB := Lib.hid (bnext BB2.out hb3)
        have c0 := HC0.out _ R3.out
        have c1' := HC1.out _ R3.out
        have z0 : w.heap.size < w3.heap.size := R3.out.lt
        clear hb3 R2 BB2 c1 z1 W1 HC0 HC1
        obtain ⟨q0, hq0⟩ : ∃ q, x0 / 16 = q := ⟨_, rfl⟩
        obtain ⟨q1, hq1⟩ : ∃ q, x1 / 16 = q := ⟨_, rfl⟩
        have t0 : x0.tdiv 16 = q0 := by rw [Int.tdiv_eq_ediv_of_nonneg y0, hq0]
        have t1 : x1.tdiv 16 = q1 := by rw [Int.tdiv_eq_ediv_of_nonneg y1, hq1]
        rw [hq0, hq1] at EX
        have u0 : -9223372036854775808 ≤ q0 ∧ q0 ≤ 9223372036854775807 := by have := G0.out; have := HD.out; omega
        have u1 : -9223372036854775808 ≤ q1 ∧ q1 ≤ 9223372036854775807 := by have := G1.out; have := HD.out; omega
        clear hq0 hq1 HS G0 G1 HSI HD
        go_wp2_with fail
        go_quiet (fail)
        go_wp2_with fail
        go_ret3
        exact ⟨by rw [PT.out, EX.out.1, EX.out.2]; rfl, bdrewN _ BB.out⟩
      · have WB : Hid ((decide (0 ≤ x1) && decide (x1 < 16 * H)) = false) := Lib.hid (by rw [Bool.and_eq_false_iff]; simp only [decide_eq_false_iff_not]; omega)
        rw [WB.out] at W1
        have E3 := Lib.hid (HPF.out (fun h => g1 h.2.2))
        have E1 := Lib.hid (HX.out E3.out).1
        have E2 := Lib.hid (HX.out E3.out).2
        clear g1 HPF HPT HX HX1 WB HS G0 HSI
        go_wp2_with fail
        refine (W1.out _).mono ?_
        rintro e w3 ⟨rfl, hb3⟩
        have BB := Lib.hid (bnext BB2.out hb3)
        clear hb3 R2 BB2 c1 z1 W1 HC0 HC1
        go_wp2_with fail
        go_ret3
        exact ⟨by rw [E1.out, E2.out, E3.out]; rfl, BB.out⟩
    · have WB : Hid ((decide (0 ≤ x0) && decide (x0 < 16 * W)) = false) := Lib.hid (by rw [Bool.and_eq_false_iff]; simp only [decide_eq_false_iff_not]; omega)
      rw [WB.out] at W0
      have E3 := Lib.hid (HPF.out (fun h => g0 h.2.1))
      have E1 := Lib.hid (HX.out E3.out).1
      have E2 := Lib.hid (HX.out E3.out).2
      clear g0 HPF HPT HX HX1 WB HS HSI W1
      go_wp2_with fail
      refine (W0.out _).mono ?_
      rintro e w2 ⟨rfl, hb2⟩
      have BB2 := Lib.hid (bnext BB.out hb2)
      clear hb2 R1 BB c0 z0 W0 HC0 HC1
      go_wp2_with fail
      go_ret3
      exact ⟨by rw [E1.out, E2.out, E3.out]; rfl, BB2.out⟩
  · rw [if_neg hs]
    have E3 := Lib.hid (HPF.out (fun h => hs h.1))
    have E1 := Lib.hid (HX.out E3.out).1
    have E2 := Lib.hid (HX.out E3.out).2
    clear hs HPF HPT HX HX1 HSI HC0 HC1 R1
    go_wp2_with fail
    go_ret3
    exact ⟨by rw [E1.out, E2.out, E3.out]; rfl, BB.out⟩
end Go.Proofs.Ytgkglkoipocgaaa.Fx
namespace Go.Proofs.Ytgkglkoipocgaaa.Fx
open Go Go.RowKit Go.Shelf Wm
attribute [local go_sem] Oper.semAt_some
theorem exec_mid10 {P : Program} {o : Oper} {a : Act} {w : World} (ty : TypeId) (x : Operand) (ho : o.op = .load ty x)
    (b off : Nat) (hx : a.eval x = .pointer (some ⟨b, off, none⟩)) (cs : List Value) (d : TypeDesc) (hc : w.rangeAt b off cs)
    (hu : P.underlying ty = some d) (hd : d.isRow = true) (hi : (P.info? ty).map (·.size) = some cs.length) :
    (execOp a.eval o).run P w = .ok (.value (.agg cs.toArray)) w := by
  unfold execOp
  simp only [ho, hx, Instr.loadAt, Instr.sureAddr, Sem.run_bind, Sem.run_pure, Result.andThen_ok, run_loadVar_mid w b off ty cs d hc hu hd hi]
theorem wpListIn_mid10 {F : Fence} {n : Nat} {P : Program} {ops : Array Oper} {rest : List Oper} {o : Oper} {a : Act} {w : World} {Q : Exit → Act → World → Prop} (hF : ∀ f, F.fn f) (hg : o.guard = none) (ty : TypeId) (x : Operand) (ho : o.op = .load ty x)
    (b off : Nat) (hx : a.eval x = .pointer (some ⟨b, off, none⟩)) (cs : List Value) (d : TypeDesc) (hc : w.rangeAt b off cs)
    (hu : P.underlying ty = some d) (hd : d.isRow = true) (hi : (P.info? ty).map (·.size) = some cs.length) (h : wpListIn F n P ops Q rest (a.put o.dst (.agg cs.toArray)) w) : wpListIn F n P ops Q (o :: rest) a w :=
  wpListIn_plain hg fun K hK => by
    unfold Oper.wpIn
    rw [Oper.semAt_plain F _ _ (by intro c e; rw [ho] at e; cases e)]
    rw [exec_mid10 ty x ho b off hx cs d hc hu hd hi]
    exact ⟨fun f _ => hF f, hK _ _ h⟩
theorem wpListIn_new10 {F : Fence} {n : Nat} {P : Program} {ops : Array Oper} {rest : List Oper} {o : Oper} {a : Act} {w : World} {Q : Exit → Act → World → Prop} (hF : ∀ f, F.fn f) (hgd : o.guard = none) (ty : TypeId) (x y : Operand) (ho : o.op = .store ty x y)
    (g : Nat) (t : TypeId) (c c' : Array Value) (hx : a.eval x = .pointer (some ⟨g, 0, none⟩)) (hg : w.heap.size = g) (hy : a.eval y = .agg c')
    (hi : (P.info? ty).map (·.size) = some c'.size) (hs : c.size = c'.size) (h1 : c'.all (·.oneCell') = true)
    (h : wpListIn F n P ops Q rest (a.put o.dst undef) (w.alloc (.cells c' t))) : wpListIn F n P ops Q (o :: rest) a (w.alloc (.cells c t)) := by
  subst hg
  refine wpListIn_plain hgd fun K hK => ?_
  refine wpIn_store_row hF ty x y ho w.heap.size t c c' hx hy (heap_alloc_new _ _) hi hs h1 ?_
  rw [World.setRow_alloc_new]
  exact hK _ _ h
theorem Kept.cell10 {B : Nat} {W W' : World} (k : Kept B W W') {p : Addr} {v : Value} (h : W.cell? p = some v) : W'.cell? p = some v := by
  unfold World.cell? at h ⊢
  cases hb : W.heap[p.block]? with
  | none => rw [hb] at h; simp at h
  | some o =>
    cases o with
    | cells c t f =>
      rw [k.cells hb]
      rw [hb] at h
      exact h
    | _ => rw [hb] at h; simp at h
theorem VecsAt.kept10 {B : Nat} {W W' : World} {o : Option Addr} {l : List (List Int)} (kp : Kept B W W') (h : VecsAt W o l) : VecsAt W' o l := fun k z hk => by
  obtain ⟨b, off, e, h1, h2⟩ := h k z hk
  exact ⟨b, off, e, fun i v hi => kp.cell10 (h1 i v hi), h2⟩
theorem VertsAt.kept10 {B : Nat} {W W' : World} {o : Option Addr} {l : List (List Int)} (kp : Kept B W W') (h : VertsAt W o l) : VertsAt W' o l := fun k z hk => by
  obtain ⟨b, off, e, h1, h2⟩ := h k z hk
  exact ⟨b, off, e, fun i v hi => kp.cell10 (h1 i v hi), h2⟩
/-- the mark that a range left behind -/
theorem leaves10 {n : Nat} {P : Program} {fn : Func} {tmps : Array Value} {R : Ending → World → Prop} {B D : Nat} {W : World} (h1 : B ≤ D) (h3 : W.heap[D]? = some (.deferred (some [])))
    (h : ∀ X, Kept B W X → LeavesInM Fence.wide n P fn tmps R [] .returning X) : LeavesInM Fence.wide n P fn tmps R [{ target := .collected D, args := #[] }] .returning W :=
  ⟨by simp, .inl ⟨_, _, rfl, run_takeDeferred h3, h _ (Kept.putObj _ h1 h3 rfl)⟩⟩
theorem below_keeps10 {W X : World} (h : Below W.heap.size W X) (B : Nat) : KeepsFrom B W X :=
  ⟨h.size, fun k o _ hk _ => by rw [h.block k (Array.getElem?_eq_some_iff.1 hk).1]; exact hk⟩
theorem cell_keeps10 (W : World) (a : Addr) (v : Value) (B : Nat) : KeepsFrom B W (W.setCell a v) := (KeepsOthers.setCell _ _ _).from _
section
variable {α : Type} {t : TypeId} {m : Nat} {f : α → List Value}
theorem grown_keeps10 {W X : World} {v : Value} {C : Nat} {L : List α} (ho : OwnG t m f W C v L) (hg : W.grownBy X v.ownBlock) (B : Nat) : KeepsFrom B W X :=
  ⟨hg.size, fun k ob _ hk hob => by
    rw [hg.block k (Array.getElem?_eq_some_iff.1 hk).1 (fun e => by
      obtain ⟨cur, hr⟩ := OwnG.row ho k e.symm
      rw [hr] at hk
      cases hk
      cases hob)]
    exact hk⟩
theorem wpListIn_build10 {bytes : Nat} (hi : InfoG t m bytes) (hm : m ≤ 1000) {F : Fence} {n : Nat} {ops : Array Oper} {rest : List Oper} {o : Oper} {a : Act} {Q : Exit → Act → World → Prop} {W : World} (hF : ∀ f, F.fn f) (hg : o.guard = none) (x : Operand) (ts : TypeId) (hu : Try.prog.underlying ts = some (.slice t))
    (ho : o.op = .buildSlice ts 1 #[(0, x)]) (cs : Array Value) (hx : a.eval x = .agg cs) (hc : cs.size = m)
    (h : wpListIn F n Try.prog ops Q rest (a.put o.dst (.slice (some ⟨W.heap.size, 0, none⟩) 1 1)) (W.alloc (.cells cs t))) : wpListIn F n Try.prog ops Q (o :: rest) a W :=
  wpListIn_plain hg fun K hK => by
    have hrun := run_buildOne hi hm ts hu W cs hc
    unfold Oper.wpIn
    refine ⟨fun f _ => hF f, ?_⟩
    rw [Oper.semAt_plain F _ _ (by rw [ho]; intro c hc'; cases hc')]
    simp [execOp, ho, hx, hrun, Result.andThen]
    exact hK _ _ h
theorem wpListIn_app10 {bytes : Nat} (hi : InfoG t m bytes) {F : Fence} {n : Nat} {ops : Array Oper} {rest : List Oper} {o : Oper} {a : Act} {Q : Exit → Act → World → Prop} {W : World} (hF : ∀ f, F.fn f) (hg : o.guard = none) (sx x : Operand) (ts : TypeId)
    (ho : o.op = .call { callee := .builtin .append, args := #[sx, x], argTypes := #[ts, ts] }) (hu : Try.prog.underlying ts = some (.slice t)) (B : Nat) (v : Value) (L : List α) (z : α) (hs : a.eval sx = v) (hB : B ≤ W.heap.size) (hown : OwnG t m f W B v L)
    (g c : Nat) (hx : a.eval x = .slice (some ⟨g, 0, none⟩) 1 c) (hr : W.heap[g]? = some (.cells (f z).toArray t (0, 0))) (hlen : (f z).length = m) (hone : ∀ u ∈ f z, u.oneCell' = true) (hL : L.length + 1 ≤ 1000000)
    (h : ∀ v' X, OwnG t m f X B v' (L ++ [z]) → W.grownBy X v.ownBlock → Hid (wpListIn F n Try.prog ops Q rest (a.put o.dst v') X)) :
    wpListIn F n Try.prog ops Q (o :: rest) a W :=
  wpListIn_plain hg fun K hK => wpIn_app_G hi hF sx x ts ho hu B v L [z] hs hB hown (some ⟨g, 0, none⟩) c hx (fun h => by cases h) (one_src hr) (fun y hy => by simp at hy; subst hy; exact hlen) (fun y hy => by simp at hy; subst hy; exact hone) (by simpa using hL) fun v' X h1 h2 => hK _ _ (h v' X h1 h2).out
end
end Go.Proofs.Ytgkglkoipocgaaa.Fx
namespace Go.Proofs.Ytgkglkoipocgaaa.Fx
open Go Go.RowKit Go.Shelf Wm
attribute [local go_sem] Oper.semAt_some
/-- what the iterator hands on -/
def tdcElem (l : List (List Int)) (fv : List Int → List Int) (fe : List Int → Int) (k : Nat) : Array Value := #[.agg (mC (fv (l.getD k []))), .int .i64 (fe (l.getD k []))]
/-- what it reads -/
structure tdcM (l : List (List Int)) (o : Option Addr) (c A : Nat) (F : Value) (CM : World → Prop) (X : World) : Prop where
  rl : RowAt 24 A #[.slice o l.length c] X
  rf : RowAt 66 (A + 1) #[F] X
  at_ : VecsAt X o l
  cm : CM X
theorem tdcM.kept {l : List (List Int)} {o : Option Addr} {c A B : Nat} {F : Value} {CM : World → Prop} {X Y : World} (hcm : ∀ B X Y, Kept B X Y → CM X → CM Y) (kp : Kept B X Y) (h : tdcM l o c A F CM X) : tdcM l o c A F CM Y := ⟨kp.cells h.rl, kp.cells h.rf, h.at_.kept10 kp, hcm _ _ _ kp h.cm⟩
theorem tdcM.up {l : List (List Int)} {o : Option Addr} {c A : Nat} {F : Value} {CM : World → Prop} {X Y : World} (hcm : ∀ B X Y, Kept B X Y → CM X → CM Y) (hb : Below X.heap.size X Y) (h : tdcM l o c A F CM X) : tdcM l o c A F CM Y := h.kept hcm (Kept.of_below (B := 0) hb)
set_option maxRecDepth 100000 in
set_option maxHeartbeats 4000000 in
theorem tdc_hands (l : List (List Int)) (o : Option Addr) (c A g : Nat) (lb : Array Value) (fv : List Int → List Int) (fe : List Int → Int) (CM : World → Prop) (hl : l.length ≤ 1000) (eg : ∀ args w, (callFunc g args).run Try.prog w = .ok (.enter g args) w) (hcm : ∀ B X Y, Kept B X Y → CM X → CM Y)
    (hf : ∀ (X : World) (v : List Int), CM X → VecWf v → Calls Try.prog g (#[.agg (mC v)] ++ lb) X fun e w' => e = .returned (.tuple #[.agg (mC (fv v)), .int .i64 (fe v)]) ∧ Below X.heap.size X w') :
    Hands Fence.wide 4 Try.prog 62 #[.pointer (some ⟨A, 0, none⟩), .pointer (some ⟨A + 1, 0, none⟩)] (tdcElem l fv fe) l.length (tdcM l o c A (.func (.func g) #[] lb) CM) := by
  intro lp J Jx W hJ1 hJ2 hJB hJxB hY h0
  have hM := hJB 0 W h0
  obtain ⟨n, hn⟩ : ∃ n, l.length = n := ⟨_, rfl⟩
  have HN := Lib.hid hn
  have cA : W.cell? ⟨A, 0, none⟩ = some (.slice o n c) := by rw [hM.rl.cell, hn]; rfl
  have HY := Lib.hid hY; clear hY
  have HJ1 := Lib.hid hJ1; clear hJ1
  have HJ2 := Lib.hid hJ2; clear hJ2
  have HJB := Lib.hid hJB; clear hJB
  have HJxB := Lib.hid hJxB; clear hJxB
  have HCM := Lib.hid hcm
  have HF := Lib.hid hf
  rw [hn] at HY hl ⊢
  have n0 : (0 : Int) ≤ (n : Int) := by omega
  have n1 : (n : Int) ≤ 1000 := by omega
  clear hn hM hcm hf
  refine callsIn_of_wp Try.func62 rfl trivial ?_ rfl
  simp only [Try.ntmps62, List.size_toArray, List.length_cons, List.length_nil, Nat.reduceAdd, Nat.reduceSub, Array.replicate_succ, Array.replicate_zero, List.push_toArray, List.append_toArray, List.nil_append, List.cons_append]
  gi_wp2
  clear cA
  gi_loopw [8] (fun v8 wr => ∃ k : Nat, v8 = .int .i64 (k : Int) ∧ k ≤ n ∧ J k wr) (fun v8 _ => n - (intOf v8).toNat)
  case atStart => exact ⟨0, rfl, by omega, h0⟩
  case round =>
    clear h0
    obtain ⟨k, rfl, hk, hJ⟩ := hrel
    have k0 : (0 : Int) ≤ (k : Int) := by omega
    by_cases hkn : k < n
    · have t1 : (k : Int) < (n : Int) := by omega
      have hM := HJB.out k wr hJ
      obtain ⟨b, off, e, hr1, hw1⟩ := VecsAt.get hM.at_ (k := k) (by rw [HN.out]; exact hkn)
      subst e
      obtain ⟨x, hx⟩ : ∃ x, l.getD k [] = x := ⟨_, rfl⟩
      obtain ⟨xs, hxs⟩ : ∃ xs, x.map encI = xs := ⟨_, rfl⟩
      obtain ⟨fx, hfx⟩ : ∃ y, mC (fv x) = y := ⟨_, rfl⟩
      obtain ⟨ex, hex⟩ : ∃ y, fe x = y := ⟨_, rfl⟩
      have hel : tdcElem l fv fe k = #[.agg fx, .int .i64 ex] := by unfold tdcElem; rw [hx, hfx, hex]
      rw [hx] at hr1 hw1
      rw [hxs] at hr1
      have hlx : xs.length = 4 := by rw [← hxs, List.length_map]; exact hw1.len
      have HR1 := Lib.hid hr1
      have I1 : Hid ((Try.prog.info? 23).map (·.size) = some xs.length) := Lib.hid (by rw [hlx]; kernel_rfl)
      have I1A : Hid ((Try.prog.info? 23).map (·.size) = some xs.toArray.size) := Lib.hid (by rw [List.size_toArray, hlx]; kernel_rfl)
      have Z1 : Hid (4 = xs.toArray.size) := Lib.hid (by rw [List.size_toArray, hlx])
      have O1 : Hid (xs.toArray.all (·.oneCell') = true) := Lib.hid (by rw [← hxs]; exact mC_one _)
      have HB : Hid (Below wr.heap.size wr (wr.alloc (.cells xs.toArray 23))) := Lib.hid ((Below.refl _ wr).alloc (Nat.le_refl _) _)
      have HRR : Hid ((wr.alloc (.cells xs.toArray 23)).rangeAt wr.heap.size 0 xs) := Lib.hid (row_range10 (RowAt.new wr 23 xs.toArray))
      have cf : (wr.alloc (.cells xs.toArray 23)).cell? ⟨A + 1, 0, none⟩ = some (.func (.func g) #[] lb) := by rw [(hM.rf.below HB.out).cell]; rfl
      have HCALL : Hid (Calls Try.prog g (#[.agg xs.toArray] ++ lb) (wr.alloc (.cells xs.toArray 23)) fun e w' => e = .returned (.tuple #[.agg fx, .int .i64 ex]) ∧ Below (wr.alloc (.cells xs.toArray 23)).heap.size (wr.alloc (.cells xs.toArray 23)) w') := Lib.hid (by
        have := HF.out (wr.alloc (.cells xs.toArray 23)) x (HCM.out _ _ _ (Kept.of_below (B := 0) HB.out) hM.cm) hw1
        rw [hfx, hex] at this
        rw [← hxs] at this ⊢
        exact this)
      have HJN : Hid (∀ X, Below wr.heap.size wr X → J k X) := Lib.hid (fun X hX => HJ1.out k _ _ hJ hX)
      have bx0 : wr.heap.size < (wr.alloc (.cells xs.toArray 23)).heap.size := by simp
      have HEL := Lib.hid hel
      clear hel hr1 hw1 hx hxs hfx hex hlx hM hJ HF HCM
      gi_wp2_with (first | (refine wpListIn_mid10 (fun _ => trivial) rfl 23 (.tmp 10) rfl b (off + k * 4) rfl xs _ HR1.out Try.underlying23 rfl I1.out ?_) | (refine wpListIn_new10 (fun _ => trivial) rfl 23 (.tmp 5) (.tmp 11) rfl wr.heap.size _ _ xs.toArray rfl rfl rfl I1A.out Z1.out O1.out ?_) | (refine wpListIn_mid10 (fun _ => trivial) rfl 23 (.tmp 5) rfl wr.heap.size 0 rfl xs _ HRR.out Try.underlying23 rfl I1.out ?_))
      refine ⟨trivial, CallsIn.mono (callsIn_wide.2 HCALL.out) ?_⟩
      rintro e X ⟨rfl, hb⟩
      obtain ⟨fn, tmps, assign, body, hy, hR⟩ := HY.out k X hkn (HJN.out _ (bnext HB.out hb))
      rw [HEL.out] at hy
      clear hb cf HCALL HJN HB HRR bx0 eg
      gi_wp2
      refine hR.mono ?_
      rintro e W3 (⟨rfl, hJ3⟩ | ⟨rfl, hJx3⟩)
      · gi_wp2
        go_roundw
        case rel => exact ⟨k + 1, by go_num, by omega, hJ3⟩
        case measure => simp [intOf]; omega
      · gi_wp2
        refine bodyPost_ret (results_none rfl _ _ _) rfl ?_
        exact ⟨⟨_, rfl⟩, .inr hJx3⟩
    · obtain rfl : k = n := by omega
      have t1 : ¬ (k : Int) < (k : Int) := by omega
      gi_wp2
      go_end0
      exact ⟨⟨_, rfl⟩, .inl hJ⟩
set_option maxRecDepth 100000 in
theorem tdc_w (o : Option Addr) (n c : Nat) (g : Nat) (lb : Array Value) (w : World) : Calls Try.prog 45 #[.slice o n c, .func (.func g) #[] lb] w fun e w' =>
    e = .returned (.func (.func 62) #[] #[.pointer (some ⟨w.heap.size, 0, none⟩), .pointer (some ⟨w.heap.size + 1, 0, none⟩)]) ∧ w' = (w.alloc (.cells #[.slice o n c] 24)).alloc (.cells #[.func (.func g) #[] lb] 66) := by
  go_enter Try.func45, Try.ntmps45
  go_wp2_with fail
  go_ret
  exact ⟨rfl, rfl⟩
/-- what has come so far -/
def tdcN (l : List (List Int)) (fv : List Int → List Int) (k : Nat) : List (List Int) := (List.range k).map fun i => fv (l.getD i [])
theorem tdcN_succ (l : List (List Int)) (fv : List Int → List Int) (k : Nat) : tdcN l fv (k + 1) = tdcN l fv k ++ [fv (l.getD k [])] := by
  unfold tdcN
  rw [List.range_succ, List.map_append]
  rfl
theorem tdcN_len (l : List (List Int)) (fv : List Int → List Int) (k : Nat) : (tdcN l fv k).length = k := by simp [tdcN]
/-- the boxes: the list, the error, the iterator's two -/
structure tdcS (l : List (List Int)) (o : Option Addr) (c G : Nat) (F : Value) (CM : World → Prop) (v : Value) (L : List (List Int)) (w W : World) : Prop where
  rl : RowAt 32 G #[v] W
  rf : RowAt 27 (G + 1) #[.int .i64 0] W
  it : tdcM l o c (G + 1 + 1) F CM W
  own : OwnC W (G + 4) v L
  hi : G + 4 ≤ W.heap.size
  lo : w.heap.size ≤ G
  bel : Below w.heap.size w W
theorem tdcS.kept {l : List (List Int)} {o : Option Addr} {c G : Nat} {F : Value} {CM : World → Prop} {v : Value} {L : List (List Int)} {w W X : World} {C : Nat} (hcm : ∀ B X Y, Kept B X Y → CM X → CM Y) (hB : w.heap.size ≤ C) (k : Kept C W X) (i : tdcS l o c G F CM v L w W) : tdcS l o c G F CM v L w X :=
  ⟨k.cells i.rl, k.cells i.rf, i.it.kept hcm k, OwnG.kept i.own k, Nat.le_trans i.hi k.size, i.lo, k.below hB i.bel⟩
theorem tdcS.up {l : List (List Int)} {o : Option Addr} {c G : Nat} {F : Value} {CM : World → Prop} {v : Value} {L : List (List Int)} {w W X : World} (hcm : ∀ B X Y, Kept B X Y → CM X → CM Y) (h : Below W.heap.size W X) (i : tdcS l o c G F CM v L w W) : tdcS l o c G F CM v L w X :=
  ⟨i.rl.below h, i.rf.below h, i.it.up hcm h, OwnG.below h i.own, Nat.le_trans i.hi h.size, i.lo, bnext i.bel h⟩
theorem tdcS.facts {l : List (List Int)} {o : Option Addr} {c G : Nat} {F : Value} {CM : World → Prop} {v : Value} {L : List (List Int)} {w W : World} (i : tdcS l o c G F CM v L w W) :
    W.cell? ⟨G, 0, none⟩ = some v ∧ W.cell? ⟨G + 1, 0, none⟩ = some (.int .i64 0) ∧ W.frozen? ⟨G, 0, none⟩ = false ∧ W.frozen? ⟨G + 1, 0, none⟩ = false :=
  ⟨by rw [i.rl.cell]; rfl, by rw [i.rf.cell]; rfl, i.rl.free, i.rf.free⟩
theorem tdcS.low {l : List (List Int)} {o : Option Addr} {c G : Nat} {F : Value} {CM : World → Prop} {v : Value} {L : List (List Int)} {w W X : World} (i : tdcS l o c G F CM v L w W) (hg : W.grownBy X v.ownBlock) {g : Nat} {ob : Obj} (hlt : g < G + 4) (h : W.heap[g]? = some ob) : X.heap[g]? = some ob := by
  rw [hg.block _ (Array.getElem?_eq_some_iff.1 h).1 (fun e => by have := OwnG.blk i.own _ e.symm; omega)]
  exact h
/-- left by an error -/
structure tdcX (l : List (List Int)) (o : Option Addr) (c G : Nat) (F : Value) (CM : World → Prop) (fe : List Int → Int) (ee : Int) (w W : World) : Prop where
  rl : RowAt 32 G #[.slice none 0 0] W
  rf : RowAt 27 (G + 1) #[.int .i64 ee] W
  it : tdcM l o c (G + 1 + 1) F CM W
  bel : Below w.heap.size w W
  no : ∃ j, j < l.length ∧ fe (l.getD j []) ≠ 0 ∧ fe (l.getD j []) = ee
theorem tdcX.kept {l : List (List Int)} {o : Option Addr} {c G : Nat} {F : Value} {CM : World → Prop} {fe : List Int → Int} {ee : Int} {w W X : World} {C : Nat} (hcm : ∀ B X Y, Kept B X Y → CM X → CM Y) (hB : w.heap.size ≤ C) (k : Kept C W X) (i : tdcX l o c G F CM fe ee w W) : tdcX l o c G F CM fe ee w X :=
  ⟨k.cells i.rl, k.cells i.rf, i.it.kept hcm k, k.below hB i.bel, i.no⟩
theorem tdcS.bad {l : List (List Int)} {o : Option Addr} {c G : Nat} {F : Value} {CM : World → Prop} {fe : List Int → Int} {ee : Int} {v : Value} {L : List (List Int)} {w W : World} (hcm : ∀ B X Y, Kept B X Y → CM X → CM Y) (hcb : ∀ X Y, CM X → Below w.heap.size X Y → CM Y) (hv : VecsAt w o l) (i : tdcS l o c G F CM v L w W) (hno : ∃ j, j < l.length ∧ fe (l.getD j []) ≠ 0 ∧ fe (l.getD j []) = ee) :
    tdcX l o c G F CM fe ee w ((W.setCell ⟨G, 0, none⟩ (.slice none 0 0)).setCell ⟨G + 1, 0, none⟩ (.int .i64 ee)) := by
  have hlo := i.lo
  have hbb : Below w.heap.size W ((W.setCell ⟨G, 0, none⟩ (.slice none 0 0)).setCell ⟨G + 1, 0, none⟩ (.int .i64 ee)) := ((Below.refl _ W).setCell (p := ⟨G, 0, none⟩) (by show _ ≤ G; omega) _).setCell (p := ⟨G + 1, 0, none⟩) (by show _ ≤ G + 1; omega) _
  have hb : Below w.heap.size w ((W.setCell ⟨G, 0, none⟩ (.slice none 0 0)).setCell ⟨G + 1, 0, none⟩ (.int .i64 ee)) := (i.bel.setCell (p := ⟨G, 0, none⟩) (by show _ ≤ G; omega) _).setCell (p := ⟨G + 1, 0, none⟩) (by show _ ≤ G + 1; omega) _
  have r1 : RowAt 32 G #[.slice none 0 0] (W.setCell ⟨G, 0, none⟩ (.slice none 0 0)) := heap_setCell_same _ _ 0 _ _ _ i.rl
  have r2 : RowAt 27 (G + 1) #[.int .i64 0] (W.setCell ⟨G, 0, none⟩ (.slice none 0 0)) := cell_else i.rf (by omega) _
  exact ⟨cell_else r1 (by omega) _, heap_setCell_same _ _ 0 _ _ _ r2, ⟨cell_else (cell_else i.it.rl (by omega) _) (by omega) _, cell_else (cell_else i.it.rf (by omega) _) (by omega) _, hv.below hb, hcb _ _ i.it.cm hbb⟩, hb, hno⟩
/-- what was appended is put back into its box -/
theorem tdcS.step {l : List (List Int)} {o : Option Addr} {c G : Nat} {F : Value} {CM : World → Prop} {v v' : Value} {L L' : List (List Int)} {w W X : World} (hcb : ∀ X Y, CM X → Below w.heap.size X Y → CM Y) (hv : VecsAt w o l) (i : tdcS l o c G F CM v L w W) (ho : OwnC X (G + 4) v' L') (hg : W.grownBy X v.ownBlock) :
    tdcS l o c G F CM v' L' w (X.setCell ⟨G, 0, none⟩ v') ∧ (X.cell? ⟨G, 0, none⟩ = some v ∧ X.frozen? ⟨G, 0, none⟩ = false) := by
  have hlo := i.lo
  have rl : RowAt 32 G #[v] X := i.low hg (by omega) i.rl
  have h1 : Below w.heap.size W X := bgrown10 (W := W) (by have := i.hi; omega) (Below.refl _ W) hg (fun k hk => by have := OwnG.blk i.own k hk; omega)
  have hbb : Below w.heap.size W (X.setCell ⟨G, 0, none⟩ v') := h1.setCell (p := ⟨G, 0, none⟩) (by show _ ≤ G; omega) _
  have hb : Below w.heap.size w (X.setCell ⟨G, 0, none⟩ v') := (bgrown10 (Nat.le_refl _) i.bel hg (fun k hk => by have := OwnG.blk i.own k hk; omega)).setCell (p := ⟨G, 0, none⟩) (by show _ ≤ G; omega) _
  have rf : RowAt 27 (G + 1) #[.int .i64 0] X := i.low hg (by omega) i.rf
  have r3 : RowAt 24 (G + 1 + 1) #[.slice o l.length c] X := i.low hg (by omega) i.it.rl
  have r4 : RowAt 66 (G + 1 + 1 + 1) #[F] X := i.low hg (by omega) i.it.rf
  refine ⟨⟨heap_setCell_same _ _ 0 _ _ v' rl, cell_else rf (by omega) _, ⟨cell_else r3 (by omega) _, cell_else r4 (by omega) _, hv.below hb, hcb _ _ i.it.cm hbb⟩, OwnG.cellset ho (fun e => by have := OwnG.blk ho _ e; omega), ?_, hlo, hb⟩, by rw [rl.cell]; rfl, rl.free⟩
  have := Nat.le_trans i.hi hg.size
  simpa using this
def tdcI (l : List (List Int)) (o : Option Addr) (c G : Nat) (F : Value) (CM : World → Prop) (fv : List Int → List Int) (fe : List Int → Int) (w : World) (k : Nat) (W : World) : Prop := ∃ v, tdcS l o c G F CM v (tdcN l fv k) w W ∧ ∀ j, j < k → fe (l.getD j []) = 0
def tdcA (l : List (List Int)) (o : Option Addr) (c G : Nat) (F : Value) (fv : List Int → List Int) (fe : List Int → Int) (k g : Nat) (a : Act) : Prop :=
  a = { tmps := #[.slice o l.length c, F, undef, undef, .slice none 0 0, .int .i64 0, .pointer (some ⟨G, 0, none⟩), .pointer (some ⟨G + 1, 0, none⟩), .pointer (some ⟨g, 0, none⟩), .int .i64 (fe (l.getD k [])), .slice o l.length c, F, .func (.func 62) #[] #[.pointer (some ⟨G + 1 + 1, 0, none⟩), .pointer (some ⟨G + 1 + 1 + 1, 0, none⟩)],
    .agg (mC (fv (l.getD k []))), .int .i64 (fe (l.getD k [])), undef, undef, undef, undef, undef, undef, undef, undef, undef], defers := [] }
def tdcB (l : List (List Int)) (o : Option Addr) (c G : Nat) (F : Value) (CM : World → Prop) (fv : List Int → List Int) (fe : List Int → Int) (w : World) (k : Nat) (a : Act) (W : World) : Prop :=
  ∃ v g, tdcA l o c G F fv fe k g a ∧ tdcS l o c G F CM v (tdcN l fv k) w W ∧ (∀ j, j < k → fe (l.getD j []) = 0) ∧ RowAt 26 g (mC (fv (l.getD k []))) W ∧ G + 4 ≤ g ∧ (∀ j, v.ownBlock = some j → j < g)
set_option maxRecDepth 100000 in
set_option maxHeartbeats 16000000 in
theorem tdc_all (LL : List (List Int)) (ee : Int) (l : List (List Int)) (o : Option Addr) (c g : Nat) (lb : Array Value) (fv : List Int → List Int) (fe : List Int → Int) (CM : World → Prop) (w : World) (hlen : l.length ≤ 100) (eg : ∀ args w, (callFunc g args).run Try.prog w = .ok (.enter g args) w) (hcm : ∀ B X Y, Kept B X Y → CM X → CM Y) (hcb : ∀ X Y, CM X → Below w.heap.size X Y → CM Y)
    (hf : ∀ (X : World) (v : List Int), CM X → VecWf v → Calls Try.prog g (#[.agg (mC v)] ++ lb) X fun e w' => e = .returned (.tuple #[.agg (mC (fv v)), .int .i64 (fe v)]) ∧ Below X.heap.size X w') (hfl : ∀ v, (fv v).length = 3)
    (h : VecsAt w o l) (hcw : CM w) (hy : (∀ j, j < l.length → fe (l.getD j []) = 0) → LL = tdcN l fv l.length ∧ ee = 0) (hx : ∀ j, j < l.length → fe (l.getD j []) ≠ 0 → LL = [] ∧ ee = fe (l.getD j [])) :
    Calls Try.prog 31 #[.slice o l.length c, .func (.func g) #[] lb] w (RetCs LL ee w) := by
  obtain ⟨F, hF⟩ : ∃ F : Value, (.func (.func g) #[] lb) = F := ⟨_, rfl⟩
  have HTW : Hid (∀ X, Calls Try.prog 45 #[.slice o l.length c, F] X fun e w' =>
    e = .returned (.func (.func 62) #[] #[.pointer (some ⟨X.heap.size, 0, none⟩), .pointer (some ⟨X.heap.size + 1, 0, none⟩)]) ∧ w' = (X.alloc (.cells #[.slice o l.length c] 24)).alloc (.cells #[F] 66)) := Lib.hid (fun X => by rw [← hF]; exact tdc_w o l.length c g lb X)
  have HHD : Hid (∀ A, Hands Fence.wide 4 Try.prog 62 #[.pointer (some ⟨A, 0, none⟩), .pointer (some ⟨A + 1, 0, none⟩)] (tdcElem l fv fe) l.length (tdcM l o c A F CM)) := Lib.hid (fun A => by rw [← hF]; exact tdc_hands l o c A g lb fv fe CM (by omega) eg hcm hf)
  have HV := Lib.hid h
  have HYY := Lib.hid hy
  have HXX := Lib.hid hx
  have HCM := Lib.hid hcm
  have HCB := Lib.hid hcb
  have HCW := Lib.hid hcw
  have HFL := Lib.hid hfl
  have HLEN := Lib.hid hlen
  rw [hF]
  clear h hy hx hcm hcb hcw hfl hf eg hF hlen
  refine (callsIn_wide (n := 5)).1 ?_
  refine callsIn_of_wp_marks Try.func31 rfl trivial ?_ rfl
  simp only [Try.ntmps31, List.size_toArray, List.length_cons, List.length_nil, Nat.reduceAdd, Nat.reduceSub, Array.replicate_succ, Array.replicate_zero, List.push_toArray, List.append_toArray, List.nil_append, List.cons_append]
  refine wpIn_wide.2 ?_
  go_wp2_with fail
  go_step3
  go_wp2_with fail
  go_step3
  go_wp2_with fail
  refine (HTW.out _).mono ?_
  rintro e w' ⟨rfl, rfl⟩
  obtain ⟨W0, hW0⟩ : ∃ W0, (((w.alloc (.cells #[.slice none 0 0] 32)).alloc (.cells #[.int .i64 0] 27)).alloc (.cells #[.slice o l.length c] 24)).alloc (.cells #[F] 66) = W0 := ⟨_, rfl⟩
  obtain ⟨G, hG⟩ : ∃ G, w.heap.size = G := ⟨_, rfl⟩
  have hS0 : W0.heap.size = G + 4 := by rw [← hW0, ← hG]; simp
  have hB0 : Below w.heap.size w W0 := by rw [← hW0]; go_grown
  have hI0 : tdcI l o c G F CM fv fe w 0 W0 := by
    refine ⟨.slice none 0 0, ⟨?_, ?_, ⟨?_, ?_, HV.out.below hB0, HCM.out _ _ _ (Kept.of_below (B := 0) hB0) HCW.out⟩, OwnG.nil _ _ _ _ _, by omega, by omega, hB0⟩, fun j hj => absurd hj (by omega)⟩
    · rw [← hW0, ← hG]; exact RowAt.alloc (RowAt.alloc (RowAt.alloc (RowAt.new _ _ _) _) _) _
    · rw [← hW0, ← hG]; exact RowAt.alloc (RowAt.alloc (heap_alloc2_new _ _ _) _) _
    · rw [← hW0, ← hG]
      have := RowAt.new ((w.alloc (.cells #[.slice none 0 0] 32)).alloc (.cells #[.int .i64 0] 27)) 24 #[.slice o l.length c]
      simp only [World.size_alloc] at this
      exact this.alloc _
    · rw [← hW0, ← hG]
      have := RowAt.new (((w.alloc (.cells #[.slice none 0 0] 32)).alloc (.cells #[.int .i64 0] 27)).alloc (.cells #[.slice o l.length c] 24)) 66 #[F]
      simp only [World.size_alloc] at this
      exact this
  have HI0 := Lib.hid hI0
  have HS0 := Lib.hid hS0
  have HLO := Lib.hid (show w.heap.size ≤ G by omega)
  have HH := Lib.hid (HHD.out (G + 1 + 1))
  simp only [World.size_alloc]
  rw [hW0, hG]
  clear hW0 hG hS0 hB0 hI0 HTW HHD HCW
  go_wp2_with fail
  rename_i KE hKE
  refine wpIn_wide.1 (wpIn_range_num (F := Fence.wide) (n := 5) rfl (by omega) (gf := 62) (lb := #[.pointer (some ⟨G + 1 + 1, 0, none⟩), .pointer (some ⟨G + 1 + 1 + 1, 0, none⟩)]) rfl trivial (enters_of Try.func62 (by kernel_rfl) rfl)
    HH.out (fun _ => rfl) 0 (tdcI l o c G F CM fv fe w) (tdcX l o c G F CM fe ee w) (tdcB l o c G F CM fv fe w) ?i1 ?i2 ?i3 ?i4 ?i5 HI0.out ?assign ?body ?done ?stop)
  case i1 => rintro k W X ⟨v, h1, h2⟩ hk; exact ⟨v, h1.kept HCM.out (by have := HS0.out; have := HLO.out; omega) hk, h2⟩
  case i2 => rintro W X h hk; exact h.kept HCM.out (by have := HS0.out; have := HLO.out; omega) hk
  case i3 => rintro k a W X ⟨v, g, h1, h2, h3, h4, h5, h6⟩ hk; exact ⟨v, g, h1, h2.kept HCM.out (by have := HS0.out; have := HLO.out; omega) hk, h3, hk.cells h4, h5, h6⟩
  case i4 => rintro k W ⟨v, h1, h2⟩; exact h1.it
  case i5 => rintro W h; exact h.it
  case assign =>
    rintro l1 k W C hk ⟨v, hs, hm⟩ hC
    have lx := HFL.out (l.getD k [])
    have b2 : Below W.heap.size W (W.alloc (.cells (mC (fv (l.getD k []))) 26)) := by go_grown
    have HA : Hid (tdcA l o c G F fv fe k W.heap.size _) := Lib.hid rfl
    have HC := Lib.hid (hC _ _ (below_keeps10 b2 _) ⟨v, W.heap.size, HA.out, hs.up HCM.out b2, hm, RowAt.new _ _ _, hs.hi, OwnG.lt hs.own⟩)
    have IA : Hid ((Try.prog.info? 26).map (·.size) = some (mC (fv (l.getD k []))).size) := Lib.hid (by rw [mC_size, lx]; kernel_rfl)
    have ZA : Hid (3 = (mC (fv (l.getD k []))).size) := Lib.hid (by rw [mC_size, lx])
    have OA : Hid ((mC (fv (l.getD k []))).all (·.oneCell') = true) := Lib.hid (mC_one _)
    simp only [tdcElem]
    generalize mC (fv (l.getD k [])) = la at *
    generalize fe (l.getD k []) = ea at *
    clear hC hs hm lx b2 HA hk hKE
    gi_wp2_with (refine wpListIn_new10 (fun _ => trivial) rfl 26 (.tmp 8) (.tmp 13) rfl W.heap.size _ _ la rfl rfl rfl IA.out ZA.out OA.out ?_)
    exact HC.out
  case body =>
    clear hKE
    rintro l1 k a' W hk ⟨v, g, ha, hs, hm, hra, hg4, hlt⟩
    unfold tdcA at ha
    subst ha
    obtain ⟨x, hx⟩ : ∃ x, l.getD k [] = x := ⟨_, rfl⟩
    have HX0 := Lib.hid hx
    have lx := HFL.out x
    have HSU : Hid (tdcN l fv (k + 1) = tdcN l fv k ++ [fv x]) := Lib.hid (by rw [tdcN_succ, hx])
    have HLL := Lib.hid (tdcN_len l fv k)
    have HK : Hid (k < 100) := Lib.hid (by have := HLEN.out; omega)
    have HKL : Hid (k < l.length) := Lib.hid hk
    rw [hx] at hra
    simp only [hx]
    obtain ⟨y, hy⟩ : ∃ y, fv x = y := ⟨_, rfl⟩
    rw [hy] at lx hra HSU
    simp only [hy]
    obtain ⟨ls, hls⟩ : ∃ ls, y.map encI = ls := ⟨_, rfl⟩
    have hms : mC y = ls.toArray := by rw [← hls]; rfl
    rw [hms] at hra
    simp only [hms]
    have hln : ls.length = 3 := by rw [← hls, List.length_map, lx]
    have IA : Hid ((Try.prog.info? 26).map (·.size) = some ls.length) := Lib.hid (by rw [hln]; kernel_rfl)
    have SA : Hid (ls.toArray.size = 3) := Lib.hid (by rw [List.size_toArray, hln])
    have HLS := Lib.hid hls
    have HLN := Lib.hid hln
    obtain ⟨ex, hex⟩ : ∃ e, fe x = e := ⟨_, rfl⟩
    have HEX : Hid (fe (l.getD k []) = ex) := Lib.hid (by rw [hx, hex])
    have HM := Lib.hid hm
    simp only [hex]
    obtain ⟨L, hL⟩ : ∃ L, tdcN l fv k = L := ⟨_, rfl⟩
    rw [hL] at hs HSU HLL
    have HS := Lib.hid hs
    have HRA := Lib.hid hra
    obtain ⟨c1, c2, f1, f2⟩ := hs.facts
    have ra0 := row_range10 hra
    have gz0 : g < W.heap.size := hra.lt
    clear hs hra hg4 hlt hx hy hls hms hln hex hL lx hk hm HI0 HH HYY
    by_cases he : ex = 0
    · have HE := Lib.hid he
      subst he
      obtain ⟨V, hV⟩ : ∃ V, W.alloc (.cells ls.toArray 26) = V := ⟨_, rfl⟩
      have bV : Below W.heap.size W V := by rw [← hV]; exact (Below.refl _ _).alloc (Nat.le_refl _) _
      have HSV := Lib.hid (HS.out.up HCM.out bV)
      have HRN : Hid (V.heap[W.heap.size]? = some (.cells (y.map encI).toArray 26 (0, 0))) := Lib.hid (by rw [← hV, HLS.out]; exact heap_alloc_new _ _)
      have HKV := Lib.hid (below_keeps10 bV W0.heap.size)
      have HVV := Lib.hid hV
      clear hV bV
      gi_wp2_with (first | (rw [HVV.out]; refine wpListIn_app10 infoG3 (fun _ => trivial) rfl (.tmp 18) (.tmp 20) 32 rfl Try.underlying32 (G + 4) v L y rfl HSV.out.hi HSV.out.own W.heap.size 1 rfl HRN.out (by rw [HLS.out]; exact HLN.out) (enc_one y) (by have := HLL.out; have := HK.out; omega) ?_) | (refine wpListIn_mid10 (fun _ => trivial) rfl 26 (.tmp 8) rfl g 0 rfl ls _ ra0 Try.underlying26 rfl IA.out ?_) | (refine wpListIn_build10 infoG3 (by omega) (fun _ => trivial) rfl (.tmp 19) 32 Try.underlying32 rfl ls.toArray rfl SA.out ?_))
      intro v' X ho hg
      refine Lib.hid ?_
      obtain ⟨hst, hc1, hf1⟩ := HSV.out.step HCB.out HV.out ho hg
      have HS1 := Lib.hid hst
      have HKF := Lib.hid ((HKV.out.trans (grown_keeps10 HSV.out.own hg _)).trans (cell_keeps10 X ⟨G, 0, none⟩ v' _))
      obtain ⟨o1, p1, e1⟩ : ∃ o1 p1, v' = .slice o1 (L ++ [y]).length p1 := by
        rcases ho.2 with ⟨e, h0⟩ | ⟨g10, cap10, cur, e, _⟩
        · exact ⟨none, 0, by rw [e, h0]⟩
        · exact ⟨_, _, e⟩
      obtain ⟨mm, hmm⟩ : ∃ mm, (L ++ [y]).length = mm := ⟨_, rfl⟩
      rw [hmm] at e1
      subst e1
      clear ho hg hst hmm c1 c2 f1 f2 ra0 gz0
      gi_wp2
      refine ⟨HKF.out, _, by rw [HSU.out]; exact HS1.out, fun j hj => ?_⟩
      by_cases hjk : j < k
      · exact HM.out j hjk
      · obtain rfl : j = k := by omega
        exact HEX.out
    · have HE : Hid (ee = ex) := Lib.hid (by have := (HXX.out k HKL.out (by rw [HEX.out]; exact he)).2; rw [this, HEX.out])
      have HBD : Hid (tdcX l o c G F CM fe ex w ((W.setCell ⟨G, 0, none⟩ (.slice none 0 0)).setCell ⟨G + 1, 0, none⟩ (.int .i64 ex))) := Lib.hid (HS.out.bad HCM.out HCB.out HV.out ⟨k, HKL.out, by rw [HEX.out]; exact he, HEX.out⟩)
      gi_wp2
      exact ⟨rfl, (cell_keeps10 _ _ _ _).trans (cell_keeps10 _ _ _ _), by rw [HE.out]; exact HBD.out⟩
  case done =>
    rintro D W hD ⟨v, hs, hm⟩ hdef
    obtain ⟨c1, c2, f1, f2⟩ := hs.facts
    have HS := Lib.hid hs
    have HQ : Hid (LL = tdcN l fv l.length ∧ ee = 0) := Lib.hid (HYY.out hm)
    have HD : Hid (w.heap.size ≤ D) := Lib.hid (by have := HS0.out; have := HLO.out; omega)
    have HDE := Lib.hid hdef
    clear hs hm
    clear hdef hD HH HI0 HYY HXX HLEN
    refine hKE _ _ ?_
    clear hKE
    go_wp2_with fail
    refine wp_region_noPanic ?_
    refine (wpIn_wide (n := 5)).1 ?_
    refine heldz_region (F := Fence.wide) (S := fun X => X.cell? ⟨G, 0, none⟩ = some (v) ∧ X.cell? ⟨G + 1, 0, none⟩ = some (.int .i64 0)) (Z := []) (by kernel_rfl) ?_
    refine heldz_take (fun _ => trivial) [] 0 (?_) (by kernel_rfl) rfl (by kernel_rfl) (fun _ _ _ h => h) ⟨c1, c2⟩ (by kernel_rfl) ?_ ?_
    rotate_left
    · intro wz hSw; obtain ⟨q1, q2⟩ := hSw; (first | (go_simp; done) | (go_simp; with_reducible rfl))
    (try simp only [Act.put, List.getElem_toArray, List.getElem_cons_zero, List.getElem_cons_succ, List.setIfInBounds_toArray, List.set_cons_zero, List.set_cons_succ])
    refine heldz_take (fun _ => trivial) [] 1 (?_) (by kernel_rfl) rfl (by kernel_rfl) (fun _ _ _ h => h) ⟨c1, c2⟩ (by kernel_rfl) ?_ ?_
    rotate_left
    · intro wz hSw; obtain ⟨q1, q2⟩ := hSw; (first | (go_simp; done) | (go_simp; with_reducible rfl))
    (try simp only [Act.put, List.getElem_toArray, List.getElem_cons_zero, List.getElem_cons_succ, List.setIfInBounds_toArray, List.set_cons_zero, List.set_cons_succ])
    refine heldz_take (fun _ => trivial) [] 2 (?_) (by kernel_rfl) rfl (by kernel_rfl) (fun _ _ _ h => h) ⟨c1, c2⟩ (by kernel_rfl) ?_ ?_
    rotate_left
    · intro wz hSw; obtain ⟨q1, q2⟩ := hSw; (first | (go_simp; done) | (go_simp; with_reducible rfl))
    (try simp only [Act.put, List.getElem_toArray, List.getElem_cons_zero, List.getElem_cons_succ, List.setIfInBounds_toArray, List.set_cons_zero, List.set_cons_succ])
    refine heldz_take (fun _ => trivial) [] 3 (?_) (by kernel_rfl) rfl (by kernel_rfl) (fun _ _ _ h => h) ⟨c1, c2⟩ (by kernel_rfl) ?_ ?_
    rotate_left
    · intro wz hSw; obtain ⟨q1, q2⟩ := hSw; (first | (go_simp; done) | (go_simp; with_reducible rfl))
    (try simp only [Act.put, List.getElem_toArray, List.getElem_cons_zero, List.getElem_cons_succ, List.setIfInBounds_toArray, List.set_cons_zero, List.set_cons_succ])
    refine heldz_done (by kernel_rfl) ?_ _
    refine NoPanic.normal ?_
    go_wp2_with fail
    rw [Exit.noGoto_ret]
    refine leaves10 (B := w.heap.size) HD.out HDE.out (fun X hk => ?_)
    refine ⟨.tuple #[v, .int .i64 0], ?_, v, by rw [HQ.out.2], by rw [HQ.out.1]; exact OwnG.base (by have := HLO.out; omega) (OwnG.kept (OwnG.below (bdrew0 _ W 1) HS.out.own) hk), hk.below (Nat.le_refl _) (bnext HS.out.bel (bdrew0 _ _ 1))⟩
    simp [results, Try.results31, go_sem, *]
  case stop =>
    rintro D W hD hx hdef
    have c1 : W.cell? ⟨G, 0, none⟩ = some (.slice none 0 0) := by rw [hx.rl.cell]; rfl
    have c2 : W.cell? ⟨G + 1, 0, none⟩ = some (.int .i64 ee) := by rw [hx.rf.cell]; rfl
    have HS := Lib.hid hx
    have HQ : Hid (LL = []) := Lib.hid (by obtain ⟨j, h1, h2, h3⟩ := hx.no; exact (HXX.out j h1 h2).1)
    have HD : Hid (w.heap.size ≤ D) := Lib.hid (by have := HS0.out; have := HLO.out; omega)
    have HDE := Lib.hid hdef
    clear hx
    clear hdef hD HH HI0 HYY HXX HLEN
    refine wpIn_wide.2 ?_
    go_wp2_with fail
    refine wp_region_noPanic ?_
    refine (wpIn_wide (n := 5)).1 ?_
    refine heldz_region (F := Fence.wide) (S := fun X => X.cell? ⟨G, 0, none⟩ = some (.slice none 0 0) ∧ X.cell? ⟨G + 1, 0, none⟩ = some (.int .i64 ee)) (Z := []) (by kernel_rfl) ?_
    refine heldz_take (fun _ => trivial) [] 0 (?_) (by kernel_rfl) rfl (by kernel_rfl) (fun _ _ _ h => h) ⟨c1, c2⟩ (by kernel_rfl) ?_ ?_
    rotate_left
    · intro wz hSw; obtain ⟨q1, q2⟩ := hSw; (first | (go_simp; done) | (go_simp; with_reducible rfl))
    (try simp only [Act.put, List.getElem_toArray, List.getElem_cons_zero, List.getElem_cons_succ, List.setIfInBounds_toArray, List.set_cons_zero, List.set_cons_succ])
    refine heldz_take (fun _ => trivial) [] 1 (?_) (by kernel_rfl) rfl (by kernel_rfl) (fun _ _ _ h => h) ⟨c1, c2⟩ (by kernel_rfl) ?_ ?_
    rotate_left
    · intro wz hSw; obtain ⟨q1, q2⟩ := hSw; (first | (go_simp; done) | (go_simp; with_reducible rfl))
    (try simp only [Act.put, List.getElem_toArray, List.getElem_cons_zero, List.getElem_cons_succ, List.setIfInBounds_toArray, List.set_cons_zero, List.set_cons_succ])
    refine heldz_take (fun _ => trivial) [] 2 (?_) (by kernel_rfl) rfl (by kernel_rfl) (fun _ _ _ h => h) ⟨c1, c2⟩ (by kernel_rfl) ?_ ?_
    rotate_left
    · intro wz hSw; obtain ⟨q1, q2⟩ := hSw; (first | (go_simp; done) | (go_simp; with_reducible rfl))
    (try simp only [Act.put, List.getElem_toArray, List.getElem_cons_zero, List.getElem_cons_succ, List.setIfInBounds_toArray, List.set_cons_zero, List.set_cons_succ])
    refine heldz_take (fun _ => trivial) [] 3 (?_) (by kernel_rfl) rfl (by kernel_rfl) (fun _ _ _ h => h) ⟨c1, c2⟩ (by kernel_rfl) ?_ ?_
    rotate_left
    · intro wz hSw; obtain ⟨q1, q2⟩ := hSw; (first | (go_simp; done) | (go_simp; with_reducible rfl))
    (try simp only [Act.put, List.getElem_toArray, List.getElem_cons_zero, List.getElem_cons_succ, List.setIfInBounds_toArray, List.set_cons_zero, List.set_cons_succ])
    refine heldz_done (by kernel_rfl) ?_ _
    refine NoPanic.normal ?_
    go_wp2_with fail
    rw [Exit.noGoto_ret]
    refine leaves10 (B := w.heap.size) HD.out HDE.out (fun X hk => ?_)
    refine ⟨.tuple #[.slice none 0 0, .int .i64 ee], ?_, .slice none 0 0, rfl, by rw [HQ.out]; exact OwnG.nil _ _ _ _ _, hk.below (Nat.le_refl _) (bnext HS.out.bel (bdrew0 _ _ 1))⟩
    simp [results, Try.results31, go_sem, *]
end Go.Proofs.Ytgkglkoipocgaaa.Fx
namespace Go.Proofs.Ytgkglkoipocgaaa.Fx
open Go Go.RowKit Go.Shelf Wm
attribute [local go_sem] Oper.semAt_some
/-- what the iterator hands on -/
def tdvElem (l : List (List Int)) (fv : List Int → List Int) (fe : List Int → Int) (k : Nat) : Array Value := #[.agg (mC (fv (l.getD k []))), .int .i64 (fe (l.getD k []))]
/-- what it reads -/
structure tdvM (l : List (List Int)) (o : Option Addr) (c A : Nat) (F : Value) (CM : World → Prop) (X : World) : Prop where
  rl : RowAt 45 A #[.slice o l.length c] X
  rf : RowAt 71 (A + 1) #[F] X
  at_ : VertsAt X o l
  cm : CM X
theorem tdvM.kept {l : List (List Int)} {o : Option Addr} {c A B : Nat} {F : Value} {CM : World → Prop} {X Y : World} (hcm : ∀ B X Y, Kept B X Y → CM X → CM Y) (kp : Kept B X Y) (h : tdvM l o c A F CM X) : tdvM l o c A F CM Y := ⟨kp.cells h.rl, kp.cells h.rf, h.at_.kept10 kp, hcm _ _ _ kp h.cm⟩
theorem tdvM.up {l : List (List Int)} {o : Option Addr} {c A : Nat} {F : Value} {CM : World → Prop} {X Y : World} (hcm : ∀ B X Y, Kept B X Y → CM X → CM Y) (hb : Below X.heap.size X Y) (h : tdvM l o c A F CM X) : tdvM l o c A F CM Y := h.kept hcm (Kept.of_below (B := 0) hb)
set_option maxRecDepth 100000 in
set_option maxHeartbeats 4000000 in
theorem tdv_hands (l : List (List Int)) (o : Option Addr) (c A g : Nat) (lb : Array Value) (fv : List Int → List Int) (fe : List Int → Int) (CM : World → Prop) (hl : l.length ≤ 1000) (eg : ∀ args w, (callFunc g args).run Try.prog w = .ok (.enter g args) w) (hcm : ∀ B X Y, Kept B X Y → CM X → CM Y)
    (hf : ∀ (X : World) (v : List Int), CM X → VertWf v → Calls Try.prog g (#[.agg (mC v)] ++ lb) X fun e w' => e = .returned (.tuple #[.agg (mC (fv v)), .int .i64 (fe v)]) ∧ Below X.heap.size X w') :
    Hands Fence.wide 4 Try.prog 63 #[.pointer (some ⟨A, 0, none⟩), .pointer (some ⟨A + 1, 0, none⟩)] (tdvElem l fv fe) l.length (tdvM l o c A (.func (.func g) #[] lb) CM) := by
  intro lp J Jx W hJ1 hJ2 hJB hJxB hY h0
  have hM := hJB 0 W h0
  obtain ⟨n, hn⟩ : ∃ n, l.length = n := ⟨_, rfl⟩
  have HN := Lib.hid hn
  have cA : W.cell? ⟨A, 0, none⟩ = some (.slice o n c) := by rw [hM.rl.cell, hn]; rfl
  have HY := Lib.hid hY; clear hY
  have HJ1 := Lib.hid hJ1; clear hJ1
  have HJ2 := Lib.hid hJ2; clear hJ2
  have HJB := Lib.hid hJB; clear hJB
  have HJxB := Lib.hid hJxB; clear hJxB
  have HCM := Lib.hid hcm
  have HF := Lib.hid hf
  rw [hn] at HY hl ⊢
  have n0 : (0 : Int) ≤ (n : Int) := by omega
  have n1 : (n : Int) ≤ 1000 := by omega
  clear hn hM hcm hf
  refine callsIn_of_wp Try.func63 rfl trivial ?_ rfl
  simp only [Try.ntmps63, List.size_toArray, List.length_cons, List.length_nil, Nat.reduceAdd, Nat.reduceSub, Array.replicate_succ, Array.replicate_zero, List.push_toArray, List.append_toArray, List.nil_append, List.cons_append]
  gi_wp2
  clear cA
  gi_loopw [8] (fun v8 wr => ∃ k : Nat, v8 = .int .i64 (k : Int) ∧ k ≤ n ∧ J k wr) (fun v8 _ => n - (intOf v8).toNat)
  case atStart => exact ⟨0, rfl, by omega, h0⟩
  case round =>
    clear h0
    obtain ⟨k, rfl, hk, hJ⟩ := hrel
    have k0 : (0 : Int) ≤ (k : Int) := by omega
    by_cases hkn : k < n
    · have t1 : (k : Int) < (n : Int) := by omega
      have hM := HJB.out k wr hJ
      obtain ⟨b, off, e, hr1, hw1⟩ := vert_get10 hM.at_ (k := k) (by rw [HN.out]; exact hkn)
      subst e
      obtain ⟨x, hx⟩ : ∃ x, l.getD k [] = x := ⟨_, rfl⟩
      obtain ⟨xs, hxs⟩ : ∃ xs, x.map encI = xs := ⟨_, rfl⟩
      obtain ⟨fx, hfx⟩ : ∃ y, mC (fv x) = y := ⟨_, rfl⟩
      obtain ⟨ex, hex⟩ : ∃ y, fe x = y := ⟨_, rfl⟩
      have hel : tdvElem l fv fe k = #[.agg fx, .int .i64 ex] := by unfold tdvElem; rw [hx, hfx, hex]
      rw [hx] at hr1 hw1
      rw [hxs] at hr1
      have hlx : xs.length = 3 := by rw [← hxs, List.length_map]; exact hw1.len
      have HR1 := Lib.hid hr1
      have I1 : Hid ((Try.prog.info? 50).map (·.size) = some xs.length) := Lib.hid (by rw [hlx]; kernel_rfl)
      have I1A : Hid ((Try.prog.info? 50).map (·.size) = some xs.toArray.size) := Lib.hid (by rw [List.size_toArray, hlx]; kernel_rfl)
      have Z1 : Hid (3 = xs.toArray.size) := Lib.hid (by rw [List.size_toArray, hlx])
      have O1 : Hid (xs.toArray.all (·.oneCell') = true) := Lib.hid (by rw [← hxs]; exact mC_one _)
      have HB : Hid (Below wr.heap.size wr (wr.alloc (.cells xs.toArray 50))) := Lib.hid ((Below.refl _ wr).alloc (Nat.le_refl _) _)
      have HRR : Hid ((wr.alloc (.cells xs.toArray 50)).rangeAt wr.heap.size 0 xs) := Lib.hid (row_range10 (RowAt.new wr 50 xs.toArray))
      have cf : (wr.alloc (.cells xs.toArray 50)).cell? ⟨A + 1, 0, none⟩ = some (.func (.func g) #[] lb) := by rw [(hM.rf.below HB.out).cell]; rfl
      have HCALL : Hid (Calls Try.prog g (#[.agg xs.toArray] ++ lb) (wr.alloc (.cells xs.toArray 50)) fun e w' => e = .returned (.tuple #[.agg fx, .int .i64 ex]) ∧ Below (wr.alloc (.cells xs.toArray 50)).heap.size (wr.alloc (.cells xs.toArray 50)) w') := Lib.hid (by
        have := HF.out (wr.alloc (.cells xs.toArray 50)) x (HCM.out _ _ _ (Kept.of_below (B := 0) HB.out) hM.cm) hw1
        rw [hfx, hex] at this
        rw [← hxs] at this ⊢
        exact this)
      have HJN : Hid (∀ X, Below wr.heap.size wr X → J k X) := Lib.hid (fun X hX => HJ1.out k _ _ hJ hX)
      have bx0 : wr.heap.size < (wr.alloc (.cells xs.toArray 50)).heap.size := by simp
      have HEL := Lib.hid hel
      clear hel hr1 hw1 hx hxs hfx hex hlx hM hJ HF HCM
      gi_wp2_with (first | (refine wpListIn_mid10 (fun _ => trivial) rfl 50 (.tmp 10) rfl b (off + k * 3) rfl xs _ HR1.out Try.underlying50 rfl I1.out ?_) | (refine wpListIn_new10 (fun _ => trivial) rfl 50 (.tmp 5) (.tmp 11) rfl wr.heap.size _ _ xs.toArray rfl rfl rfl I1A.out Z1.out O1.out ?_) | (refine wpListIn_mid10 (fun _ => trivial) rfl 50 (.tmp 5) rfl wr.heap.size 0 rfl xs _ HRR.out Try.underlying50 rfl I1.out ?_))
      refine ⟨trivial, CallsIn.mono (callsIn_wide.2 HCALL.out) ?_⟩
      rintro e X ⟨rfl, hb⟩
      obtain ⟨fn, tmps, assign, body, hy, hR⟩ := HY.out k X hkn (HJN.out _ (bnext HB.out hb))
      rw [HEL.out] at hy
      clear hb cf HCALL HJN HB HRR bx0 eg
      gi_wp2
      refine hR.mono ?_
      rintro e W3 (⟨rfl, hJ3⟩ | ⟨rfl, hJx3⟩)
      · gi_wp2
        go_roundw
        case rel => exact ⟨k + 1, by go_num, by omega, hJ3⟩
        case measure => simp [intOf]; omega
      · gi_wp2
        refine bodyPost_ret (results_none rfl _ _ _) rfl ?_
        exact ⟨⟨_, rfl⟩, .inr hJx3⟩
    · obtain rfl : k = n := by omega
      have t1 : ¬ (k : Int) < (k : Int) := by omega
      gi_wp2
      go_end0
      exact ⟨⟨_, rfl⟩, .inl hJ⟩
set_option maxRecDepth 100000 in
theorem tdv_w (o : Option Addr) (n c : Nat) (g : Nat) (lb : Array Value) (w : World) : Calls Try.prog 46 #[.slice o n c, .func (.func g) #[] lb] w fun e w' =>
    e = .returned (.func (.func 63) #[] #[.pointer (some ⟨w.heap.size, 0, none⟩), .pointer (some ⟨w.heap.size + 1, 0, none⟩)]) ∧ w' = (w.alloc (.cells #[.slice o n c] 45)).alloc (.cells #[.func (.func g) #[] lb] 71) := by
  go_enter Try.func46, Try.ntmps46
  go_wp2_with fail
  go_ret
  exact ⟨rfl, rfl⟩
/-- what has come so far -/
def tdvN (l : List (List Int)) (fv : List Int → List Int) (k : Nat) : List (List Int) := (List.range k).map fun i => fv (l.getD i [])
theorem tdvN_succ (l : List (List Int)) (fv : List Int → List Int) (k : Nat) : tdvN l fv (k + 1) = tdvN l fv k ++ [fv (l.getD k [])] := by
  unfold tdvN
  rw [List.range_succ, List.map_append]
  rfl
theorem tdvN_len (l : List (List Int)) (fv : List Int → List Int) (k : Nat) : (tdvN l fv k).length = k := by simp [tdvN]
/-- the boxes: the list, the error, the iterator's two -/
structure tdvS (l : List (List Int)) (o : Option Addr) (c G : Nat) (F : Value) (CM : World → Prop) (v : Value) (L : List (List Int)) (w W : World) : Prop where
  rl : RowAt 24 G #[v] W
  rf : RowAt 27 (G + 1) #[.int .i64 0] W
  it : tdvM l o c (G + 1 + 1) F CM W
  own : OwnK W (G + 4) v L
  hi : G + 4 ≤ W.heap.size
  lo : w.heap.size ≤ G
  bel : Below w.heap.size w W
theorem tdvS.kept {l : List (List Int)} {o : Option Addr} {c G : Nat} {F : Value} {CM : World → Prop} {v : Value} {L : List (List Int)} {w W X : World} {C : Nat} (hcm : ∀ B X Y, Kept B X Y → CM X → CM Y) (hB : w.heap.size ≤ C) (k : Kept C W X) (i : tdvS l o c G F CM v L w W) : tdvS l o c G F CM v L w X :=
  ⟨k.cells i.rl, k.cells i.rf, i.it.kept hcm k, OwnG.kept i.own k, Nat.le_trans i.hi k.size, i.lo, k.below hB i.bel⟩
theorem tdvS.up {l : List (List Int)} {o : Option Addr} {c G : Nat} {F : Value} {CM : World → Prop} {v : Value} {L : List (List Int)} {w W X : World} (hcm : ∀ B X Y, Kept B X Y → CM X → CM Y) (h : Below W.heap.size W X) (i : tdvS l o c G F CM v L w W) : tdvS l o c G F CM v L w X :=
  ⟨i.rl.below h, i.rf.below h, i.it.up hcm h, OwnG.below h i.own, Nat.le_trans i.hi h.size, i.lo, bnext i.bel h⟩
theorem tdvS.facts {l : List (List Int)} {o : Option Addr} {c G : Nat} {F : Value} {CM : World → Prop} {v : Value} {L : List (List Int)} {w W : World} (i : tdvS l o c G F CM v L w W) :
    W.cell? ⟨G, 0, none⟩ = some v ∧ W.cell? ⟨G + 1, 0, none⟩ = some (.int .i64 0) ∧ W.frozen? ⟨G, 0, none⟩ = false ∧ W.frozen? ⟨G + 1, 0, none⟩ = false :=
  ⟨by rw [i.rl.cell]; rfl, by rw [i.rf.cell]; rfl, i.rl.free, i.rf.free⟩
theorem tdvS.low {l : List (List Int)} {o : Option Addr} {c G : Nat} {F : Value} {CM : World → Prop} {v : Value} {L : List (List Int)} {w W X : World} (i : tdvS l o c G F CM v L w W) (hg : W.grownBy X v.ownBlock) {g : Nat} {ob : Obj} (hlt : g < G + 4) (h : W.heap[g]? = some ob) : X.heap[g]? = some ob := by
  rw [hg.block _ (Array.getElem?_eq_some_iff.1 h).1 (fun e => by have := OwnG.blk i.own _ e.symm; omega)]
  exact h
/-- left by an error -/
structure tdvX (l : List (List Int)) (o : Option Addr) (c G : Nat) (F : Value) (CM : World → Prop) (fe : List Int → Int) (ee : Int) (w W : World) : Prop where
  rl : RowAt 24 G #[.slice none 0 0] W
  rf : RowAt 27 (G + 1) #[.int .i64 ee] W
  it : tdvM l o c (G + 1 + 1) F CM W
  bel : Below w.heap.size w W
  no : ∃ j, j < l.length ∧ fe (l.getD j []) ≠ 0 ∧ fe (l.getD j []) = ee
theorem tdvX.kept {l : List (List Int)} {o : Option Addr} {c G : Nat} {F : Value} {CM : World → Prop} {fe : List Int → Int} {ee : Int} {w W X : World} {C : Nat} (hcm : ∀ B X Y, Kept B X Y → CM X → CM Y) (hB : w.heap.size ≤ C) (k : Kept C W X) (i : tdvX l o c G F CM fe ee w W) : tdvX l o c G F CM fe ee w X :=
  ⟨k.cells i.rl, k.cells i.rf, i.it.kept hcm k, k.below hB i.bel, i.no⟩
theorem tdvS.bad {l : List (List Int)} {o : Option Addr} {c G : Nat} {F : Value} {CM : World → Prop} {fe : List Int → Int} {ee : Int} {v : Value} {L : List (List Int)} {w W : World} (hcm : ∀ B X Y, Kept B X Y → CM X → CM Y) (hcb : ∀ X Y, CM X → Below w.heap.size X Y → CM Y) (hv : VertsAt w o l) (i : tdvS l o c G F CM v L w W) (hno : ∃ j, j < l.length ∧ fe (l.getD j []) ≠ 0 ∧ fe (l.getD j []) = ee) :
    tdvX l o c G F CM fe ee w ((W.setCell ⟨G, 0, none⟩ (.slice none 0 0)).setCell ⟨G + 1, 0, none⟩ (.int .i64 ee)) := by
  have hlo := i.lo
  have hbb : Below w.heap.size W ((W.setCell ⟨G, 0, none⟩ (.slice none 0 0)).setCell ⟨G + 1, 0, none⟩ (.int .i64 ee)) := ((Below.refl _ W).setCell (p := ⟨G, 0, none⟩) (by show _ ≤ G; omega) _).setCell (p := ⟨G + 1, 0, none⟩) (by show _ ≤ G + 1; omega) _
  have hb : Below w.heap.size w ((W.setCell ⟨G, 0, none⟩ (.slice none 0 0)).setCell ⟨G + 1, 0, none⟩ (.int .i64 ee)) := (i.bel.setCell (p := ⟨G, 0, none⟩) (by show _ ≤ G; omega) _).setCell (p := ⟨G + 1, 0, none⟩) (by show _ ≤ G + 1; omega) _
  have r1 : RowAt 24 G #[.slice none 0 0] (W.setCell ⟨G, 0, none⟩ (.slice none 0 0)) := heap_setCell_same _ _ 0 _ _ _ i.rl
  have r2 : RowAt 27 (G + 1) #[.int .i64 0] (W.setCell ⟨G, 0, none⟩ (.slice none 0 0)) := cell_else i.rf (by omega) _
  exact ⟨cell_else r1 (by omega) _, heap_setCell_same _ _ 0 _ _ _ r2, ⟨cell_else (cell_else i.it.rl (by omega) _) (by omega) _, cell_else (cell_else i.it.rf (by omega) _) (by omega) _, hv.below hb, hcb _ _ i.it.cm hbb⟩, hb, hno⟩
/-- what was appended is put back into its box -/
theorem tdvS.step {l : List (List Int)} {o : Option Addr} {c G : Nat} {F : Value} {CM : World → Prop} {v v' : Value} {L L' : List (List Int)} {w W X : World} (hcb : ∀ X Y, CM X → Below w.heap.size X Y → CM Y) (hv : VertsAt w o l) (i : tdvS l o c G F CM v L w W) (ho : OwnK X (G + 4) v' L') (hg : W.grownBy X v.ownBlock) :
    tdvS l o c G F CM v' L' w (X.setCell ⟨G, 0, none⟩ v') ∧ (X.cell? ⟨G, 0, none⟩ = some v ∧ X.frozen? ⟨G, 0, none⟩ = false) := by
  have hlo := i.lo
  have rl : RowAt 24 G #[v] X := i.low hg (by omega) i.rl
  have h1 : Below w.heap.size W X := bgrown10 (W := W) (by have := i.hi; omega) (Below.refl _ W) hg (fun k hk => by have := OwnG.blk i.own k hk; omega)
  have hbb : Below w.heap.size W (X.setCell ⟨G, 0, none⟩ v') := h1.setCell (p := ⟨G, 0, none⟩) (by show _ ≤ G; omega) _
  have hb : Below w.heap.size w (X.setCell ⟨G, 0, none⟩ v') := (bgrown10 (Nat.le_refl _) i.bel hg (fun k hk => by have := OwnG.blk i.own k hk; omega)).setCell (p := ⟨G, 0, none⟩) (by show _ ≤ G; omega) _
  have rf : RowAt 27 (G + 1) #[.int .i64 0] X := i.low hg (by omega) i.rf
  have r3 : RowAt 45 (G + 1 + 1) #[.slice o l.length c] X := i.low hg (by omega) i.it.rl
  have r4 : RowAt 71 (G + 1 + 1 + 1) #[F] X := i.low hg (by omega) i.it.rf
  refine ⟨⟨heap_setCell_same _ _ 0 _ _ v' rl, cell_else rf (by omega) _, ⟨cell_else r3 (by omega) _, cell_else r4 (by omega) _, hv.below hb, hcb _ _ i.it.cm hbb⟩, OwnG.cellset ho (fun e => by have := OwnG.blk ho _ e; omega), ?_, hlo, hb⟩, by rw [rl.cell]; rfl, rl.free⟩
  have := Nat.le_trans i.hi hg.size
  simpa using this
def tdvI (l : List (List Int)) (o : Option Addr) (c G : Nat) (F : Value) (CM : World → Prop) (fv : List Int → List Int) (fe : List Int → Int) (w : World) (k : Nat) (W : World) : Prop := ∃ v, tdvS l o c G F CM v (tdvN l fv k) w W ∧ ∀ j, j < k → fe (l.getD j []) = 0
def tdvA (l : List (List Int)) (o : Option Addr) (c G : Nat) (F : Value) (fv : List Int → List Int) (fe : List Int → Int) (k g : Nat) (a : Act) : Prop :=
  a = { tmps := #[.slice o l.length c, F, undef, undef, .slice none 0 0, .int .i64 0, .pointer (some ⟨G, 0, none⟩), .pointer (some ⟨G + 1, 0, none⟩), .pointer (some ⟨g, 0, none⟩), .int .i64 (fe (l.getD k [])), .slice o l.length c, F, .func (.func 63) #[] #[.pointer (some ⟨G + 1 + 1, 0, none⟩), .pointer (some ⟨G + 1 + 1 + 1, 0, none⟩)],
    .agg (mC (fv (l.getD k []))), .int .i64 (fe (l.getD k [])), undef, undef, undef, undef, undef, undef, undef, undef, undef], defers := [] }
def tdvB (l : List (List Int)) (o : Option Addr) (c G : Nat) (F : Value) (CM : World → Prop) (fv : List Int → List Int) (fe : List Int → Int) (w : World) (k : Nat) (a : Act) (W : World) : Prop :=
  ∃ v g, tdvA l o c G F fv fe k g a ∧ tdvS l o c G F CM v (tdvN l fv k) w W ∧ (∀ j, j < k → fe (l.getD j []) = 0) ∧ RowAt 23 g (mC (fv (l.getD k []))) W ∧ G + 4 ≤ g ∧ (∀ j, v.ownBlock = some j → j < g)
set_option maxRecDepth 100000 in
set_option maxHeartbeats 16000000 in
theorem tdv_all (LL : List (List Int)) (ee : Int) (l : List (List Int)) (o : Option Addr) (c g : Nat) (lb : Array Value) (fv : List Int → List Int) (fe : List Int → Int) (CM : World → Prop) (w : World) (hlen : l.length ≤ 100) (eg : ∀ args w, (callFunc g args).run Try.prog w = .ok (.enter g args) w) (hcm : ∀ B X Y, Kept B X Y → CM X → CM Y) (hcb : ∀ X Y, CM X → Below w.heap.size X Y → CM Y)
    (hf : ∀ (X : World) (v : List Int), CM X → VertWf v → Calls Try.prog g (#[.agg (mC v)] ++ lb) X fun e w' => e = .returned (.tuple #[.agg (mC (fv v)), .int .i64 (fe v)]) ∧ Below X.heap.size X w') (hfl : ∀ v, (fv v).length = 4)
    (h : VertsAt w o l) (hcw : CM w) (hy : (∀ j, j < l.length → fe (l.getD j []) = 0) → LL = tdvN l fv l.length ∧ ee = 0) (hx : ∀ j, j < l.length → fe (l.getD j []) ≠ 0 → LL = [] ∧ ee = fe (l.getD j [])) :
    Calls Try.prog 34 #[.slice o l.length c, .func (.func g) #[] lb] w (RetTh LL ee w) := by
  obtain ⟨F, hF⟩ : ∃ F : Value, (.func (.func g) #[] lb) = F := ⟨_, rfl⟩
  have HTW : Hid (∀ X, Calls Try.prog 46 #[.slice o l.length c, F] X fun e w' =>
    e = .returned (.func (.func 63) #[] #[.pointer (some ⟨X.heap.size, 0, none⟩), .pointer (some ⟨X.heap.size + 1, 0, none⟩)]) ∧ w' = (X.alloc (.cells #[.slice o l.length c] 45)).alloc (.cells #[F] 71)) := Lib.hid (fun X => by rw [← hF]; exact tdv_w o l.length c g lb X)
  have HHD : Hid (∀ A, Hands Fence.wide 4 Try.prog 63 #[.pointer (some ⟨A, 0, none⟩), .pointer (some ⟨A + 1, 0, none⟩)] (tdvElem l fv fe) l.length (tdvM l o c A F CM)) := Lib.hid (fun A => by rw [← hF]; exact tdv_hands l o c A g lb fv fe CM (by omega) eg hcm hf)
  have HV := Lib.hid h
  have HYY := Lib.hid hy
  have HXX := Lib.hid hx
  have HCM := Lib.hid hcm
  have HCB := Lib.hid hcb
  have HCW := Lib.hid hcw
  have HFL := Lib.hid hfl
  have HLEN := Lib.hid hlen
  rw [hF]
  clear h hy hx hcm hcb hcw hfl hf eg hF hlen
  refine (callsIn_wide (n := 5)).1 ?_
  refine callsIn_of_wp_marks Try.func34 rfl trivial ?_ rfl
  simp only [Try.ntmps34, List.size_toArray, List.length_cons, List.length_nil, Nat.reduceAdd, Nat.reduceSub, Array.replicate_succ, Array.replicate_zero, List.push_toArray, List.append_toArray, List.nil_append, List.cons_append]
  refine wpIn_wide.2 ?_
  go_wp2_with fail
  go_step3
  go_wp2_with fail
  go_step3
  go_wp2_with fail
  refine (HTW.out _).mono ?_
  rintro e w' ⟨rfl, rfl⟩
  obtain ⟨W0, hW0⟩ : ∃ W0, (((w.alloc (.cells #[.slice none 0 0] 24)).alloc (.cells #[.int .i64 0] 27)).alloc (.cells #[.slice o l.length c] 45)).alloc (.cells #[F] 71) = W0 := ⟨_, rfl⟩
  obtain ⟨G, hG⟩ : ∃ G, w.heap.size = G := ⟨_, rfl⟩
  have hS0 : W0.heap.size = G + 4 := by rw [← hW0, ← hG]; simp
  have hB0 : Below w.heap.size w W0 := by rw [← hW0]; go_grown
  have hI0 : tdvI l o c G F CM fv fe w 0 W0 := by
    refine ⟨.slice none 0 0, ⟨?_, ?_, ⟨?_, ?_, HV.out.below hB0, HCM.out _ _ _ (Kept.of_below (B := 0) hB0) HCW.out⟩, OwnG.nil _ _ _ _ _, by omega, by omega, hB0⟩, fun j hj => absurd hj (by omega)⟩
    · rw [← hW0, ← hG]; exact RowAt.alloc (RowAt.alloc (RowAt.alloc (RowAt.new _ _ _) _) _) _
    · rw [← hW0, ← hG]; exact RowAt.alloc (RowAt.alloc (heap_alloc2_new _ _ _) _) _
    · rw [← hW0, ← hG]
      have := RowAt.new ((w.alloc (.cells #[.slice none 0 0] 24)).alloc (.cells #[.int .i64 0] 27)) 45 #[.slice o l.length c]
      simp only [World.size_alloc] at this
      exact this.alloc _
    · rw [← hW0, ← hG]
      have := RowAt.new (((w.alloc (.cells #[.slice none 0 0] 24)).alloc (.cells #[.int .i64 0] 27)).alloc (.cells #[.slice o l.length c] 45)) 71 #[F]
      simp only [World.size_alloc] at this
      exact this
  have HI0 := Lib.hid hI0
  have HS0 := Lib.hid hS0
  have HLO := Lib.hid (show w.heap.size ≤ G by omega)
  have HH := Lib.hid (HHD.out (G + 1 + 1))
  simp only [World.size_alloc]
  rw [hW0, hG]
  clear hW0 hG hS0 hB0 hI0 HTW HHD HCW
  go_wp2_with fail
  rename_i KE hKE
  refine wpIn_wide.1 (wpIn_range_num (F := Fence.wide) (n := 5) rfl (by omega) (gf := 63) (lb := #[.pointer (some ⟨G + 1 + 1, 0, none⟩), .pointer (some ⟨G + 1 + 1 + 1, 0, none⟩)]) rfl trivial (enters_of Try.func63 (by kernel_rfl) rfl)
    HH.out (fun _ => rfl) 0 (tdvI l o c G F CM fv fe w) (tdvX l o c G F CM fe ee w) (tdvB l o c G F CM fv fe w) ?i1 ?i2 ?i3 ?i4 ?i5 HI0.out ?assign ?body ?done ?stop)
  case i1 => rintro k W X ⟨v, h1, h2⟩ hk; exact ⟨v, h1.kept HCM.out (by have := HS0.out; have := HLO.out; omega) hk, h2⟩
  case i2 => rintro W X h hk; exact h.kept HCM.out (by have := HS0.out; have := HLO.out; omega) hk
  case i3 => rintro k a W X ⟨v, g, h1, h2, h3, h4, h5, h6⟩ hk; exact ⟨v, g, h1, h2.kept HCM.out (by have := HS0.out; have := HLO.out; omega) hk, h3, hk.cells h4, h5, h6⟩
  case i4 => rintro k W ⟨v, h1, h2⟩; exact h1.it
  case i5 => rintro W h; exact h.it
  case assign =>
    rintro l1 k W C hk ⟨v, hs, hm⟩ hC
    have lx := HFL.out (l.getD k [])
    have b2 : Below W.heap.size W (W.alloc (.cells (mC (fv (l.getD k []))) 23)) := by go_grown
    have HA : Hid (tdvA l o c G F fv fe k W.heap.size _) := Lib.hid rfl
    have HC := Lib.hid (hC _ _ (below_keeps10 b2 _) ⟨v, W.heap.size, HA.out, hs.up HCM.out b2, hm, RowAt.new _ _ _, hs.hi, OwnG.lt hs.own⟩)
    have IA : Hid ((Try.prog.info? 23).map (·.size) = some (mC (fv (l.getD k []))).size) := Lib.hid (by rw [mC_size, lx]; kernel_rfl)
    have ZA : Hid (4 = (mC (fv (l.getD k []))).size) := Lib.hid (by rw [mC_size, lx])
    have OA : Hid ((mC (fv (l.getD k []))).all (·.oneCell') = true) := Lib.hid (mC_one _)
    simp only [tdvElem]
    generalize mC (fv (l.getD k [])) = la at *
    generalize fe (l.getD k []) = ea at *
    clear hC hs hm lx b2 HA hk hKE
    gi_wp2_with (refine wpListIn_new10 (fun _ => trivial) rfl 23 (.tmp 8) (.tmp 13) rfl W.heap.size _ _ la rfl rfl rfl IA.out ZA.out OA.out ?_)
    exact HC.out
  case body =>
    clear hKE
    rintro l1 k a' W hk ⟨v, g, ha, hs, hm, hra, hg4, hlt⟩
    unfold tdvA at ha
    subst ha
    obtain ⟨x, hx⟩ : ∃ x, l.getD k [] = x := ⟨_, rfl⟩
    have HX0 := Lib.hid hx
    have lx := HFL.out x
    have HSU : Hid (tdvN l fv (k + 1) = tdvN l fv k ++ [fv x]) := Lib.hid (by rw [tdvN_succ, hx])
    have HLL := Lib.hid (tdvN_len l fv k)
    have HK : Hid (k < 100) := Lib.hid (by have := HLEN.out; omega)
    have HKL : Hid (k < l.length) := Lib.hid hk
    rw [hx] at hra
    simp only [hx]
    obtain ⟨y, hy⟩ : ∃ y, fv x = y := ⟨_, rfl⟩
    rw [hy] at lx hra HSU
    simp only [hy]
    obtain ⟨ls, hls⟩ : ∃ ls, y.map encI = ls := ⟨_, rfl⟩
    have hms : mC y = ls.toArray := by rw [← hls]; rfl
    rw [hms] at hra
    simp only [hms]
    have hln : ls.length = 4 := by rw [← hls, List.length_map, lx]
    have IA : Hid ((Try.prog.info? 23).map (·.size) = some ls.length) := Lib.hid (by rw [hln]; kernel_rfl)
    have SA : Hid (ls.toArray.size = 4) := Lib.hid (by rw [List.size_toArray, hln])
    have HLS := Lib.hid hls
    have HLN := Lib.hid hln
    obtain ⟨ex, hex⟩ : ∃ e, fe x = e := ⟨_, rfl⟩
    have HEX : Hid (fe (l.getD k []) = ex) := Lib.hid (by rw [hx, hex])
    have HM := Lib.hid hm
    simp only [hex]
    obtain ⟨L, hL⟩ : ∃ L, tdvN l fv k = L := ⟨_, rfl⟩
    rw [hL] at hs HSU HLL
    have HS := Lib.hid hs
    have HRA := Lib.hid hra
    obtain ⟨c1, c2, f1, f2⟩ := hs.facts
    have ra0 := row_range10 hra
    have gz0 : g < W.heap.size := hra.lt
    clear hs hra hg4 hlt hx hy hls hms hln hex hL lx hk hm HI0 HH HYY
    by_cases he : ex = 0
    · have HE := Lib.hid he
      subst he
      obtain ⟨V, hV⟩ : ∃ V, W.alloc (.cells ls.toArray 23) = V := ⟨_, rfl⟩
      have bV : Below W.heap.size W V := by rw [← hV]; exact (Below.refl _ _).alloc (Nat.le_refl _) _
      have HSV := Lib.hid (HS.out.up HCM.out bV)
      have HRN : Hid (V.heap[W.heap.size]? = some (.cells (y.map encI).toArray 23 (0, 0))) := Lib.hid (by rw [← hV, HLS.out]; exact heap_alloc_new _ _)
      have HKV := Lib.hid (below_keeps10 bV W0.heap.size)
      have HVV := Lib.hid hV
      clear hV bV
      gi_wp2_with (first | (rw [HVV.out]; refine wpListIn_app10 infoG4 (fun _ => trivial) rfl (.tmp 18) (.tmp 20) 24 rfl Try.underlying24 (G + 4) v L y rfl HSV.out.hi HSV.out.own W.heap.size 1 rfl HRN.out (by rw [HLS.out]; exact HLN.out) (enc_one y) (by have := HLL.out; have := HK.out; omega) ?_) | (refine wpListIn_mid10 (fun _ => trivial) rfl 23 (.tmp 8) rfl g 0 rfl ls _ ra0 Try.underlying23 rfl IA.out ?_) | (refine wpListIn_build10 infoG4 (by omega) (fun _ => trivial) rfl (.tmp 19) 24 Try.underlying24 rfl ls.toArray rfl SA.out ?_))
      intro v' X ho hg
      refine Lib.hid ?_
      obtain ⟨hst, hc1, hf1⟩ := HSV.out.step HCB.out HV.out ho hg
      have HS1 := Lib.hid hst
      have HKF := Lib.hid ((HKV.out.trans (grown_keeps10 HSV.out.own hg _)).trans (cell_keeps10 X ⟨G, 0, none⟩ v' _))
      obtain ⟨o1, p1, e1⟩ : ∃ o1 p1, v' = .slice o1 (L ++ [y]).length p1 := by
        rcases ho.2 with ⟨e, h0⟩ | ⟨g10, cap10, cur, e, _⟩
        · exact ⟨none, 0, by rw [e, h0]⟩
        · exact ⟨_, _, e⟩
      obtain ⟨mm, hmm⟩ : ∃ mm, (L ++ [y]).length = mm := ⟨_, rfl⟩
      rw [hmm] at e1
      subst e1
      clear ho hg hst hmm c1 c2 f1 f2 ra0 gz0
      gi_wp2
      refine ⟨HKF.out, _, by rw [HSU.out]; exact HS1.out, fun j hj => ?_⟩
      by_cases hjk : j < k
      · exact HM.out j hjk
      · obtain rfl : j = k := by omega
        exact HEX.out
    · have HE : Hid (ee = ex) := Lib.hid (by have := (HXX.out k HKL.out (by rw [HEX.out]; exact he)).2; rw [this, HEX.out])
      have HBD : Hid (tdvX l o c G F CM fe ex w ((W.setCell ⟨G, 0, none⟩ (.slice none 0 0)).setCell ⟨G + 1, 0, none⟩ (.int .i64 ex))) := Lib.hid (HS.out.bad HCM.out HCB.out HV.out ⟨k, HKL.out, by rw [HEX.out]; exact he, HEX.out⟩)
      gi_wp2
      exact ⟨rfl, (cell_keeps10 _ _ _ _).trans (cell_keeps10 _ _ _ _), by rw [HE.out]; exact HBD.out⟩
  case done =>
    rintro D W hD ⟨v, hs, hm⟩ hdef
    obtain ⟨c1, c2, f1, f2⟩ := hs.facts
    have HS := Lib.hid hs
    have HQ : Hid (LL = tdvN l fv l.length ∧ ee = 0) := Lib.hid (HYY.out hm)
    have HD : Hid (w.heap.size ≤ D) := Lib.hid (by have := HS0.out; have := HLO.out; omega)
    have HDE := Lib.hid hdef
    clear hs hm
    clear hdef hD HH HI0 HYY HXX HLEN
    refine hKE _ _ ?_
    clear hKE
    go_wp2_with fail
    refine wp_region_noPanic ?_
    refine (wpIn_wide (n := 5)).1 ?_
    refine heldz_region (F := Fence.wide) (S := fun X => X.cell? ⟨G, 0, none⟩ = some (v) ∧ X.cell? ⟨G + 1, 0, none⟩ = some (.int .i64 0)) (Z := []) (by kernel_rfl) ?_
    refine heldz_take (fun _ => trivial) [] 0 (?_) (by kernel_rfl) rfl (by kernel_rfl) (fun _ _ _ h => h) ⟨c1, c2⟩ (by kernel_rfl) ?_ ?_
    rotate_left
    · intro wz hSw; obtain ⟨q1, q2⟩ := hSw; (first | (go_simp; done) | (go_simp; with_reducible rfl))
    (try simp only [Act.put, List.getElem_toArray, List.getElem_cons_zero, List.getElem_cons_succ, List.setIfInBounds_toArray, List.set_cons_zero, List.set_cons_succ])
    refine heldz_take (fun _ => trivial) [] 1 (?_) (by kernel_rfl) rfl (by kernel_rfl) (fun _ _ _ h => h) ⟨c1, c2⟩ (by kernel_rfl) ?_ ?_
    rotate_left
    · intro wz hSw; obtain ⟨q1, q2⟩ := hSw; (first | (go_simp; done) | (go_simp; with_reducible rfl))
    (try simp only [Act.put, List.getElem_toArray, List.getElem_cons_zero, List.getElem_cons_succ, List.setIfInBounds_toArray, List.set_cons_zero, List.set_cons_succ])
    refine heldz_take (fun _ => trivial) [] 2 (?_) (by kernel_rfl) rfl (by kernel_rfl) (fun _ _ _ h => h) ⟨c1, c2⟩ (by kernel_rfl) ?_ ?_
    rotate_left
    · intro wz hSw; obtain ⟨q1, q2⟩ := hSw; (first | (go_simp; done) | (go_simp; with_reducible rfl))
    (try simp only [Act.put, List.getElem_toArray, List.getElem_cons_zero, List.getElem_cons_succ, List.setIfInBounds_toArray, List.set_cons_zero, List.set_cons_succ])
    refine heldz_take (fun _ => trivial) [] 3 (?_) (by kernel_rfl) rfl (by kernel_rfl) (fun _ _ _ h => h) ⟨c1, c2⟩ (by kernel_rfl) ?_ ?_
    rotate_left
    · intro wz hSw; obtain ⟨q1, q2⟩ := hSw; (first | (go_simp; done) | (go_simp; with_reducible rfl))
    (try simp only [Act.put, List.getElem_toArray, List.getElem_cons_zero, List.getElem_cons_succ, List.setIfInBounds_toArray, List.set_cons_zero, List.set_cons_succ])
    refine heldz_done (by kernel_rfl) ?_ _
    refine NoPanic.normal ?_
    go_wp2_with fail
    rw [Exit.noGoto_ret]
    refine leaves10 (B := w.heap.size) HD.out HDE.out (fun X hk => ?_)
    refine ⟨.tuple #[v, .int .i64 0], ?_, v, by rw [HQ.out.2], by rw [HQ.out.1]; exact OwnG.base (by have := HLO.out; omega) (OwnG.kept (OwnG.below (bdrew0 _ W 1) HS.out.own) hk), hk.below (Nat.le_refl _) (bnext HS.out.bel (bdrew0 _ _ 1))⟩
    simp [results, Try.results34, go_sem, *]
  case stop =>
    rintro D W hD hx hdef
    have c1 : W.cell? ⟨G, 0, none⟩ = some (.slice none 0 0) := by rw [hx.rl.cell]; rfl
    have c2 : W.cell? ⟨G + 1, 0, none⟩ = some (.int .i64 ee) := by rw [hx.rf.cell]; rfl
    have HS := Lib.hid hx
    have HQ : Hid (LL = []) := Lib.hid (by obtain ⟨j, h1, h2, h3⟩ := hx.no; exact (HXX.out j h1 h2).1)
    have HD : Hid (w.heap.size ≤ D) := Lib.hid (by have := HS0.out; have := HLO.out; omega)
    have HDE := Lib.hid hdef
    clear hx
    clear hdef hD HH HI0 HYY HXX HLEN
    refine wpIn_wide.2 ?_
    go_wp2_with fail
    refine wp_region_noPanic ?_
    refine (wpIn_wide (n := 5)).1 ?_
    refine heldz_region (F := Fence.wide) (S := fun X => X.cell? ⟨G, 0, none⟩ = some (.slice none 0 0) ∧ X.cell? ⟨G + 1, 0, none⟩ = some (.int .i64 ee)) (Z := []) (by kernel_rfl) ?_
    refine heldz_take (fun _ => trivial) [] 0 (?_) (by kernel_rfl) rfl (by kernel_rfl) (fun _ _ _ h => h) ⟨c1, c2⟩ (by kernel_rfl) ?_ ?_
    rotate_left
    · intro wz hSw; obtain ⟨q1, q2⟩ := hSw; (first | (go_simp; done) | (go_simp; with_reducible rfl))
    (try simp only [Act.put, List.getElem_toArray, List.getElem_cons_zero, List.getElem_cons_succ, List.setIfInBounds_toArray, List.set_cons_zero, List.set_cons_succ])
    refine heldz_take (fun _ => trivial) [] 1 (?_) (by kernel_rfl) rfl (by kernel_rfl) (fun _ _ _ h => h) ⟨c1, c2⟩ (by kernel_rfl) ?_ ?_
    rotate_left
    · intro wz hSw; obtain ⟨q1, q2⟩ := hSw; (first | (go_simp; done) | (go_simp; with_reducible rfl))
    (try simp only [Act.put, List.getElem_toArray, List.getElem_cons_zero, List.getElem_cons_succ, List.setIfInBounds_toArray, List.set_cons_zero, List.set_cons_succ])
    refine heldz_take (fun _ => trivial) [] 2 (?_) (by kernel_rfl) rfl (by kernel_rfl) (fun _ _ _ h => h) ⟨c1, c2⟩ (by kernel_rfl) ?_ ?_
    rotate_left
    · intro wz hSw; obtain ⟨q1, q2⟩ := hSw; (first | (go_simp; done) | (go_simp; with_reducible rfl))
    (try simp only [Act.put, List.getElem_toArray, List.getElem_cons_zero, List.getElem_cons_succ, List.setIfInBounds_toArray, List.set_cons_zero, List.set_cons_succ])
    refine heldz_take (fun _ => trivial) [] 3 (?_) (by kernel_rfl) rfl (by kernel_rfl) (fun _ _ _ h => h) ⟨c1, c2⟩ (by kernel_rfl) ?_ ?_
    rotate_left
    · intro wz hSw; obtain ⟨q1, q2⟩ := hSw; (first | (go_simp; done) | (go_simp; with_reducible rfl))
    (try simp only [Act.put, List.getElem_toArray, List.getElem_cons_zero, List.getElem_cons_succ, List.setIfInBounds_toArray, List.set_cons_zero, List.set_cons_succ])
    refine heldz_done (by kernel_rfl) ?_ _
    refine NoPanic.normal ?_
    go_wp2_with fail
    rw [Exit.noGoto_ret]
    refine leaves10 (B := w.heap.size) HD.out HDE.out (fun X hk => ?_)
    refine ⟨.tuple #[.slice none 0 0, .int .i64 ee], ?_, .slice none 0 0, rfl, by rw [HQ.out]; exact OwnG.nil _ _ _ _ _, hk.below (Nat.le_refl _) (bnext HS.out.bel (bdrew0 _ _ 1))⟩
    simp [results, Try.results34, go_sem, *]
end Go.Proofs.Ytgkglkoipocgaaa.Fx
namespace Go.Proofs.Ytgkglkoipocgaaa.Fx
open Go Go.RowKit Wm
/-- what the program's functions answer -/
structure View10 : Prop where
  corner : ∀ (v : List Int) (W H : Int) (w : World), VecWf v → Calls Try.prog 11 #[.agg (mC v), .int .i64 W, .int .i64 H] w fun e w' => e = .returned (.tuple #[.agg (mC (cornV v W H)), .int .i64 (cornE v W H)]) ∧ Below w.heap.size w w'
  corners : ∀ (l : List (List Int)) (o : Option Addr) (c : Nat) (W H : Int) (w : World), VecsAt w o l → l.length ≤ 100 → Calls Try.prog 13 #[.slice o l.length c, .int .i64 W, .int .i64 H] w (RetCs (cornsV l W H) (cornsE l W H) w)
  pixel : ∀ (c : List Int) (W H : Int) (w : World), c.length = 3 → (∀ j, Num (c.getD j 0)) → Calls Try.prog 15 #[.agg (mC c), .int .i64 W, .int .i64 H] w fun e w' => e = .returned (.tuple #[.int .i64 (pixX c W H), .int .i64 (pixY c W H), .bool (pixB c W H)]) ∧ Below w.heap.size w w'
  check : ∀ (W H : Int) (w : World), Calls Try.prog 17 #[.int .i64 W, .int .i64 H] w fun e w' => e = .returned (.int .i64 (if sizeK W H = true then 0 else 100)) ∧ Below w.heap.size w w'
theorem cornV_len (v : List Int) (W H : Int) : (cornV v W H).length = 3 := by
  unfold cornV cornO
  split <;> rfl
theorem cornsV_len {l : List (List Int)} (W H : Int) : (cornsV l W H).length ≤ l.length ∧ ∀ x ∈ cornsV l W H, x.length = 3 := by
  unfold cornsV
  split
  · refine ⟨by simp, fun x hx => ?_⟩
    obtain ⟨v, _, rfl⟩ := List.mem_map.1 hx
    rfl
  · exact ⟨by simp, by simp⟩
structure Vc (v c : List Int) (w W : World) : Prop where
  rv : RowAt 23 w.heap.size (mC v) W
  rc : RowAt 26 (w.heap.size + 1) (mC c) W
  bel : Below w.heap.size w W
theorem Vc.up {v c : List Int} {w W X : World} (h : Vc v c w W) (hb : Below W.heap.size W X) : Vc v c w X := ⟨h.rv.below hb, h.rc.below hb, bnext h.bel hb⟩
theorem Vc.new (v c : List Int) (w : World) : Vc v c w ((w.alloc (.cells (mC v) 23)).alloc (.cells (mC c) 26)) := ⟨RowAt.alloc (RowAt.new _ _ _) _, heap_alloc2_new _ _ _, by go_grown⟩
set_option maxRecDepth 100000 in
set_option maxHeartbeats 16000000 in
theorem viewCorners_walk (hp : View10) (v c : List Int) (l L : List (List Int)) (o : Option Addr) (k : Nat) (W H x0 x1 x2 er e2 px py sz : Int) (pb sb : Bool) (w : World) (hv : VecWf v) (hc : c.length = 3) (cn : ∀ j, Num (c.getD j 0)) (h : VecsAt w o l) (hl : l.length ≤ 9223372036854775807)
    (h1 : cornV v W H = [x0, x1, x2]) (h2 : cornE v W H = er) (h3 : cornsV l W H = L) (h4 : cornsE l W H = e2) (h5 : pixX c W H = px) (h6 : pixY c W H = py) (h7 : pixB c W H = pb) (h8 : sizeK W H = sb) (h9 : (if sb = true then (0 : Int) else 100) = sz) (hL : l.length ≤ 100 → L.length ≤ 100) (hL3 : ∀ x ∈ L, x.length = 3) :
    Calls Try.prog 3 #[.agg (mC v), .slice o l.length k, .agg (mC c), .int .i64 W, .int .i64 H] w (RetBool true w) := by
  have CP : Hid (Ans 11 #[.agg (mC v), .int .i64 W, .int .i64 H] (.tuple #[.agg #[.int .i64 x0, .int .i64 x1, .int .i64 x2], .int .i64 er])) := Lib.hid fun w => by have := hp.corner v W H w hv; rw [h1, h2] at this; exact this
  have CZ : Hid (Ans 12 #[.agg (mC v), .int .i64 W, .int .i64 H] (.tuple #[.agg #[.int .i64 x0, .int .i64 x1, .int .i64 x2], .int .i64 er])) := Lib.hid fun w => by have := zCorner_any v W H w hv; rw [h1, h2] at this; exact this
  have PP : Hid (Ans 15 #[.agg (mC c), .int .i64 W, .int .i64 H] (.tuple #[.int .i64 px, .int .i64 py, .bool pb])) := Lib.hid fun w => by have := hp.pixel c W H w hc cn; rw [h5, h6, h7] at this; exact this
  have PZ : Hid (Ans 16 #[.agg (mC c), .int .i64 W, .int .i64 H] (.tuple #[.int .i64 px, .int .i64 py, .bool pb])) := Lib.hid fun w => by have := zPixel_any c W H w hc; rw [h5, h6, h7] at this; exact this
  have KP : Hid (Ans 17 #[.int .i64 W, .int .i64 H] (.int .i64 sz)) := Lib.hid fun w => by have := hp.check W H w; rw [h8, h9] at this; exact this
  have KZ : Hid (Ans 19 #[.int .i64 W, .int .i64 H] (.bool sb)) := Lib.hid fun w => by have := zsize_any10 W H w; rw [h8] at this; exact this
  have HSZ := Lib.hid h9
  obtain ⟨n, hn⟩ : ∃ n, l.length = n := ⟨_, rfl⟩
  have LP : Hid (n ≤ 100 → ∀ X, Below w.heap.size w X → Calls Try.prog 13 #[.slice o n k, .int .i64 W, .int .i64 H] X (RetCs L e2 X)) := Lib.hid fun hn1 X hX => by rw [← hn, ← h3, ← h4]; exact hp.corners l o k W H X (h.below hX) (by omega)
  have LZ : Hid (n ≤ 100 → ∀ X, Below w.heap.size w X → Calls Try.prog 14 #[.slice o n k, .int .i64 W, .int .i64 H] X (RetCs L e2 X)) := Lib.hid fun hn1 X hX => by rw [← hn, ← h3, ← h4]; exact zCorners_any l o k W H X (h.below hX) (by omega)
  have HLL : Hid (n ≤ 100 → L.length ≤ 100) := Lib.hid (by rw [← hn]; exact hL)
  have HL3 := Lib.hid hL3
  have IV : Hid ((Try.prog.info? 23).map (·.size) = some (mC v).size) := Lib.hid (vec_info10 hv.len)
  have IC : Hid ((Try.prog.info? 26).map (·.size) = some (mC c).size) := Lib.hid (corner_info hc)
  have I0 := Lib.hid (Vc.new v c w)
  rw [hn] at hl ⊢
  have n0 : (0 : Int) ≤ (n : Int) := by omega
  clear hp hv hc cn h h1 h2 h3 h4 h5 h6 h7 h8 h9 hL hL3 hn
  go_enter Try.func3, Try.ntmps3
  by_cases h100 : (100 : Int) < (n : Int)
  · go_wp2_with fail
    go_ret
    exact ⟨rfl, I0.out.bel⟩
  have n100 : n ≤ 100 := by omega
  have LP1 := Lib.hid (LP.out n100)
  have LZ1 := Lib.hid (LZ.out n100)
  have HL1 := Lib.hid (HLL.out n100)
  clear LP LZ HLL n100
  go_wp2_with (refine wpList_load_row rfl 23 (.tmp 5) rfl w.heap.size rfl _ _ _ _ I0.out.rv Try.underlying23 rfl IV.out ?_)
  generalize ((w.alloc (.cells (mC v) 23)).alloc (.cells (mC c) 26)) = V at I0 ⊢
  refine (CP.out _).mono ?_
  rintro e w1 ⟨rfl, hb1⟩
  have I1 := Lib.hid (I0.out.up hb1)
  have Z1 : Hid (RowAt 26 w1.heap.size #[.int .i64 0, .int .i64 0, .int .i64 0] (w1.alloc (.cells #[.int .i64 0, .int .i64 0, .int .i64 0] 26))) := Lib.hid (RowAt.new _ _ _)
  obtain ⟨w2, hw2⟩ : ∃ X, (w1.alloc (.cells #[.int .i64 0, .int .i64 0, .int .i64 0] 26)).setRow w1.heap.size #[.int .i64 x0, .int .i64 x1, .int .i64 x2] = X := ⟨_, rfl⟩
  obtain ⟨g1, hg1⟩ : ∃ g, w1.heap.size = g := ⟨_, rfl⟩
  have b2 : Below w1.heap.size w1 w2 := by rw [← hw2]; exact Below.row ((Below.refl _ _).alloc (Nat.le_refl _) _) (Nat.le_refl _) _
  have I2 := Lib.hid (I1.out.up b2)
  have RA2 : Hid (RowAt 26 g1 #[.int .i64 x0, .int .i64 x1, .int .i64 x2] w2) := Lib.hid (by rw [← hw2, ← hg1]; exact Z1.out.row _)
  have HW2 := Lib.hid hw2
  have HG1 := Lib.hid hg1
  clear hb1 I0 I1 CP hw2 hg1 b2
  go_wp2_with (first | (rw [HW2.out, HG1.out]) | (rw [HW2.out]) | (refine wpList_store_big rfl 26 (.tmp 11) (.tmp 34) rfl w1.heap.size _ _ #[.int .i64 x0, .int .i64 x1, .int .i64 x2] rfl rfl Z1.out (by kernel_rfl) rfl (by kernel_rfl) ?_) | (refine wpList_load_row rfl 23 (.tmp 5) rfl w.heap.size rfl _ _ _ _ I2.out.rv Try.underlying23 rfl IV.out ?_))
  refine (CZ.out _).mono ?_
  rintro e w3 ⟨rfl, hb3⟩
  have I3 := Lib.hid (I2.out.up hb3)
  have RA3 := Lib.hid (RA2.out.below hb3)
  have Z3 : Hid (RowAt 26 w3.heap.size #[.int .i64 0, .int .i64 0, .int .i64 0] (w3.alloc (.cells #[.int .i64 0, .int .i64 0, .int .i64 0] 26))) := Lib.hid (RowAt.new _ _ _)
  obtain ⟨w4, hw4⟩ : ∃ X, (w3.alloc (.cells #[.int .i64 0, .int .i64 0, .int .i64 0] 26)).setRow w3.heap.size #[.int .i64 x0, .int .i64 x1, .int .i64 x2] = X := ⟨_, rfl⟩
  obtain ⟨g3, hg3⟩ : ∃ g, w3.heap.size = g := ⟨_, rfl⟩
  have b4 : Below w3.heap.size w3 w4 := by rw [← hw4]; exact Below.row ((Below.refl _ _).alloc (Nat.le_refl _) _) (Nat.le_refl _) _
  have I4 := Lib.hid (I3.out.up b4)
  have RA4 := Lib.hid (RA3.out.below b4)
  have RB4 : Hid (RowAt 26 g3 #[.int .i64 x0, .int .i64 x1, .int .i64 x2] w4) := Lib.hid (by rw [← hw4, ← hg3]; exact Z3.out.row _)
  have HW4 := Lib.hid hw4
  have HG3 := Lib.hid hg3
  have CL := Lib.hid (LP1.out w4 I4.out.bel)
  clear hb3 I2 I3 CZ hw4 hg3 b4 RA2 RA3 HW2 HG1 Z1 LP1
  go_wp2_with (first | (rw [HW4.out, HG3.out]) | (rw [HW4.out]) | (refine wpList_store_big rfl 26 (.tmp 13) (.tmp 41) rfl w3.heap.size _ _ #[.int .i64 x0, .int .i64 x1, .int .i64 x2] rfl rfl Z3.out (by kernel_rfl) rfl (by kernel_rfl) ?_))
  refine CL.out.mono ?_
  rintro e w5 ⟨v5, rfl, ho5, hb5⟩
  obtain ⟨o5, c5, rfl, _, hat5⟩ := OwnC.form ho5 HL3.out
  have I5 := Lib.hid (I4.out.up hb5)
  have RA5 := Lib.hid (RA4.out.below hb5)
  have RB5 := Lib.hid (RB4.out.below hb5)
  have HA5 := Lib.hid hat5
  have CM := Lib.hid (LZ1.out w5 I5.out.bel)
  clear hb5 ho5 hat5 I4 RA4 RB4 HW4 HG3 Z3 CL LZ1
  go_wp2_with fail
  refine CM.out.mono ?_
  rintro e w6 ⟨v6, rfl, ho6, hb6⟩
  obtain ⟨o6, c6, rfl, _, hat6⟩ := OwnC.form ho6 HL3.out
  have I6 := Lib.hid (I5.out.up hb6)
  have RA6 := Lib.hid (RA5.out.below hb6)
  have RB6 := Lib.hid (RB5.out.below hb6)
  have HA6 := Lib.hid (HA5.out.below hb6)
  have HD6 := Lib.hid hat6
  clear hb6 ho6 hat6 I5 RA5 RB5 HA5 CM
  go_wp2_with (refine wpList_load_row rfl 26 (.tmp 7) rfl (w.heap.size + 1) rfl _ _ _ _ I6.out.rc Try.underlying26 rfl IC.out ?_)
  refine (PP.out _).mono ?_
  rintro e w7 ⟨rfl, hb7⟩
  have I7 := Lib.hid (I6.out.up hb7)
  have RA7 := Lib.hid (RA6.out.below hb7)
  have RB7 := Lib.hid (RB6.out.below hb7)
  have HA7 := Lib.hid (HA6.out.below hb7)
  have HD7 := Lib.hid (HD6.out.below hb7)
  clear hb7 I6 RA6 RB6 HA6 HD6 PP
  go_wp2_with (refine wpList_load_row rfl 26 (.tmp 7) rfl (w.heap.size + 1) rfl _ _ _ _ I7.out.rc Try.underlying26 rfl IC.out ?_)
  refine (PZ.out _).mono ?_
  rintro e w8 ⟨rfl, hb8⟩
  have I8 := Lib.hid (I7.out.up hb8)
  have RA8 := Lib.hid (RA7.out.below hb8)
  have RB8 := Lib.hid (RB7.out.below hb8)
  have HA8 := Lib.hid (HA7.out.below hb8)
  have HD8 := Lib.hid (HD7.out.below hb8)
  clear hb8 I7 RA7 RB7 HA7 HD7 PZ
  go_wp2_with fail
  refine (KP.out _).mono ?_
  rintro e w9 ⟨rfl, hb9⟩
  have I9 := Lib.hid (I8.out.up hb9)
  have RA9 := Lib.hid (RA8.out.below hb9)
  have RB9 := Lib.hid (RB8.out.below hb9)
  have CS : Hid (Calls Try.prog 18 #[.slice o5 L.length c5, .slice o6 L.length c6] w9 (RetBool true w9)) := Lib.hid (by
    have := zsame10_any L L o5 o6 c5 c6 w9 (HA8.out.below hb9) (HD8.out.below hb9) (by have := HL1.out; omega) (by have := HL1.out; omega)
    rw [decide_eq_true rfl] at this
    exact this)
  clear hb9 I8 RA8 RB8 HA8 HD8 KP
  generalize L.length = nl at CS ⊢
  go_wp2_with (first | (refine wpList_load_row rfl 26 (.tmp 11) rfl g1 rfl _ _ _ _ RA9.out Try.underlying26 rfl (by kernel_rfl) ?_) | (refine wpList_load_row rfl 26 (.tmp 13) rfl g3 rfl _ _ _ _ RB9.out Try.underlying26 rfl (by kernel_rfl) ?_))
  refine CS.out.mono ?_
  rintro e w10 ⟨rfl, hb10⟩
  have HB10 := Lib.hid (bnext I9.out.bel hb10)
  clear hb10 I9 RA9 RB9 CS
  go_wp2_with fail
  refine (KZ.out _).mono ?_
  rintro e w11 ⟨rfl, hb11⟩
  have HB11 := Lib.hid (bnext HB10.out hb11)
  clear hb11 HB10 KZ
  cases sb with
  | true =>
    obtain rfl : sz = 0 := HSZ.out.symm
    go_wp2_with fail
    go_ret
    exact ⟨rfl, HB11.out⟩
  | false =>
    obtain rfl : sz = 100 := HSZ.out.symm
    go_wp2_with fail
    go_ret
    exact ⟨rfl, HB11.out⟩
theorem law_viewCorners (hp : View10) (v : List Int) (lv : v.length = 4) (wv : ∀ j, -9223372036854775808 ≤ v.getD j 0 ∧ v.getD j 0 ≤ 9223372036854775807) (l : List (List Int)) (o : Option Addr) (k : Nat) (hk : CapOk o l.length k) (c : List Int) (lc : c.length = 3) (wc : ∀ j, -9223372036854775808 ≤ c.getD j 0 ∧ c.getD j 0 ≤ 9223372036854775807)
    (W : Int) (wW : (Lit.int .i64 W).wf = true) (H : Int) (wH : (Lit.int .i64 H).wf = true) (w : World) (h : VecsAt w o l) :
    Calls Try.prog 3 #[.agg (mC v), .slice o l.length k, .agg (mC c), .int .i64 W, .int .i64 H] w fun e w' => e = .returned (.bool true) ∧ Below w.heap.size w w' := by
  obtain ⟨x0, x1, x2, hx⟩ := list3 (cornV_len v W H)
  exact viewCorners_walk hp v c l _ o k W H x0 x1 x2 _ _ _ _ _ _ _ w ⟨lv, wv⟩ lc wc h (by have := hk.1; omega) hx rfl rfl rfl rfl rfl rfl rfl rfl (fun hl => by have := (cornsV_len (l := l) W H).1; omega) (cornsV_len (l := l) W H).2
end Go.Proofs.Ytgkglkoipocgaaa.Fx
namespace Go.Proofs.Ytgkglkoipocgaaa.Fx
open Go Go.RowKit Wm
theorem wf4n (a b c d : Int) (ha : Num a) (hb : Num b) (hc : Num c) (hd : Num d) : VecWf [a, b, c, d] := by
  refine ⟨rfl, fun j => ?_⟩
  match j with
  | 0 => exact ha
  | 1 => exact hb
  | 2 => exact hc
  | 3 => exact hd
  | j + 4 => exact ⟨by simp, by simp⟩
theorem wpList_mid10g {P : Program} {ops : Array Oper} {rest : List Oper} {op : Oper} {a : Act} {w : World} {Q : Exit → Act → World → Prop} (hw : Region.wanted op (yielded ops a.tmps) = true) (ty : TypeId) (x : Operand) (ho : op.op = .load ty x)
    (b o : Nat) (hx : a.eval x = .pointer (some ⟨b, o, none⟩)) (cs : List Value) (d : TypeDesc) (hc : w.rangeAt b o cs)
    (hu : P.underlying ty = some d) (hd : d.isRow = true) (hi : (P.info? ty).map (·.size) = some cs.length)
    (h : wpList P ops Q rest (a.put op.dst (.agg cs.toArray)) w) : wpList P ops Q (op :: rest) a w :=
  wpList_step fun K hK => by
    rw [if_pos hw]
    exact wp_load_mid ty x ho b o hx cs d hc hu hd hi (hK _ _ h)
/-- the corner of a vertex that is written out -/
theorem pCorner_at (hp : View10) (a b c d W H : Int) (x : List Int) (e : Int) (ha : Num a) (hb : Num b) (hc : Num c) (hd : Num d) (h1 : cornV [a, b, c, d] W H = x) (h2 : cornE [a, b, c, d] W H = e) :
    Ans 11 #[.agg #[.int .i64 a, .int .i64 b, .int .i64 c, .int .i64 d], .int .i64 W, .int .i64 H] (.tuple #[.agg (mC x), .int .i64 e]) := fun w => by
  have := hp.corner [a, b, c, d] W H w (wf4n a b c d ha hb hc hd)
  rw [h1, h2] at this
  exact this
theorem row_range {t : TypeId} {g : Nat} {cs : Array Value} {W : World} (h : RowAt t g cs W) : W.rangeAt g 0 cs.toList := by
  intro i u hi
  rw [h.cell, Nat.zero_add]
  simpa using hi
set_option maxRecDepth 100000 in
set_option maxHeartbeats 8000000 in
theorem alive10_any (hp : View10) (w : World) : Calls Try.prog 24 #[] w (RetBool true w) := by
  have N (x : Int) (h : -9223372036854775808 ≤ x ∧ x ≤ 9223372036854775807) : Num x := h
  have D1 := Lib.hid (pCorner_at hp 0 0 0 4096 4 2 [32, 16, 0] 0 (N _ (by omega)) (N _ (by omega)) (N _ (by omega)) (N _ (by omega)) (by decide +kernel) (by decide +kernel))
  have D2 := Lib.hid (pCorner_at hp 4096 4096 4096 4096 4 2 [64, 0, 16777215] 0 (N _ (by omega)) (N _ (by omega)) (N _ (by omega)) (N _ (by omega)) (by decide +kernel) (by decide +kernel))
  have D3 := Lib.hid (pCorner_at hp (-1) (-1) 1 4096 4 2 [31, 16, 4095] 0 (N _ (by omega)) (N _ (by omega)) (N _ (by omega)) (N _ (by omega)) (by decide +kernel) (by decide +kernel))
  clear N hp
  have B0 : Hid (Below w.heap.size w w) := Lib.hid (Below.refl _ _)
  go_enter Try.func24, Try.ntmps24
  go_wp2_with fail
  refine (D1.out _).mono ?_
  rintro e w1 ⟨rfl, hb⟩
  rw [show mC [32, 16, 0] = #[.int .i64 32, .int .i64 16, .int .i64 0] from rfl]
  have Z1 : Hid (RowAt 26 w1.heap.size #[.int .i64 0, .int .i64 0, .int .i64 0] (w1.alloc (.cells #[.int .i64 0, .int .i64 0, .int .i64 0] 26))) := Lib.hid (RowAt.new _ _ _)
  obtain ⟨v1, hv⟩ : ∃ X, (w1.alloc (.cells #[.int .i64 0, .int .i64 0, .int .i64 0] 26)).setRow w1.heap.size #[.int .i64 32, .int .i64 16, .int .i64 0] = X := ⟨_, rfl⟩
  obtain ⟨g1, hg⟩ : ∃ g, w1.heap.size = g := ⟨_, rfl⟩
  have bb : Below w1.heap.size w1 v1 := by rw [← hv]; exact Below.row ((Below.refl _ _).alloc (Nat.le_refl _) _) (Nat.le_refl _) _
  have B1 := Lib.hid (bnext (bnext B0.out hb) bb)
  have R1 : Hid (RowAt 26 g1 #[.int .i64 32, .int .i64 16, .int .i64 0] v1) := Lib.hid (by rw [← hv, ← hg]; exact Z1.out.row _)
  have HV1 := Lib.hid hv
  have HG1 := Lib.hid hg
  clear hb hv hg bb B0 D1
  go_wp2_with (first | (rw [HV1.out, HG1.out]) | (rw [HV1.out]) | (refine wpList_store_big rfl 26 (.tmp 1) (.tmp 10) rfl w1.heap.size _ _ #[.int .i64 32, .int .i64 16, .int .i64 0] rfl rfl Z1.out (by kernel_rfl) rfl (by kernel_rfl) ?_))
  refine (D2.out _).mono ?_
  rintro e w2 ⟨rfl, hb⟩
  rw [show mC [64, 0, 16777215] = #[.int .i64 64, .int .i64 0, .int .i64 16777215] from rfl]
  have Z2 : Hid (RowAt 26 w2.heap.size #[.int .i64 0, .int .i64 0, .int .i64 0] (w2.alloc (.cells #[.int .i64 0, .int .i64 0, .int .i64 0] 26))) := Lib.hid (RowAt.new _ _ _)
  obtain ⟨v2, hv⟩ : ∃ X, (w2.alloc (.cells #[.int .i64 0, .int .i64 0, .int .i64 0] 26)).setRow w2.heap.size #[.int .i64 64, .int .i64 0, .int .i64 16777215] = X := ⟨_, rfl⟩
  obtain ⟨g2, hg⟩ : ∃ g, w2.heap.size = g := ⟨_, rfl⟩
  have bb : Below w2.heap.size w2 v2 := by rw [← hv]; exact Below.row ((Below.refl _ _).alloc (Nat.le_refl _) _) (Nat.le_refl _) _
  have B2 := Lib.hid (bnext (bnext B1.out hb) bb)
  have R1b := Lib.hid (R1.out.below (bnext hb bb))
  have R2 : Hid (RowAt 26 g2 #[.int .i64 64, .int .i64 0, .int .i64 16777215] v2) := Lib.hid (by rw [← hv, ← hg]; exact Z2.out.row _)
  have HV2 := Lib.hid hv
  have HG2 := Lib.hid hg
  clear hb hv hg bb B1 D2 R1 HV1 HG1 Z1
  go_wp2_with (first | (rw [HV2.out, HG2.out]) | (rw [HV2.out]) | (refine wpList_store_big rfl 26 (.tmp 3) (.tmp 15) rfl w2.heap.size _ _ #[.int .i64 64, .int .i64 0, .int .i64 16777215] rfl rfl Z2.out (by kernel_rfl) rfl (by kernel_rfl) ?_))
  refine (D3.out _).mono ?_
  rintro e w3 ⟨rfl, hb⟩
  rw [show mC [31, 16, 4095] = #[.int .i64 31, .int .i64 16, .int .i64 4095] from rfl]
  have Z3 : Hid (RowAt 26 w3.heap.size #[.int .i64 0, .int .i64 0, .int .i64 0] (w3.alloc (.cells #[.int .i64 0, .int .i64 0, .int .i64 0] 26))) := Lib.hid (RowAt.new _ _ _)
  obtain ⟨v3, hv⟩ : ∃ X, (w3.alloc (.cells #[.int .i64 0, .int .i64 0, .int .i64 0] 26)).setRow w3.heap.size #[.int .i64 31, .int .i64 16, .int .i64 4095] = X := ⟨_, rfl⟩
  obtain ⟨g3, hg⟩ : ∃ g, w3.heap.size = g := ⟨_, rfl⟩
  have bb : Below w3.heap.size w3 v3 := by rw [← hv]; exact Below.row ((Below.refl _ _).alloc (Nat.le_refl _) _) (Nat.le_refl _) _
  have B3 := Lib.hid (bnext (bnext B2.out hb) bb)
  have R1bb := Lib.hid (R1b.out.below (bnext hb bb))
  have R2b := Lib.hid (R2.out.below (bnext hb bb))
  have R3 : Hid (RowAt 26 g3 #[.int .i64 31, .int .i64 16, .int .i64 4095] v3) := Lib.hid (by rw [← hv, ← hg]; exact Z3.out.row _)
  have HV3 := Lib.hid hv
  have HG3 := Lib.hid hg
  clear hb hv hg bb B2 D3 R1b R2 HV2 HG2 Z2
  have Q1 : Hid (v3.rangeAt g1 0 [.int .i64 32, .int .i64 16, .int .i64 0]) := Lib.hid (row_range R1bb.out)
  have Q2 : Hid (v3.rangeAt g2 0 [.int .i64 64, .int .i64 0, .int .i64 16777215]) := Lib.hid (row_range R2b.out)
  have Q3 : Hid (v3.rangeAt g3 0 [.int .i64 31, .int .i64 16, .int .i64 4095]) := Lib.hid (row_range R3.out)
  go_wp2_with (first | (rw [HV3.out, HG3.out]) | (rw [HV3.out]) | (refine wpList_store_big rfl 26 (.tmp 5) (.tmp 20) rfl w3.heap.size _ _ #[.int .i64 31, .int .i64 16, .int .i64 4095] rfl rfl Z3.out (by kernel_rfl) rfl (by kernel_rfl) ?_) | (refine wpList_mid10g (by kernel_rfl) 26 (.tmp 1) rfl g1 0 rfl [.int .i64 32, .int .i64 16, .int .i64 0] _ Q1.out Try.underlying26 rfl (by kernel_rfl) ?_) | (refine wpList_mid10g (by kernel_rfl) 26 (.tmp 3) rfl g2 0 rfl [.int .i64 64, .int .i64 0, .int .i64 16777215] _ Q2.out Try.underlying26 rfl (by kernel_rfl) ?_) | (refine wpList_mid10g (by kernel_rfl) 26 (.tmp 5) rfl g3 0 rfl [.int .i64 31, .int .i64 16, .int .i64 4095] _ Q3.out Try.underlying26 rfl (by kernel_rfl) ?_))
  go_ret
  exact ⟨rfl, B3.out⟩
end Go.Proofs.Ytgkglkoipocgaaa.Fx
namespace Go.Proofs.Ytgkglkoipocgaaa.Fx
open Go Go.RowKit Wm
theorem RowAt.low10 {t : TypeId} {g B : Nat} {cs : Array Value} {X Y : World} (h : RowAt t g cs X) (hb : Below B X Y) (hg : g < B) : RowAt t g cs Y := by
  unfold RowAt
  rw [hb.block g hg]
  exact h
/-- the boxes of Corners that its closure reads -/
structure CbM (W H : Int) (b : Nat) (X : World) : Prop where
  w : RowAt 3 b #[.int .i64 W] X
  h : RowAt 3 (b + 1) #[.int .i64 H] X
theorem CbM.kept {W H : Int} {b B : Nat} {X Y : World} (k : Kept B X Y) (h : CbM W H b X) : CbM W H b Y := ⟨k.cells h.w, k.cells h.h⟩
theorem CbM.up {W H : Int} {b : Nat} {X Y : World} (k : Below X.heap.size X Y) (h : CbM W H b X) : CbM W H b Y := ⟨h.w.below k, h.h.below k⟩
theorem cornE_zero {v : List Int} {W H : Int} (hs : sizeK W H = true) (h : cornE v W H = 0) : seenK v = true := by
  cases e : seenK v with
  | true => rfl
  | false =>
    have hn : ¬ (sizeK W H = true ∧ seenK v = true) := fun g => by rw [e] at g; cases g.2
    unfold cornE cornO at h
    rw [if_neg hn] at h
    cases h
theorem cornE_or (v : List Int) (W H : Int) : cornE v W H = 0 ∨ cornE v W H = 100 := by
  unfold cornE
  split
  · exact .inl rfl
  · exact .inr rfl
theorem cornV_seen {v : List Int} {W H : Int} (hs : sizeK W H = true) (hv : seenK v = true) : cornV v W H = cornK v W H := by
  have hb : sizeK W H = true ∧ seenK v = true := ⟨hs, hv⟩
  unfold cornV cornO
  rw [if_pos hb]
  rfl
theorem corns_yes {l : List (List Int)} {W H : Int} (hs : sizeK W H = true) (h : ∀ j, j < l.length → cornE (l.getD j []) W H = 0) :
    cornsV l W H = tdcN l (fun v => cornV v W H) l.length ∧ cornsE l W H = 0 := by
  have ha : l.all seenK = true := by
    rw [List.all_eq_true]
    intro x hx
    obtain ⟨i, hi⟩ := List.getElem?_of_mem hx
    have := cornE_zero hs (h i (List.getElem?_eq_some_iff.1 hi).1)
    rwa [List.getD_eq_getElem?_getD, hi] at this
  have hb : cornsB l W H = true := by unfold cornsB; rw [hs, ha]; rfl
  unfold cornsV cornsE
  rw [if_pos hb, if_pos hb]
  refine ⟨?_, rfl⟩
  unfold tdcN
  refine List.ext_getElem (by simp) fun i h1 h2 => ?_
  simp at h1
  have hc := cornV_seen hs (List.all_eq_true.1 ha _ (List.getElem_mem h1))
  simp [List.getD_eq_getElem?_getD, List.getElem?_eq_getElem h1, hc]
theorem corns_no {l : List (List Int)} {W H : Int} (hs : sizeK W H = true) {j : Nat} (hj : j < l.length) (h : cornE (l.getD j []) W H ≠ 0) :
    cornsV l W H = [] ∧ cornsE l W H = cornE (l.getD j []) W H := by
  have e := (cornE_or (l.getD j []) W H).resolve_left h
  have hn : ¬ cornsB l W H = true := fun hb => by
    unfold cornsB at hb
    simp only [Bool.and_eq_true] at hb
    have hx := List.all_eq_true.1 hb.2 (l.getD j []) (by rw [List.getD_eq_getElem?_getD, List.getElem?_eq_getElem hj]; exact List.getElem_mem hj)
    refine h ?_
    have hb2 : sizeK W H = true ∧ seenK (l.getD j []) = true := ⟨hs, hx⟩
    unfold cornE cornO
    rw [if_pos hb2]
    rfl
  unfold cornsV cornsE
  rw [if_neg hn, if_neg hn, e]
  exact ⟨rfl, rfl⟩
structure C1 (v : List Int) (W H : Int) (b : Nat) (w X : World) : Prop where
  rv : RowAt 23 w.heap.size (v.map encI).toArray X
  rr : RowAt 26 (w.heap.size + 1) #[.int .i64 0, .int .i64 0, .int .i64 0] X
  cb : CbM W H b X
  bel : Below w.heap.size w X
theorem C1.up {v : List Int} {W H : Int} {b : Nat} {w X Y : World} (h : C1 v W H b w X) (hb : Below X.heap.size X Y) : C1 v W H b w Y := ⟨h.rv.below hb, h.rr.below hb, h.cb.up hb, bnext h.bel hb⟩
set_option maxRecDepth 100000 in
set_option maxHeartbeats 4000000 in
theorem pCorners1_any (v : List Int) (W H : Int) (b : Nat) (w : World) (hv : VecWf v) (hc : CbM W H b w) :
    Calls Try.prog 32 (#[.agg (mC v)] ++ #[.pointer (some ⟨b, 0, none⟩), .pointer (some ⟨b + 1, 0, none⟩)]) w fun e w' => e = .returned (.tuple #[.agg (mC (cornV v W H)), .int .i64 (cornE v W H)]) ∧ Below w.heap.size w w' := by
  have HC : Hid (Ans 11 #[.agg (v.map encI).toArray, .int .i64 W, .int .i64 H] (.tuple #[.agg (mC (cornV v W H)), .int .i64 (cornE v W H)])) := Lib.hid fun w => pCorner_any v W H w hv
  have IV : Hid ((Try.prog.info? 23).map (·.size) = some (v.map encI).length) := Lib.hid (by rw [List.length_map, hv.len]; kernel_rfl)
  have IC : Hid ((Try.prog.info? 26).map (·.size) = some (mC (cornV v W H)).size) := Lib.hid (by rw [mC_size, cornV_len]; kernel_rfl)
  have SC : Hid (3 = (mC (cornV v W H)).size) := Lib.hid (by rw [mC_size, cornV_len])
  have OC := Lib.hid (mC_one (cornV v W H))
  have I0 : Hid (C1 v W H b w ((w.alloc (.cells (mC v) 23)).alloc (.cells #[.int .i64 0, .int .i64 0, .int .i64 0] 26))) := Lib.hid ⟨RowAt.alloc (RowAt.new _ _ _) _, heap_alloc2_new _ _ _, hc.up (by go_grown), by go_grown⟩
  generalize mC (cornV v W H) = x at HC IC SC OC ⊢
  generalize cornE v W H = er at HC ⊢
  clear hv hc
  show Calls Try.prog 32 #[.agg (mC v), .pointer (some ⟨b, 0, none⟩), .pointer (some ⟨b + 1, 0, none⟩)] w _
  go_enter Try.func32, Try.ntmps32
  obtain ⟨V, hV⟩ : ∃ V, ((w.alloc (.cells (mC v) 23)).alloc (.cells #[.int .i64 0, .int .i64 0, .int .i64 0] 26)) = V := ⟨_, rfl⟩
  have HV := Lib.hid hV
  rw [hV] at I0
  clear hV
  have c1 : V.cell? ⟨b, 0, none⟩ = some (.int .i64 W) := by rw [I0.out.cb.w.cell]; rfl
  have c2 : V.cell? ⟨b + 1, 0, none⟩ = some (.int .i64 H) := by rw [I0.out.cb.h.cell]; rfl
  go_wp2_with (first | (rw [HV.out]; refine wpList_midg10 rfl 23 (.tmp 3) rfl w.heap.size 0 rfl (v.map encI) _ (row_range10 I0.out.rv) Try.underlying23 rfl IV.out ?_))
  refine (HC.out _).mono ?_
  rintro e w1 ⟨rfl, hb1⟩
  have I1 := Lib.hid (I0.out.up hb1)
  clear hb1 I0 HC c1 c2
  go_wp2_with (refine wpList_store_big rfl 26 (.tmp 4) (.tmp 10) rfl (w.heap.size + 1) _ _ x rfl rfl I1.out.rr IC.out SC.out OC.out ?_)
  (try simp only [Exit.inBlock, Exit.then])
  exact bodyPost_ret (v := .tuple #[.agg x, .int .i64 er]) (results_row_tmp rfl _ _ (w.heap.size + 1) _ x _ _ (.int .i64 er) rfl (I1.out.rr.row _) Try.underlying26 rfl IC.out rfl) rfl ⟨rfl, Below.row I1.out.bel (by omega) _⟩
set_option maxRecDepth 100000 in
set_option maxHeartbeats 4000000 in
theorem pCorners_any (l : List (List Int)) (o : Option Addr) (c : Nat) (W H : Int) (w : World) (h : VecsAt w o l) (hl : l.length ≤ 100) :
    Calls Try.prog 13 #[.slice o l.length c, .int .i64 W, .int .i64 H] w (RetCs (cornsV l W H) (cornsE l W H) w) := by
  obtain ⟨sz, hsz⟩ : ∃ x, (if sizeK W H = true then (0 : Int) else 100) = x := ⟨_, rfl⟩
  have CS : Hid (Ans 17 #[.int .i64 W, .int .i64 H] (.int .i64 sz)) := Lib.hid fun w => by rw [← hsz]; exact pCheck_any W H w
  obtain ⟨n, hn⟩ : ∃ n, l.length = n := ⟨_, rfl⟩
  obtain ⟨LL, hLL⟩ : ∃ x, cornsV l W H = x := ⟨_, rfl⟩
  obtain ⟨ee, hee⟩ : ∃ x, cornsE l W H = x := ⟨_, rfl⟩
  rw [hn, hLL, hee]
  have HNO : Hid (sz ≠ 0 → sz = 100 ∧ LL = [] ∧ ee = 100) := Lib.hid fun h0 => by
    have hs : ¬ sizeK W H = true := fun hs => h0 (by rw [← hsz, if_pos hs])
    have hb : ¬ cornsB l W H = true := fun g => hs (by unfold cornsB at g; simp only [Bool.and_eq_true] at g; exact g.1)
    refine ⟨by rw [← hsz, if_neg hs], ?_, ?_⟩
    · rw [← hLL]; unfold cornsV; rw [if_neg hb]
    · rw [← hee]; unfold cornsE; rw [if_neg hb]
  have HALL : Hid (sz = 0 → ∀ (b : Nat) (X : World), b + 1 < X.heap.size → Below w.heap.size w X → CbM W H b X → Calls Try.prog 31 #[.slice o n c, .func (.func 32) #[] #[.pointer (some ⟨b, 0, none⟩), .pointer (some ⟨b + 1, 0, none⟩)]] X (RetCs LL ee X)) := Lib.hid fun h0 b X hbX hX hcb => by
    have hs : sizeK W H = true := by
      cases e : sizeK W H with
      | true => rfl
      | false => rw [e] at hsz; rw [h0] at hsz; cases hsz
    rw [← hn, ← hLL, ← hee]
    exact tdc_all _ _ l o c 32 _ (fun v => cornV v W H) (fun v => cornE v W H) (CbM W H b) X hl (enters_of Try.func32 (by kernel_rfl) rfl) (fun B X Y k m => m.kept k) (fun Y Z m k => ⟨m.w.low10 k (by omega), m.h.low10 k (by omega)⟩)
      (fun Y v m hv => pCorners1_any v W H b Y hv m) (fun v => cornV_len v W H) (h.below hX) hcb (fun g => corns_yes hs g) (fun j hj g => corns_no hs hj g)
  have IX : Hid (∀ X, Below ((w.alloc (.cells #[.int .i64 W] 3)).alloc (.cells #[.int .i64 H] 3)).heap.size ((w.alloc (.cells #[.int .i64 W] 3)).alloc (.cells #[.int .i64 H] 3)) X → CbM W H w.heap.size X ∧ Below w.heap.size w X ∧ w.heap.size + 1 < X.heap.size) := Lib.hid fun X hX => by
    have r1 : CbM W H w.heap.size X := CbM.up hX ⟨RowAt.alloc (RowAt.new _ _ _) _, heap_alloc2_new _ _ _⟩
    exact ⟨r1, bnext (by go_grown) hX, r1.h.lt⟩
  clear h hl hn hLL hee hsz
  go_enter Try.func13, Try.ntmps13
  obtain ⟨V, hV⟩ : ∃ V, ((w.alloc (.cells #[.int .i64 W] 3)).alloc (.cells #[.int .i64 H] 3)) = V := ⟨_, rfl⟩
  rw [hV] at IX
  have HV := Lib.hid hV
  clear hV
  have hm := (IX.out V (Below.refl _ _)).1
  have c1 : V.cell? ⟨w.heap.size, 0, none⟩ = some (.int .i64 W) := by rw [hm.w.cell]; rfl
  have c2 : V.cell? ⟨w.heap.size + 1, 0, none⟩ = some (.int .i64 H) := by rw [hm.h.cell]; rfl
  clear hm
  go_wp2_with (rw [HV.out])
  try (rw [HV.out])
  go_wp2_with fail
  refine (CS.out _).mono ?_
  rintro e w1 ⟨rfl, hb1⟩
  obtain ⟨q1, q2, q3⟩ := IX.out w1 hb1
  have R1 := Lib.hid q1
  have B1 := Lib.hid q2
  have Z1 := Lib.hid q3
  clear hb1 IX CS c1 c2 q1 q2 q3 HV
  by_cases h0 : sz = 0
  · have CA := Lib.hid (HALL.out h0 w.heap.size w1 Z1.out B1.out R1.out)
    subst h0
    clear HALL HNO
    go_wp2_with fail
    refine CA.out.mono ?_
    rintro e w2 ⟨v2, rfl, ho2, hb2⟩
    have HO := Lib.hid (show OwnC w2 w.heap.size v2 LL from OwnG.base B1.out.size ho2)
    have HB := Lib.hid (bnext B1.out hb2)
    clear ho2 hb2 CA
    go_wp2_with fail
    go_ret2
    exact ⟨_, rfl, HO.out, HB.out⟩
  · obtain ⟨rfl, e1, e2⟩ := HNO.out h0
    have E1 := Lib.hid e1
    have E2 := Lib.hid e2
    clear HALL HNO h0 e1 e2
    go_wp2_with fail
    go_ret2
    exact ⟨.slice none 0 0, by rw [E2.out]; rfl, by rw [E1.out]; exact OwnG.nil _ _ _ _ _, B1.out⟩
theorem view10 : View10 := ⟨pCorner_any, pCorners_any, pPixel_any, pCheck_any⟩
end Go.Proofs.Ytgkglkoipocgaaa.Fx
namespace Go.Proofs.Ytgkglkoipocgaaa.Fx
open Go Go.RowKit Wm
theorem ownV_empty {α : Type} (t : TypeId) (n : Nat) (f : α → List Value) (W : World) : OwnG t n f (W.alloc (.cells #[] t)) W.heap.size (.slice (some ⟨W.heap.size, 0, none⟩) 0 0) [] :=
  ⟨by simp, .inr ⟨W.heap.size, 0, #[], rfl, Nat.le_refl _, heap_alloc_new _ _, Nat.le_refl _, by unfold maxLen; omega, by simp, by simp⟩⟩
/-- what the program's Through answers -/
def Thr10 : Prop := ∀ (m : List Int) (l : List (List Int)) (o : Option Addr) (c : Nat) (w : World), m.length = 16 → (∀ j, -9223372036854775808 ≤ m.getD j 0 ∧ m.getD j 0 ≤ 9223372036854775807) → VertsAt w o l → l.length ≤ 100 →
  Calls Try.prog 20 #[.agg (mC m), .slice o l.length c] w (RetTh (thrV m l) (thrE m l) w)
theorem apRows_len (m v : List Int) : (apRows m v).length = 4 := rfl
theorem thr_wf {m : List Int} {l : List (List Int)} : (thrV m l).length ≤ l.length ∧ ∀ x ∈ thrV m l, VecWf x := by
  unfold thrV
  split
  · rename_i hb
    refine ⟨by simp [thrN], fun x hx => ?_⟩
    unfold thrN at hx
    obtain ⟨i, hi, rfl⟩ := List.mem_map.1 hx
    have hi := List.mem_range.1 hi
    have h := (List.all_eq_true.1 hb) (l.getD i []) (by rw [List.getD_eq_getElem?_getD, List.getElem?_eq_getElem hi]; exact List.getElem_mem hi)
    unfold apO at h
    split at h
    · rename_i hw
      have h4 := hw.2.2
      refine ⟨rfl, fun j => ?_⟩
      by_cases hj : j < 4
      · unfold wB at h4
        have := (List.all_eq_true.1 h4) j (List.mem_range.2 hj)
        unfold okB at this
        have := of_decide_eq_true this
        unfold Num
        omega
      · rw [List.getD_eq_getElem?_getD, List.getElem?_eq_none (by rw [apRows_len]; omega)]
        exact ⟨by simp, by simp⟩
    · exact absurd h (by simp)
  · exact ⟨by simp, by simp⟩
def TlRel (m : List Int) (w V : World) (n g : Nat) (s31 : Value) (X : World) : Prop := ∃ k, g = n - k ∧ s31 = .int .i64 (k : Int) ∧ k ≤ n ∧ Below V.heap.size V X
set_option maxRecDepth 100000 in
set_option maxHeartbeats 16000000 in
theorem law_viewThrough (hp : Thr10) (m : List Int) (lm : m.length = 16) (bm : ∀ j, -9223372036854775808 ≤ m.getD j 0 ∧ m.getD j 0 ≤ 9223372036854775807) (l : List (List Int)) (o : Option Addr) (c : Nat) (hc : CapOk o l.length c) (w : World) (h : VertsAt w o l) :
    Calls Try.prog 4 #[.agg (mC m), .slice o l.length c] w fun e w' => e = .returned (.bool true) ∧ Below w.heap.size w w' := by
  obtain ⟨n, hn⟩ : ∃ n, l.length = n := ⟨_, rfl⟩
  obtain ⟨L, hL⟩ : ∃ L, thrV m l = L := ⟨_, rfl⟩
  obtain ⟨er, her⟩ : ∃ er, thrE m l = er := ⟨_, rfl⟩
  have HN := Lib.hid hn
  have HL := Lib.hid h
  have HCAP := Lib.hid hc
  have WL := Lib.hid (show L.length ≤ n ∧ ∀ x ∈ L, VecWf x by rw [← hL, ← hn]; exact thr_wf)
  have LP : Hid (n ≤ 100 → ∀ o c X, VertsAt X o l → Calls Try.prog 20 #[.agg (mC m), .slice o n c] X (RetTh L er X)) := Lib.hid fun h1 o c X hX => by rw [← hn, ← hL, ← her]; exact hp m l o c X lm bm hX (by omega)
  have LZ : Hid (n ≤ 100 → ∀ X, VertsAt X o l → Calls Try.prog 21 #[.agg (mC m), .slice o n c] X (RetTh L er X)) := Lib.hid fun h1 X hX => by rw [← hn, ← hL, ← her]; exact zThrough_any m l o c X lm bm hX (by omega)
  have HINF : Hid ((Try.prog.info? 44).map (·.size) = some (mC m).size) := Lib.hid (by rw [mC_size, lm]; kernel_rfl)
  have HR0 : Hid (RowAt 44 w.heap.size (mC m) (w.alloc (.cells (mC m) 44))) := Lib.hid (RowAt.new _ _ _)
  have HB0 : Hid (Below w.heap.size w (w.alloc (.cells (mC m) 44))) := Lib.hid (by go_grown)
  rw [hn]
  have n0 : (0 : Int) ≤ (n : Int) := by omega
  have nM : n ≤ 9223372036854775807 := by have := hc.1; omega
  clear hp lm bm hn h hL her hc
  go_enter Try.func4, Try.ntmps4
  by_cases h100 : (100 : Int) < (n : Int)
  · go_wp2_with fail
    go_ret
    exact ⟨rfl, HB0.out⟩
  have n100 : n ≤ 100 := by omega
  have LP1 := Lib.hid (LP.out n100)
  have LZ1 := Lib.hid (LZ.out n100)
  have hN1 : (n : Int) ≤ 100 := by omega
  obtain ⟨V0, hV0⟩ : ∃ V, w.alloc (.cells (mC m) 44) = V := ⟨_, rfl⟩
  rw [hV0] at HR0 HB0
  have HV0 := Lib.hid hV0
  obtain ⟨V3, hV3⟩ : ∃ V, V0.alloc (.cells #[] 50) = V := ⟨_, rfl⟩
  have HV3 := Lib.hid hV3
  have b3 : Below V0.heap.size V0 V3 := by rw [← hV3]; exact (Below.refl _ _).alloc (Nat.le_refl _) _
  have HB3 := Lib.hid b3
  have HSZ : Hid (V0.heap.size ≤ V3.heap.size) := Lib.hid b3.size
  have HOE : Hid (OwnG 50 3 (fun z : List Int => z.map encI) V3 V0.heap.size (.slice (some ⟨V0.heap.size, 0, none⟩) 0 0) []) := Lib.hid (by rw [← hV3]; exact ownV_empty _ _ _ _)
  have HL3 := Lib.hid ((HL.out.below HB0.out).below b3)
  have HSRC := Lib.hid HL3.out.src
  have HLEN : Hid (∀ z ∈ l, (z.map encI).length = 3) := Lib.hid (fun z hz => by rw [List.length_map]; exact (HL3.out.wf z hz).len)
  have HNN : Hid (l.length = n) := Lib.hid HN.out
  obtain ⟨g0, hg0⟩ : ∃ g, V0.heap.size = g := ⟨_, rfl⟩
  have HG0 := Lib.hid hg0
  clear LP LZ n100 hV0 hV3 b3 hg0
  go_wp2_with (first | (rw [HV0.out]) | (rw [HV3.out, HG0.out]) | (rw [HV3.out]) | (at_builtin; refine app_G infoGv rfl (.tmp 14) (.tmp 15) 45 rfl Try.underlying45 g0 (.slice (some ⟨g0, 0, none⟩) 0 0) [] l rfl (by rw [← HG0.out]; exact HSZ.out) (by rw [← HG0.out]; exact HOE.out) o c (by rw [HNN.out]; rfl) HCAP.out.2 HSRC.out HLEN.out (fun z _ => enc_one z) (by have := HNN.out; simp; omega) ?_))
  intro v5 X4 ho5 hg5
  refine Lib.hid ?_
  try rw [List.nil_append] at ho5
  have b4 : Below V0.heap.size V0 X4 := bgrown10 (Nat.le_refl _) HB3.out hg5 (fun k hk => by simp [Value.ownBlock] at hk; rw [← hk, HG0.out]; exact Nat.le_refl _)
  obtain ⟨o5, c5, rfl, _, hl5⟩ := OwnG.form ho5 HLEN.out
  have hat5 := LiesG.verts hl5 HL3.out.wf
  rw [HNN.out]
  have HB4 := Lib.hid (bnext HB0.out b4)
  have HR4 := Lib.hid (HR0.out.below b4)
  have HV4 := Lib.hid (HL.out.below HB4.out)
  have HO4 := Lib.hid hat5
  clear ho5 hg5 b4 hl5 hat5 HB3 HSZ HOE HL3 HSRC HLEN HV3 HG0 HV0 HB0 HR0
  have CP := Lib.hid (LP1.out o5 c5 X4 HO4.out)
  go_wp2_with (refine wpList_load_row rfl 44 (.tmp 2) rfl w.heap.size rfl _ _ _ _ HR4.out Try.underlying44 rfl HINF.out ?_)
  refine CP.out.mono ?_
  rintro e w5 ⟨v6, rfl, ho6, hb6⟩
  obtain ⟨o6, c6, rfl, _, hat6⟩ := OwnK.form ho6 WL.out.2
  have HB5 := Lib.hid (bnext HB4.out hb6)
  have HR5 := Lib.hid (HR4.out.below hb6)
  have HV5 := Lib.hid (HV4.out.below hb6)
  have HO5 := Lib.hid (HO4.out.below hb6)
  have HA5 := Lib.hid hat6
  have CZ := Lib.hid (LZ1.out w5 HV5.out)
  clear ho6 hb6 hat6 CP HB4 HR4 HV4 HO4 LP1
  go_wp2_with (refine wpList_load_row rfl 44 (.tmp 2) rfl w.heap.size rfl _ _ _ _ HR5.out Try.underlying44 rfl HINF.out ?_)
  refine CZ.out.mono ?_
  rintro e w6 ⟨v7, rfl, ho7, hb7⟩
  obtain ⟨o7, c7, rfl, _, hat7⟩ := OwnK.form ho7 WL.out.2
  have HB6 := Lib.hid (bnext HB5.out hb7)
  have HV6 := Lib.hid (HV5.out.below hb7)
  have HO6 := Lib.hid (HO5.out.below hb7)
  have HA6 := Lib.hid (HA5.out.below hb7)
  have HD6 := Lib.hid hat7
  clear ho7 hb7 hat7 CZ HB5 HR5 HV5 HO5 HA5 LZ1
  have CS : Hid (∀ X, Below w6.heap.size w6 X → Calls Try.prog 22 #[.slice o6 L.length c6, .slice o7 L.length c7] X (RetBool true X)) := Lib.hid (fun X hX => by
    have := zsame9_any L L o6 o7 c6 c7 X (HA6.out.below hX) (HD6.out.below hX) (by have := WL.out.1; omega) (by have := WL.out.1; omega)
    rw [decide_eq_true rfl] at this
    exact this)
  clear HA6 HD6
  generalize L.length = nl at CS ⊢
  go_wp2_with fail
  go_loopg [31] n (TlRel m w w6 n)
  case atStart => exact ⟨0, rfl, rfl, by omega, Below.refl _ _⟩
  case round =>
    obtain ⟨k, hg, rfl, hk, hbl⟩ := hrel
    subst hg
    have HB := Lib.hid hbl
    have k0 : (0 : Int) ≤ (k : Int) := by omega
    by_cases hkn : k < n
    · have t1 : (k : Int) < (n : Int) := by omega
      obtain ⟨b1, off1, e1, hr1, hw1⟩ := vert_get10 (HO6.out.below hbl) (k := k) (by rw [HN.out]; exact hkn)
      obtain ⟨b2, off2, e2, hr2, hw2⟩ := vert_get10 (HV6.out.below hbl) (k := k) (by rw [HN.out]; exact hkn)
      subst e1 e2
      generalize l.getD k [] = x at hr1 hw1 hr2 hw2
      have R1 := Lib.hid hr1
      have R2 := Lib.hid hr2
      have I1 : Hid ((Try.prog.info? 50).map (·.size) = some (x.map encI).length) := Lib.hid (by rw [List.length_map, hw1.len]; kernel_rfl)
      have HNE : Hid (∀ w, (Op.equalIn 10000 50 (.agg (x.map encI).toArray) (.agg (x.map encI).toArray)).run Try.prog w = .ok true w) := Lib.hid (fun w => by
        have h := eqIn_v3 w 9998 x x hw1.len hw1.len
        unfold mC at h
        rw [beq_self_eq_true] at h
        exact h)
      clear hr1 hw1 hr2 hw2 hbl
      go_wp2_with fail
      rename_i K5 hK5
      refine (wpIn_wide (n := 5)).1 (give_region (S := fun X => Below wr.heap.size wr X) (Z := []) (by kernel_rfl) (by kernel_rfl) below_mono (fun d _ _ _ _ h => by cases d <;> exact h) (bdrew0 _ _ 1) (fun hG vw0 hw0 => ?_))
      refine grow_pure [] 0 (?_) hG rfl (by kernel_rfl) hw0 (by kernel_rfl) ?_ ?_
      rotate_left
      · intro wz hSw; (first | (go_simp; done) | (go_simp; with_reducible rfl))
      intro vw1 hw1 hbn
      clear hbn hw0 vw0
      (try simp only [Act.put, List.getElem_toArray, List.getElem_cons_zero, List.getElem_cons_succ, List.setIfInBounds_toArray, List.set_cons_zero, List.set_cons_succ])
      refine grow_pure [] 1 (?_) hG rfl (by kernel_rfl) hw1 (by kernel_rfl) ?_ ?_
      rotate_left
      · intro wz hSw; (first | (go_simp; done) | (go_simp; with_reducible rfl))
      intro vw2 hw2 hbn
      clear hbn hw1 vw1
      (try simp only [Act.put, List.getElem_toArray, List.getElem_cons_zero, List.getElem_cons_succ, List.setIfInBounds_toArray, List.set_cons_zero, List.set_cons_succ])
      refine grow_pure [] 2 (.pointer (some ⟨b1, off1 + k * 3, none⟩)) hG rfl (by kernel_rfl) hw2 (by kernel_rfl) ?_ ?_
      · intro wz hSw; (first | (go_simp; done) | (go_simp; with_reducible rfl))
      intro vw3 hw3 hbn
      clear hbn hw2 vw2
      (try simp only [Act.put, List.getElem_toArray, List.getElem_cons_zero, List.getElem_cons_succ, List.setIfInBounds_toArray, List.set_cons_zero, List.set_cons_succ])
      refine grow_pure [] 3 (.agg (x.map encI).toArray) hG rfl (by kernel_rfl) hw3 (by kernel_rfl) ?_ ?_
      · intro wz hSw; exact exec_mid4 50 (.tmp 36) (by kernel_rfl) b1 (off1 + k * 3) (by kernel_rfl) _ _ (range_below hSw R1.out) Try.underlying50 (by kernel_rfl) I1.out
      intro vw4 hw4 hbn
      clear hbn hw3 vw3
      (try simp only [Act.put, List.getElem_toArray, List.getElem_cons_zero, List.getElem_cons_succ, List.setIfInBounds_toArray, List.set_cons_zero, List.set_cons_succ])
      refine grow_pure [] 4 (?_) hG rfl (by kernel_rfl) hw4 (by kernel_rfl) ?_ ?_
      rotate_left
      · intro wz hSw; (first | (go_simp; done) | (go_simp; with_reducible rfl))
      intro vw5 hw5 hbn
      clear hbn hw4 vw4
      (try simp only [Act.put, List.getElem_toArray, List.getElem_cons_zero, List.getElem_cons_succ, List.setIfInBounds_toArray, List.set_cons_zero, List.set_cons_succ])
      refine grow_pure [] 5 (?_) hG rfl (by kernel_rfl) hw5 (by kernel_rfl) ?_ ?_
      rotate_left
      · intro wz hSw; (first | (go_simp; done) | (go_simp; with_reducible rfl))
      intro vw6 hw6 hbn
      clear hbn hw5 vw5
      (try simp only [Act.put, List.getElem_toArray, List.getElem_cons_zero, List.getElem_cons_succ, List.setIfInBounds_toArray, List.set_cons_zero, List.set_cons_succ])
      refine grow_pure [] 6 (.pointer (some ⟨b2, off2 + k * 3, none⟩)) hG rfl (by kernel_rfl) hw6 (by kernel_rfl) ?_ ?_
      · intro wz hSw; (first | (go_simp; done) | (go_simp; with_reducible rfl))
      intro vw7 hw7 hbn
      clear hbn hw6 vw6
      (try simp only [Act.put, List.getElem_toArray, List.getElem_cons_zero, List.getElem_cons_succ, List.setIfInBounds_toArray, List.set_cons_zero, List.set_cons_succ])
      refine grow_pure [] 7 (.agg (x.map encI).toArray) hG rfl (by kernel_rfl) hw7 (by kernel_rfl) ?_ ?_
      · intro wz hSw; exact exec_mid4 50 (.tmp 40) (by kernel_rfl) b2 (off2 + k * 3) (by kernel_rfl) _ _ (range_below hSw R2.out) Try.underlying50 (by kernel_rfl) I1.out
      intro vw8 hw8 hbn
      clear hbn hw7 vw7
      (try simp only [Act.put, List.getElem_toArray, List.getElem_cons_zero, List.getElem_cons_succ, List.setIfInBounds_toArray, List.set_cons_zero, List.set_cons_succ])
      refine grow_pure [] 8 (.bool false) hG rfl (by kernel_rfl) hw8 (by kernel_rfl) ?_ ?_
      · intro wz hSw; have hne := HNE.out wz; (first | (go_simp; done) | (go_simp; with_reducible rfl))
      intro vw9 hw9 hbn
      clear hbn hw8 vw8
      (try simp only [Act.put, List.getElem_toArray, List.getElem_cons_zero, List.getElem_cons_succ, List.setIfInBounds_toArray, List.set_cons_zero, List.set_cons_succ])
      refine give_done (by kernel_rfl) (?_) _
      refine hK5 _ _ ?_
      have HWW := Lib.hid hw9
      clear hK5 hG hw9
      have HB2 := Lib.hid (bnext HB.out HWW.out)
      clear HWW R1 R2 I1 HNE
      go_wp2_with fail
      go_roundg (n - (k + 1))
      case measure => omega
      case rel => exact ⟨k + 1, rfl, by go_num, by omega, HB2.out⟩
    · obtain rfl : k = n := by omega
      have t1 : ¬ (k : Int) < (k : Int) := by omega
      have CQ := Lib.hid (CS.out _ hbl)
      clear hbl
      go_wp2_with fail
      refine CQ.out.mono ?_
      rintro e w9 ⟨rfl, hb9⟩
      have HBE := Lib.hid (bnext (bnext HB6.out HB.out) hb9)
      clear hb9
      go_wp2_with fail
      go_ret
      exact ⟨rfl, HBE.out⟩
end Go.Proofs.Ytgkglkoipocgaaa.Fx
namespace Go.Proofs.Ytgkglkoipocgaaa.Fx
open Go Go.RowKit Wm
def thF (m x : List Int) : List Int := (apO m (thrX x)).getD [0, 0, 0, 0]
def thG (m x : List Int) : Int := if (apO m (thrX x)).isSome then 0 else 30
theorem thF_len (m x : List Int) : (thF m x).length = 4 := by
  unfold thF
  cases e : apO m (thrX x) with
  | none => rfl
  | some y => rw [ap_some e]; rfl
theorem thG_zero {m x : List Int} (h : thG m x = 0) : (apO m (thrX x)).isSome = true := by
  unfold thG at h
  split at h
  · rename_i g; exact g
  · cases h
theorem thr_yes {m : List Int} {l : List (List Int)} (h : ∀ j, j < l.length → thG m (l.getD j []) = 0) : thrV m l = tdvN l (thF m) l.length ∧ thrE m l = 0 := by
  have hb := thr_all (m := m) (l := l) fun j hj => thG_zero (h j hj)
  unfold thrV thrE
  rw [if_pos hb, if_pos hb]
  refine ⟨?_, rfl⟩
  unfold thrN tdvN
  refine List.map_congr_left fun i hi => ?_
  have hi := List.mem_range.1 hi
  have hs := thG_zero (h i hi)
  unfold thF
  obtain ⟨u, hu⟩ := Option.isSome_iff_exists.1 hs
  rw [hu, ← ap_some hu]
  rfl
theorem thr_no {m : List Int} {l : List (List Int)} {j : Nat} (hj : j < l.length) (h : thG m (l.getD j []) ≠ 0) : thrV m l = [] ∧ thrE m l = thG m (l.getD j []) := by
  have e : apO m (thrX (l.getD j [])) = none := by
    cases e : apO m (thrX (l.getD j [])) with
    | none => rfl
    | some y => exact absurd (show thG m (l.getD j []) = 0 by unfold thG; rw [e]; rfl) h
  have hb := thr_bad hj e
  unfold thrV thrE thG
  rw [hb, e]
  exact ⟨rfl, rfl⟩
def MbM (m : List Int) (b : Nat) (X : World) : Prop := RowAt 44 b (m.map encI).toArray X
structure T1 (v m : List Int) (b : Nat) (w X : World) : Prop where
  rv : RowAt 50 w.heap.size (mC v) X
  rr : RowAt 23 (w.heap.size + 1) #[.int .i64 0, .int .i64 0, .int .i64 0, .int .i64 0] X
  cb : MbM m b X
  bel : Below w.heap.size w X
theorem T1.up {v m : List Int} {b : Nat} {w X Y : World} (h : T1 v m b w X) (hb : Below X.heap.size X Y) : T1 v m b w Y := ⟨h.rv.below hb, h.rr.below hb, RowAt.below hb h.cb, bnext h.bel hb⟩
set_option maxRecDepth 100000 in
set_option maxHeartbeats 4000000 in
theorem pThrough1_any (v m : List Int) (b : Nat) (w : World) (hv : VertWf v) (lm : m.length = 16) (hc : MbM m b w) :
    Calls Try.prog 35 (#[.agg (mC v)] ++ #[.pointer (some ⟨b, 0, none⟩)]) w fun e w' => e = .returned (.tuple #[.agg (mC (thF m v)), .int .i64 (thG m v)]) ∧ Below w.heap.size w w' := by
  have HC : Hid (Ans 36 #[.agg (m.map encI).toArray, .agg #[.int .i64 (v.getD 0 0), .int .i64 (v.getD 1 0), .int .i64 (v.getD 2 0), .int .i64 65536]] (.tuple #[.agg (mC (thF m v)), .int .i64 (thG m v)])) := Lib.hid fun w => apply_any m (thrX v) w lm rfl
  have IM : Hid ((Try.prog.info? 44).map (·.size) = some (m.map encI).length) := Lib.hid (by rw [List.length_map, lm]; kernel_rfl)
  have IC : Hid ((Try.prog.info? 23).map (·.size) = some (mC (thF m v)).size) := Lib.hid (by rw [mC_size, thF_len]; kernel_rfl)
  have SC : Hid (4 = (mC (thF m v)).size) := Lib.hid (by rw [mC_size, thF_len])
  have OC := Lib.hid (mC_one (thF m v))
  have I0 : Hid (T1 v m b w ((w.alloc (.cells (mC v) 50)).alloc (.cells #[.int .i64 0, .int .i64 0, .int .i64 0, .int .i64 0] 23))) := Lib.hid ⟨RowAt.alloc (RowAt.new _ _ _) _, heap_alloc2_new _ _ _, RowAt.below (by go_grown) hc, by go_grown⟩
  generalize mC (thF m v) = x at HC IC SC OC ⊢
  generalize thG m v = er at HC ⊢
  have HC0 : Hid (∀ X, RowAt 50 w.heap.size (mC v) X → X.cell? ⟨w.heap.size, 0, none⟩ = some (.int .i64 (v.getD 0 0)) ∧ X.cell? ⟨w.heap.size, 1, none⟩ = some (.int .i64 (v.getD 1 0)) ∧ X.cell? ⟨w.heap.size, 2, none⟩ = some (.int .i64 (v.getD 2 0))) := Lib.hid fun X h => by
    have := hv.len
    exact ⟨by rw [h.cell, mC_cell (by omega)], by rw [h.cell, mC_cell (by omega)], by rw [h.cell, mC_cell (by omega)]⟩
  generalize v.getD 0 0 = v0 at HC HC0
  generalize v.getD 1 0 = v1 at HC HC0
  generalize v.getD 2 0 = v2 at HC HC0
  clear hv hc lm
  show Calls Try.prog 35 #[.agg (mC v), .pointer (some ⟨b, 0, none⟩)] w _
  go_enter Try.func35, Try.ntmps35
  obtain ⟨V, hV⟩ : ∃ V, ((w.alloc (.cells (mC v) 50)).alloc (.cells #[.int .i64 0, .int .i64 0, .int .i64 0, .int .i64 0] 23)) = V := ⟨_, rfl⟩
  have HV := Lib.hid hV
  rw [hV] at I0
  obtain ⟨c0, c1, c2⟩ := HC0.out _ I0.out.rv
  have z0 : w.heap.size < V.heap.size := I0.out.rv.lt
  clear hV HC0
  go_wp2_with (first | (rw [HV.out]; refine wpList_midg10 rfl 44 (.tmp 1) rfl b 0 rfl (m.map encI) _ (row_range10 I0.out.cb) Try.underlying44 rfl IM.out ?_))
  refine (HC.out _).mono ?_
  rintro e w1 ⟨rfl, hb1⟩
  have I1 := Lib.hid (I0.out.up hb1)
  clear hb1 I0 HC c0 c1 c2 z0
  go_wp2_with (refine wpList_store_big rfl 23 (.tmp 3) (.tmp 14) rfl (w.heap.size + 1) _ _ x rfl rfl I1.out.rr IC.out SC.out OC.out ?_)
  (try simp only [Exit.inBlock, Exit.then])
  exact bodyPost_ret (v := .tuple #[.agg x, .int .i64 er]) (results_row_tmp rfl _ _ (w.heap.size + 1) _ x _ _ (.int .i64 er) rfl (I1.out.rr.row _) Try.underlying23 rfl IC.out rfl) rfl ⟨rfl, Below.row I1.out.bel (by omega) _⟩
set_option maxRecDepth 100000 in
set_option maxHeartbeats 4000000 in
theorem pThrough_any (m : List Int) (l : List (List Int)) (o : Option Addr) (c : Nat) (w : World) (lm : m.length = 16) (h : VertsAt w o l) (hl : l.length ≤ 100) :
    Calls Try.prog 20 #[.agg (mC m), .slice o l.length c] w (RetTh (thrV m l) (thrE m l) w) := by
  obtain ⟨n, hn⟩ : ∃ n, l.length = n := ⟨_, rfl⟩
  obtain ⟨LL, hLL⟩ : ∃ x, thrV m l = x := ⟨_, rfl⟩
  obtain ⟨ee, hee⟩ : ∃ x, thrE m l = x := ⟨_, rfl⟩
  rw [hn, hLL, hee]
  have HALL : Hid (∀ (b : Nat) (X : World), b < X.heap.size → Below w.heap.size w X → MbM m b X → Calls Try.prog 34 #[.slice o n c, .func (.func 35) #[] #[.pointer (some ⟨b, 0, none⟩)]] X (RetTh LL ee X)) := Lib.hid fun b X hbX hX hcb => by
    rw [← hn, ← hLL, ← hee]
    exact tdv_all _ _ l o c 35 _ (thF m) (thG m) (MbM m b) X hl (enters_of Try.func35 (by kernel_rfl) rfl) (fun B X Y k m => k.cells m) (fun Y Z m k => RowAt.low10 m k (by omega))
      (fun Y v m hv => pThrough1_any v _ b Y hv lm m) (fun v => thF_len m v) (h.below hX) hcb (fun g => thr_yes g) (fun j hj g => thr_no hj g)
  have R0 : Hid (MbM m w.heap.size (w.alloc (.cells (mC m) 44))) := Lib.hid (RowAt.new _ _ _)
  have B0 : Hid (Below w.heap.size w (w.alloc (.cells (mC m) 44))) := Lib.hid (by go_grown)
  clear h hl hn hLL hee lm
  go_enter Try.func20, Try.ntmps20
  go_wp2_with fail
  generalize (w.alloc (.cells (mC m) 44)) = V at R0 B0 ⊢
  have CA := Lib.hid (HALL.out w.heap.size V R0.out.lt B0.out R0.out)
  clear HALL
  refine CA.out.mono ?_
  rintro e w2 ⟨v2, rfl, ho2, hb2⟩
  have HO := Lib.hid (show OwnK w2 w.heap.size v2 LL from OwnG.base B0.out.size ho2)
  have HB := Lib.hid (bnext B0.out hb2)
  clear ho2 hb2 CA
  go_wp2_with fail
  go_ret2
  exact ⟨_, rfl, HO.out, HB.out⟩
theorem thr10 : Thr10 := fun m l o c w lm bm h hl => pThrough_any m l o c w lm h hl
end Go.Proofs.Ytgkglkoipocgaaa.Fx
