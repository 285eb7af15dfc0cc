/- What the document's Parse reads: plain. -/
import Derived.Test.YtgkcbadfjhicnaaProg
import Derived.Test.YtgkcbadfjhicnaaJ1
import Derived.Test.YtgkcbadfjhicnaaP1
import Derived.Laws.Strings2
import Derived.Laws.Strings3
set_option linter.unusedVariables false
set_option linter.unusedSimpArgs false
namespace Go.Proofs.Ytgkcbadfjhicnaa.Fx
open Go Go.RowKit Wm
def dgv (l : List Nat) : Nat := l.foldl (fun a c => a * 10 + (c - 48)) 0
theorem dgv_snoc (l : List Nat) (c : Nat) : dgv (l ++ [c]) = dgv l * 10 + (c - 48) := by unfold dgv; rw [List.foldl_append]; rfl
theorem dgv_acc : ∀ (l : List Nat) (a : Nat), (∀ c ∈ l, c ≤ 57) → l.foldl (fun a c => a * 10 + (c - 48)) a < (a + 1) * 10 ^ l.length
  | [], a, _ => by simp
  | c :: l, a, h => by
    have h1 := dgv_acc l (a * 10 + (c - 48)) fun x hx => h x (by simp [hx])
    have h2 := h c (by simp)
    rw [List.foldl_cons, List.length_cons, Nat.pow_succ]
    have h3 : (a * 10 + (c - 48) + 1) * 10 ^ l.length ≤ ((a + 1) * 10) * 10 ^ l.length := Nat.mul_le_mul_right _ (by omega)
    rw [Nat.mul_assoc, Nat.mul_comm 10] at h3
    omega
theorem dgv_lt (l : List Nat) (h : ∀ c ∈ l, c ≤ 57) : dgv l < 10 ^ l.length := by
  have := dgv_acc l 0 h
  rw [Nat.zero_add, Nat.one_mul] at this
  exact this
theorem dgv_decF : ∀ (f n : Nat), n < 10 ^ f → dgv ((decF f n).map Int.toNat) = n
  | 0, n, h => by
    have : n = 0 := by simpa using h
    subst this
    rfl
  | f + 1, n, h => by
    simp only [decF]
    split
    · have e : (48 + (n : Int)).toNat = 48 + n := by omega
      simp only [List.map_cons, List.map_nil, e]
      unfold dgv
      simp only [List.foldl_cons, List.foldl_nil]
      omega
    · have e : (48 + ((n % 10 : Nat) : Int)).toNat = 48 + n % 10 := by omega
      rw [List.map_append, List.map_cons, List.map_nil, e, dgv_snoc, dgv_decF f (n / 10) (by rw [Nat.pow_succ] at h; omega)]
      omega
theorem decF_len2 : ∀ (g f n : Nat), n < 10 ^ f → 1 ≤ f → (decF g n).length ≤ f
  | 0, f, n, _, h => by simp [decF]
  | g + 1, f, n, h, hf => by
    simp only [decF]
    split
    · simp; omega
    · rename_i h10
      have h2 : 2 ≤ f := by
        rcases Nat.lt_or_ge f 2 with hlt | hge
        · exfalso
          have : f = 1 := by omega
          subst this
          omega
        · exact hge
      have := decF_len2 g (f - 1) (n / 10) (by rw [show f = (f - 1) + 1 by omega, Nat.pow_succ] at h; omega) (by omega)
      rw [List.length_append, List.length_singleton]
      omega
/-- where the digits begin -/
def atOf (l : List Nat) : Nat := if l.getD 0 0 = 45 then 1 else 0
def zOf (l : List Nat) : Int := if atOf l = 1 then -(dgv (l.drop (atOf l)) : Int) else (dgv (l.drop (atOf l)) : Int)
def DigAll (l : List Nat) : Prop := ∀ c ∈ l.drop (atOf l), 48 ≤ c ∧ c ≤ 57
theorem pok_reads {s : ByteArray} (h : pok s) : (sbytes s).length - atOf (sbytes s) ≤ 39 ∧ DigAll (sbytes s) ∧ zOf (sbytes s) = pval s := by
  have hx : In (pval s) := in_w128 _
  have hs : bstr (wtx (pval s)) = s := h
  generalize pval s = x at *
  have hl : sbytes s = (wtx x).map Int.toNat := by rw [← hs, sbytes_bstr _ (wtx_range x)]
  rw [hl]
  have hn : x.natAbs < 10 ^ 39 := by unfold In at hx; omega
  have h40 : x.natAbs < 10 ^ 40 := by omega
  have hr := decF_range 40 x.natAbs
  have hlen := decF_len2 40 39 x.natAbs hn (by omega)
  have hdv := dgv_decF 40 x.natAbs h40
  have hall : ∀ c ∈ (decF 40 x.natAbs).map Int.toNat, 48 ≤ c ∧ c ≤ 57 := by
    intro c hc
    rw [List.mem_map] at hc
    obtain ⟨y, hy, rfl⟩ := hc
    have := hr y hy
    omega
  by_cases h0 : x < 0
  · have e : (wtx x).map Int.toNat = 45 :: (decF 40 x.natAbs).map Int.toNat := by unfold wtx; rw [if_pos h0]; rfl
    rw [e]
    have ea : atOf (45 :: (decF 40 x.natAbs).map Int.toNat) = 1 := rfl
    unfold DigAll zOf
    rw [ea, List.drop_one, List.tail_cons, if_pos rfl, hdv]
    refine ⟨?_, hall, by omega⟩
    simp
    exact hlen
  · have e : (wtx x).map Int.toNat = (decF 40 x.natAbs).map Int.toNat := by unfold wtx; rw [if_neg h0]; rfl
    rw [e]
    have ea : atOf ((decF 40 x.natAbs).map Int.toNat) = 0 := by
      unfold atOf
      rw [if_neg]
      cases hd : (decF 40 x.natAbs).map Int.toNat with
      | nil => simp
      | cons c r =>
        have := hall c (by rw [hd]; simp)
        simp
        omega
    unfold DigAll zOf
    rw [ea, List.drop_zero, if_neg (by omega), hdv]
    refine ⟨?_, hall, by omega⟩
    simp
    exact hlen
theorem pe_no {s : ByteArray} (h : ¬ pok s) : pe s = 20 ∧ pv s = 0 := by
  unfold pe pv
  rw [if_neg h, if_neg h]
  exact ⟨rfl, rfl⟩
theorem exec_index {P : Program} {o : Oper} {a : Act} {w : World} (t : TypeId) (x y : Operand) (ho : o.op = .index t x y) (v1 v2 v : Value) (hx : a.eval x = v1) (hy : a.eval y = v2) (h : (Instr.index t v1 v2).run P w = .ok v w) :
    (execOp a.eval o).run P w = .ok (.value v) w := by
  unfold execOp
  simp only [ho, hx, hy, Sem.run_bind, h, Result.andThen_ok, Sem.run_pure]
theorem sb_len (s : ByteArray) : (sbytes s).length = s.size := by simp [sbytes]
theorem idx_str (t : ByteArray) (k : Nat) (i : Int) (hi : i = (k : Int)) (hk : k < t.size) (w : World) :
    (Instr.index 9 (.string t) (.int .i64 i)).run Try.prog w = .ok (.int .u8 (((sbytes t).getD k 0 : Nat) : Int)) w := by
  subst hi
  rw [run_index_string _ _ _ _ _ Try.underlying9, dif_pos ⟨by omega, by omega⟩]
  congr 3
  have h : k < (sbytes t).length := by rw [sb_len]; exact hk
  rw [List.getD_eq_getElem?_getD, List.getElem?_eq_getElem h]
  simp [sbytes]
  rfl
end Go.Proofs.Ytgkcbadfjhicnaa.Fx
