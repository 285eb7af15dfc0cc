/- Calls on none, and on a zero writer or reader, walked. -/
import Derived.Test.YtpbidfmijliehaaProg
import Derived.Test.YtpbidfmijliehaaDk
set_option linter.unusedVariables false
set_option linter.unusedSimpArgs false
namespace Go.Proofs.Ytpbidfmijliehaa.Fx
open Go Go.RowKit
/-- with these nothing can be done: none, or a zero one -/
def NoW (po : Option Addr) (w : World) : Prop := ∀ W, Below w.heap.size w W → Calls Try.prog 43 #[.pointer po] W fun e w' => e = .returned (.int .i64 1) ∧ W = w'
def NoR (po : Option Addr) (w : World) : Prop := ∀ W, Below w.heap.size w W → Calls Try.prog 58 #[.pointer po] W fun e w' => e = .returned (.int .i64 1) ∧ W = w'
theorem NoW.nil (w : World) : NoW none w := fun W _ => writer_nil W
theorem NoR.nil (w : World) : NoR none w := fun W _ => reader_nil W
theorem NoW.zero {w : World} {q : Nat} {cs : Array Value} {t : TypeId} (h : w.heap[q]? = some (.cells cs t (0, 0))) (h0 : cs[0]? = some (.bool false)) (h1 : cs[1]? = some (.bool false)) : NoW (some ⟨q, 0, none⟩) w := fun W hb =>
  writer_fault q false false W ((cell_of_row _ _ 0 _ _ _ (keep_row hb h)).trans h0) ((cell_of_row _ _ 1 _ _ _ (keep_row hb h)).trans h1)
theorem NoR.zero {w : World} {q : Nat} {cs : Array Value} {t : TypeId} (h : w.heap[q]? = some (.cells cs t (0, 0))) (h0 : cs[0]? = some (.bool false)) (h1 : cs[1]? = some (.bool false)) : NoR (some ⟨q, 0, none⟩) w := fun W hb =>
  reader_fault q false false W ((cell_of_row _ _ 0 _ _ _ (keep_row hb h)).trans h0) ((cell_of_row _ _ 1 _ _ _ (keep_row hb h)).trans h1)
theorem NoW.below {po : Option Addr} {w W : World} (h : NoW po w) (hb : Below w.heap.size w W) : NoW po W := fun X hx => h X (bnext hb hx)
theorem NoR.below {po : Option Addr} {w W : World} (h : NoR po w) (hb : Below w.heap.size w W) : NoR po W := fun X hx => h X (bnext hb hx)
def Nothing (v : Value) (w : World) (e : Ending) (w' : World) : Prop := e = .returned v ∧ Below w.heap.size w w'
theorem wuint_no (po : Option Addr) (n : Nat) (w : World) (h : NoW po w) : Calls Try.prog 10 #[.pointer po, .int .u64 (n : Int)] w (Nothing undef w) := by
  have hb : Below w.heap.size w (w.alloc (.cells #[.pointer po] 24)) := (Below.refl _ w).alloc (Nat.le_refl _) _
  have HF := Lib.hid (h _ hb)
  have HB := Lib.hid hb
  clear h hb
  refine (callsIn_wide (n := 5)).1 ?_
  refine callsIn_of_wp_marks Try.func10 rfl trivial ?_ rfl
  simp only [Try.ntmps10, List.size_toArray, List.length_cons, List.length_nil, Nat.reduceAdd, Nat.reduceSub, Array.replicate_succ, Array.replicate_zero, List.push_toArray, List.append_toArray, List.nil_append, List.cons_append]
  refine wpIn_wide.2 ?_
  go_wp2_with fail
  refine HF.out.mono ?_
  rintro e w1 ⟨rfl, rfl⟩
  clear HF
  go_wp2_with fail
  exact ⟨_, results_none rfl _ _ _, rfl, HB.out⟩
theorem wsmall_no (po : Option Addr) (n most : Int) (w : World) (h : NoW po w) : Calls Try.prog 14 #[.pointer po, .int .i64 n, .int .i64 most] w (Nothing undef w) := by
  obtain ⟨N, hN⟩ : ∃ N : Nat, IntKind.u64.wrap n = (N : Int) := ⟨(n % 18446744073709551616).toNat, by rw [IntKind.wrap_u64]; omega⟩
  have HF := Lib.hid (h w (Below.refl _ _))
  have HU := Lib.hid (wuint_no po N w h)
  clear h
  go_enter Try.func14, Try.ntmps14
  go_wp2_with fail
  refine HF.out.mono ?_
  rintro e w1 ⟨rfl, rfl⟩
  go_wp2_with fail
  refine HU.out.mono ?_
  rintro e w2 ⟨rfl, hb⟩
  have HB := Lib.hid hb
  clear hb HU
  go_wp2_with fail
  exact bodyPost_ret (results_none rfl _ _ _) rfl ⟨rfl, HB.out⟩
theorem wtext_no (po : Option Addr) (o : Option Addr) (m c : Nat) (most : Int) (w : World) (hm : m ≤ 1000000000) (h : NoW po w) : Calls Try.prog 18 #[.pointer po, .slice o m c, .int .i64 most] w (Nothing undef w) := by
  have HU := Lib.hid (wsmall_no po (m : Int) most w h)
  have HN := Lib.hid h
  clear h
  go_enter Try.func18, Try.ntmps18
  go_wp2_with fail
  refine HU.out.mono ?_
  rintro e w2 ⟨rfl, hb⟩
  have HB := Lib.hid hb
  have HF := Lib.hid (HN.out w2 hb)
  clear hb HU
  go_wp2_with fail
  refine HF.out.mono ?_
  rintro e w3 ⟨rfl, rfl⟩
  go_wp2_with fail
  go_end0
  exact ⟨rfl, HB.out⟩
theorem wbytes_no (po : Option Addr) (w : World) (h : NoW po w) : Calls Try.prog 20 #[.pointer po] w (Nothing (.tuple #[.slice none 0 0, .int .i64 1]) w) := by
  have HF := Lib.hid (h w (Below.refl _ _))
  clear h
  go_enter Try.func20, Try.ntmps20
  go_wp2_with fail
  refine HF.out.mono ?_
  rintro e w1 ⟨rfl, rfl⟩
  go_wp2_with fail
  exact bodyPost_ret (results_tmp2 rfl _ _ _) rfl ⟨rfl, Below.refl _ _⟩
theorem take_no (po : Option Addr) (fm : Nat) (cp : Array Value) (w : World) (h : NoR po w) : Calls Try.prog 59 #[.pointer po, .func (.func fm) #[] cp] w (Nothing (.int .u64 0) w) := by
  have HF := Lib.hid (h w (Below.refl _ _))
  clear h
  go_enter Try.func59, Try.ntmps59
  go_wp2_with fail
  refine HF.out.mono ?_
  rintro e w1 ⟨rfl, rfl⟩
  go_wp2_with fail
  go_ret
  exact ⟨rfl, Below.refl _ _⟩
theorem ruint_no (po : Option Addr) (w : World) (h : NoR po w) : Calls Try.prog 29 #[.pointer po] w (Nothing (.int .u64 0) w) := by
  have HT := Lib.hid (take_no po 60 #[] w h)
  clear h
  go_enter Try.func29, Try.ntmps29
  go_wp2_with fail
  refine HT.out.mono ?_
  rintro e w1 ⟨rfl, hb⟩
  have HB := Lib.hid hb
  clear hb HT
  go_wp2_with fail
  go_ret
  exact ⟨rfl, HB.out⟩
theorem rint_no (po : Option Addr) (w : World) (h : NoR po w) : Calls Try.prog 39 #[.pointer po] w (Nothing (.int .i64 0) w) := by
  have HT := Lib.hid (ruint_no po w h)
  have HS := Lib.hid (fun W => signed_any 0 (by omega) W)
  clear h
  go_enter Try.func39, Try.ntmps39
  go_wp2_with fail
  refine HT.out.mono ?_
  rintro e w1 ⟨rfl, hb⟩
  have HB := Lib.hid hb
  clear hb HT
  go_wp2_with fail
  refine (HS.out _).mono ?_
  rintro e w2 ⟨rfl, rfl⟩
  rw [show unf 0 = 0 from rfl]
  go_wp2_with fail
  go_ret
  exact ⟨rfl, HB.out⟩
theorem rsmall_no (po : Option Addr) (most : Int) (w : World) (h : NoR po w) : Calls Try.prog 34 #[.pointer po, .int .i64 most] w (Nothing (.int .i64 0) w) := by
  have hb : Below w.heap.size w (w.alloc (.cells #[.int .i64 most] 3)) := (Below.refl _ w).alloc (Nat.le_refl _) _
  have HT := Lib.hid (take_no po 61 #[.pointer (some ⟨w.heap.size, 0, none⟩)] _ (h.below hb))
  have HB := Lib.hid hb
  clear h hb
  go_enter Try.func34, Try.ntmps34
  go_wp2_with fail
  refine HT.out.mono ?_
  rintro e w1 ⟨rfl, hb⟩
  have HB1 := Lib.hid (bnext HB.out hb)
  clear hb HT HB
  go_wp2_with fail
  go_ret
  exact ⟨rfl, HB1.out⟩
theorem rbit_no (po : Option Addr) (w : World) (h : NoR po w) : Calls Try.prog 31 #[.pointer po] w (Nothing (.bool false) w) := by
  have HT := Lib.hid (rsmall_no po 1 w h)
  clear h
  go_enter Try.func31, Try.ntmps31
  go_wp2_with fail
  refine HT.out.mono ?_
  rintro e w1 ⟨rfl, hb⟩
  have HB := Lib.hid hb
  clear hb HT
  go_wp2_with fail
  go_ret
  exact ⟨rfl, HB.out⟩
theorem rtext_no (po : Option Addr) (most : Int) (w : World) (h : NoR po w) : Calls Try.prog 36 #[.pointer po, .int .i64 most] w (Nothing (.slice none 0 0) w) := by
  have hb : Below w.heap.size w (w.alloc (.cells #[.int .i64 most] 3)) := (Below.refl _ w).alloc (Nat.le_refl _) _
  have HT := Lib.hid (take_no po 63 #[.pointer (some ⟨w.heap.size, 0, none⟩)] _ (h.below hb))
  have HB := Lib.hid hb
  clear h hb
  go_enter Try.func36, Try.ntmps36
  go_wp2_with fail
  refine HT.out.mono ?_
  rintro e w1 ⟨rfl, hb⟩
  have HB1 := Lib.hid (bnext HB.out hb)
  clear hb HT HB
  go_wp2_with fail
  go_ret
  exact ⟨rfl, HB1.out⟩
theorem rleft_no (po : Option Addr) (w : World) (h : NoR po w) : Calls Try.prog 41 #[.pointer po] w (Nothing (.int .i64 0) w) := by
  have HF := Lib.hid (h w (Below.refl _ _))
  clear h
  go_enter Try.func41, Try.ntmps41
  go_wp2_with fail
  refine HF.out.mono ?_
  rintro e w1 ⟨rfl, rfl⟩
  go_wp2_with fail
  go_ret
  exact ⟨rfl, Below.refl _ _⟩
theorem rend_no (po : Option Addr) (w : World) (h : NoR po w) : Calls Try.prog 23 #[.pointer po] w (Nothing (.int .i64 1) w) := by
  have HL := Lib.hid (rleft_no po w h)
  have HN := Lib.hid h
  clear h
  go_enter Try.func23, Try.ntmps23
  go_wp2_with fail
  refine HL.out.mono ?_
  rintro e w1 ⟨rfl, hb⟩
  have HF := Lib.hid (HN.out w1 hb)
  have HB := Lib.hid hb
  clear hb HL
  go_wp2_with fail
  refine HF.out.mono ?_
  rintro e w2 ⟨rfl, rfl⟩
  go_wp2_with fail
  go_ret
  exact ⟨rfl, HB.out⟩
theorem rspoil_no (po : Option Addr) (w : World) (h : NoR po w) : Calls Try.prog 40 #[.pointer po] w (Nothing undef w) := by
  have HF := Lib.hid (h w (Below.refl _ _))
  clear h
  go_enter Try.func40, Try.ntmps40
  go_wp2_with fail
  refine HF.out.mono ?_
  rintro e w1 ⟨rfl, rfl⟩
  go_wp2_with fail
  go_end0
  exact ⟨rfl, Below.refl _ _⟩
end Go.Proofs.Ytpbidfmijliehaa.Fx
