/- Package wide: what a text's digits come to, walked. -/
import Derived.Test.YtgkcbadfjhicnaaProg
import Derived.Test.YtgkcbadfjhicnaaT2
import Derived.Lib.ConvBytes
import Derived.Deep.LoopGhost
import Derived.Outline
set_option linter.unusedVariables false
set_option linter.unusedSimpArgs false
namespace Go.Proofs.Ytgkcbadfjhicnaa.Wm
theorem na_times {n h l c : Nat} (a : Na n h l) (hc : c < 18446744073709551616) :
    Na (n * c % 340282366920938463463374607431768211456) ((l * c / 18446744073709551616 + h * c % 18446744073709551616) % 18446744073709551616) (l * c % 18446744073709551616) := by
  obtain ⟨a1, a2, a3⟩ := a
  have e : n * c = h * c * 18446744073709551616 + l * c := by rw [a1, Nat.add_mul, Nat.mul_right_comm]
  rw [e]
  generalize h * c = p
  generalize l * c = q
  unfold Na
  omega
/-- a letter's part -/
def cw (c : Nat) : Nat := if 48 ≤ c then c - 48 else c + 18446744073709551568
theorem cw_lt {c : Nat} (h : c < 256) : cw c < 18446744073709551616 := by unfold cw; split <;> omega
def vstep (s : Nat × Bool) (c : Nat) : Nat × Bool :=
  if c = 45 then (s.1, true) else ((s.1 * 10 % 340282366920938463463374607431768211456 + cw c) % 340282366920938463463374607431768211456, s.2)
/-- what the letters come to -/
def vals (l : List Nat) : Nat × Bool := l.foldl vstep (0, false)
def valI (l : List Nat) : Int := w128 (if (vals l).2 = true then -((vals l).1 : Int) else ((vals l).1 : Int))
end Go.Proofs.Ytgkcbadfjhicnaa.Wm
namespace Go.Proofs.Ytgkcbadfjhicnaa.Fx
open Go Go.RowKit Wm
theorem times_w (h l c p q k n : Nat) (w : World) (rm : ∀ w, Calls Try.prog 53 #[.int .u64 l, .int .u64 c] w fun e w' => e = .returned (.tuple #[.int .u64 (p : Int), .int .u64 (q : Int)]) ∧ w' = w)
    (e1 : IntKind.u64.wrap ((h : Int) * (c : Int)) = (k : Int)) (e2 : IntKind.u64.wrap ((p : Int) + (k : Int)) = (n : Int)) :
    Calls Try.prog 68 #[.agg #[.int .u64 h, .int .u64 l], .int .u64 c] w fun e w' => e = .returned (.agg #[.int .u64 n, .int .u64 q]) ∧ Below w.heap.size w w' := by
  have RM := Lib.hid rm
  clear rm
  go_enter Try.func68, Try.ntmps68
  go_wp2_with fail
  refine (RM.out _).mono ?_
  rintro e w' ⟨rfl, rfl⟩
  go_wp2
  refine bodyPost_ret (v := .agg #[.int .u64 n, .int .u64 q]) (by simp [results, Try.results68, go_sem, *]) rfl ⟨rfl, by go_grown⟩
theorem times_any (x h l c : Nat) (w : World) (a : Na x h l) (hc : c < 18446744073709551616) :
    Calls Try.prog 68 #[.agg #[.int .u64 h, .int .u64 l], .int .u64 c] w (RetN (x * c % 340282366920938463463374607431768211456) w) :=
  (times_w h l c _ _ (h * c % 18446744073709551616) _ w (fun w => Try.bits_Mul64 l c a.2.1 hc w) (by rw [IntKind.wrap_u64, ← Int.natCast_mul]; exact (Int.natCast_emod _ _).symm)
    (by rw [IntKind.wrap_u64, ← Int.natCast_add]; exact (Int.natCast_emod _ _).symm)).mono fun e w' ⟨he, hb⟩ => ⟨_, _, he, na_times a hc, hb⟩
/-- a string's bytes as numbers -/
def sbytes (s : ByteArray) : List Nat := s.data.toList.map UInt8.toNat
theorem below_bytes (w : World) (e : TypeId) (s : ByteArray) : Below w.heap.size w (Lib.bytesWorld w e s) :=
  ⟨rfl, rfl, rfl, by rw [Lib.bytesWorld_size]; omega, fun k hk => Lib.bytesWorld_at_old w e s k hk⟩
theorem take_vals (l : List Nat) (k c : Nat) (hk : k < l.length) (hc : l.getD k 0 = c) : vals (l.take (k + 1)) = vstep (vals (l.take k)) c := by
  unfold vals
  rw [List.take_succ_eq_append_getElem hk, List.foldl_append]
  simp only [List.foldl_cons, List.foldl_nil]
  rw [← hc]
  simp [List.getD_eq_getElem?_getD, hk]
theorem cell_set2 {w : World} {b : Nat} {u v x : Value} {c o : Nat} (h : c ≠ b) (hc : w.cell? ⟨c, o, none⟩ = some x) : ((w.setCell ⟨b, 0, none⟩ u).setCell ⟨b, 1, none⟩ v).cell? ⟨c, o, none⟩ = some x := by
  rw [World.cell?_of_block (w := w) ((heap_setCell_other _ _ _ _ h).trans (heap_setCell_other _ _ _ _ h))]
  exact hc
structure VInv (l : List Nat) (w : World) (k n : Nat) (b : Bool) (h lo : Nat) (wr : World) : Prop where
  kl : k ≤ l.length
  va : vals (l.take k) = (n, b)
  na : Na n h lo
  d0 : wr.cell? ⟨w.heap.size + 1, 0, none⟩ = some (.int .u64 (h : Int))
  d1 : wr.cell? ⟨w.heap.size + 1, 1, none⟩ = some (.int .u64 (lo : Int))
  f0 : wr.frozen? ⟨w.heap.size + 1, 0, none⟩ = false
  f1 : wr.frozen? ⟨w.heap.size + 1, 1, none⟩ = false
  r0 : wr.cell? ⟨w.heap.size, 0, none⟩ = some (.int .i64 0)
  r1 : wr.cell? ⟨w.heap.size, 1, none⟩ = some (.int .u64 0)
  g0 : wr.frozen? ⟨w.heap.size, 0, none⟩ = false
  g1 : wr.frozen? ⟨w.heap.size, 1, none⟩ = false
  by0 : ∀ j, j < l.length → wr.cell? ⟨w.heap.size + 1 + 1, j, none⟩ = some (.int .u8 ((l.getD j 0 : Nat) : Int))
  sz : w.heap.size + 1 + 1 < wr.heap.size
  below : Below w.heap.size w wr
def VRel (l : List Nat) (w : World) (g : Nat) (s4 s10 : Value) (wr : World) : Prop :=
  ∃ k n b h lo, g = l.length - k ∧ s4 = .bool b ∧ s10 = .int .i64 ((k : Nat) : Int) ∧ VInv l w k n b h lo wr
set_option maxHeartbeats 2000000 in
set_option maxRecDepth 100000 in
theorem value_any (s : ByteArray) (w : World) (hs : s.size ≤ 1000) :
    Calls Try.prog 59 #[.string s] w (RetW (valI (sbytes s)) w) := by
  obtain ⟨w0, hw0⟩ : ∃ w0, (w.alloc (.cells #[.int .i64 0, .int .u64 0] 24)).alloc (.cells #[.int .u64 0, .int .u64 0] 92) = w0 := ⟨_, rfl⟩
  have hsz0 : w0.heap.size = w.heap.size + 1 + 1 := by rw [← hw0]; simp
  have hB0 : Below w.heap.size w w0 := by rw [← hw0]; go_grown
  have q0 : w0.cell? ⟨w.heap.size, 0, none⟩ = some (.int .i64 0) ∧ w0.cell? ⟨w.heap.size, 1, none⟩ = some (.int .u64 0) ∧ w0.cell? ⟨w.heap.size + 1, 0, none⟩ = some (.int .u64 0) ∧ w0.cell? ⟨w.heap.size + 1, 1, none⟩ = some (.int .u64 0) := by rw [← hw0]; simp [go_sem]
  have q1 : w0.frozen? ⟨w.heap.size, 0, none⟩ = false ∧ w0.frozen? ⟨w.heap.size, 1, none⟩ = false ∧ w0.frozen? ⟨w.heap.size + 1, 0, none⟩ = false ∧ w0.frozen? ⟨w.heap.size + 1, 1, none⟩ = false := by rw [← hw0]; simp [go_sem]
  have hconv := Lib.run_convert_string_bytes (P := Try.prog) w0 9 104 5 s Try.underlying9 Try.underlying104 Try.underlying5
  have hcell : ∀ j, j < s.size → (Lib.bytesWorld w0 5 s).cell? ⟨w0.heap.size, j, none⟩ = some (.int .u8 (((sbytes s).getD j 0 : Nat) : Int)) := by
    intro j hj
    rw [Lib.bytesWorld_cell w0 _ s j hj]
    have hj' : j < s.data.toList.length := by simpa using hj
    simp only [sbytes, List.getD_eq_getElem?_getD, List.getElem?_map, Array.getElem?_toList]
    cases s.data[j]? <;> rfl
  have hB := below_bytes w0 5 s
  have hsz1 : (Lib.bytesWorld w0 5 s).heap.size = w0.heap.size + 1 := Lib.bytesWorld_size _ _ _
  obtain ⟨W1, hW1⟩ : ∃ W1, Lib.bytesWorld w0 5 s = W1 := ⟨_, rfl⟩
  rw [hW1] at hconv hcell hB hsz1
  rw [hsz0] at hcell hsz1
  obtain ⟨l, hl⟩ : ∃ l, sbytes s = l := ⟨_, rfl⟩
  have hlen : s.size = l.length := by rw [← hl]; simp [sbytes]
  have hlt : ∀ x ∈ l, x < 256 := by
    intro x hx
    rw [← hl] at hx
    simp only [sbytes, List.mem_map] at hx
    obtain ⟨u, _, rfl⟩ := hx
    exact u.toNat_lt
  rw [hl] at hcell ⊢
  have Hlen := Lib.hid hlen
  have Hlt := Lib.hid hlt
  have START : Hid (VInv l w 0 0 false 0 0 W1) := Lib.hid { kl := (by omega), va := rfl, na := (by unfold Na; omega), d0 := keep_cell hB q0.2.2.1, d1 := keep_cell hB q0.2.2.2, f0 := keep_free hB (by omega) q1.2.2.1, f1 := keep_free hB (by omega) q1.2.2.2, r0 := keep_cell hB q0.1, r1 := keep_cell hB q0.2.1, g0 := keep_free hB (by omega) q1.1, g1 := keep_free hB (by omega) q1.2.1, by0 := (fun j hj => hcell j (by omega)), sz := (by omega), below := hB0.trans (hB.mono (by omega)) }
  rw [hsz0, ← hw0] at hconv
  clear hcell hlt hlen hl hB hsz0 hsz1 hW1 q0 q1 hB0 hw0
  go_enter Try.func59, Try.ntmps59
  go_wp2_with fail
  go_loopg [4, 10] l.length (VRel l w)
  case atStart => exact ⟨0, 0, false, 0, 0, rfl, rfl, rfl, START.out⟩
  case round =>
    obtain ⟨k, n, b, h, lo, rfl, rfl, rfl, I⟩ := hrel
    have HI := Lib.hid I
    by_cases hk : k < l.length
    · have hks : (k : Int) < (s.size : Int) := by have := Hlen.out; omega
      have hc := I.by0 k hk
      obtain ⟨c, hcc⟩ : ∃ c, l.getD k 0 = c := ⟨_, rfl⟩
      have hcl : c < 256 := Hlt.out c (by rw [← hcc]; simp [List.getD_eq_getElem?_getD, hk])
      have TV := Lib.hid (take_vals l k c hk hcc)
      rw [hcc] at hc
      clear hcc
      by_cases h45 : c = 45
      · have t45 : ((c : Int) == 45) = true := by simp; omega
        have NX : Hid (VInv l w (k + 1) n true h lo wr) := Lib.hid { I with kl := hk, va := (by rw [TV.out, I.va]; unfold vstep; rw [if_pos h45]) }
        clear I
        go_wp2_with fail
        go_roundg (l.length - (k + 1))
        case measure => omega
        case rel => exact ⟨_, _, _, _, _, rfl, rfl, by go_num, NX.out⟩
      · have t45 : ((c : Int) == 45) = false := by simp; omega
        have ew : IntKind.u64.wrap ((c : Int) - 48) = ((cw c : Nat) : Int) := by
          rw [IntKind.wrap_u64]
          unfold cw
          split <;> omega
        have d0 := I.d0
        have d1 := I.d1
        have f0 := I.f0
        have f1 := I.f1
        have T1 := Lib.hid (fun w => times_any n h lo 10 w I.na (by omega))
        have P1 := Lib.hid (fun w a b (na : Na (n * 10 % 340282366920938463463374607431768211456) a b) => plus_any _ a b (cw c) w na (cw_lt hcl))
        have VA : Hid (vals (l.take (k + 1)) = ((n * 10 % 340282366920938463463374607431768211456 + cw c) % 340282366920938463463374607431768211456, b)) := Lib.hid (by rw [TV.out, I.va]; unfold vstep; rw [if_neg h45])
        have hcw := cw_lt hcl
        generalize cw c = C at *
        generalize n * 10 % 340282366920938463463374607431768211456 = n1 at *
        generalize (n1 + C) % 340282366920938463463374607431768211456 = n2 at *
        have hsz := I.sz
        clear I
        go_wp2_with fail
        refine (T1.out _).mono ?_
        rintro e w1 ⟨a1, b1, rfl, na1, hb1⟩
        have NA1 := Lib.hid na1
        clear na1
        have k0 := keep_cell hb1 d0
        have k1 := keep_cell hb1 d1
        have g0 := keep_free hb1 (by omega) f0
        have g1 := keep_free hb1 (by omega) f1
        have hs1 := hb1.size
        go_wp2_with fail
        refine (P1.out _ a1 b1 NA1.out).mono ?_
        rintro e w2 ⟨a2, b2, rfl, na2, hb2⟩
        have j0 := keep_cell hb2 k0
        have j1 := keep_cell hb2 k1
        have i0 := keep_free hb2 (by omega) g0
        have i1 := keep_free hb2 (by omega) g1
        have hs2 := hb2.size
        have NX : Hid (VInv l w (k + 1) n2 b a2 b2 ((w2.setCell ⟨w.heap.size + 1, 0, none⟩ (.int .u64 (a2 : Int))).setCell ⟨w.heap.size + 1, 1, none⟩ (.int .u64 (b2 : Int)))) := Lib.hid { kl := hk, va := VA.out, na := na2, d0 := (by simp [go_sem, *]), d1 := (by simp [go_sem, *]), f0 := (by simp [go_sem, *]), f1 := (by simp [go_sem, *]), r0 := (cell_set2 (by omega) (keep_cell hb2 (keep_cell hb1 HI.out.r0))), r1 := (cell_set2 (by omega) (keep_cell hb2 (keep_cell hb1 HI.out.r1))), g0 := (by simp; exact keep_free hb2 (by omega) (keep_free hb1 (by omega) HI.out.g0)), g1 := (by simp; exact keep_free hb2 (by omega) (keep_free hb1 (by omega) HI.out.g1)), by0 := (fun j hj => cell_set2 (by omega) (keep_cell hb2 (keep_cell hb1 (HI.out.by0 j hj)))), sz := (by simp; omega), below := ((bnext (bnext HI.out.below hb1) hb2).setCell (show w.heap.size ≤ w.heap.size + 1 by omega) _).setCell (show w.heap.size ≤ w.heap.size + 1 by omega) _ }
        clear na2 k0 k1 g0 g1 d0 d1 f0 f1
        go_wp2_with fail
        go_roundg (l.length - (k + 1))
        case measure => omega
        case rel => exact ⟨_, _, _, _, _, rfl, rfl, by go_num, NX.out⟩
    · have hks : ¬ (k : Int) < (s.size : Int) := by have := Hlen.out; omega
      have hkl : k = l.length := by have := I.kl; omega
      have VV : Hid (vals l = (n, b)) := Lib.hid (by rw [← I.va, hkl, List.take_length])
      have SG := Lib.hid (fun w => sign_any n h lo b w I.na)
      have d0 := I.d0
      have d1 := I.d1
      have r0 := I.r0
      have r1 := I.r1
      have g0 := I.g0
      have g1 := I.g1
      have hsz := I.sz
      clear hkl I
      go_wp2_with fail
      refine (SG.out _).mono ?_
      rintro e w1 ⟨a1, b1, rfl, hat, hb1⟩
      have k0 := keep_cell hb1 r0
      have k1 := keep_cell hb1 r1
      have i0 := keep_free hb1 (by omega) g0
      have i1 := keep_free hb1 (by omega) g1
      have HAT := Lib.hid hat
      clear hat
      go_wp2_with fail
      refine bodyPost_ret (v := .agg #[.int .i64 a1, .int .u64 b1]) (by simp [results, Try.results59, go_sem, *]) rfl ⟨_, _, rfl, by unfold valI; rw [VV.out]; exact HAT.out, ?_⟩
      exact ((bnext HI.out.below hb1).setCell (Nat.le_refl _) _).setCell (Nat.le_refl _) _
end Go.Proofs.Ytgkcbadfjhicnaa.Fx
