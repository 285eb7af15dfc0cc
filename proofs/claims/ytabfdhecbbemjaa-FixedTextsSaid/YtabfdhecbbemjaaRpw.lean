/- The reference's Parse, walked on. -/
import Derived.Test.YtabfdhecbbemjaaProg
import Derived.Test.YtabfdhecbbemjaaRps
import Derived.Test.YtabfdhecbbemjaaRtx
import Derived.Laws.DeepStrings4
import Derived.WalkKit
import Derived.Lib.Hide
set_option linter.unusedVariables false
set_option linter.unusedSimpArgs false
namespace Go.Proofs.Ytabfdhecbbemjaa.Fx
open Go Go.RowKit
theorem rdh_a {D H : List Nat} (h : decv D 0 = none) : rdh D H = none := by unfold rdh; rw [h]
theorem rdh_b {D H : List Nat} {q : Nat} (h : decv D 0 = some q) (hq : 70368744177664 < q) : rdh D H = none := by unfold rdh; rw [h]; exact if_pos hq
theorem rdh_c {D H : List Nat} {q : Nat} (h : decv D 0 = some q) (hq : ¬ 70368744177664 < q) : rdh D H = hexv H q := by unfold rdh; rw [h]; exact if_neg hq
def B16 (k : Nat) : Nat := 70368744177665 * 16 ^ k
theorem b16_succ (k : Nat) : B16 (k + 1) = 16 * B16 k := by unfold B16; rw [Nat.pow_succ]; omega
theorem b16_le {k : Nat} (h : k ≤ 4) : B16 k ≤ 4611686018427453440 := by
  have : k = 0 ∨ k = 1 ∨ k = 2 ∨ k = 3 ∨ k = 4 := by omega
  rcases this with rfl | rfl | rfl | rfl | rfl <;> decide
def PTest (s : ByteArray) (x V E : Int) : Prop := (Fm.mayB x = true → bstr (tx x) = s → V = x ∧ E = 0) ∧ (Fm.mayB x = false → V = 0 ∧ E = 12) ∧ (bstr (tx x) ≠ s → V = 0 ∧ E = 12)
set_option maxRecDepth 100000 in
set_option maxHeartbeats 4000000 in
theorem rp_main_t (s u : ByteArray) (w : World) (hs : s.size ≤ 100) (hs0 : 0 < s.size) (hb : (sbytes s).getD 0 0 = 45) (hu : u = s.extract 1 s.size) (V E : Int) (D H : List Nat) (hP : Parts (sbytes u) D H) (h46 : (sbytes u).getD (u.size - 5) 0 = 46)
    (hno : rdh D H = none → V = 0 ∧ E = 12) (hyes : ∀ n : Nat, rdh D H = some n → PTest s (-(n : Int)) V E) :
    Calls Try.prog 26 #[.string s] w fun e w' => e = .returned (.tuple #[.int .i64 V, .int .i64 E]) ∧ _root_.Go.RowKit.Below w.heap.size w w' := by
  have hx0 := idx_str s 0 0 rfl hs0
  have t1 : (0 : Int) < (s.size : Int) := by omega
  have hsl := slice_one s hs0
  have h45 : (((sbytes s).getD 0 0 : Nat) : Int) = 45 := by rw [hb]; rfl
  rw [h45] at hx0
  clear h45 hb
  rw [← hu] at hsl
  clear hu
  obtain ⟨hP1, hH4, hD1, hD15⟩ := id hP
  have hlen : u.size = D.length + 5 := by rw [← sb_len, hP1, List.length_append, List.length_cons, hH4]
  have t2 : ¬ (u.size : Int) < 6 := by omega
  have t2a : (6 : Int) ≤ (u.size : Int) := by omega
  have t3 : ¬ (20 : Int) < (u.size : Int) := by omega
  have t3a : (u.size : Int) ≤ 20 := by omega
  have h5 := idx_str u (u.size - 5) ((u.size : Int) - 5) (by omega) (by omega)
  rw [h46] at h5
  have h5' : ((46 : Nat) : Int) = 46 := rfl
  rw [h5'] at h5
  clear h46 h5' hP1
  obtain ⟨R, hR⟩ : ∃ R, decv D 0 = R := ⟨_, rfl⟩
  have Hno := Lib.hid hno; clear hno
  have Hyes := Lib.hid hyes; clear hyes
  have HP := Lib.hid hP; clear hP
  have HL := Lib.hid hlen; clear hlen
  have HR := Lib.hid hR; clear hR
  have HH := Lib.hid hH4; clear hH4
  go_enter Try.func26, Try.ntmps26
  go_wp2_with fail
  go_loopg [6, 7] D.length (fun g s6 s7 wx => ∃ k n : Nat, g = D.length - k ∧ s6 = .int .i64 (n : Int) ∧ s7 = .int .i64 (k : Int) ∧ decv (D.drop k) n = R ∧ n < 10 ^ k ∧ k ≤ D.length ∧ w = wx)
  case atStart => exact ⟨0, 0, rfl, rfl, rfl, HR.out, by simp, by omega, rfl⟩
  case round =>
    obtain ⟨k, n, rfl, rfl, rfl, hv, hn, hk, rfl⟩ := hrel
    by_cases hkl : k < D.length
    · have tk : (k : Int) < (u.size : Int) - 5 := by have := HL.out; omega
      have hc := idx_str u k k rfl (by have := HL.out; omega)
      rw [part_left HP.out hkl] at hc
      rw [drop_at hkl] at hv
      obtain ⟨c, hcc⟩ : ∃ c, D.getD k 0 = c := ⟨_, rfl⟩
      rw [hcc] at hc hv
      clear hcc
      by_cases c1 : c < 48
      · have tc : (c : Int) < 48 := by omega
        have hr : R = none := by rw [← hv]; simp only [decv, if_pos (Or.inl c1 : c < 48 ∨ 57 < c)]
        obtain ⟨rfl, rfl⟩ := Hno.out (rdh_a (HR.out.trans hr))
        clear hv hn c1
        go_wp2_with fail
        go_ret2
        exact ⟨rfl, _root_.Go.RowKit.Below.refl _ _⟩
      · by_cases c2 : 57 < c
        · have tc : ¬ (c : Int) < 48 := by omega
          have tc' : (48 : Int) ≤ (c : Int) := by omega
          have tc2 : (57 : Int) < (c : Int) := by omega
          have hr : R = none := by rw [← hv]; simp only [decv, if_pos (Or.inr c2 : c < 48 ∨ 57 < c)]
          obtain ⟨rfl, rfl⟩ := Hno.out (rdh_a (HR.out.trans hr))
          clear hv hn c1 c2
          go_wp2_with fail
          go_ret2
          exact ⟨rfl, _root_.Go.RowKit.Below.refl _ _⟩
        · have tc : ¬ (c : Int) < 48 := by omega
          have tc' : (48 : Int) ≤ (c : Int) := by omega
          have tc2 : ¬ (57 : Int) < (c : Int) := by omega
          have tc3 : (c : Int) ≤ 57 := by omega
          obtain ⟨d, hd⟩ : ∃ d, c - 48 = d := ⟨_, rfl⟩
          have e1 : (c : Int) - 48 = (d : Int) := by omega
          have hv2 : decv (D.drop (k + 1)) (10 * n + d) = R := by rw [← hv, ← hd]; simp only [decv, if_neg (show ¬ (c < 48 ∨ 57 < c) by omega)]
          have hn2 : 10 * n + d < 10 ^ (k + 1) := by rw [Nat.pow_succ]; omega
          have h15 := p15 (show k ≤ 15 by omega)
          have tn : (n : Int) ≤ 1000000000000000 := by omega
          have td : (d : Int) ≤ 9 := by omega
          have Hv2 := Lib.hid hv2; clear hv2
          have Hn2 := Lib.hid hn2; clear hn2
          clear hv hn h15 c1 c2 hd
          go_wp2_with fail
          go_roundg (D.length - (k + 1))
          case measure => omega
          case rel => exact ⟨k + 1, 10 * n + d, rfl, by go_num, by go_num, Hv2.out, Hn2.out, by omega, rfl⟩
    · have tk : ¬ (k : Int) < (u.size : Int) - 5 := by have := HL.out; omega
      have tk' : (u.size : Int) - 5 ≤ (k : Int) := by have := HL.out; omega
      have hr : R = some n := by rw [← hv, List.drop_eq_nil_of_le (by omega)]; rfl
      by_cases hbig : 70368744177664 < n
      · have tb : (70368744177664 : Int) < (n : Int) := by omega
        obtain ⟨rfl, rfl⟩ := Hno.out (rdh_b (HR.out.trans hr) hbig)
        clear hv hn hbig hr
        go_wp2_with fail
        go_ret2
        exact ⟨rfl, _root_.Go.RowKit.Below.refl _ _⟩
      · have tb : ¬ (70368744177664 : Int) < (n : Int) := by omega
        have tb' : (n : Int) ≤ 70368744177664 := by omega
        obtain ⟨R2, hR2⟩ : ∃ R2, hexv H n = R2 := ⟨_, rfl⟩
        have HR2 : Hid (rdh D H = R2) := Lib.hid ((rdh_c (HR.out.trans hr) hbig).trans hR2)
        have hb0 : n + 1 ≤ B16 0 := by show n + 1 ≤ 70368744177665 * 1; omega
        have Hb0 := Lib.hid hb0; clear hb0
        have Hh := Lib.hid hR2; clear hR2
        have tsz : (u.size : Int) - 4 = ((D.length + 1 : Nat) : Int) := by have := HL.out; omega
        obtain ⟨i0, hi0⟩ : ∃ i0, D.length + 1 = i0 := ⟨_, rfl⟩
        rw [hi0] at tsz
        clear hv hn hbig hr
        go_wp2_with fail
        go_loopg [6, 8] 4 (fun g s6 s8 wx => ∃ k n i : Nat, g = 4 - k ∧ s6 = .int .i64 (n : Int) ∧ s8 = .int .i64 (i : Int) ∧ i = D.length + 1 + k ∧ hexv (H.drop k) n = R2 ∧ n + 1 ≤ B16 k ∧ k ≤ 4 ∧ _root_.Go.RowKit.Below w.heap.size w wx)
        case atStart => exact ⟨0, n, i0, rfl, rfl, rfl, by omega, Hh.out, Hb0.out, by omega, _root_.Go.RowKit.Below.refl _ _⟩
        case round => 
          obtain ⟨q, n, i, rfl, rfl, rfl, hi, hv, hn, hq, hB⟩ := hrel
          have hb4 := b16_le hq
          have tn : (n : Int) ≤ 4611686018427453439 := by omega
          by_cases hq4 : q < 4
          · have ti : (i : Int) < (u.size : Int) := by have := HL.out; omega
            have hsc := slice_str u i (i : Int) ((i : Int) + 1) rfl rfl (by have := HL.out; omega)
            rw [hi, part_right HP.out q, ← hi] at hsc
            have hlt : H.getD q 0 < 256 := by rw [← part_right HP.out q]; exact sb_lt _ _
            rw [drop_at (by rw [HH.out]; exact hq4)] at hv
            obtain ⟨h, hh⟩ : ∃ h, H.getD q 0 = h := ⟨_, rfl⟩
            rw [hh] at hsc hv hlt
            have hbs := b16_succ q
            have hb4' := b16_le (show q + 1 ≤ 4 by omega)
            have tn16 : 16 * (n : Int) + 15 ≤ 4611686018427453439 := by omega
            have Hv := Lib.hid hv; clear hv
            have Hn : Hid (∀ d, d < 16 → 16 * n + d + 1 ≤ B16 (q + 1)) := Lib.hid (by intro d hd; omega)
            have Hi := Lib.hid hi; clear hi
            have Tn := Lib.hid tn; clear tn
            have Tn16 := Lib.hid tn16; clear tn16
            have Hlt := Lib.hid hlt; clear hlt
            clear hn hbs hb4 hb4' hh tb tb' tk tk' tsz hi0
            go_wp2_with fail
            go_loopg [9, 10] 16 (fun g s9 s10 wx => ∃ j : Nat, g = 16 - j ∧ s9 = .int .i64 ((cOf h j : Nat) : Int) ∧ s10 = .int .i64 (j : Int) ∧ j ≤ 16 ∧ _root_.Go.RowKit.Below w.heap.size w wx)
            case atStart => exact ⟨0, rfl, by rw [cOf_zero]; rfl, rfl, by omega, hB⟩
            case round =>
              clear hB
              obtain ⟨j, rfl, rfl, rfl, hj, hB⟩ := hrel
              by_cases hj16 : j < 16
              · have tj : (j : Int) < 16 := by omega
                have hX := fun W => hex_any j W hj16
                by_cases hit : num j = h
                · rw [hit] at hX
                  have hcn := cOf_hit hj16 hit
                  have Hcn := Lib.hid hcn; clear hcn
                  generalize bstr [h] = y at *
                  generalize cOf h j = cv at *
                  clear hit
                  go_wp2_with fail
                  refine (hX _).mono ?_
                  rintro e W1 ⟨rfl, B1⟩
                  have hB1 := bn hB B1
                  go_wp2_with fail
                  go_roundg (16 - (j + 1))
                  case measure => omega
                  case rel => exact ⟨j + 1, rfl, by rw [Hcn.out], by go_num, by omega, hB1⟩
                · have tt := one_ne (num_lt j hj16).1 Hlt.out hit
                  have hcn := cOf_miss hit
                  have Hcn := Lib.hid hcn; clear hcn
                  generalize bstr [h] = y at *
                  generalize bstr [num j] = y1 at *
                  clear hit
                  obtain ⟨cv, hcv⟩ : ∃ cv, cOf h j = cv := ⟨_, rfl⟩
                  have Hcv : Hid (cOf h (j + 1) = cv) := Lib.hid (Hcn.out.trans hcv)
                  rw [hcv]
                  clear hcv Hcn
                  go_wp2_with fail
                  refine (hX _).mono ?_
                  rintro e W1 ⟨rfl, B1⟩
                  have hB1 := bn hB B1
                  go_wp2_with fail
                  go_roundg (16 - (j + 1))
                  case measure => omega
                  case rel => exact ⟨j + 1, rfl, by rw [Hcv.out], by go_num, by omega, hB1⟩
              · have tj : ¬ (j : Int) < 16 := by omega
                have tj' : (16 : Int) ≤ (j : Int) := by omega
                have hj' : j = 16 := by omega
                cases hdg : digitOf h with
                | none =>
                  have hc16 : cOf h j = 16 := by rw [hj']; exact cOf_none hdg
                  rw [hc16]
                  have hr2 : R2 = none := by rw [← Hv.out]; simp only [hexv, hdg]
                  obtain ⟨rfl, rfl⟩ := Hno.out (HR2.out.trans hr2)
                  clear hc16 hdg hj'
                  go_wp2_with fail
                  go_ret2
                  exact ⟨rfl, hB⟩
                | some d =>
                  have hc16 : cOf h j = d := by rw [hj']; exact cOf_some hdg
                  have hd16 := digit_lt hdg
                  rw [hc16]
                  have hv2 : hexv (H.drop (q + 1)) (16 * n + d) = R2 := by rw [← Hv.out]; simp only [hexv, hdg]
                  have hn2 := Hn.out d hd16
                  have Hv2 := Lib.hid hv2; clear hv2
                  have Hn2 := Lib.hid hn2; clear hn2
                  have td : ((d : Int) == 16) = false := by simp; omega
                  have td' : ¬ (d : Int) = 16 := by omega
                  have td2 : (d : Int) ≤ 15 := by omega
                  have tn := Tn.out
                  have tn16 := Tn16.out
                  clear hc16 hdg hj'
                  go_wp2_with fail
                  go_roundg (4 - (q + 1))
                  case measure => omega
                  case rel => exact ⟨q + 1, 16 * n + d, i + 1, rfl, by go_num, by go_num, by have := Hi.out; omega, Hv2.out, Hn2.out, by omega, hB⟩
          · have ti : ¬ (i : Int) < (u.size : Int) := by have := HL.out; omega
            have ti' : (u.size : Int) ≤ (i : Int) := by have := HL.out; omega
            have hr2 : R2 = some n := by rw [← hv, List.drop_eq_nil_of_le (by rw [HH.out]; omega)]; rfl
            have hpt := Hyes.out n (HR2.out.trans hr2)
            clear hr2 hv hn hb4
            have hT := fun w => rtext_any (-(n : Int)) w (by omega) (by omega)
            obtain ⟨p1, p2, p3⟩ := hpt
            cases hm : Fm.mayB (-(n : Int)) with
            | true =>
              rw [hm] at hT
              simp only [if_true] at hT
              have p1' := p1 hm
              clear p1 p2 hm
              generalize bstr (tx (-(n : Int))) = t at *
              by_cases ht : t = s
              · obtain ⟨rfl, rfl⟩ := p1' ht
                subst ht
                clear p3 p1'
                go_wp2_with fail
                refine (hT _).mono ?_
                rintro e W1 ⟨rfl, B1⟩
                have hB1 := bn hB B1
                go_wp2_with fail
                go_ret2
                exact ⟨rfl, hB1⟩
              · obtain ⟨rfl, rfl⟩ := p3 ht
                have tt : (t.toList == s.toList) = false := str_ne ht
                clear p1' p3 ht
                go_wp2_with fail
                refine (hT _).mono ?_
                rintro e W1 ⟨rfl, B1⟩
                have hB1 := bn hB B1
                go_wp2_with fail
                go_ret2
                exact ⟨rfl, hB1⟩
            | false =>
              rw [hm] at hT
              simp only [Bool.false_eq_true, if_false] at hT
              obtain ⟨rfl, rfl⟩ := p2 hm
              clear p1 p2 p3 hm
              go_wp2_with fail
              refine (hT _).mono ?_
              rintro e W1 ⟨rfl, B1⟩
              have hB1 := bn hB B1
              go_wp2_with fail
              go_ret2
              exact ⟨rfl, hB1⟩
set_option maxRecDepth 100000 in
set_option maxHeartbeats 4000000 in
theorem rp_main_f (s : ByteArray) (w : World) (hs : s.size ≤ 100) (hs0 : 0 < s.size) (hb : (sbytes s).getD 0 0 ≠ 45) (V E : Int) (D H : List Nat) (hP : Parts (sbytes s) D H) (h46 : (sbytes s).getD (s.size - 5) 0 = 46)
    (hno : rdh D H = none → V = 0 ∧ E = 12) (hyes : ∀ n : Nat, rdh D H = some n → PTest s ((n : Int)) V E) :
    Calls Try.prog 26 #[.string s] w fun e w' => e = .returned (.tuple #[.int .i64 V, .int .i64 E]) ∧ _root_.Go.RowKit.Below w.heap.size w w' := by
  have hx0 := idx_str s 0 0 rfl hs0
  have t1 : (0 : Int) < (s.size : Int) := by omega
  have h45 : ((((sbytes s).getD 0 0 : Nat) : Int) == 45) = false := ne45 hb
  generalize (sbytes s).getD 0 0 = x0 at *
  clear hb
  obtain ⟨hP1, hH4, hD1, hD15⟩ := id hP
  have hlen : s.size = D.length + 5 := by rw [← sb_len, hP1, List.length_append, List.length_cons, hH4]
  have t2 : ¬ (s.size : Int) < 6 := by omega
  have t2a : (6 : Int) ≤ (s.size : Int) := by omega
  have t3 : ¬ (20 : Int) < (s.size : Int) := by omega
  have t3a : (s.size : Int) ≤ 20 := by omega
  have h5 := idx_str s (s.size - 5) ((s.size : Int) - 5) (by omega) (by omega)
  rw [h46] at h5
  have h5' : ((46 : Nat) : Int) = 46 := rfl
  rw [h5'] at h5
  clear h46 h5' hP1
  obtain ⟨R, hR⟩ : ∃ R, decv D 0 = R := ⟨_, rfl⟩
  have Hno := Lib.hid hno; clear hno
  have Hyes := Lib.hid hyes; clear hyes
  have HP := Lib.hid hP; clear hP
  have HL := Lib.hid hlen; clear hlen
  have HR := Lib.hid hR; clear hR
  have HH := Lib.hid hH4; clear hH4
  go_enter Try.func26, Try.ntmps26
  go_wp2_with fail
  go_loopg [6, 7] D.length (fun g s6 s7 wx => ∃ k n : Nat, g = D.length - k ∧ s6 = .int .i64 (n : Int) ∧ s7 = .int .i64 (k : Int) ∧ decv (D.drop k) n = R ∧ n < 10 ^ k ∧ k ≤ D.length ∧ w = wx)
  case atStart => exact ⟨0, 0, rfl, rfl, rfl, HR.out, by simp, by omega, rfl⟩
  case round =>
    obtain ⟨k, n, rfl, rfl, rfl, hv, hn, hk, rfl⟩ := hrel
    by_cases hkl : k < D.length
    · have tk : (k : Int) < (s.size : Int) - 5 := by have := HL.out; omega
      have hc := idx_str s k k rfl (by have := HL.out; omega)
      rw [part_left HP.out hkl] at hc
      rw [drop_at hkl] at hv
      obtain ⟨c, hcc⟩ : ∃ c, D.getD k 0 = c := ⟨_, rfl⟩
      rw [hcc] at hc hv
      clear hcc
      by_cases c1 : c < 48
      · have tc : (c : Int) < 48 := by omega
        have hr : R = none := by rw [← hv]; simp only [decv, if_pos (Or.inl c1 : c < 48 ∨ 57 < c)]
        obtain ⟨rfl, rfl⟩ := Hno.out (rdh_a (HR.out.trans hr))
        clear hv hn c1
        go_wp2_with fail
        go_ret2
        exact ⟨rfl, _root_.Go.RowKit.Below.refl _ _⟩
      · by_cases c2 : 57 < c
        · have tc : ¬ (c : Int) < 48 := by omega
          have tc' : (48 : Int) ≤ (c : Int) := by omega
          have tc2 : (57 : Int) < (c : Int) := by omega
          have hr : R = none := by rw [← hv]; simp only [decv, if_pos (Or.inr c2 : c < 48 ∨ 57 < c)]
          obtain ⟨rfl, rfl⟩ := Hno.out (rdh_a (HR.out.trans hr))
          clear hv hn c1 c2
          go_wp2_with fail
          go_ret2
          exact ⟨rfl, _root_.Go.RowKit.Below.refl _ _⟩
        · have tc : ¬ (c : Int) < 48 := by omega
          have tc' : (48 : Int) ≤ (c : Int) := by omega
          have tc2 : ¬ (57 : Int) < (c : Int) := by omega
          have tc3 : (c : Int) ≤ 57 := by omega
          obtain ⟨d, hd⟩ : ∃ d, c - 48 = d := ⟨_, rfl⟩
          have e1 : (c : Int) - 48 = (d : Int) := by omega
          have hv2 : decv (D.drop (k + 1)) (10 * n + d) = R := by rw [← hv, ← hd]; simp only [decv, if_neg (show ¬ (c < 48 ∨ 57 < c) by omega)]
          have hn2 : 10 * n + d < 10 ^ (k + 1) := by rw [Nat.pow_succ]; omega
          have h15 := p15 (show k ≤ 15 by omega)
          have tn : (n : Int) ≤ 1000000000000000 := by omega
          have td : (d : Int) ≤ 9 := by omega
          have Hv2 := Lib.hid hv2; clear hv2
          have Hn2 := Lib.hid hn2; clear hn2
          clear hv hn h15 c1 c2 hd
          go_wp2_with fail
          go_roundg (D.length - (k + 1))
          case measure => omega
          case rel => exact ⟨k + 1, 10 * n + d, rfl, by go_num, by go_num, Hv2.out, Hn2.out, by omega, rfl⟩
    · have tk : ¬ (k : Int) < (s.size : Int) - 5 := by have := HL.out; omega
      have tk' : (s.size : Int) - 5 ≤ (k : Int) := by have := HL.out; omega
      have hr : R = some n := by rw [← hv, List.drop_eq_nil_of_le (by omega)]; rfl
      by_cases hbig : 70368744177664 < n
      · have tb : (70368744177664 : Int) < (n : Int) := by omega
        obtain ⟨rfl, rfl⟩ := Hno.out (rdh_b (HR.out.trans hr) hbig)
        clear hv hn hbig hr
        go_wp2_with fail
        go_ret2
        exact ⟨rfl, _root_.Go.RowKit.Below.refl _ _⟩
      · have tb : ¬ (70368744177664 : Int) < (n : Int) := by omega
        have tb' : (n : Int) ≤ 70368744177664 := by omega
        obtain ⟨R2, hR2⟩ : ∃ R2, hexv H n = R2 := ⟨_, rfl⟩
        have HR2 : Hid (rdh D H = R2) := Lib.hid ((rdh_c (HR.out.trans hr) hbig).trans hR2)
        have hb0 : n + 1 ≤ B16 0 := by show n + 1 ≤ 70368744177665 * 1; omega
        have Hb0 := Lib.hid hb0; clear hb0
        have Hh := Lib.hid hR2; clear hR2
        have tsz : (s.size : Int) - 4 = ((D.length + 1 : Nat) : Int) := by have := HL.out; omega
        obtain ⟨i0, hi0⟩ : ∃ i0, D.length + 1 = i0 := ⟨_, rfl⟩
        rw [hi0] at tsz
        clear hv hn hbig hr
        go_wp2_with fail
        go_loopg [6, 8] 4 (fun g s6 s8 wx => ∃ k n i : Nat, g = 4 - k ∧ s6 = .int .i64 (n : Int) ∧ s8 = .int .i64 (i : Int) ∧ i = D.length + 1 + k ∧ hexv (H.drop k) n = R2 ∧ n + 1 ≤ B16 k ∧ k ≤ 4 ∧ _root_.Go.RowKit.Below w.heap.size w wx)
        case atStart => exact ⟨0, n, i0, rfl, rfl, rfl, by omega, Hh.out, Hb0.out, by omega, _root_.Go.RowKit.Below.refl _ _⟩
        case round => 
          obtain ⟨q, n, i, rfl, rfl, rfl, hi, hv, hn, hq, hB⟩ := hrel
          have hb4 := b16_le hq
          have tn : (n : Int) ≤ 4611686018427453439 := by omega
          by_cases hq4 : q < 4
          · have ti : (i : Int) < (s.size : Int) := by have := HL.out; omega
            have hsc := slice_str s i (i : Int) ((i : Int) + 1) rfl rfl (by have := HL.out; omega)
            rw [hi, part_right HP.out q, ← hi] at hsc
            have hlt : H.getD q 0 < 256 := by rw [← part_right HP.out q]; exact sb_lt _ _
            rw [drop_at (by rw [HH.out]; exact hq4)] at hv
            obtain ⟨h, hh⟩ : ∃ h, H.getD q 0 = h := ⟨_, rfl⟩
            rw [hh] at hsc hv hlt
            have hbs := b16_succ q
            have hb4' := b16_le (show q + 1 ≤ 4 by omega)
            have tn16 : 16 * (n : Int) + 15 ≤ 4611686018427453439 := by omega
            have Hv := Lib.hid hv; clear hv
            have Hn : Hid (∀ d, d < 16 → 16 * n + d + 1 ≤ B16 (q + 1)) := Lib.hid (by intro d hd; omega)
            have Hi := Lib.hid hi; clear hi
            have Tn := Lib.hid tn; clear tn
            have Tn16 := Lib.hid tn16; clear tn16
            have Hlt := Lib.hid hlt; clear hlt
            clear hn hbs hb4 hb4' hh tb tb' tk tk' tsz hi0
            go_wp2_with fail
            go_loopg [9, 10] 16 (fun g s9 s10 wx => ∃ j : Nat, g = 16 - j ∧ s9 = .int .i64 ((cOf h j : Nat) : Int) ∧ s10 = .int .i64 (j : Int) ∧ j ≤ 16 ∧ _root_.Go.RowKit.Below w.heap.size w wx)
            case atStart => exact ⟨0, rfl, by rw [cOf_zero]; rfl, rfl, by omega, hB⟩
            case round =>
              clear hB
              obtain ⟨j, rfl, rfl, rfl, hj, hB⟩ := hrel
              by_cases hj16 : j < 16
              · have tj : (j : Int) < 16 := by omega
                have hX := fun W => hex_any j W hj16
                by_cases hit : num j = h
                · rw [hit] at hX
                  have hcn := cOf_hit hj16 hit
                  have Hcn := Lib.hid hcn; clear hcn
                  generalize bstr [h] = y at *
                  generalize cOf h j = cv at *
                  clear hit
                  go_wp2_with fail
                  refine (hX _).mono ?_
                  rintro e W1 ⟨rfl, B1⟩
                  have hB1 := bn hB B1
                  go_wp2_with fail
                  go_roundg (16 - (j + 1))
                  case measure => omega
                  case rel => exact ⟨j + 1, rfl, by rw [Hcn.out], by go_num, by omega, hB1⟩
                · have tt := one_ne (num_lt j hj16).1 Hlt.out hit
                  have hcn := cOf_miss hit
                  have Hcn := Lib.hid hcn; clear hcn
                  generalize bstr [h] = y at *
                  generalize bstr [num j] = y1 at *
                  clear hit
                  obtain ⟨cv, hcv⟩ : ∃ cv, cOf h j = cv := ⟨_, rfl⟩
                  have Hcv : Hid (cOf h (j + 1) = cv) := Lib.hid (Hcn.out.trans hcv)
                  rw [hcv]
                  clear hcv Hcn
                  go_wp2_with fail
                  refine (hX _).mono ?_
                  rintro e W1 ⟨rfl, B1⟩
                  have hB1 := bn hB B1
                  go_wp2_with fail
                  go_roundg (16 - (j + 1))
                  case measure => omega
                  case rel => exact ⟨j + 1, rfl, by rw [Hcv.out], by go_num, by omega, hB1⟩
              · have tj : ¬ (j : Int) < 16 := by omega
                have tj' : (16 : Int) ≤ (j : Int) := by omega
                have hj' : j = 16 := by omega
                cases hdg : digitOf h with
                | none =>
                  have hc16 : cOf h j = 16 := by rw [hj']; exact cOf_none hdg
                  rw [hc16]
                  have hr2 : R2 = none := by rw [← Hv.out]; simp only [hexv, hdg]
                  obtain ⟨rfl, rfl⟩ := Hno.out (HR2.out.trans hr2)
                  clear hc16 hdg hj'
                  go_wp2_with fail
                  go_ret2
                  exact ⟨rfl, hB⟩
                | some d =>
                  have hc16 : cOf h j = d := by rw [hj']; exact cOf_some hdg
                  have hd16 := digit_lt hdg
                  rw [hc16]
                  have hv2 : hexv (H.drop (q + 1)) (16 * n + d) = R2 := by rw [← Hv.out]; simp only [hexv, hdg]
                  have hn2 := Hn.out d hd16
                  have Hv2 := Lib.hid hv2; clear hv2
                  have Hn2 := Lib.hid hn2; clear hn2
                  have td : ((d : Int) == 16) = false := by simp; omega
                  have td' : ¬ (d : Int) = 16 := by omega
                  have td2 : (d : Int) ≤ 15 := by omega
                  have tn := Tn.out
                  have tn16 := Tn16.out
                  clear hc16 hdg hj'
                  go_wp2_with fail
                  go_roundg (4 - (q + 1))
                  case measure => omega
                  case rel => exact ⟨q + 1, 16 * n + d, i + 1, rfl, by go_num, by go_num, by have := Hi.out; omega, Hv2.out, Hn2.out, by omega, hB⟩
          · have ti : ¬ (i : Int) < (s.size : Int) := by have := HL.out; omega
            have ti' : (s.size : Int) ≤ (i : Int) := by have := HL.out; omega
            have hr2 : R2 = some n := by rw [← hv, List.drop_eq_nil_of_le (by rw [HH.out]; omega)]; rfl
            have hpt := Hyes.out n (HR2.out.trans hr2)
            clear hr2 hv hn hb4
            have hT := fun w => rtext_any ((n : Int)) w (by omega) (by omega)
            obtain ⟨p1, p2, p3⟩ := hpt
            cases hm : Fm.mayB ((n : Int)) with
            | true =>
              rw [hm] at hT
              simp only [if_true] at hT
              have p1' := p1 hm
              clear p1 p2 hm
              generalize bstr (tx ((n : Int))) = t at *
              by_cases ht : t = s
              · obtain ⟨rfl, rfl⟩ := p1' ht
                subst ht
                clear p3 p1'
                go_wp2_with fail
                refine (hT _).mono ?_
                rintro e W1 ⟨rfl, B1⟩
                have hB1 := bn hB B1
                go_wp2_with fail
                go_ret2
                exact ⟨rfl, hB1⟩
              · obtain ⟨rfl, rfl⟩ := p3 ht
                have tt : (t.toList == s.toList) = false := str_ne ht
                clear p1' p3 ht
                go_wp2_with fail
                refine (hT _).mono ?_
                rintro e W1 ⟨rfl, B1⟩
                have hB1 := bn hB B1
                go_wp2_with fail
                go_ret2
                exact ⟨rfl, hB1⟩
            | false =>
              rw [hm] at hT
              simp only [Bool.false_eq_true, if_false] at hT
              obtain ⟨rfl, rfl⟩ := p2 hm
              clear p1 p2 p3 hm
              go_wp2_with fail
              refine (hT _).mono ?_
              rintro e W1 ⟨rfl, B1⟩
              have hB1 := bn hB B1
              go_wp2_with fail
              go_ret2
              exact ⟨rfl, hB1⟩
end Go.Proofs.Ytabfdhecbbemjaa.Fx
