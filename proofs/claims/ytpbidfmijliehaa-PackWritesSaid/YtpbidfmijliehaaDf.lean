/- PackWrites, walked. -/
import Derived.Test.YtpbidfmijliehaaProg
import Derived.Test.YtpbidfmijliehaaDe
set_option linter.unusedVariables false
set_option linter.unusedSimpArgs false
namespace Go.Proofs.Ytpbidfmijliehaa.Fx
open Go Go.RowKit
theorem tz_cells {W : World} {z : Nat} {v : Value} {lost : Bool} (h : W.heap[z]? = some (.cells #[v, .bool lost] 29 (0, 0))) : W.cell? ⟨z, 0, none⟩ = some v ∧ W.cell? ⟨z, 1, none⟩ = some (.bool lost) :=
  ⟨(cell_of_row _ _ 0 _ _ _ h).trans rfl, (cell_of_row _ _ 1 _ _ _ h).trans rfl⟩
theorem tx_cell {W : World} {b : Nat} {XS : Array Value} {k u i n m is v : Value} (h : W.heap[b]? = some (.cells XS 32 (0, 0))) (hx : #[k, u, i, n, m, is, v] = XS) : W.cell? ⟨b, 6, none⟩ = some v := by
  subst hx
  exact (cell_of_row _ _ 6 _ _ _ h).trans rfl
theorem tx_cells {W : World} {b : Nat} {XS : Array Value} {k u i n m is v : Value} (h : W.heap[b]? = some (.cells XS 32 (0, 0))) (hx : #[k, u, i, n, m, is, v] = XS) :
    W.cell? ⟨b, 0, none⟩ = some k ∧ W.cell? ⟨b, 1, none⟩ = some u ∧ W.cell? ⟨b, 2, none⟩ = some i ∧ W.cell? ⟨b, 3, none⟩ = some n ∧ W.cell? ⟨b, 4, none⟩ = some m ∧ W.cell? ⟨b, 5, none⟩ = some is ∧ W.cell? ⟨b, 6, none⟩ = some v := by
  subst hx
  exact ⟨(cell_of_row _ _ 0 _ _ _ h).trans rfl, (cell_of_row _ _ 1 _ _ _ h).trans rfl, (cell_of_row _ _ 2 _ _ _ h).trans rfl, (cell_of_row _ _ 3 _ _ _ h).trans rfl, (cell_of_row _ _ 4 _ _ _ h).trans rfl, (cell_of_row _ _ 5 _ _ _ h).trans rfl, (cell_of_row _ _ 6 _ _ _ h).trans rfl⟩
theorem stop31 {P : Program} {ops : Array Oper} {Q : Exit → Act → World → Prop} {rest : List Oper} {a : Act} {w : World} {ty : TypeId} {pos : String} {aft : Array Edge} {g : Option (Nat × Bool)}
    (h : Hid (wpList P ops Q ({ dst := some 31, op := .load 3 (.tmp 30), type := ty, pos := pos, after := aft, guard := g } :: rest) a w)) : wpList P ops Q ({ dst := some 31, op := .load 3 (.tmp 30), type := ty, pos := pos, after := aft, guard := g } :: rest) a w := h.out
set_option maxRecDepth 100000 in
set_option maxHeartbeats 16000000 in
theorem law_packWrites (a0 : List OpR) (o0 : Option Addr) (c0 : Nat) (m0 : a0.length ≤ 9223372036854775807) (w : World) (s0 : OpsAt w o0 a0) :
    Calls Try.prog 3 #[.slice o0 a0.length c0] w fun e w' => e = .returned (.bool true) ∧ Below w.heap.size w w' := by
  have HS := Lib.hid s0
  have HG := Lib.hid ((great_any a0 o0 c0 w s0 m0).mono (R' := fun e w' => e = .returned (.bool (greatB a0)) ∧ w = w') (fun e w' h => ⟨h.1, h.2.symm⟩))
  clear s0
  cases hg : greatB a0 with
  | true =>
    rw [hg] at HG
    clear hg
    go_enter Try.func3, Try.ntmps3
    go_wp2_with fail
    refine HG.out.mono ?_
    rintro e w2 ⟨rfl, rfl⟩
    go_wp2_with fail
    go_ret
    exact ⟨rfl, Below.refl _ _⟩
  | false =>
    rw [hg] at HG
    obtain ⟨hops, hl200⟩ := ops_small HS.out hg
    have HOPS := Lib.hid hops
    clear hg hops
    go_enter Try.func3, Try.ntmps3
    go_wp2_with fail
    refine HG.out.mono ?_
    rintro e w2 ⟨rfl, rfl⟩
    clear HG
    have HNW := Lib.hid (new_writer w)
    go_wp2_with fail
    refine HNW.out.mono ?_
    rintro e w3 ⟨rfl, hw3, hw3e⟩
    obtain ⟨p, hp⟩ : ∃ p, w.heap.size = p := ⟨_, rfl⟩
    obtain ⟨z, hz⟩ : ∃ z, w3.heap.size = z := ⟨_, rfl⟩
    obtain ⟨W0, hW0⟩ : ∃ W0, w3.alloc (.cells #[.slice none 0 0, .bool false] 29) = W0 := ⟨_, rfl⟩
    have hb03 : Below w.heap.size w w3 := by rw [hw3e]; exact (Below.refl _ w).alloc (Nat.le_refl _) _
    have HB0 : Hid (Below w.heap.size w W0) := Lib.hid (by rw [← hW0]; exact hb03.alloc hb03.size _)
    have hpz : z = p + 1 := by rw [← hz, ← hp, hw3e]; simp
    have HPZ : Hid (w.heap.size ≤ p ∧ w.heap.size ≤ z) := Lib.hid (by omega)
    have HI0 : Hid (WI w.heap.size p z (.slice none 0 0) [] [] false W0) := Lib.hid (by
      rw [← hW0]
      subst hp
      subst hz
      have h1 := hw3.mono (Nat.le_succ w.heap.size)
      exact ⟨.slice none 0 0, .slice none 0 0, (h1.below ((Below.refl _ w3).alloc (Nat.le_refl _) _)), heap_alloc_new _ _, World.ownsRow_nil _ _ _ _, World.ownsRow_nil _ _ _ _, (fun k hk => by cases hk), (fun k hk => by cases hk), by omega⟩)
    have HW0 := Lib.hid hW0
    have HPE := Lib.hid hp
    have HZE := Lib.hid hz
    clear hw3 hw3e hb03 hpz HNW hW0
    (try rw [hp])
    go_wp2_with fail
    (try rw [HW0.out])
    go_loopg [19] 200 (fun g s19 wr => ∃ (k : Nat) (l : List Nat) (lost : Bool), g = 200 - k ∧ k ≤ a0.length ∧ s19 = .int .i64 (k : Int) ∧ WI w.heap.size p z (.slice none 0 0) l [] lost wr ∧ l.length ≤ 400 * k ∧ Below w.heap.size w wr)
    case atStart => exact ⟨0, [], false, rfl, by omega, rfl, HI0.out, by simp, HB0.out⟩
    case round =>
      clear HI0 HB0 HPE HZE HW0 hp hz
      obtain ⟨k, l, lost, hgk, hk, rfl, hwi, hll, hb⟩ := hrel
      subst hgk
      have HB := Lib.hid hb
      have HWI := Lib.hid hwi
      have HLL := Lib.hid hll
      clear hwi hll hb
      have k0 : (0 : Int) ≤ (k : Int) := by omega
      by_cases hkl : k < a0.length
      · have k1 : (k : Int) < (a0.length : Int) := by omega
        obtain ⟨x, hx⟩ : ∃ x, a0[k]? = some x := ⟨_, List.getElem?_eq_getElem hkl⟩
        have hos : OpS x := HOPS.out x (List.mem_of_getElem? hx)
        obtain ⟨b, off, rfl, hat, hwf⟩ := HS.out k x hx
        have hat1 := hat.below HB.out
        obtain ⟨kind, u, i, n, most, is, bo, bl, bc⟩ := x
        have hl300 : bl.length ≤ 300 := hos.len
        obtain ⟨x0, x1, x2, x3, x4, x5, x6, xb⟩ := hat1
        dsimp only at x0 x1 x2 x3 x4 x5 x6 xb
        obtain ⟨XS, hXS⟩ : ∃ XS : Array Value, #[.int .i64 kind, .int .u64 u, .int .i64 i, .int .i64 n, .int .i64 most, .bool is, .slice bo bl.length bc] = XS := ⟨_, rfl⟩
        obtain ⟨W1, hW1⟩ : ∃ W1, wr.alloc (.cells #[.int .i64 kind, .int .u64 u, .int .i64 i, .int .i64 n, .int .i64 most, .bool is, .slice bo bl.length bc] 32) = W1 := ⟨_, rfl⟩
        have hb1 : Below wr.heap.size wr W1 := by rw [← hW1]; exact (Below.refl _ _).alloc (Nat.le_refl _) _
        have hrow : W1.heap[wr.heap.size]? = some (.cells XS 32 (0, 0)) := by rw [← hXS, ← hW1]; exact heap_alloc_new _ _
        have HXB := Lib.hid (xb.below hb1)
        have HW1 := Lib.hid hW1
        have HXS := Lib.hid hXS
        have HB1 := Lib.hid (bnext HB.out hb1)
        have HWI1 := Lib.hid (HWI.out.below hb1)
        have HROW := Lib.hid hrow
        obtain ⟨bx, hbx⟩ : ∃ bx, wr.heap.size = bx := ⟨_, rfl⟩
        have HBX := Lib.hid hbx
        have HWF := Lib.hid hwf
        have HX := Lib.hid hx
        have HPZX : Hid (wr.heap.size ≠ p ∧ wr.heap.size ≠ z) := Lib.hid (by
          obtain ⟨v, vz, s⟩ := HWI.out
          have h1 := s.pw.lt
          have h2 := (Array.getElem?_eq_some_iff.1 s.zrow).1
          omega)
        have HBO : Hid (∀ bb of, bo = some ⟨bb, of, none⟩ → 0 < bl.length → bb < w.heap.size) := Lib.hid (fun bb of e hm => by
          subst e
          exact Bs.lt hat.bs hm)
        have hoe := own_empty W1
        have hsz1 : W1.heap.size = wr.heap.size + 1 := by rw [← HW1.out]; simp
        have hoe2 : Own (W1.alloc (.cells #[] 5)) W1.heap.size (.slice (some ⟨wr.heap.size + 1, 0, none⟩) 0 0) [] := by
          rw [hsz1] at hoe
          rw [hsz1]
          exact hoe
        have HOE := Lib.hid hoe2
        clear hoe hoe2 hsz1
        have HBE := Lib.hid ((Below.refl W1.heap.size W1).alloc (Nat.le_refl _) (.cells #[] 5))
        have hn0 : bo = none → bc = 0 := hwf.none'
        have HN0 := Lib.hid hn0
        have HXB0 : Hid (∀ X : World, Below w.heap.size w X → Bs X bo bl) := Lib.hid (fun X h => hat.bs.below h)
        clear hb1 xb hos HB HWI hW1 hXS hrow hwf hx hat hbx hn0
        go_wp2_with (first | (at_builtin; rw [HW1.out]; refine app_at rfl (.tmp 26) (.tmp 28) rfl W1.heap.size (.slice (some ⟨wr.heap.size + 1, 0, none⟩) 0 0) [] rfl HOE.out bo bl bc rfl HN0.out (HXB.out.below HBE.out) (by simp; omega) (by simp) ?_; intro vo w5 ho5 hg5 hn5; have hb5 : Below W1.heap.size W1 w5 := HBE.out.grown hg5 (by simp) (fun k hk => by cases hk; exact Nat.le_of_eq (by rw [← HW1.out]; simp)); have HWI5 : Hid (WI w.heap.size p z vo l bl lost w5) := Lib.hid (by obtain ⟨v, vz, s⟩ := HWI1.out; exact ⟨v, vz, s.take HB1.out.size hb5 ho5⟩); have HROW5 := Lib.hid (keep_row hb5 HROW.out); have HB5 := Lib.hid (bnext HB1.out hb5); have HXB5 := Lib.hid (HXB.out.below hb5); clear ho5 hg5 hn5 hb5 HWI1 HROW HB1 HXB HOE HBE) | (with_reducible refine stop31 ?_))
        rename_i KR hKR KB hKB
        have HT : ∀ (T : Array Value) (hT : #[.slice (some ⟨b, off, none⟩) a0.length c0, undef, T.getD 2 undef, .pointer (some ⟨p, 0, none⟩), .pointer (some ⟨z, 0, none⟩), T.getD 5 undef, .pointer (some ⟨wr.heap.size, 0, none⟩), vo, T.getD 8 undef, T.getD 9 undef, T.getD 10 undef, T.getD 11 undef, .slice (some ⟨b, off, none⟩) a0.length c0, .bool false, .pointer (some ⟨p, 0, none⟩), .agg #[.slice none 0 0, .bool false], .pointer (some ⟨z, 0, none⟩), .slice (some ⟨b, off, none⟩) a0.length c0, .int .i64 (a0.length : Int), .int .i64 (k : Int), T.getD 20 undef, T.getD 21 undef, T.getD 22 undef, T.getD 23 undef, T.getD 24 undef, T.getD 25 undef, T.getD 26 undef, T.getD 27 undef, T.getD 28 undef, T.getD 29 undef, T.getD 30 undef, T.getD 31 undef, T.getD 32 undef, T.getD 33 undef, T.getD 34 undef, T.getD 35 undef, T.getD 36 undef, T.getD 37 undef, T.getD 38 undef, T.getD 39 undef, T.getD 40 undef, T.getD 41 undef, T.getD 42 undef, T.getD 43 undef, T.getD 44 undef, T.getD 45 undef, T.getD 46 undef, T.getD 47 undef, T.getD 48 undef, T.getD 49 undef, T.getD 50 undef, T.getD 51 undef, T.getD 52 undef, T.getD 53 undef, T.getD 54 undef, T.getD 55 undef, T.getD 56 undef, T.getD 57 undef, T.getD 58 undef, T.getD 59 undef, T.getD 60 undef, T.getD 61 undef, T.getD 62 undef, T.getD 63 undef, T.getD 64 undef, T.getD 65 undef, T.getD 66 undef, T.getD 67 undef, T.getD 68 undef, T.getD 69 undef, T.getD 70 undef, T.getD 71 undef, T.getD 72 undef, T.getD 73 undef, T.getD 74 undef, T.getD 75 undef, T.getD 76 undef, T.getD 77 undef, T.getD 78 undef, T.getD 79 undef, T.getD 80 undef, T.getD 81 undef, T.getD 82 undef, T.getD 83 undef, T.getD 84 undef, T.getD 85 undef, T.getD 86 undef, T.getD 87 undef, T.getD 88 undef, T.getD 89 undef, T.getD 90 undef, T.getD 91 undef, T.getD 92 undef, T.getD 93 undef, T.getD 94 undef, T.getD 95 undef, T.getD 96 undef, T.getD 97 undef, T.getD 98 undef, T.getD 99 undef, T.getD 100 undef, T.getD 101 undef, T.getD 102 undef, T.getD 103 undef, T.getD 104 undef, T.getD 105 undef, T.getD 106 undef, T.getD 107 undef, T.getD 108 undef, T.getD 109 undef, T.getD 110 undef, T.getD 111 undef, T.getD 112 undef, T.getD 113 undef, T.getD 114 undef, T.getD 115 undef, T.getD 116 undef, T.getD 117 undef, T.getD 118 undef, T.getD 119 undef, T.getD 120 undef, T.getD 121 undef, T.getD 122 undef, T.getD 123 undef, T.getD 124 undef, T.getD 125 undef, T.getD 126 undef, T.getD 127 undef, T.getD 128 undef, T.getD 129 undef, T.getD 130 undef, T.getD 131 undef, T.getD 132 undef, T.getD 133 undef, T.getD 134 undef, T.getD 135 undef, T.getD 136 undef, T.getD 137 undef, T.getD 138 undef, T.getD 139 undef, T.getD 140 undef, T.getD 141 undef, T.getD 142 undef, T.getD 143 undef, T.getD 144 undef, T.getD 145 undef, T.getD 146 undef, T.getD 147 undef, T.getD 148 undef, T.getD 149 undef, T.getD 150 undef, T.getD 151 undef, T.getD 152 undef, T.getD 153 undef, T.getD 154 undef, T.getD 155 undef, T.getD 156 undef, T.getD 157 undef, T.getD 158 undef, T.getD 159 undef, T.getD 160 undef, T.getD 161 undef, T.getD 162 undef, T.getD 163 undef, T.getD 164 undef] = T) (l3 : List Nat) (lost3 : Bool) (w8 : World), Hid (WI w.heap.size p z vo l3 bl lost3 w8) → l3.length ≤ 400 * (k + 1) → Hid (Below w.heap.size w w8) → Hid (w8.heap[wr.heap.size]? = some (.cells XS 32 (0, 0))) →
            KR { tmps := T, defers := [] } w8 := by
          intro T hT l3 lost3 w8 hwi8 hl8 hb8 hrow8
          rw [← hT]
          obtain ⟨V, hV⟩ : ∃ V : Nat → Value, ∀ i, T.getD i undef = V i := ⟨_, fun _ => rfl⟩
          simp only [hV]
          clear hV hT
          refine hKR _ _ ?_
          clear HWI5 HROW5 HXB5 hKB KB
          obtain ⟨v, vz, tw⟩ := hwi8.out
          have HP := Lib.hid (pbytes_any w.heap.size p v l3 lost3 w8 (by omega) tw.pw)
          have HTW := Lib.hid tw
          clear tw hwi8
          go_wp2_with fail
          refine HP.out.mono ?_
          rintro e w9 ⟨⟨v3, rfl, ho3⟩, hb9⟩
          have hp8 := HTW.out.pw.lt
          have hz8 := (Array.getElem?_eq_some_iff.1 HTW.out.zrow).1
          have hd : ∀ q, v3.ownBlock = some q → q ≠ p ∧ q ≠ z ∧ v.ownBlock ≠ some q ∧ vz.ownBlock ≠ some q ∧ vo.ownBlock ≠ some q := fun q hq => by
            have h1 := ho3.blk q hq
            exact ⟨by omega, by omega, fun h => by have := HTW.out.pw.own.lt q h; omega, fun h => by have := HTW.out.zown.lt q h; omega, fun h => by have := HTW.out.own.lt q h; omega⟩
          have hd2 : ∀ q, vo.ownBlock = some q → q ≠ p ∧ q ≠ z ∧ v.ownBlock ≠ some q ∧ vz.ownBlock ≠ some q := fun q hq =>
            ⟨HTW.out.own.apart HTW.out.pw.row (by decide) q hq, HTW.out.own.apart HTW.out.zrow (by decide) q hq, (HTW.out.d2 q hq).1, (HTW.out.d2 q hq).2⟩
          have HT9 := Lib.hid (HTW.out.below hb9)
          have HB9 := Lib.hid (bnext hb8.out hb9)
          have HO3 : Hid (Own w9 w.heap.size v3 (if lost3 then [] else l3)) := Lib.hid (ho3.mono hb8.out.size)
          have HXR := Lib.hid (keep_row hb9 hrow8.out)
          have HOM : Hid (Own w9 w.heap.size vo bl) := Lib.hid HT9.out.own
          clear ho3 hb9 hrow8 hb8 HTW HP hp8 hz8
          obtain ⟨oo, co, rfl, hbo, -, -, -, -⟩ := HOM.out.open
          obtain ⟨oz, cz, rfl, hbz, -, -, -, -⟩ := HT9.out.zown.open
          obtain ⟨o3, c3, rfl, hb3, -, -, -, -⟩ := HO3.out.open
          have HBO9 := Lib.hid hbo
          have HBZ := Lib.hid hbz
          have HZR := Lib.hid HT9.out.zrow
          have HXB9 := Lib.hid (HXB0.out w9 HB9.out)
          have HD := Lib.hid hd
          have HD2 := Lib.hid hd2
          have HROWO := Lib.hid (Own.row8 rfl HOM.out)
          clear hbo hbz hd hd2
          cases lost3 with
          | true =>
            simp only [if_true] at hb3 HO3 HD
            have HB3 := Lib.hid hb3
            have HROW3 := Lib.hid (Own.row8 rfl HO3.out)
            clear hb3
            simp only [fl, if_true, List.length_nil]
            go_wp2_with fail
            rename_i K27 hK27
            refine (wpIn_wide (n := 5)).1 (give_region (S := fun X => Below w9.heap.size w9 X) (Z := []) (by kernel_rfl) (by kernel_rfl) below_mono (fun d _ _ _ _ h => by cases d <;> exact h) (bdrew0 _ _ 1) (fun hG vw0 hw0 => ?_))
            refine give_pure [] 0 (?_) hG rfl (by kernel_rfl) hw0 (by kernel_rfl) ?_ ?_
            rotate_left
            · intro wz hSw; (first | (go_simp; done) | (go_simp; with_reducible rfl))
            intro vw1 hw1
            clear hw0 vw0
            (try simp only [Act.put, List.getElem_toArray, List.getElem_cons_zero, List.getElem_cons_succ, List.setIfInBounds_toArray, List.set_cons_zero, List.set_cons_succ])
            refine give_pure [] 1 (?_) hG rfl (by kernel_rfl) hw1 (by kernel_rfl) ?_ ?_
            rotate_left
            · intro wz hSw; (first | (go_simp; done) | (go_simp; with_reducible rfl))
            intro vw2 hw2
            clear hw1 vw1
            (try simp only [Act.put, List.getElem_toArray, List.getElem_cons_zero, List.getElem_cons_succ, List.setIfInBounds_toArray, List.set_cons_zero, List.set_cons_succ])
            refine give_pure [] 2 (?_) hG rfl (by kernel_rfl) hw2 (by kernel_rfl) ?_ ?_
            rotate_left
            · intro wz hSw; (first | (go_simp; done) | (go_simp; with_reducible rfl))
            intro vw3 hw3
            clear hw2 vw2
            (try simp only [Act.put, List.getElem_toArray, List.getElem_cons_zero, List.getElem_cons_succ, List.setIfInBounds_toArray, List.set_cons_zero, List.set_cons_succ])
            refine give_pure [] 3 (.bool true) hG rfl (by kernel_rfl) hw3 (by kernel_rfl) ?_ ?_
            · intro wz hSw; obtain ⟨cz0, cz1⟩ := tz_cells (keep_row hSw HZR.out); (first | (go_simp; done) | (go_simp; with_reducible rfl))
            intro vw4 hw4
            clear hw3 vw3
            (try simp only [Act.put, List.getElem_toArray, List.getElem_cons_zero, List.getElem_cons_succ, List.setIfInBounds_toArray, List.set_cons_zero, List.set_cons_succ])
            refine give_pure [] 4 (?_) hG rfl (by kernel_rfl) hw4 (by kernel_rfl) ?_ ?_
            rotate_left
            · intro wz hSw; (first | (go_simp; done) | (go_simp; with_reducible rfl))
            intro vw5 hw5
            clear hw4 vw4
            (try simp only [Act.put, List.getElem_toArray, List.getElem_cons_zero, List.getElem_cons_succ, List.setIfInBounds_toArray, List.set_cons_zero, List.set_cons_succ])
            refine give_pure [] 5 (?_) hG rfl (by kernel_rfl) hw5 (by kernel_rfl) ?_ ?_
            rotate_left
            · intro wz hSw; (first | (go_simp; done) | (go_simp; with_reducible rfl))
            intro vw6 hw6
            clear hw5 vw5
            (try simp only [Act.put, List.getElem_toArray, List.getElem_cons_zero, List.getElem_cons_succ, List.setIfInBounds_toArray, List.set_cons_zero, List.set_cons_succ])
            refine give_pure [] 6 (.bool false) hG rfl (by kernel_rfl) hw6 (by kernel_rfl) ?_ ?_
            · intro wz hSw; (first | (go_simp; done) | (go_simp; with_reducible rfl))
            intro vw7 hw7
            clear hw6 vw6
            (try simp only [Act.put, List.getElem_toArray, List.getElem_cons_zero, List.getElem_cons_succ, List.setIfInBounds_toArray, List.set_cons_zero, List.set_cons_succ])
            refine give_pure [] 7 (?_) hG rfl (by kernel_rfl) hw7 (by kernel_rfl) ?_ ?_
            rotate_left
            · intro wz hSw; (first | (go_simp; done) | (go_simp; with_reducible rfl))
            intro vw8 hw8
            clear hw7 vw7
            (try simp only [Act.put, List.getElem_toArray, List.getElem_cons_zero, List.getElem_cons_succ, List.setIfInBounds_toArray, List.set_cons_zero, List.set_cons_succ])
            refine give_pure [] 8 (?_) hG rfl (by kernel_rfl) hw8 (by kernel_rfl) ?_ ?_
            rotate_left
            · intro wz hSw; (first | (go_simp; done) | (go_simp; with_reducible rfl))
            intro vw9 hw9
            clear hw8 vw8
            (try simp only [Act.put, List.getElem_toArray, List.getElem_cons_zero, List.getElem_cons_succ, List.setIfInBounds_toArray, List.set_cons_zero, List.set_cons_succ])
            refine give_pure [] 9 (?_) hG rfl (by kernel_rfl) hw9 (by kernel_rfl) ?_ ?_
            rotate_left
            · intro wz hSw; (first | (go_simp; done) | (go_simp; with_reducible rfl))
            intro vw10 hw10
            clear hw9 vw9
            (try simp only [Act.put, List.getElem_toArray, List.getElem_cons_zero, List.getElem_cons_succ, List.setIfInBounds_toArray, List.set_cons_zero, List.set_cons_succ])
            refine give_pure [] 10 (.bool false) hG rfl (by kernel_rfl) hw10 (by kernel_rfl) ?_ ?_
            · intro wz hSw; (first | (go_simp; done) | (go_simp; with_reducible rfl))
            intro vw11 hw11
            clear hw10 vw10
            (try simp only [Act.put, List.getElem_toArray, List.getElem_cons_zero, List.getElem_cons_succ, List.setIfInBounds_toArray, List.set_cons_zero, List.set_cons_succ])
            refine give_pure [] 11 (?_) hG rfl (by kernel_rfl) hw11 (by kernel_rfl) ?_ ?_
            rotate_left
            · intro wz hSw; (first | (go_simp; done) | (go_simp; with_reducible rfl))
            intro vw12 hw12
            clear hw11 vw11
            (try simp only [Act.put, List.getElem_toArray, List.getElem_cons_zero, List.getElem_cons_succ, List.setIfInBounds_toArray, List.set_cons_zero, List.set_cons_succ])
            refine give_pure [] 12 (.bool false) hG rfl (by kernel_rfl) hw12 (by kernel_rfl) ?_ ?_
            · intro wz hSw; (first | (go_simp; done) | (go_simp; with_reducible rfl))
            intro vw13 hw13
            clear hw12 vw12
            (try simp only [Act.put, List.getElem_toArray, List.getElem_cons_zero, List.getElem_cons_succ, List.setIfInBounds_toArray, List.set_cons_zero, List.set_cons_succ])
            refine give_pure [] 13 (?_) hG rfl (by kernel_rfl) hw13 (by kernel_rfl) ?_ ?_
            rotate_left
            · intro wz hSw; (first | (go_simp; done) | (go_simp; with_reducible rfl))
            intro vw14 hw14
            clear hw13 vw13
            (try simp only [Act.put, List.getElem_toArray, List.getElem_cons_zero, List.getElem_cons_succ, List.setIfInBounds_toArray, List.set_cons_zero, List.set_cons_succ])
            refine give_pure [] 14 (?_) hG rfl (by kernel_rfl) hw14 (by kernel_rfl) ?_ ?_
            rotate_left
            · intro wz hSw; (first | (go_simp; done) | (go_simp; with_reducible rfl))
            intro vw15 hw15
            clear hw14 vw14
            (try simp only [Act.put, List.getElem_toArray, List.getElem_cons_zero, List.getElem_cons_succ, List.setIfInBounds_toArray, List.set_cons_zero, List.set_cons_succ])
            refine give_pure [] 15 (?_) hG rfl (by kernel_rfl) hw15 (by kernel_rfl) ?_ ?_
            rotate_left
            · intro wz hSw; (first | (go_simp; done) | (go_simp; with_reducible rfl))
            intro vw16 hw16
            clear hw15 vw15
            (try simp only [Act.put, List.getElem_toArray, List.getElem_cons_zero, List.getElem_cons_succ, List.setIfInBounds_toArray, List.set_cons_zero, List.set_cons_succ])
            refine give_pure [] 16 (?_) hG rfl (by kernel_rfl) hw16 (by kernel_rfl) ?_ ?_
            rotate_left
            · intro wz hSw; (first | (go_simp; done) | (go_simp; with_reducible rfl))
            intro vw17 hw17
            clear hw16 vw16
            (try simp only [Act.put, List.getElem_toArray, List.getElem_cons_zero, List.getElem_cons_succ, List.setIfInBounds_toArray, List.set_cons_zero, List.set_cons_succ])
            refine give_pure [] 17 (.bool true) hG rfl (by kernel_rfl) hw17 (by kernel_rfl) ?_ ?_
            · intro wz hSw; obtain ⟨cz0, cz1⟩ := tz_cells (keep_row hSw HZR.out); (first | (go_simp; done) | (go_simp; with_reducible rfl))
            intro vw18 hw18
            clear hw17 vw17
            (try simp only [Act.put, List.getElem_toArray, List.getElem_cons_zero, List.getElem_cons_succ, List.setIfInBounds_toArray, List.set_cons_zero, List.set_cons_succ])
            refine give_pure [] 18 (?_) hG rfl (by kernel_rfl) hw18 (by kernel_rfl) ?_ ?_
            rotate_left
            · intro wz hSw; (first | (go_simp; done) | (go_simp; with_reducible rfl))
            intro vw19 hw19
            clear hw18 vw18
            (try simp only [Act.put, List.getElem_toArray, List.getElem_cons_zero, List.getElem_cons_succ, List.setIfInBounds_toArray, List.set_cons_zero, List.set_cons_succ])
            refine give_pure [] 19 (?_) hG rfl (by kernel_rfl) hw19 (by kernel_rfl) ?_ ?_
            rotate_left
            · intro wz hSw; (first | (go_simp; done) | (go_simp; with_reducible rfl))
            intro vw20 hw20
            clear hw19 vw19
            (try simp only [Act.put, List.getElem_toArray, List.getElem_cons_zero, List.getElem_cons_succ, List.setIfInBounds_toArray, List.set_cons_zero, List.set_cons_succ])
            refine give_no [] 20 hG rfl (by kernel_rfl) hw20 (by kernel_rfl) ?_
            intro vw21 hw21
            clear hw20 vw20
            (try simp only [Act.put, List.getElem_toArray, List.getElem_cons_zero, List.getElem_cons_succ, List.setIfInBounds_toArray, List.set_cons_zero, List.set_cons_succ])
            refine give_no [] 21 hG rfl (by kernel_rfl) hw21 (by kernel_rfl) ?_
            intro vw22 hw22
            clear hw21 vw21
            (try simp only [Act.put, List.getElem_toArray, List.getElem_cons_zero, List.getElem_cons_succ, List.setIfInBounds_toArray, List.set_cons_zero, List.set_cons_succ])
            refine give_no [] 22 hG rfl (by kernel_rfl) hw22 (by kernel_rfl) ?_
            intro vw23 hw23
            clear hw22 vw22
            (try simp only [Act.put, List.getElem_toArray, List.getElem_cons_zero, List.getElem_cons_succ, List.setIfInBounds_toArray, List.set_cons_zero, List.set_cons_succ])
            refine give_no [] 23 hG rfl (by kernel_rfl) hw23 (by kernel_rfl) ?_
            intro vw24 hw24
            clear hw23 vw23
            (try simp only [Act.put, List.getElem_toArray, List.getElem_cons_zero, List.getElem_cons_succ, List.setIfInBounds_toArray, List.set_cons_zero, List.set_cons_succ])
            refine give_no [] 24 hG rfl (by kernel_rfl) hw24 (by kernel_rfl) ?_
            intro vw25 hw25
            clear hw24 vw24
            (try simp only [Act.put, List.getElem_toArray, List.getElem_cons_zero, List.getElem_cons_succ, List.setIfInBounds_toArray, List.set_cons_zero, List.set_cons_succ])
            refine give_no [] 25 hG rfl (by kernel_rfl) hw25 (by kernel_rfl) ?_
            intro vw26 hw26
            clear hw25 vw25
            (try simp only [Act.put, List.getElem_toArray, List.getElem_cons_zero, List.getElem_cons_succ, List.setIfInBounds_toArray, List.set_cons_zero, List.set_cons_succ])
            refine give_no [] 26 hG rfl (by kernel_rfl) hw26 (by kernel_rfl) ?_
            intro vw27 hw27
            clear hw26 vw26
            (try simp only [Act.put, List.getElem_toArray, List.getElem_cons_zero, List.getElem_cons_succ, List.setIfInBounds_toArray, List.set_cons_zero, List.set_cons_succ])
            refine give_no [] 27 hG rfl (by kernel_rfl) hw27 (by kernel_rfl) ?_
            intro vw28 hw28
            clear hw27 vw27
            (try simp only [Act.put, List.getElem_toArray, List.getElem_cons_zero, List.getElem_cons_succ, List.setIfInBounds_toArray, List.set_cons_zero, List.set_cons_succ])
            refine give_no [] 28 hG rfl (by kernel_rfl) hw28 (by kernel_rfl) ?_
            intro vw29 hw29
            clear hw28 vw28
            (try simp only [Act.put, List.getElem_toArray, List.getElem_cons_zero, List.getElem_cons_succ, List.setIfInBounds_toArray, List.set_cons_zero, List.set_cons_succ])
            refine give_no [] 29 hG rfl (by kernel_rfl) hw29 (by kernel_rfl) ?_
            intro vw30 hw30
            clear hw29 vw29
            (try simp only [Act.put, List.getElem_toArray, List.getElem_cons_zero, List.getElem_cons_succ, List.setIfInBounds_toArray, List.set_cons_zero, List.set_cons_succ])
            refine give_no [] 30 hG rfl (by kernel_rfl) hw30 (by kernel_rfl) ?_
            intro vw31 hw31
            clear hw30 vw30
            (try simp only [Act.put, List.getElem_toArray, List.getElem_cons_zero, List.getElem_cons_succ, List.setIfInBounds_toArray, List.set_cons_zero, List.set_cons_succ])
            refine give_no [] 31 hG rfl (by kernel_rfl) hw31 (by kernel_rfl) ?_
            intro vw32 hw32
            clear hw31 vw31
            (try simp only [Act.put, List.getElem_toArray, List.getElem_cons_zero, List.getElem_cons_succ, List.setIfInBounds_toArray, List.set_cons_zero, List.set_cons_succ])
            refine give_pure [] 32 (?_) hG rfl (by kernel_rfl) hw32 (by kernel_rfl) ?_ ?_
            rotate_left
            · intro wz hSw; (first | (go_simp; done) | (go_simp; with_reducible rfl))
            intro vw33 hw33
            clear hw32 vw32
            (try simp only [Act.put, List.getElem_toArray, List.getElem_cons_zero, List.getElem_cons_succ, List.setIfInBounds_toArray, List.set_cons_zero, List.set_cons_succ])
            refine give_pure [] 33 (?_) hG rfl (by kernel_rfl) hw33 (by kernel_rfl) ?_ ?_
            rotate_left
            · intro wz hSw; (first | (go_simp; done) | (go_simp; with_reducible rfl))
            intro vw34 hw34
            clear hw33 vw33
            (try simp only [Act.put, List.getElem_toArray, List.getElem_cons_zero, List.getElem_cons_succ, List.setIfInBounds_toArray, List.set_cons_zero, List.set_cons_succ])
            refine give_pure [] 34 (?_) hG rfl (by kernel_rfl) hw34 (by kernel_rfl) ?_ ?_
            rotate_left
            · intro wz hSw; (first | (go_simp; done) | (go_simp; with_reducible rfl))
            intro vw35 hw35
            clear hw34 vw34
            (try simp only [Act.put, List.getElem_toArray, List.getElem_cons_zero, List.getElem_cons_succ, List.setIfInBounds_toArray, List.set_cons_zero, List.set_cons_succ])
            refine give_pure [] 35 (?_) hG rfl (by kernel_rfl) hw35 (by kernel_rfl) ?_ ?_
            rotate_left
            · intro wz hSw; (first | (go_simp; done) | (go_simp; with_reducible rfl))
            intro vw36 hw36
            clear hw35 vw35
            (try simp only [Act.put, List.getElem_toArray, List.getElem_cons_zero, List.getElem_cons_succ, List.setIfInBounds_toArray, List.set_cons_zero, List.set_cons_succ])
            refine give_pure [] 36 (.string (bstr bl)) hG rfl (by kernel_rfl) hw36 (by kernel_rfl) ?_ ?_
            · intro wz hSw; have hcv := conv_bs co rfl (HBO9.out.below hSw); (first | (go_simp; done) | (go_simp; rw [hcv]; done) | (go_simp; rw [hcv]; rfl) | (go_simp; with_reducible rfl))
            intro vw37 hw37
            clear hw36 vw36
            (try simp only [Act.put, List.getElem_toArray, List.getElem_cons_zero, List.getElem_cons_succ, List.setIfInBounds_toArray, List.set_cons_zero, List.set_cons_succ])
            refine give_pure [] 37 (?_) hG rfl (by kernel_rfl) hw37 (by kernel_rfl) ?_ ?_
            rotate_left
            · intro wz hSw; (first | (go_simp; done) | (go_simp; with_reducible rfl))
            intro vw38 hw38
            clear hw37 vw37
            (try simp only [Act.put, List.getElem_toArray, List.getElem_cons_zero, List.getElem_cons_succ, List.setIfInBounds_toArray, List.set_cons_zero, List.set_cons_succ])
            refine give_pure [] 38 (.slice bo bl.length bc) hG rfl (by kernel_rfl) hw38 (by kernel_rfl) ?_ ?_
            · intro wz hSw; have cx := tx_cell (keep_row hSw HXR.out) HXS.out; (first | (go_simp; done) | (go_simp; with_reducible rfl))
            intro vw39 hw39
            clear hw38 vw38
            (try simp only [Act.put, List.getElem_toArray, List.getElem_cons_zero, List.getElem_cons_succ, List.setIfInBounds_toArray, List.set_cons_zero, List.set_cons_succ])
            refine give_pure [] 39 (.string (bstr bl)) hG rfl (by kernel_rfl) hw39 (by kernel_rfl) ?_ ?_
            · intro wz hSw; have hcv := conv_bs bc rfl (HXB9.out.below hSw); (first | (go_simp; done) | (go_simp; rw [hcv]; done) | (go_simp; rw [hcv]; rfl) | (go_simp; with_reducible rfl))
            intro vw40 hw40
            clear hw39 vw39
            (try simp only [Act.put, List.getElem_toArray, List.getElem_cons_zero, List.getElem_cons_succ, List.setIfInBounds_toArray, List.set_cons_zero, List.set_cons_succ])
            refine give_pure [] 40 (.bool false) hG rfl (by kernel_rfl) hw40 (by kernel_rfl) ?_ ?_
            · intro wz hSw; (first | (go_simp; done) | (go_simp; with_reducible rfl))
            intro vw41 hw41
            clear hw40 vw40
            (try simp only [Act.put, List.getElem_toArray, List.getElem_cons_zero, List.getElem_cons_succ, List.setIfInBounds_toArray, List.set_cons_zero, List.set_cons_succ])
            refine give_pure [] 41 (?_) hG rfl (by kernel_rfl) hw41 (by kernel_rfl) ?_ ?_
            rotate_left
            · intro wz hSw; (first | (go_simp; done) | (go_simp; with_reducible rfl))
            intro vw42 hw42
            clear hw41 vw41
            (try simp only [Act.put, List.getElem_toArray, List.getElem_cons_zero, List.getElem_cons_succ, List.setIfInBounds_toArray, List.set_cons_zero, List.set_cons_succ])
            refine give_done (by kernel_rfl) (?_) _
            refine hK27 _ _ ?_
            have HQ := Lib.hid hw42
            obtain ⟨wq, hwq⟩ : ∃ wq, vw42 = wq := ⟨_, rfl⟩
            rw [hwq] at HQ ⊢
            clear hK27 hG hw42 hwq
            have HTQ := Lib.hid (HT9.out.below HQ.out)
            have HBQ := Lib.hid (bnext HB9.out HQ.out)
            have HRO := Lib.hid (HROWO.out.below HQ.out)
            have HR3 := Lib.hid (HROW3.out.below HQ.out)
            clear HT9 HB9 HQ HROWO HROW3 HBO9 HBZ HZR HXB9 HB3 HXR
            go_wp2_with fail
            go_loopg [138] bl.length (fun g s wr2 => ∃ j : Nat, g = bl.length - j ∧ j ≤ bl.length ∧ s = .int .i64 (j : Int) ∧ wq.grownBy wr2 (Value.slice oo bl.length co).ownBlock ∧ Row8 wr2 oo bl.length)
            case atStart => exact ⟨0, rfl, by omega, rfl, World.grownBy.refl _ _, HRO.out⟩
            case round =>
              obtain ⟨j, hgj, hj, rfl, hgr, hr8⟩ := hrel
              subst hgj
              have HGR := Lib.hid hgr
              have HR8 := Lib.hid hr8
              clear hgr hr8
              have j0 : (0 : Int) ≤ (j : Int) := by omega
              by_cases hjn : j < bl.length
              · have j1 : (j : Int) < ((bl.length : Nat) : Int) := by omega
                obtain ⟨gg, e1, ⟨y, hy⟩, hf⟩ := HR8.out j hjn
                subst e1
                have HG2 := Lib.hid (grown_trans HGR.out (grown_cell _ gg j (.int .u8 (IntKind.u8.wrap (y + 1)))))
                have HR2 := Lib.hid (HR8.out.set (j := j) (IntKind.u8.wrap (y + 1)))
                clear HGR HR8
                go_wp2_with fail
                go_roundg (bl.length - (j + 1))
                case measure => omega
                case rel => exact ⟨j + 1, rfl, by omega, by go_num, HG2.out, HR2.out⟩
              · have j1 : ¬ (j : Int) < ((bl.length : Nat) : Int) := by omega
                have HGO := HGR
                clear HR8 HGR hjn hj
                have HT2 := Lib.hid (HTQ.out.away HGO.out HD2.out)
                have HB2 := Lib.hid (HBQ.out.grown HGO.out HBQ.out.size (fun q hq => HOM.out.blk q hq))
                have HR32 := Lib.hid (HR3.out.grown HGO.out (fun q hq hm e => by subst hq; exact (HD.out q rfl).2.2.2.2 e.symm))
                clear HTQ HBQ HR3 HRO HGO
                go_wp2_with fail
                go_loopg [152] 0 (fun g s wr2 => ∃ j : Nat, g = 0 - j ∧ j ≤ 0 ∧ s = .int .i64 (j : Int) ∧ wr.grownBy wr2 (Value.slice o3 0 c3).ownBlock ∧ Row8 wr2 o3 0)
                case atStart => exact ⟨0, rfl, by omega, rfl, World.grownBy.refl _ _, HR32.out⟩
                case round =>
                  obtain ⟨j, hgj, hj, rfl, hgr, hr8⟩ := hrel
                  subst hgj
                  have HGR := Lib.hid hgr
                  have HR8 := Lib.hid hr8
                  clear hgr hr8
                  have j0 : (0 : Int) ≤ (j : Int) := by omega
                  by_cases hjn : j < 0
                  · exact absurd hjn (Nat.not_lt_zero _)
                  · have j1 : ¬ (j : Int) < ((0 : Nat) : Int) := by omega
                    have HGT := HGR
                    clear HR8 HGR hjn hj
                    have HT3 := Lib.hid (HT2.out.away HGT.out (fun q hq => ⟨(HD.out q hq).1, (HD.out q hq).2.1, (HD.out q hq).2.2.1, (HD.out q hq).2.2.2.1⟩))
                    have HB3 := Lib.hid (HB2.out.grown HGT.out HB2.out.size (fun q hq => HO3.out.blk q hq))
                    clear HT2 HB2 HGT HR32
                    go_wp2_with fail
                    go_roundg (200 - (k + 1))
                    case measure => omega
                    case rel => exact ⟨k + 1, l3, true, rfl, by omega, by go_num, ⟨_, _, HT3.out⟩, hl8, HB3.out⟩
          | false =>
            simp only [Bool.false_eq_true, if_false] at hb3 HO3 HD
            have HB3 := Lib.hid hb3
            have HROW3 := Lib.hid (Own.row8 rfl HO3.out)
            clear hb3
            simp only [fl, if_true, Bool.false_eq_true, if_false]
            go_wp2_with fail
            rename_i K27 hK27
            refine (wpIn_wide (n := 5)).1 (give_region (S := fun X => Below w9.heap.size w9 X) (Z := []) (by kernel_rfl) (by kernel_rfl) below_mono (fun d _ _ _ _ h => by cases d <;> exact h) (bdrew0 _ _ 1) (fun hG vw0 hw0 => ?_))
            refine give_pure [] 0 (?_) hG rfl (by kernel_rfl) hw0 (by kernel_rfl) ?_ ?_
            rotate_left
            · intro wz hSw; (first | (go_simp; done) | (go_simp; with_reducible rfl))
            intro vw1 hw1
            clear hw0 vw0
            (try simp only [Act.put, List.getElem_toArray, List.getElem_cons_zero, List.getElem_cons_succ, List.setIfInBounds_toArray, List.set_cons_zero, List.set_cons_succ])
            refine give_pure [] 1 (?_) hG rfl (by kernel_rfl) hw1 (by kernel_rfl) ?_ ?_
            rotate_left
            · intro wz hSw; (first | (go_simp; done) | (go_simp; with_reducible rfl))
            intro vw2 hw2
            clear hw1 vw1
            (try simp only [Act.put, List.getElem_toArray, List.getElem_cons_zero, List.getElem_cons_succ, List.setIfInBounds_toArray, List.set_cons_zero, List.set_cons_succ])
            refine give_pure [] 2 (?_) hG rfl (by kernel_rfl) hw2 (by kernel_rfl) ?_ ?_
            rotate_left
            · intro wz hSw; (first | (go_simp; done) | (go_simp; with_reducible rfl))
            intro vw3 hw3
            clear hw2 vw2
            (try simp only [Act.put, List.getElem_toArray, List.getElem_cons_zero, List.getElem_cons_succ, List.setIfInBounds_toArray, List.set_cons_zero, List.set_cons_succ])
            refine give_pure [] 3 (.bool false) hG rfl (by kernel_rfl) hw3 (by kernel_rfl) ?_ ?_
            · intro wz hSw; obtain ⟨cz0, cz1⟩ := tz_cells (keep_row hSw HZR.out); (first | (go_simp; done) | (go_simp; with_reducible rfl))
            intro vw4 hw4
            clear hw3 vw3
            (try simp only [Act.put, List.getElem_toArray, List.getElem_cons_zero, List.getElem_cons_succ, List.setIfInBounds_toArray, List.set_cons_zero, List.set_cons_succ])
            refine give_pure [] 4 (?_) hG rfl (by kernel_rfl) hw4 (by kernel_rfl) ?_ ?_
            rotate_left
            · intro wz hSw; (first | (go_simp; done) | (go_simp; with_reducible rfl))
            intro vw5 hw5
            clear hw4 vw4
            (try simp only [Act.put, List.getElem_toArray, List.getElem_cons_zero, List.getElem_cons_succ, List.setIfInBounds_toArray, List.set_cons_zero, List.set_cons_succ])
            refine give_no [] 5 hG rfl (by kernel_rfl) hw5 (by kernel_rfl) ?_
            intro vw6 hw6
            clear hw5 vw5
            (try simp only [Act.put, List.getElem_toArray, List.getElem_cons_zero, List.getElem_cons_succ, List.setIfInBounds_toArray, List.set_cons_zero, List.set_cons_succ])
            refine give_no [] 6 hG rfl (by kernel_rfl) hw6 (by kernel_rfl) ?_
            intro vw7 hw7
            clear hw6 vw6
            (try simp only [Act.put, List.getElem_toArray, List.getElem_cons_zero, List.getElem_cons_succ, List.setIfInBounds_toArray, List.set_cons_zero, List.set_cons_succ])
            refine give_no [] 7 hG rfl (by kernel_rfl) hw7 (by kernel_rfl) ?_
            intro vw8 hw8
            clear hw7 vw7
            (try simp only [Act.put, List.getElem_toArray, List.getElem_cons_zero, List.getElem_cons_succ, List.setIfInBounds_toArray, List.set_cons_zero, List.set_cons_succ])
            refine give_no [] 8 hG rfl (by kernel_rfl) hw8 (by kernel_rfl) ?_
            intro vw9 hw9
            clear hw8 vw8
            (try simp only [Act.put, List.getElem_toArray, List.getElem_cons_zero, List.getElem_cons_succ, List.setIfInBounds_toArray, List.set_cons_zero, List.set_cons_succ])
            refine give_no [] 9 hG rfl (by kernel_rfl) hw9 (by kernel_rfl) ?_
            intro vw10 hw10
            clear hw9 vw9
            (try simp only [Act.put, List.getElem_toArray, List.getElem_cons_zero, List.getElem_cons_succ, List.setIfInBounds_toArray, List.set_cons_zero, List.set_cons_succ])
            refine give_no [] 10 hG rfl (by kernel_rfl) hw10 (by kernel_rfl) ?_
            intro vw11 hw11
            clear hw10 vw10
            (try simp only [Act.put, List.getElem_toArray, List.getElem_cons_zero, List.getElem_cons_succ, List.setIfInBounds_toArray, List.set_cons_zero, List.set_cons_succ])
            refine give_no [] 11 hG rfl (by kernel_rfl) hw11 (by kernel_rfl) ?_
            intro vw12 hw12
            clear hw11 vw11
            (try simp only [Act.put, List.getElem_toArray, List.getElem_cons_zero, List.getElem_cons_succ, List.setIfInBounds_toArray, List.set_cons_zero, List.set_cons_succ])
            refine give_pure [] 12 (.bool false) hG rfl (by kernel_rfl) hw12 (by kernel_rfl) ?_ ?_
            · intro wz hSw; (first | (go_simp; done) | (go_simp; with_reducible rfl))
            intro vw13 hw13
            clear hw12 vw12
            (try simp only [Act.put, List.getElem_toArray, List.getElem_cons_zero, List.getElem_cons_succ, List.setIfInBounds_toArray, List.set_cons_zero, List.set_cons_succ])
            refine give_pure [] 13 (?_) hG rfl (by kernel_rfl) hw13 (by kernel_rfl) ?_ ?_
            rotate_left
            · intro wz hSw; (first | (go_simp; done) | (go_simp; with_reducible rfl))
            intro vw14 hw14
            clear hw13 vw13
            (try simp only [Act.put, List.getElem_toArray, List.getElem_cons_zero, List.getElem_cons_succ, List.setIfInBounds_toArray, List.set_cons_zero, List.set_cons_succ])
            refine give_pure [] 14 (?_) hG rfl (by kernel_rfl) hw14 (by kernel_rfl) ?_ ?_
            rotate_left
            · intro wz hSw; (first | (go_simp; done) | (go_simp; with_reducible rfl))
            intro vw15 hw15
            clear hw14 vw14
            (try simp only [Act.put, List.getElem_toArray, List.getElem_cons_zero, List.getElem_cons_succ, List.setIfInBounds_toArray, List.set_cons_zero, List.set_cons_succ])
            refine give_pure [] 15 (?_) hG rfl (by kernel_rfl) hw15 (by kernel_rfl) ?_ ?_
            rotate_left
            · intro wz hSw; (first | (go_simp; done) | (go_simp; with_reducible rfl))
            intro vw16 hw16
            clear hw15 vw15
            (try simp only [Act.put, List.getElem_toArray, List.getElem_cons_zero, List.getElem_cons_succ, List.setIfInBounds_toArray, List.set_cons_zero, List.set_cons_succ])
            refine give_pure [] 16 (?_) hG rfl (by kernel_rfl) hw16 (by kernel_rfl) ?_ ?_
            rotate_left
            · intro wz hSw; (first | (go_simp; done) | (go_simp; with_reducible rfl))
            intro vw17 hw17
            clear hw16 vw16
            (try simp only [Act.put, List.getElem_toArray, List.getElem_cons_zero, List.getElem_cons_succ, List.setIfInBounds_toArray, List.set_cons_zero, List.set_cons_succ])
            refine give_pure [] 17 (.bool false) hG rfl (by kernel_rfl) hw17 (by kernel_rfl) ?_ ?_
            · intro wz hSw; obtain ⟨cz0, cz1⟩ := tz_cells (keep_row hSw HZR.out); (first | (go_simp; done) | (go_simp; with_reducible rfl))
            intro vw18 hw18
            clear hw17 vw17
            (try simp only [Act.put, List.getElem_toArray, List.getElem_cons_zero, List.getElem_cons_succ, List.setIfInBounds_toArray, List.set_cons_zero, List.set_cons_succ])
            refine give_pure [] 18 (?_) hG rfl (by kernel_rfl) hw18 (by kernel_rfl) ?_ ?_
            rotate_left
            · intro wz hSw; (first | (go_simp; done) | (go_simp; with_reducible rfl))
            intro vw19 hw19
            clear hw18 vw18
            (try simp only [Act.put, List.getElem_toArray, List.getElem_cons_zero, List.getElem_cons_succ, List.setIfInBounds_toArray, List.set_cons_zero, List.set_cons_succ])
            refine give_pure [] 19 (?_) hG rfl (by kernel_rfl) hw19 (by kernel_rfl) ?_ ?_
            rotate_left
            · intro wz hSw; (first | (go_simp; done) | (go_simp; with_reducible rfl))
            intro vw20 hw20
            clear hw19 vw19
            (try simp only [Act.put, List.getElem_toArray, List.getElem_cons_zero, List.getElem_cons_succ, List.setIfInBounds_toArray, List.set_cons_zero, List.set_cons_succ])
            refine give_pure [] 20 (?_) hG rfl (by kernel_rfl) hw20 (by kernel_rfl) ?_ ?_
            rotate_left
            · intro wz hSw; (first | (go_simp; done) | (go_simp; with_reducible rfl))
            intro vw21 hw21
            clear hw20 vw20
            (try simp only [Act.put, List.getElem_toArray, List.getElem_cons_zero, List.getElem_cons_succ, List.setIfInBounds_toArray, List.set_cons_zero, List.set_cons_succ])
            refine give_pure [] 21 (.bool false) hG rfl (by kernel_rfl) hw21 (by kernel_rfl) ?_ ?_
            · intro wz hSw; (first | (go_simp; done) | (go_simp; with_reducible rfl))
            intro vw22 hw22
            clear hw21 vw21
            (try simp only [Act.put, List.getElem_toArray, List.getElem_cons_zero, List.getElem_cons_succ, List.setIfInBounds_toArray, List.set_cons_zero, List.set_cons_succ])
            refine give_pure [] 22 (?_) hG rfl (by kernel_rfl) hw22 (by kernel_rfl) ?_ ?_
            rotate_left
            · intro wz hSw; (first | (go_simp; done) | (go_simp; with_reducible rfl))
            intro vw23 hw23
            clear hw22 vw22
            (try simp only [Act.put, List.getElem_toArray, List.getElem_cons_zero, List.getElem_cons_succ, List.setIfInBounds_toArray, List.set_cons_zero, List.set_cons_succ])
            refine give_pure [] 23 (?_) hG rfl (by kernel_rfl) hw23 (by kernel_rfl) ?_ ?_
            rotate_left
            · intro wz hSw; (first | (go_simp; done) | (go_simp; with_reducible rfl))
            intro vw24 hw24
            clear hw23 vw23
            (try simp only [Act.put, List.getElem_toArray, List.getElem_cons_zero, List.getElem_cons_succ, List.setIfInBounds_toArray, List.set_cons_zero, List.set_cons_succ])
            refine give_pure [] 24 (.string (bstr l3)) hG rfl (by kernel_rfl) hw24 (by kernel_rfl) ?_ ?_
            · intro wz hSw; have hcv := conv_bs c3 rfl (HB3.out.below hSw); (first | (go_simp; done) | (go_simp; rw [hcv]; done) | (go_simp; rw [hcv]; rfl) | (go_simp; with_reducible rfl))
            intro vw25 hw25
            clear hw24 vw24
            (try simp only [Act.put, List.getElem_toArray, List.getElem_cons_zero, List.getElem_cons_succ, List.setIfInBounds_toArray, List.set_cons_zero, List.set_cons_succ])
            refine give_pure [] 25 (?_) hG rfl (by kernel_rfl) hw25 (by kernel_rfl) ?_ ?_
            rotate_left
            · intro wz hSw; (first | (go_simp; done) | (go_simp; with_reducible rfl))
            intro vw26 hw26
            clear hw25 vw25
            (try simp only [Act.put, List.getElem_toArray, List.getElem_cons_zero, List.getElem_cons_succ, List.setIfInBounds_toArray, List.set_cons_zero, List.set_cons_succ])
            refine give_pure [] 26 (?_) hG rfl (by kernel_rfl) hw26 (by kernel_rfl) ?_ ?_
            rotate_left
            · intro wz hSw; (first | (go_simp; done) | (go_simp; with_reducible rfl))
            intro vw27 hw27
            clear hw26 vw26
            (try simp only [Act.put, List.getElem_toArray, List.getElem_cons_zero, List.getElem_cons_succ, List.setIfInBounds_toArray, List.set_cons_zero, List.set_cons_succ])
            refine give_pure [] 27 (?_) hG rfl (by kernel_rfl) hw27 (by kernel_rfl) ?_ ?_
            rotate_left
            · intro wz hSw; (first | (go_simp; done) | (go_simp; with_reducible rfl))
            intro vw28 hw28
            clear hw27 vw27
            (try simp only [Act.put, List.getElem_toArray, List.getElem_cons_zero, List.getElem_cons_succ, List.setIfInBounds_toArray, List.set_cons_zero, List.set_cons_succ])
            refine give_pure [] 28 (.slice oz l3.length cz) hG rfl (by kernel_rfl) hw28 (by kernel_rfl) ?_ ?_
            · intro wz hSw; obtain ⟨cz0, cz1⟩ := tz_cells (keep_row hSw HZR.out); (first | (go_simp; done) | (go_simp; with_reducible rfl))
            intro vw29 hw29
            clear hw28 vw28
            (try simp only [Act.put, List.getElem_toArray, List.getElem_cons_zero, List.getElem_cons_succ, List.setIfInBounds_toArray, List.set_cons_zero, List.set_cons_succ])
            refine give_pure [] 29 (.string (bstr l3)) hG rfl (by kernel_rfl) hw29 (by kernel_rfl) ?_ ?_
            · intro wz hSw; have hcv := conv_bs cz rfl (HBZ.out.below hSw); (first | (go_simp; done) | (go_simp; rw [hcv]; done) | (go_simp; rw [hcv]; rfl) | (go_simp; with_reducible rfl))
            intro vw30 hw30
            clear hw29 vw29
            (try simp only [Act.put, List.getElem_toArray, List.getElem_cons_zero, List.getElem_cons_succ, List.setIfInBounds_toArray, List.set_cons_zero, List.set_cons_succ])
            refine give_pure [] 30 (.bool false) hG rfl (by kernel_rfl) hw30 (by kernel_rfl) ?_ ?_
            · intro wz hSw; (first | (go_simp; done) | (go_simp; with_reducible rfl))
            intro vw31 hw31
            clear hw30 vw30
            (try simp only [Act.put, List.getElem_toArray, List.getElem_cons_zero, List.getElem_cons_succ, List.setIfInBounds_toArray, List.set_cons_zero, List.set_cons_succ])
            refine give_pure [] 31 (?_) hG rfl (by kernel_rfl) hw31 (by kernel_rfl) ?_ ?_
            rotate_left
            · intro wz hSw; (first | (go_simp; done) | (go_simp; with_reducible rfl))
            intro vw32 hw32
            clear hw31 vw31
            (try simp only [Act.put, List.getElem_toArray, List.getElem_cons_zero, List.getElem_cons_succ, List.setIfInBounds_toArray, List.set_cons_zero, List.set_cons_succ])
            refine give_pure [] 32 (?_) hG rfl (by kernel_rfl) hw32 (by kernel_rfl) ?_ ?_
            rotate_left
            · intro wz hSw; (first | (go_simp; done) | (go_simp; with_reducible rfl))
            intro vw33 hw33
            clear hw32 vw32
            (try simp only [Act.put, List.getElem_toArray, List.getElem_cons_zero, List.getElem_cons_succ, List.setIfInBounds_toArray, List.set_cons_zero, List.set_cons_succ])
            refine give_pure [] 33 (?_) hG rfl (by kernel_rfl) hw33 (by kernel_rfl) ?_ ?_
            rotate_left
            · intro wz hSw; (first | (go_simp; done) | (go_simp; with_reducible rfl))
            intro vw34 hw34
            clear hw33 vw33
            (try simp only [Act.put, List.getElem_toArray, List.getElem_cons_zero, List.getElem_cons_succ, List.setIfInBounds_toArray, List.set_cons_zero, List.set_cons_succ])
            refine give_pure [] 34 (?_) hG rfl (by kernel_rfl) hw34 (by kernel_rfl) ?_ ?_
            rotate_left
            · intro wz hSw; (first | (go_simp; done) | (go_simp; with_reducible rfl))
            intro vw35 hw35
            clear hw34 vw34
            (try simp only [Act.put, List.getElem_toArray, List.getElem_cons_zero, List.getElem_cons_succ, List.setIfInBounds_toArray, List.set_cons_zero, List.set_cons_succ])
            refine give_pure [] 35 (?_) hG rfl (by kernel_rfl) hw35 (by kernel_rfl) ?_ ?_
            rotate_left
            · intro wz hSw; (first | (go_simp; done) | (go_simp; with_reducible rfl))
            intro vw36 hw36
            clear hw35 vw35
            (try simp only [Act.put, List.getElem_toArray, List.getElem_cons_zero, List.getElem_cons_succ, List.setIfInBounds_toArray, List.set_cons_zero, List.set_cons_succ])
            refine give_pure [] 36 (.string (bstr bl)) hG rfl (by kernel_rfl) hw36 (by kernel_rfl) ?_ ?_
            · intro wz hSw; have hcv := conv_bs co rfl (HBO9.out.below hSw); (first | (go_simp; done) | (go_simp; rw [hcv]; done) | (go_simp; rw [hcv]; rfl) | (go_simp; with_reducible rfl))
            intro vw37 hw37
            clear hw36 vw36
            (try simp only [Act.put, List.getElem_toArray, List.getElem_cons_zero, List.getElem_cons_succ, List.setIfInBounds_toArray, List.set_cons_zero, List.set_cons_succ])
            refine give_pure [] 37 (?_) hG rfl (by kernel_rfl) hw37 (by kernel_rfl) ?_ ?_
            rotate_left
            · intro wz hSw; (first | (go_simp; done) | (go_simp; with_reducible rfl))
            intro vw38 hw38
            clear hw37 vw37
            (try simp only [Act.put, List.getElem_toArray, List.getElem_cons_zero, List.getElem_cons_succ, List.setIfInBounds_toArray, List.set_cons_zero, List.set_cons_succ])
            refine give_pure [] 38 (.slice bo bl.length bc) hG rfl (by kernel_rfl) hw38 (by kernel_rfl) ?_ ?_
            · intro wz hSw; have cx := tx_cell (keep_row hSw HXR.out) HXS.out; (first | (go_simp; done) | (go_simp; with_reducible rfl))
            intro vw39 hw39
            clear hw38 vw38
            (try simp only [Act.put, List.getElem_toArray, List.getElem_cons_zero, List.getElem_cons_succ, List.setIfInBounds_toArray, List.set_cons_zero, List.set_cons_succ])
            refine give_pure [] 39 (.string (bstr bl)) hG rfl (by kernel_rfl) hw39 (by kernel_rfl) ?_ ?_
            · intro wz hSw; have hcv := conv_bs bc rfl (HXB9.out.below hSw); (first | (go_simp; done) | (go_simp; rw [hcv]; done) | (go_simp; rw [hcv]; rfl) | (go_simp; with_reducible rfl))
            intro vw40 hw40
            clear hw39 vw39
            (try simp only [Act.put, List.getElem_toArray, List.getElem_cons_zero, List.getElem_cons_succ, List.setIfInBounds_toArray, List.set_cons_zero, List.set_cons_succ])
            refine give_pure [] 40 (.bool false) hG rfl (by kernel_rfl) hw40 (by kernel_rfl) ?_ ?_
            · intro wz hSw; (first | (go_simp; done) | (go_simp; with_reducible rfl))
            intro vw41 hw41
            clear hw40 vw40
            (try simp only [Act.put, List.getElem_toArray, List.getElem_cons_zero, List.getElem_cons_succ, List.setIfInBounds_toArray, List.set_cons_zero, List.set_cons_succ])
            refine give_pure [] 41 (?_) hG rfl (by kernel_rfl) hw41 (by kernel_rfl) ?_ ?_
            rotate_left
            · intro wz hSw; (first | (go_simp; done) | (go_simp; with_reducible rfl))
            intro vw42 hw42
            clear hw41 vw41
            (try simp only [Act.put, List.getElem_toArray, List.getElem_cons_zero, List.getElem_cons_succ, List.setIfInBounds_toArray, List.set_cons_zero, List.set_cons_succ])
            refine give_done (by kernel_rfl) (?_) _
            refine hK27 _ _ ?_
            have HQ := Lib.hid hw42
            obtain ⟨wq, hwq⟩ : ∃ wq, vw42 = wq := ⟨_, rfl⟩
            rw [hwq] at HQ ⊢
            clear hK27 hG hw42 hwq
            have HTQ := Lib.hid (HT9.out.below HQ.out)
            have HBQ := Lib.hid (bnext HB9.out HQ.out)
            have HRO := Lib.hid (HROWO.out.below HQ.out)
            have HR3 := Lib.hid (HROW3.out.below HQ.out)
            clear HT9 HB9 HQ HROWO HROW3 HBO9 HBZ HZR HXB9 HB3 HXR
            go_wp2_with fail
            go_loopg [138] bl.length (fun g s wr2 => ∃ j : Nat, g = bl.length - j ∧ j ≤ bl.length ∧ s = .int .i64 (j : Int) ∧ wq.grownBy wr2 (Value.slice oo bl.length co).ownBlock ∧ Row8 wr2 oo bl.length)
            case atStart => exact ⟨0, rfl, by omega, rfl, World.grownBy.refl _ _, HRO.out⟩
            case round =>
              obtain ⟨j, hgj, hj, rfl, hgr, hr8⟩ := hrel
              subst hgj
              have HGR := Lib.hid hgr
              have HR8 := Lib.hid hr8
              clear hgr hr8
              have j0 : (0 : Int) ≤ (j : Int) := by omega
              by_cases hjn : j < bl.length
              · have j1 : (j : Int) < ((bl.length : Nat) : Int) := by omega
                obtain ⟨gg, e1, ⟨y, hy⟩, hf⟩ := HR8.out j hjn
                subst e1
                have HG2 := Lib.hid (grown_trans HGR.out (grown_cell _ gg j (.int .u8 (IntKind.u8.wrap (y + 1)))))
                have HR2 := Lib.hid (HR8.out.set (j := j) (IntKind.u8.wrap (y + 1)))
                clear HGR HR8
                go_wp2_with fail
                go_roundg (bl.length - (j + 1))
                case measure => omega
                case rel => exact ⟨j + 1, rfl, by omega, by go_num, HG2.out, HR2.out⟩
              · have j1 : ¬ (j : Int) < ((bl.length : Nat) : Int) := by omega
                have HGO := HGR
                clear HR8 HGR hjn hj
                have HT2 := Lib.hid (HTQ.out.away HGO.out HD2.out)
                have HB2 := Lib.hid (HBQ.out.grown HGO.out HBQ.out.size (fun q hq => HOM.out.blk q hq))
                have HR32 := Lib.hid (HR3.out.grown HGO.out (fun q hq hm e => by subst hq; exact (HD.out q rfl).2.2.2.2 e.symm))
                clear HTQ HBQ HR3 HRO HGO
                go_wp2_with fail
                go_loopg [152] l3.length (fun g s wr2 => ∃ j : Nat, g = l3.length - j ∧ j ≤ l3.length ∧ s = .int .i64 (j : Int) ∧ wr.grownBy wr2 (Value.slice o3 l3.length c3).ownBlock ∧ Row8 wr2 o3 l3.length)
                case atStart => exact ⟨0, rfl, by omega, rfl, World.grownBy.refl _ _, HR32.out⟩
                case round =>
                  obtain ⟨j, hgj, hj, rfl, hgr, hr8⟩ := hrel
                  subst hgj
                  have HGR := Lib.hid hgr
                  have HR8 := Lib.hid hr8
                  clear hgr hr8
                  have j0 : (0 : Int) ≤ (j : Int) := by omega
                  by_cases hjn : j < l3.length
                  · have j1 : (j : Int) < ((l3.length : Nat) : Int) := by omega
                    obtain ⟨gg, e1, ⟨y, hy⟩, hf⟩ := HR8.out j hjn
                    subst e1
                    have HG2 := Lib.hid (grown_trans HGR.out (grown_cell _ gg j (.int .u8 (IntKind.u8.wrap (y + 1)))))
                    have HR2 := Lib.hid (HR8.out.set (j := j) (IntKind.u8.wrap (y + 1)))
                    clear HGR HR8
                    go_wp2_with fail
                    go_roundg (l3.length - (j + 1))
                    case measure => omega
                    case rel => exact ⟨j + 1, rfl, by omega, by go_num, HG2.out, HR2.out⟩
                  · have j1 : ¬ (j : Int) < ((l3.length : Nat) : Int) := by omega
                    have HGT := HGR
                    clear HR8 HGR hjn hj
                    have HT3 := Lib.hid (HT2.out.away HGT.out (fun q hq => ⟨(HD.out q hq).1, (HD.out q hq).2.1, (HD.out q hq).2.2.1, (HD.out q hq).2.2.2.1⟩))
                    have HB3 := Lib.hid (HB2.out.grown HGT.out HB2.out.size (fun q hq => HO3.out.blk q hq))
                    clear HT2 HB2 HGT HR32
                    go_wp2_with fail
                    go_roundg (200 - (k + 1))
                    case measure => omega
                    case rel => exact ⟨k + 1, l3, false, rfl, by omega, by go_num, ⟨_, _, HT3.out⟩, hl8, HB3.out⟩
        refine Lib.hid ?_
        clear hKR
        have HPZX2 : Hid (wr.heap.size ≠ p ∧ wr.heap.size ≠ z) := HPZX
        have HL8 : Hid (l.length ≤ 100000000) := Lib.hid (by have := HLL.out; omega)
        by_cases t0 : kind = 0
        · have tk := t0
          subst tk
          have hun : ((u.toNat : Nat) : Int) = u := by have := HWF.out.u; dsimp only at this; omega
          have hu64 : u.toNat < 18446744073709551616 := by have := HWF.out.u; dsimp only at this; omega
          have HC := Lib.hid (WI.both (f := 10) (g := 11) (xs := #[.pointer (some ⟨p, 0, none⟩), .int .u64 u]) (ys := #[.pointer (some ⟨z, 0, none⟩), .int .u64 u]) (l3 := (putL l (form u.toNat) lost true)) (lost3 := (putB lost true)) HWI5.out HB5.out rfl HPZ.out.1 HPZ.out.2 (fun v hv _ _ => by have h := puint_any w.heap.size p u.toNat v l lost w5 HB5.out.size hu64 HL8.out hv; rw [hun] at h; exact h) (fun X hX hz => by have h := zuint_new w.heap.size z u.toNat l lost X hX.size hu64 HL8.out hz; rw [hun] at h; exact h))
          have HLEN : Hid ((putL l (form u.toNat) lost true).length ≤ 400 * (k + 1)) := Lib.hid (by
            have hll := HLL.out
            have hfb := (form_len u.toNat).2
            unfold putL
            split
            · omega
            · simp; omega)
          have d0 : w5.cell? ⟨wr.heap.size, 0, none⟩ = some (.int .i64 0) := (tx_cells HROW5.out HXS.out).1
          have d1 : w5.cell? ⟨wr.heap.size, 1, none⟩ = some (.int .u64 u) := (tx_cells HROW5.out HXS.out).2.1
          obtain ⟨L3, hL3⟩ : ∃ L3, (putL l (form u.toNat) lost true) = L3 := ⟨_, rfl⟩
          obtain ⟨B3, hB3⟩ : ∃ B3, (putB lost true) = B3 := ⟨_, rfl⟩
          rw [hL3, hB3] at HC
          rw [hL3] at HLEN
          clear hL3 hB3 HWI5 HXB5 x0 x1 x2 x3 x4 x5 x6 hun hu64
          go_wp2_with fail
          refine HC.out.mono ?_
          rintro e X ⟨rfl, hbX, kx, hc2⟩
          have rx := kx _ _ _ _ HROW5.out (by decide) HPZX2.out.1
          have f1 : X.cell? ⟨wr.heap.size, 1, none⟩ = some (.int .u64 u) := (tx_cells rx HXS.out).2.1
          have HC2 := Lib.hid hc2
          clear hbX kx hc2 rx HC d0 d1
          go_wp2_with fail
          refine HC2.out.mono ?_
          rintro e Y ⟨rfl, hwi, hbY, ky⟩
          have HWY := Lib.hid hwi
          have HBY := Lib.hid hbY
          have HRY := Lib.hid (ky _ _ _ _ HROW5.out (by decide) HPZX2.out.1 HPZX2.out.2)
          clear hwi hbY ky HC2 f1
          go_wp2_with fail
          exact HT _ rfl L3 B3 Y HWY HLEN.out HBY HRY
        · skip
          by_cases t1 : kind = 1
          · have tk := t1
            subst tk
            have e0 : (((1 : Int)) == 0) = false := rfl
            have HC := Lib.hid (WI.both (f := 12) (g := 13) (xs := #[.pointer (some ⟨p, 0, none⟩), .int .i64 i]) (ys := #[.pointer (some ⟨z, 0, none⟩), .int .i64 i]) (l3 := (putL l (form (fold i)) lost true)) (lost3 := (putB lost true)) HWI5.out HB5.out rfl HPZ.out.1 HPZ.out.2 (fun v hv _ _ => pint_any w.heap.size p i v l lost w5 HB5.out.size HWF.out.i.1 HWF.out.i.2 HL8.out hv) (fun X hX hz => zint_new w.heap.size z i l lost X hX.size HWF.out.i.1 HWF.out.i.2 HL8.out hz))
            have HLEN : Hid ((putL l (form (fold i)) lost true).length ≤ 400 * (k + 1)) := Lib.hid (by
              have hll := HLL.out
              have hfb := (form_len (fold i)).2
              unfold putL
              split
              · omega
              · simp; omega)
            have d0 : w5.cell? ⟨wr.heap.size, 0, none⟩ = some (.int .i64 1) := (tx_cells HROW5.out HXS.out).1
            have d2 : w5.cell? ⟨wr.heap.size, 2, none⟩ = some (.int .i64 i) := (tx_cells HROW5.out HXS.out).2.2.1
            obtain ⟨L3, hL3⟩ : ∃ L3, (putL l (form (fold i)) lost true) = L3 := ⟨_, rfl⟩
            obtain ⟨B3, hB3⟩ : ∃ B3, (putB lost true) = B3 := ⟨_, rfl⟩
            rw [hL3, hB3] at HC
            rw [hL3] at HLEN
            clear hL3 hB3 HWI5 HXB5 x0 x1 x2 x3 x4 x5 x6 
            go_wp2_with fail
            refine HC.out.mono ?_
            rintro e X ⟨rfl, hbX, kx, hc2⟩
            have rx := kx _ _ _ _ HROW5.out (by decide) HPZX2.out.1
            have f2 : X.cell? ⟨wr.heap.size, 2, none⟩ = some (.int .i64 i) := (tx_cells rx HXS.out).2.2.1
            have HC2 := Lib.hid hc2
            clear hbX kx hc2 rx HC d0 d2
            go_wp2_with fail
            refine HC2.out.mono ?_
            rintro e Y ⟨rfl, hwi, hbY, ky⟩
            have HWY := Lib.hid hwi
            have HBY := Lib.hid hbY
            have HRY := Lib.hid (ky _ _ _ _ HROW5.out (by decide) HPZX2.out.1 HPZX2.out.2)
            clear hwi hbY ky HC2 f2
            go_wp2_with fail
            exact HT _ rfl L3 B3 Y HWY HLEN.out HBY HRY
          · skip
            by_cases t2 : kind = 2
            · have tk := t2
              subst tk
              have e0 : (((2 : Int)) == 0) = false := rfl
              have e1 : (((2 : Int)) == 1) = false := rfl
              have HC := Lib.hid (WI.both (f := 14) (g := 15) (xs := #[.pointer (some ⟨p, 0, none⟩), .int .i64 n, .int .i64 most]) (ys := #[.pointer (some ⟨z, 0, none⟩), .int .i64 n, .int .i64 most]) (l3 := (putL l (form n.toNat) lost (mayB n most))) (lost3 := (putB lost (mayB n most))) HWI5.out HB5.out rfl HPZ.out.1 HPZ.out.2 (fun v hv _ _ => psmall_any w.heap.size p n most v l lost w5 HB5.out.size HWF.out.n.1 HWF.out.n.2 HL8.out hv) (fun X hX hz => zsmall_new w.heap.size z n most l lost X hX.size HWF.out.n.1 HWF.out.n.2 HL8.out hz))
              have HLEN : Hid ((putL l (form n.toNat) lost (mayB n most)).length ≤ 400 * (k + 1)) := Lib.hid (by
                have hll := HLL.out
                have hfb := (form_len n.toNat).2
                unfold putL
                split
                · omega
                · simp; omega)
              have d0 : w5.cell? ⟨wr.heap.size, 0, none⟩ = some (.int .i64 2) := (tx_cells HROW5.out HXS.out).1
              have d3 : w5.cell? ⟨wr.heap.size, 3, none⟩ = some (.int .i64 n) := (tx_cells HROW5.out HXS.out).2.2.2.1
              have d4 : w5.cell? ⟨wr.heap.size, 4, none⟩ = some (.int .i64 most) := (tx_cells HROW5.out HXS.out).2.2.2.2.1
              obtain ⟨L3, hL3⟩ : ∃ L3, (putL l (form n.toNat) lost (mayB n most)) = L3 := ⟨_, rfl⟩
              obtain ⟨B3, hB3⟩ : ∃ B3, (putB lost (mayB n most)) = B3 := ⟨_, rfl⟩
              rw [hL3, hB3] at HC
              rw [hL3] at HLEN
              clear hL3 hB3 HWI5 HXB5 x0 x1 x2 x3 x4 x5 x6 
              go_wp2_with fail
              refine HC.out.mono ?_
              rintro e X ⟨rfl, hbX, kx, hc2⟩
              have rx := kx _ _ _ _ HROW5.out (by decide) HPZX2.out.1
              have f3 : X.cell? ⟨wr.heap.size, 3, none⟩ = some (.int .i64 n) := (tx_cells rx HXS.out).2.2.2.1
              have f4 : X.cell? ⟨wr.heap.size, 4, none⟩ = some (.int .i64 most) := (tx_cells rx HXS.out).2.2.2.2.1
              have HC2 := Lib.hid hc2
              clear hbX kx hc2 rx HC d0 d3 d4
              go_wp2_with fail
              refine HC2.out.mono ?_
              rintro e Y ⟨rfl, hwi, hbY, ky⟩
              have HWY := Lib.hid hwi
              have HBY := Lib.hid hbY
              have HRY := Lib.hid (ky _ _ _ _ HROW5.out (by decide) HPZX2.out.1 HPZX2.out.2)
              clear hwi hbY ky HC2 f3 f4
              go_wp2_with fail
              exact HT _ rfl L3 B3 Y HWY HLEN.out HBY HRY
            · skip
              by_cases t3 : kind = 3
              · have tk := t3
                subst tk
                have e0 : (((3 : Int)) == 0) = false := rfl
                have e1 : (((3 : Int)) == 1) = false := rfl
                have e2 : (((3 : Int)) == 2) = false := rfl
                have HC := Lib.hid (WI.both (f := 16) (g := 17) (xs := #[.pointer (some ⟨p, 0, none⟩), .bool is]) (ys := #[.pointer (some ⟨z, 0, none⟩), .bool is]) (l3 := (putL l ([if is = true then 1 else 0]) lost true)) (lost3 := (putB lost true)) HWI5.out HB5.out rfl HPZ.out.1 HPZ.out.2 (fun v hv _ _ => pbit_any w.heap.size p is v l lost w5 HB5.out.size HL8.out hv) (fun X hX hz => zbit_new w.heap.size z is l lost X hX.size HL8.out hz))
                have HLEN : Hid ((putL l ([if is = true then 1 else 0]) lost true).length ≤ 400 * (k + 1)) := Lib.hid (by
                  have hll := HLL.out
                  skip
                  unfold putL
                  split
                  · omega
                  · simp; omega)
                have d0 : w5.cell? ⟨wr.heap.size, 0, none⟩ = some (.int .i64 3) := (tx_cells HROW5.out HXS.out).1
                have d5 : w5.cell? ⟨wr.heap.size, 5, none⟩ = some (.bool is) := (tx_cells HROW5.out HXS.out).2.2.2.2.2.1
                obtain ⟨L3, hL3⟩ : ∃ L3, (putL l ([if is = true then 1 else 0]) lost true) = L3 := ⟨_, rfl⟩
                obtain ⟨B3, hB3⟩ : ∃ B3, (putB lost true) = B3 := ⟨_, rfl⟩
                rw [hL3, hB3] at HC
                rw [hL3] at HLEN
                clear hL3 hB3 HWI5 HXB5 x0 x1 x2 x3 x4 x5 x6 
                go_wp2_with fail
                refine HC.out.mono ?_
                rintro e X ⟨rfl, hbX, kx, hc2⟩
                have rx := kx _ _ _ _ HROW5.out (by decide) HPZX2.out.1
                have f5 : X.cell? ⟨wr.heap.size, 5, none⟩ = some (.bool is) := (tx_cells rx HXS.out).2.2.2.2.2.1
                have HC2 := Lib.hid hc2
                clear hbX kx hc2 rx HC d0 d5
                go_wp2_with fail
                refine HC2.out.mono ?_
                rintro e Y ⟨rfl, hwi, hbY, ky⟩
                have HWY := Lib.hid hwi
                have HBY := Lib.hid hbY
                have HRY := Lib.hid (ky _ _ _ _ HROW5.out (by decide) HPZX2.out.1 HPZX2.out.2)
                clear hwi hbY ky HC2 f5
                go_wp2_with fail
                exact HT _ rfl L3 B3 Y HWY HLEN.out HBY HRY
              · skip
                by_cases t4 : kind = 4
                · have tk := t4
                  subst tk
                  have e0 : (((4 : Int)) == 0) = false := rfl
                  have e1 : (((4 : Int)) == 1) = false := rfl
                  have e2 : (((4 : Int)) == 2) = false := rfl
                  have e3 : (((4 : Int)) == 3) = false := rfl
                  have HC := Lib.hid (WI.both (f := 18) (g := 19) (xs := #[.pointer (some ⟨p, 0, none⟩), vo, .int .i64 most]) (ys := #[.pointer (some ⟨z, 0, none⟩), .slice bo bl.length bc, .int .i64 most]) (l3 := (putL l (form bl.length ++ bl) lost (mayB (bl.length : Int) most))) (lost3 := (putB lost (mayB (bl.length : Int) most))) HWI5.out HB5.out rfl HPZ.out.1 HPZ.out.2 (fun v hv hd ho => by
                        obtain ⟨oo, co, rfl, hbo, _, _, hno, hao⟩ := ho.open
                        exact ptext_any w.heap.size p oo co bl most v l lost w5 HB5.out.size (by have := HL8.out; have := HLL.out; omega) (by omega) hno hbo (fun b2 of2 e2 hm2 => by
                          subst e2
                          obtain ⟨g, e3, _, hg3, _⟩ := hao _ rfl
                          cases e3
                          obtain ⟨h4, h5⟩ := hd b2 rfl
                          exact ⟨h4, h5, hg3⟩) hv) (fun X hX hz => ztext_new w.heap.size z bl most l lost (mayB (bl.length : Int) most) bo bc X hX.size (by unfold mayB; congr 1; apply propext; constructor; exact fun h => ⟨by omega, h⟩; exact fun h => h.2) HN0.out (HXB0.out X hX) (by omega) HL8.out hz))
                  have HLEN : Hid ((putL l (form bl.length ++ bl) lost (mayB (bl.length : Int) most)).length ≤ 400 * (k + 1)) := Lib.hid (by
                    have hll := HLL.out
                    have hfb := (form_len bl.length).2
                    unfold putL
                    split
                    · omega
                    · simp; omega)
                  have d0 : w5.cell? ⟨wr.heap.size, 0, none⟩ = some (.int .i64 4) := (tx_cells HROW5.out HXS.out).1
                  have d6 : w5.cell? ⟨wr.heap.size, 6, none⟩ = some (.slice bo bl.length bc) := (tx_cells HROW5.out HXS.out).2.2.2.2.2.2
                  have d4 : w5.cell? ⟨wr.heap.size, 4, none⟩ = some (.int .i64 most) := (tx_cells HROW5.out HXS.out).2.2.2.2.1
                  obtain ⟨L3, hL3⟩ : ∃ L3, (putL l (form bl.length ++ bl) lost (mayB (bl.length : Int) most)) = L3 := ⟨_, rfl⟩
                  obtain ⟨B3, hB3⟩ : ∃ B3, (putB lost (mayB (bl.length : Int) most)) = B3 := ⟨_, rfl⟩
                  rw [hL3, hB3] at HC
                  rw [hL3] at HLEN
                  clear hL3 hB3 HWI5 HXB5 x0 x1 x2 x3 x4 x5 x6 
                  go_wp2_with fail
                  refine HC.out.mono ?_
                  rintro e X ⟨rfl, hbX, kx, hc2⟩
                  have rx := kx _ _ _ _ HROW5.out (by decide) HPZX2.out.1
                  have f6 : X.cell? ⟨wr.heap.size, 6, none⟩ = some (.slice bo bl.length bc) := (tx_cells rx HXS.out).2.2.2.2.2.2
                  have f4 : X.cell? ⟨wr.heap.size, 4, none⟩ = some (.int .i64 most) := (tx_cells rx HXS.out).2.2.2.2.1
                  have HC2 := Lib.hid hc2
                  clear hbX kx hc2 rx HC d0 d6 d4
                  go_wp2_with fail
                  refine HC2.out.mono ?_
                  rintro e Y ⟨rfl, hwi, hbY, ky⟩
                  have HWY := Lib.hid hwi
                  have HBY := Lib.hid hbY
                  have HRY := Lib.hid (ky _ _ _ _ HROW5.out (by decide) HPZX2.out.1 HPZX2.out.2)
                  clear hwi hbY ky HC2 f6 f4
                  go_wp2_with fail
                  exact HT _ rfl L3 B3 Y HWY HLEN.out HBY HRY
                · skip
                  have e0 : (kind == 0) = false := by simpa using t0
                  have e1 : (kind == 1) = false := by simpa using t1
                  have e2 : (kind == 2) = false := by simpa using t2
                  have e3 : (kind == 3) = false := by simpa using t3
                  have e4 : (kind == 4) = false := by simpa using t4
                  have d0 : w5.cell? ⟨wr.heap.size, 0, none⟩ = some (.int .i64 kind) := (tx_cells HROW5.out HXS.out).1
                  clear x0 x1 x2 x3 x4 x5 x6
                  go_wp2_with fail
                  exact HT _ rfl l lost w5 HWI5 (by have := HLL.out; omega) HB5 HROW5
      · have k1 : ¬ (k : Int) < (a0.length : Int) := by omega
        clear HWI
        go_wp2_with fail
        go_ret
        exact ⟨rfl, HB.out⟩
end Go.Proofs.Ytpbidfmijliehaa.Fx
