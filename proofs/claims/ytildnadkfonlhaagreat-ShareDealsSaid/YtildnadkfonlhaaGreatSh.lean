/- All IDs of a scene, rising: the document's IDs, walked. -/
import Derived.Test.YtildnadkfonlhaaGreatProg
import Derived.Test.YtildnadkfonlhaaGreatSg
import Derived.BigQuiet
set_option linter.unusedVariables false
set_option linter.unusedSimpArgs false
namespace Go.Proofs.YtildnadkfonlhaaGreat.Fx
open Go Go.RowKit
def part (a : Int) (zs : List Int) (i : Nat) (dn : Bool) : List Int := if dn = true then ins a (zs.take i) else zs.take i
structure PartOk (a : Int) (zs : List Int) (i : Nat) (dn : Bool) : Prop where
  no : dn = false → ∀ z ∈ zs.take i, z ≤ a
  yes : dn = true → ∃ z ∈ zs.take i, a < z
theorem part_len (a : Int) (zs : List Int) (i : Nat) (dn : Bool) (hi : i ≤ zs.length) : (part a zs i dn).length ≤ i + 1 := by
  unfold part
  split
  · rw [ins_len, List.length_take]; omega
  · rw [List.length_take]; omega
theorem take_snoc {zs : List Int} {i : Nat} (hi : i < zs.length) : zs.take (i + 1) = zs.take i ++ [zs.getD i 0] := by
  rw [List.take_add_one, List.getD_eq_getElem?_getD, List.getElem?_eq_getElem hi]
  rfl
/-- one more that is not greater, or behind what was put -/
theorem part_keep {a : Int} {zs : List Int} {i : Nat} {dn : Bool} (hi : i < zs.length) (h : PartOk a zs i dn) (hz : dn = true ∨ zs.getD i 0 ≤ a) : part a zs (i + 1) dn = part a zs i dn ++ [zs.getD i 0] ∧ PartOk a zs (i + 1) dn := by
  unfold part
  rw [take_snoc hi]
  cases dn
  · refine ⟨rfl, ⟨fun _ z hz' => ?_, fun h => (by cases h)⟩⟩
    rw [take_snoc hi] at hz'
    rcases List.mem_append.1 hz' with hz' | hz'
    · exact h.no rfl z hz'
    · obtain rfl := List.mem_singleton.1 hz'
      exact hz.resolve_left (by simp)
  · refine ⟨?_, ⟨fun h => (by cases h), fun _ => ?_⟩⟩
    · rw [if_pos rfl, if_pos rfl]
      exact ins_snoc_gt (h.yes rfl)
    · obtain ⟨z, h1, h2⟩ := h.yes rfl
      exact ⟨z, by rw [take_snoc hi]; exact List.mem_append_left _ h1, h2⟩
/-- it is put here -/
theorem part_put {a : Int} {zs : List Int} {i : Nat} (hi : i < zs.length) (h : PartOk a zs i false) (hz : a < zs.getD i 0) : part a zs (i + 1) true = part a zs i false ++ [a] ++ [zs.getD i 0] ∧ PartOk a zs (i + 1) true := by
  unfold part
  rw [take_snoc hi, if_pos rfl, if_neg (by simp), ins_snoc_le (h.no rfl) hz]
  exact ⟨rfl, ⟨fun h => (by cases h), fun _ => ⟨zs.getD i 0, by rw [take_snoc hi]; simp, hz⟩⟩⟩
theorem part_end {a : Int} {zs : List Int} {dn : Bool} (h : PartOk a zs zs.length dn) : (if dn = true then part a zs zs.length dn else part a zs zs.length dn ++ [a]) = ins a zs := by
  unfold part
  rw [List.take_length]
  cases dn
  · have := h.no rfl
    rw [List.take_length] at this
    rw [if_neg (by simp), if_neg (by simp), ins_le this]
  · rw [if_pos rfl, if_pos rfl]
theorem app_num {ops : Array Oper} {rest : List Oper} {o : Oper} {a : Act} {Q : Exit → Act → World → Prop} {W : World} (hgd : o.guard = none) (sx x : Operand)
    (ho : o.op = .call { callee := .builtin .append, args := #[sx, x], argTypes := #[29, 29] })
    (V : World) (v : Value) (L : List Int) (z : Int) (hs : a.eval sx = v) (hb : Below V.heap.size V W) (hown : OwnN W V.heap.size v L) (hL : L.length ≤ 100000) (c : Nat) (hx : a.eval x = .slice (some ⟨W.heap.size, 0, none⟩) 1 c)
    (h : ∀ v' X, OwnN X V.heap.size v' (L ++ [z]) → Below V.heap.size V X → wpList Tryz.prog ops Q rest (a.put o.dst v') X) :
    wpList Tryz.prog ops Q (o :: rest) a (W.alloc (.cells #[.int .i64 z] 3)) := by
  obtain ⟨i0, hi, hz0, hz1, hz2⟩ := info_parts infoN
  have hba : Below V.heap.size V (W.alloc (.cells #[.int .i64 z] 3)) := Below.alloc hb hb.size _
  refine wpList_append_own _ hgd sx x 29 ho V.heap.size 3 i0 (.int .i64 0) 1 8 Tryz.underlying29 hi hz0 hz1 hz2 rfl (by decide) v L.length (L.map encI) hs (hown.alloc _) ⟨W.heap.size, 0, none⟩ 1 c [.int .i64 z] hx rfl (cell_one_newN _ _ _) (by simp [Value.oneCell']) (by unfold maxLen; omega) (by omega) hba.size ?_
  intro v' w3 h1 h2 _
  exact h v' w3 (by unfold OwnN; rw [List.length_append, List.map_append]; exact h1) (below_grown2 (Nat.le_refl _) hba h2 hown.blk)
def IoRel (s : ScR) (V : World) (n : Nat) (g : Nat) (s3 s4 : Value) (W : World) : Prop :=
  ∃ (k : Nat) (zs : List Int), g = n - k ∧ s4 = .int .i64 (k : Int) ∧ k ≤ n ∧ zs = idsZ (s.os.take k) ∧ zs.length = k ∧ Below V.heap.size V W ∧ OwnN W V.heap.size s3 zs
def IiRel (a : Int) (zs : List Int) (V0 : World) (m : Nat) (g : Nat) (s5 s6 s7 : Value) (W : World) : Prop :=
  ∃ (i : Nat) (dn : Bool), g = m - i ∧ s6 = .bool dn ∧ s7 = .int .i64 (i : Int) ∧ i ≤ m ∧ PartOk a zs i dn ∧ Below V0.heap.size V0 W ∧ OwnN W V0.heap.size s5 (part a zs i dn)
def RetIDs (l : List Int) (w : World) (e : Ending) (w' : World) : Prop := ∃ v, e = .returned v ∧ OwnN w' (w.heap.size + 1) v l ∧ Below w.heap.size w w'
set_option maxRecDepth 100000 in
set_option maxHeartbeats 4000000 in
theorem zids_any (s : ScR) (w : World) (hs : ScWf s) (h : ObjsAt w s.oo s.os) (hl : s.os.length ≤ 1000) :
    Calls Tryz.prog 22 #[.agg (scC s)] w (RetIDs (idsZ s.os) w) := by
  obtain ⟨i0, hi, hz0, hz1, hz2⟩ := info_parts infoN
  have HI := Lib.hid (WrI.new h)
  have HS := Lib.hid hs
  have c18 : (w.alloc (.cells (scC s) 28)).cell? ⟨w.heap.size, 18, none⟩ = some (.slice s.oo s.os.length s.oc) := HI.out.sc.c18 hs
  have hsz : (w.alloc (.cells (scC s) 28)).heap.size = w.heap.size + 1 := World.size_alloc _ _
  have HSZ := Lib.hid hsz
  obtain ⟨n, hn⟩ : ∃ n, s.os.length = n := ⟨_, rfl⟩
  have HN := Lib.hid hn
  rw [hn] at c18 hl
  have n0 : (0 : Int) ≤ (n : Int) := by omega
  have n1 : (n : Int) ≤ 1000 := by omega
  have HL := Lib.hid hl
  clear hn hs h hl hsz
  go_enter Tryz.func22, Tryz.ntmps22
  go_wp2_with fail
  clear c18
  generalize (w.alloc (.cells (scC s) 28)) = V at HI HSZ ⊢
  go_loopg [3, 4] n (IoRel s V n)
  case atStart => exact ⟨0, [], rfl, rfl, by omega, rfl, rfl, Below.refl _ _, World.ownsRow_nil _ _ _ _⟩
  case round =>
    obtain ⟨k, zs, hg, rfl, hk, hzs, hzl, hbl, hown⟩ := hrel
    subst hg
    obtain ⟨oz, cz, rfl, hat, hml⟩ := hown.form
    have HAT := Lib.hid hat
    have HOW := Lib.hid (show OwnN wr V.heap.size (.slice oz k cz) zs by rw [← hzl]; exact hown)
    have HB := Lib.hid hbl
    have HZS := Lib.hid hzs
    have HZL := Lib.hid hzl
    have c18 := (HI.out.up hbl).sc.c18 HS.out
    rw [HN.out] at c18
    have k0 : (0 : Int) ≤ (k : Int) := by omega
    clear hzs hbl hown hat hml
    by_cases hkn : k < n
    · have t1 : (k : Int) < (n : Int) := by omega
      obtain ⟨x, hx⟩ : ∃ x, s.os[k]? = some x := ⟨_, List.getElem?_eq_getElem (by rw [HN.out]; exact hkn)⟩
      have HNX : Hid (idsZ (s.os.take (k + 1)) = ins x.id zs) := Lib.hid (by rw [List.take_add_one, hx, HZS.out]; exact idsZ_snoc _ _)
      obtain ⟨b, off, e, hob⟩ := HI.out.ob k x hx
      have HC0 := Lib.hid hob.c0
      have EO := Lib.hid e
      generalize x.id = a at HNX HC0
      rw [hzl]
      have m0 : (0 : Int) ≤ (k : Int) := by omega
      clear hx hob e hzl
      go_wp2_with fail
      generalize wr = wr' at HAT HOW HB c18 ⊢
      go_loopg [5, 6, 7] k (IiRel a zs wr' k)
      case atStart => exact ⟨0, false, rfl, rfl, rfl, by omega, ⟨fun _ z hz => (by simp at hz), fun h => (by cases h)⟩, Below.refl _ _, World.ownsRow_nil _ _ _ _⟩
      case round =>
        obtain ⟨i, dn, hg, rfl, rfl, hik, hp, hbl2, how2⟩ := hrel
        subst hg
        have HP := Lib.hid hp
        have HB2 := Lib.hid hbl2
        have HOW2 := Lib.hid how2
        clear hp hbl2 how2
        have i0' : (0 : Int) ≤ (i : Int) := by omega
        by_cases him : i < k
        · have t2 : (i : Int) < (k : Int) := by omega
          have hiz : i < zs.length := by rw [HZL.out]; exact him
          obtain ⟨gz, fz, ez, dz0⟩ := HAT.out i hiz
          subst ez
          have HCE : Hid (∀ X, Below wr'.heap.size wr' X → X.cell? ⟨gz, fz + i, none⟩ = some (.int .i64 (zs.getD i 0)) ∧ X.cell? ⟨w.heap.size, 18, none⟩ = some (.slice (some ⟨b, off, none⟩) n s.oc) ∧ X.cell? ⟨b, off + k * 19, none⟩ = some (.int .i64 a)) := Lib.hid (fun X hX => by
            have h18 := (HI.out.up (bnext HB.out hX)).sc.c18 HS.out
            rw [HN.out, EO.out] at h18
            exact ⟨keep_cell hX dz0, h18, keep_cell (bnext HB.out hX) HC0.out⟩)
          have HLE : Hid ((part a zs i dn).length ≤ 90000) := Lib.hid (by have := part_len a zs i dn (by omega); have := HL.out; omega)
          clear dz0
          obtain ⟨d1, d2, d3⟩ := HCE.out _ HB2.out
          have HKEEP : Hid (dn = true ∨ zs.getD i 0 ≤ a → part a zs (i + 1) dn = part a zs i dn ++ [zs.getD i 0] ∧ PartOk a zs (i + 1) dn) := Lib.hid (part_keep hiz HP.out)
          have HPUT : Hid (dn = false → a < zs.getD i 0 → part a zs (i + 1) true = part a zs i false ++ [a] ++ [zs.getD i 0] ∧ PartOk a zs (i + 1) true) := Lib.hid (fun h h2 => part_put hiz (by have := HP.out; rw [h] at this; exact this) h2)
          generalize zs.getD i 0 = y at HCE d1 HKEEP HPUT
          clear c18 hiz
          cases dn
          · by_cases hay : a < y
            · obtain ⟨hp1, hp2⟩ := HPUT.out rfl hay
              have HP1 := Lib.hid hp1
              have HP2 := Lib.hid hp2
              clear hp1 hp2 HPUT HKEEP
              go_wp2_with fail
              go_quiet (fail)
              generalize hW4 : World.drewN _ _ = W4
              have HB4 := Lib.hid (show Below wr.heap.size wr W4 by rw [← hW4]; exact bdrewN _ (Below.refl _ _))
              have HB5 := Lib.hid (bnext HB2.out HB4.out)
              have HO4 := Lib.hid (HOW2.out.below HB4.out)
              clear hW4 d1 d2 d3
              obtain ⟨d1, d2, d3⟩ := HCE.out _ HB5.out
              go_wp2_with (first | (at_builtin; refine app_num rfl _ _ rfl _ u5 _ a rfl HB5.out HO4.out (by have := HLE.out; omega) 1 rfl ?_; intro v3 w3 ho3 hb3; clear d1 d2 d3; obtain ⟨e1, e2, e3⟩ := HCE.out _ hb3; have HO6 := Lib.hid ho3; have HB6 := Lib.hid hb3; clear ho3 hb3) | (at_builtin; refine app_num rfl _ _ rfl _ v3 _ y rfl HB6.out HO6.out (by rw [List.length_append]; have := HLE.out; simp only [List.length_cons, List.length_nil]; omega) 1 rfl ?_; intro v5 w5 ho5 hb5))
              have HO7 := Lib.hid ho5
              have HB7 := Lib.hid hb5
              clear ho5 hb5
              go_roundg (k - (i + 1))
              case measure => omega
              case rel => exact ⟨i + 1, true, rfl, rfl, by go_num, by omega, HP2.out, HB7.out, by rw [HP1.out]; exact HO7.out⟩
            · obtain ⟨hp1, hp2⟩ := HKEEP.out (Or.inr (by omega))
              have HP1 := Lib.hid hp1
              have HP2 := Lib.hid hp2
              clear hp1 hp2 HPUT HKEEP
              go_wp2_with fail
              go_quiet (fail)
              generalize hW4 : World.drewN _ _ = W4
              have HB4 := Lib.hid (show Below wr.heap.size wr W4 by rw [← hW4]; exact bdrewN _ (Below.refl _ _))
              have HB5 := Lib.hid (bnext HB2.out HB4.out)
              have HO4 := Lib.hid (HOW2.out.below HB4.out)
              clear hW4 d1 d2 d3
              obtain ⟨d1, d2, d3⟩ := HCE.out _ HB5.out
              go_wp2_with (at_builtin; refine app_num rfl _ _ rfl _ u5 _ y rfl HB5.out HO4.out (by have := HLE.out; omega) 1 rfl ?_; intro v5 w5 ho5 hb5)
              have HO7 := Lib.hid ho5
              have HB7 := Lib.hid hb5
              clear ho5 hb5
              go_roundg (k - (i + 1))
              case measure => omega
              case rel => exact ⟨i + 1, false, rfl, rfl, by go_num, by omega, HP2.out, HB7.out, by rw [HP1.out]; exact HO7.out⟩
          · obtain ⟨hp1, hp2⟩ := HKEEP.out (Or.inl rfl)
            have HP1 := Lib.hid hp1
            have HP2 := Lib.hid hp2
            clear hp1 hp2 HPUT HKEEP
            go_wp2_with fail
            go_quiet (fail)
            generalize hW4 : World.drewN _ _ = W4
            have HB4 := Lib.hid (show Below wr.heap.size wr W4 by rw [← hW4]; exact bdrewN _ (Below.refl _ _))
            have HB5 := Lib.hid (bnext HB2.out HB4.out)
            have HO4 := Lib.hid (HOW2.out.below HB4.out)
            clear hW4 d1 d2 d3
            obtain ⟨d1, d2, d3⟩ := HCE.out _ HB5.out
            go_wp2_with (at_builtin; refine app_num rfl _ _ rfl _ u5 _ y rfl HB5.out HO4.out (by have := HLE.out; omega) 1 rfl ?_; intro v5 w5 ho5 hb5)
            have HO7 := Lib.hid ho5
            have HB7 := Lib.hid hb5
            clear ho5 hb5
            go_roundg (k - (i + 1))
            case measure => omega
            case rel => exact ⟨i + 1, true, rfl, rfl, by go_num, by omega, HP2.out, HB7.out, by rw [HP1.out]; exact HO7.out⟩
        · obtain rfl : i = k := by omega
          have t2 : ¬ (i : Int) < (i : Int) := by omega
          have HEND := Lib.hid (part_end (by have := HP.out; rw [← HZL.out] at this; exact this))
          rw [HZL.out] at HEND
          have HLE : Hid ((part a zs i dn).length ≤ 90000) := Lib.hid (by have := part_len a zs i dn (by have := HZL.out; omega); have := HL.out; omega)
          have h18 := (HI.out.up (bnext HB.out HB2.out)).sc.c18 HS.out
          rw [HN.out, EO.out] at h18
          have d3 := keep_cell (bnext HB.out HB2.out) HC0.out
          have HVS := HB.out.size
          clear c18
          cases dn
          · go_wp2_with (at_builtin; refine app_num rfl _ _ rfl _ u5 _ a rfl HB2.out HOW2.out (by have := HLE.out; omega) 1 rfl ?_; intro v5 w5 ho5 hb5)
            have HO7 := Lib.hid ho5
            have HB7 := Lib.hid hb5
            clear ho5 hb5
            go_roundg (n - (i + 1))
            case measure => omega
            case rel => exact ⟨i + 1, ins a zs, rfl, by go_num, by omega, HNX.out.symm, by rw [ins_len, HZL.out], bnext HB.out HB7.out, by rw [← HEND.out]; exact (HO7.out.base HVS)⟩
          · go_wp2_with fail
            go_roundg (n - (i + 1))
            case measure => omega
            case rel => exact ⟨i + 1, ins a zs, rfl, by go_num, by omega, HNX.out.symm, by rw [ins_len, HZL.out], bnext HB.out HB2.out, by rw [← HEND.out]; exact (HOW2.out.base HVS)⟩
    · obtain rfl : k = n := by omega
      have t1 : ¬ (k : Int) < (k : Int) := by omega
      have HE : Hid (idsZ s.os = zs) := Lib.hid (by rw [HZS.out, List.take_of_length_le (by rw [HN.out]; omega)])
      go_wp2_with fail
      go_ret
      exact ⟨_, rfl, by rw [HE.out, ← HSZ.out]; exact HOW.out, bnext HI.out.bel HB.out⟩
end Go.Proofs.YtildnadkfonlhaaGreat.Fx
