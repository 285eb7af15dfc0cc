/- MatrixNeutral: the cases joined. -/
import Derived.Test.YtgkcbadfjhicnaaProg
import Derived.Test.YtgkcbadfjhicnaaNu1
import Derived.Test.YtgkcbadfjhicnaaNu2
import Derived.Test.YtgkcbadfjhicnaaNu3
import Derived.Test.YtgkcbadfjhicnaaNu4
import Derived.Test.YtgkcbadfjhicnaaNu5
import Derived.Test.YtgkcbadfjhicnaaNe
import Derived.Test.YtgkcbadfjhicnaaNa
import Derived.Test.YtgkcbadfjhicnaaLd
import Derived.Test.YtgkcbadfjhicnaaBb
import Derived.Test.YtgkcbadfjhicnaaR4
set_option linter.unusedVariables false
set_option linter.unusedSimpArgs false
namespace Go.Proofs.Ytgkcbadfjhicnaa.Fx
open Go Go.RowKit Go.Shelf Wm
theorem law_matrixNeutral (a b v : List Int) (la : a.length = 16) (lb : b.length = 16) (lv : v.length = 4) (w : World) :
    Calls Try.prog 8 #[.agg (mC a), .agg (mC b), .agg (mC v)] w fun e w' => e = .returned (.bool true) ∧ Below w.heap.size w w' := by
  have sz : ∀ m : List Int, m.length = 16 → (Try.prog.info? 64).map (·.size) = some (mC m).size := fun m h => by rw [size16, mC_size, h]
  have zz : ∀ m : List Int, m.length = 16 → 16 = (mC m).size := fun m h => by rw [mC_size, h]
  have S := fun m h => Lib.hid (sz m h)
  have Zh := fun m h => Lib.hid (zz m h)
  have li : idl.length = 16 := rfl
  have l0 : zero16.length = 16 := rfl
  have ev : Value.agg (mC v) = .agg #[.int .i64 (v.getD 0 0), .int .i64 (v.getD 1 0), .int .i64 (v.getD 2 0), .int .i64 (v.getD 3 0)] := by rw [list4 lv]; rfl
  have hI : Hid (Ans 41 #[] (.agg (mC idl))) := Lib.hid fun w => identity_any w
  have mul_s : ∀ x y z, x.length = 16 → y.length = 16 → mulO x y = some z → Hid (Ans 33 #[.agg (mC x), .agg (mC y)] (.tuple #[.agg (mC z), .int .i64 0])) := fun x y z hx hy e => Lib.hid fun w => by
    have := mmul_any x y w hx hy; rw [e] at this; exact this
  have mul_n : ∀ x y, x.length = 16 → y.length = 16 → mulO x y = none → Hid (Ans 33 #[.agg (mC x), .agg (mC y)] (.tuple #[.agg (mC zero16), .int .i64 30])) := fun x y hx hy e => Lib.hid fun w => by
    have := mmul_any x y w hx hy; rw [e] at this; exact this
  have hA : ∀ x, x.length = 16 → Hid (Ans 44 #[.agg (mC x)] (.agg (mC (tr x)))) := fun x hx => Lib.hid fun w => across_any x w hx
  have chk : ∀ x bb, x.length = 16 → wB 4611686018427387904 x 16 = bb → Hid (Ans 37 #[.agg (mC x), .int .i64 4611686018427387904] (.int .i64 (if bb then 0 else 30))) := fun x bb hx e => Lib.hid fun w => by
    have := check_any x 4611686018427387904 w hx (by omega) (by omega); rw [e] at this; exact this
  have app : ∀ o, apO idl v = o → Hid (Ans 35 #[.agg (mC idl), .agg #[.int .i64 (v.getD 0 0), .int .i64 (v.getD 1 0), .int .i64 (v.getD 2 0), .int .i64 (v.getD 3 0)]] (.tuple #[.agg (mC (o.getD [0, 0, 0, 0])), .int .i64 (if o.isSome then 0 else 30)])) := fun o e => Lib.hid fun w => by
    have := apply_any idl v w li lv; rw [e, ev] at this; exact this
  have fst : ∀ bb, wB 4611686018427387904 v 4 = bb → Hid (Ans 37 #[.agg (mC (first [v.getD 0 0, v.getD 1 0, v.getD 2 0, v.getD 3 0])), .int .i64 4611686018427387904] (.int .i64 (if bb then 0 else 30))) := fun bb e =>
    chk (first [v.getD 0 0, v.getD 1 0, v.getD 2 0, v.getD 3 0]) bb rfl (by rw [first_may, ← list4 lv]; exact e)
  have lp := prodL_len a b
  rw [ev]
  by_cases ha : wB 4611686018427387904 a 16 = true
  · by_cases hm : MayMul a b
    · by_cases hv : wB 4611686018427387904 v 4 = true
      · exact neutral_1 a b idl (tr a) (tr b) zero16 (prodL a b) (tr (prodL a b)) (v.getD 0 0) (v.getD 1 0) (v.getD 2 0) (v.getD 3 0) w (S _ la) (Zh _ la) (S _ lb) (Zh _ lb) (S _ li) (Zh _ li) (S _ (tr_len a)) (Zh _ (tr_len a)) (S _ (tr_len b)) (Zh _ (tr_len b)) (S _ l0) (Zh _ l0) (S _ lp) (Zh _ lp) (S _ (tr_len _)) (Zh _ (tr_len _))
          hI (mul_s _ _ _ la li (mul_one la ha)) (mul_s _ _ _ li la (one_mul la ha)) (mul_s _ _ _ la lb (mulO_may hm)) (hA a la) (hA b lb) (mul_s _ _ _ (tr_len b) (tr_len a) (mul_tr hm)) (hA _ lp) (chk a true la ha) (by have := app _ (one_ap lv hv); rw [show mC ((some v).getD [0, 0, 0, 0]) = mC v from rfl] at this; have e2 := ev; injection e2 with e3; rw [e3] at this; exact this) (fst true hv)
      · have hv2 : wB 4611686018427387904 v 4 = false := by simpa using hv
        exact neutral_2 a b idl (tr a) (tr b) zero16 (prodL a b) (tr (prodL a b)) (v.getD 0 0) (v.getD 1 0) (v.getD 2 0) (v.getD 3 0) w (S _ la) (Zh _ la) (S _ lb) (Zh _ lb) (S _ li) (Zh _ li) (S _ (tr_len a)) (Zh _ (tr_len a)) (S _ (tr_len b)) (Zh _ (tr_len b)) (S _ l0) (Zh _ l0) (S _ lp) (Zh _ lp) (S _ (tr_len _)) (Zh _ (tr_len _))
          hI (mul_s _ _ _ la li (mul_one la ha)) (mul_s _ _ _ li la (one_mul la ha)) (mul_s _ _ _ la lb (mulO_may hm)) (hA a la) (hA b lb) (mul_s _ _ _ (tr_len b) (tr_len a) (mul_tr hm)) (hA _ lp) (chk a true la ha) (app _ (one_ap_no hv2)) (fst false hv2)
    · by_cases hv : wB 4611686018427387904 v 4 = true
      · exact neutral_3 a b idl (tr a) (tr b) zero16 (v.getD 0 0) (v.getD 1 0) (v.getD 2 0) (v.getD 3 0) w (S _ la) (Zh _ la) (S _ lb) (Zh _ lb) (S _ li) (Zh _ li) (S _ (tr_len a)) (Zh _ (tr_len a)) (S _ (tr_len b)) (Zh _ (tr_len b)) (S _ l0) (Zh _ l0)
          hI (mul_s _ _ _ la li (mul_one la ha)) (mul_s _ _ _ li la (one_mul la ha)) (mul_n _ _ la lb (mulO_not hm)) (hA a la) (hA b lb) (mul_n _ _ (tr_len b) (tr_len a) (mul_tr_no hm)) (chk a true la ha) (by have := app _ (one_ap lv hv); rw [show mC ((some v).getD [0, 0, 0, 0]) = mC v from rfl] at this; have e2 := ev; injection e2 with e3; rw [e3] at this; exact this) (fst true hv)
      · have hv2 : wB 4611686018427387904 v 4 = false := by simpa using hv
        exact neutral_4 a b idl (tr a) (tr b) zero16 (v.getD 0 0) (v.getD 1 0) (v.getD 2 0) (v.getD 3 0) w (S _ la) (Zh _ la) (S _ lb) (Zh _ lb) (S _ li) (Zh _ li) (S _ (tr_len a)) (Zh _ (tr_len a)) (S _ (tr_len b)) (Zh _ (tr_len b)) (S _ l0) (Zh _ l0)
          hI (mul_s _ _ _ la li (mul_one la ha)) (mul_s _ _ _ li la (one_mul la ha)) (mul_n _ _ la lb (mulO_not hm)) (hA a la) (hA b lb) (mul_n _ _ (tr_len b) (tr_len a) (mul_tr_no hm)) (chk a true la ha) (app _ (one_ap_no hv2)) (fst false hv2)
  · have ha2 : wB 4611686018427387904 a 16 = false := by simpa using ha
    have hm : ¬ MayMul a b := fun h => ha h.1
    exact neutral_5 a b idl (tr a) (tr b) zero16 (v.getD 0 0) (v.getD 1 0) (v.getD 2 0) (v.getD 3 0) w (S _ la) (Zh _ la) (S _ lb) (Zh _ lb) (S _ li) (Zh _ li) (S _ (tr_len a)) (Zh _ (tr_len a)) (S _ (tr_len b)) (Zh _ (tr_len b)) (S _ l0) (Zh _ l0)
      hI (mul_n _ _ la li (mul_one_no ha2)) (mul_n _ _ li la (one_mul_no ha2)) (mul_n _ _ la lb (mulO_not hm)) (hA a la) (hA b lb) (mul_n _ _ (tr_len b) (tr_len a) (mul_tr_no hm)) (chk a false la ha2)
end Go.Proofs.Ytgkcbadfjhicnaa.Fx
