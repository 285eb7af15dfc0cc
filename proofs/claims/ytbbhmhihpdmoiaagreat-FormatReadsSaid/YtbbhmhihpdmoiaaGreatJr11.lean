import Derived.Test.YtbbhmhihpdmoiaaGreatJr09
set_option linter.unusedVariables false
set_option linter.unusedSimpArgs false
set_option maxRecDepth 100000
set_option maxHeartbeats 32000000
namespace Go.Proofs.YtbbhmhihpdmoiaaGreat
namespace Fx
open Go Go.RowKit Wm
theorem Lg (xh yh H:Int) (xl yl n m p q b b2:Nat) (w:World) (r1:lV 182 xl yl n b) (r2:Words 182 p q b m b2)
  (e1:IntKind.u64.wrap xh=(p:Int)) (e2:IntKind.u64.wrap yh=(q:Int)) (e3:IntKind.i64.wrap (m:Int)=H)
  (Hx:Hid (decide (xh < 0)=true)) (Hy:Hid (decide (yh < 0)=true)) (HH:Hid (decide (H < 0)=true)) :
  Calls Tryz.prog 172 #[.agg #[.int .i64 xh,.int .u64 xl],.agg #[.int .i64 yh,.int .u64 yl]] w fun e w'=>e=.returned (.tuple #[.agg #[.int .i64 H,.int .u64 n],.int .i64 0])∧Below w.heap.size w w':=by
 unfold Words lV at *
 go_enter Tryz.func172,Tryz.ntmps172
 go_wp2
 go_region_held3 (fun w'=>w'.cell? ⟨w.heap.size,0,none⟩=some (.int .i64 xh)∧w'.cell? ⟨w.heap.size,1,none⟩=some (.int .u64 xl)∧w'.cell? ⟨w.heap.size + 1,0,none⟩=some (.int .i64 yh)∧w'.cell? ⟨w.heap.size + 1,1,none⟩=some (.int .u64 yl)∧w'.cell? ⟨w.heap.size + 1 + 1,0,none⟩=some (.int .i64 0)∧w'.cell? ⟨w.heap.size + 1 + 1,1,none⟩=some (.int .u64 0)∧w'.cell? ⟨w.heap.size + 1 + 1 + 1,0,none⟩=some (.int .i64 H)∧w'.cell? ⟨w.heap.size + 1 + 1 + 1,1,none⟩=some (.int .u64 n)∧w'.frozen? ⟨w.heap.size + 1 + 1,0,none⟩=false∧w'.frozen? ⟨w.heap.size + 1 + 1,1,none⟩=false∧w.heap.size + 1 + 1 + 1 + 1≤w'.heap.size∧Below w.heap.size w w')
  (first | (go_split_ands;refine ⟨dN (by assumption) (by assumption),dN (by assumption) (by assumption),dN (by assumption) (by assumption),dN (by assumption) (by assumption),dN (by assumption) (by assumption),dN (by assumption) (by assumption),dN (by assumption) (by assumption),dN (by assumption) (by assumption),dS (by assumption) (by omega) (by assumption),dS (by assumption) (by omega) (by assumption),bH (by assumption) (Below.size (by assumption)),dY (by assumption) (by assumption)⟩) | (refine ⟨?_,?_,?_,?_,?_,?_,?_,?_,?_,?_,?_,?_⟩ <;> first | (with_reducible assumption) | (go_grown;done) | (simp [go_sem, *];done) | (simp [go_sem, *];omega)))
  ((first | (go_at_call 177;(with_reducible refine (gB xh xl _ _ Hx).mono ?_);rintro e w' ⟨rfl,hbb⟩) | (go_at_call 177;(with_reducible refine (gB yh yl _ _ Hy).mono ?_);rintro e w' ⟨rfl,hbb⟩) | (go_at_call 177;(with_reducible refine (gB H n _ _ HH).mono ?_);rintro e w' ⟨rfl,hbb⟩)))
 go_split_ands
 all_goals
  go_wp2
  refine aO (v:=.tuple #[.agg #[.int .i64 H,.int .u64 n],.int .i64 0]) (by simp [results,Tryz.results172,go_sem, *]) rfl ⟨rfl,by (repeat' (first | (with_reducible exact aI _ _) | (with_reducible assumption) | (with_reducible refine Below.drew ?_) | (with_reducible refine Below.setCell ?_ ?_ _) | (with_reducible refine dY ?_ (by assumption)) | (with_reducible refine Below.alloc ?_ ?_ _) | go_size))⟩
theorem Lh (xh yh H:Int) (xl yl n m p q b b2:Nat) (w:World) (r1:lV 182 xl yl n b) (r2:Words 182 p q b m b2)
  (e1:IntKind.u64.wrap xh=(p:Int)) (e2:IntKind.u64.wrap yh=(q:Int)) (e3:IntKind.i64.wrap (m:Int)=H)
  (Hx:Hid (decide (xh < 0)=true)) (Hy:Hid (decide (yh < 0)=true)) (HH:Hid (decide (H < 0)=false)) :
  Calls Tryz.prog 172 #[.agg #[.int .i64 xh,.int .u64 xl],.agg #[.int .i64 yh,.int .u64 yl]] w fun e w'=>e=.returned (.tuple #[.agg #[.int .i64 0,.int .u64 0],.int .i64 20])∧Below w.heap.size w w':=by
 unfold Words lV at *
 go_enter Tryz.func172,Tryz.ntmps172
 go_wp2
 go_region_held3 (fun w'=>w'.cell? ⟨w.heap.size,0,none⟩=some (.int .i64 xh)∧w'.cell? ⟨w.heap.size,1,none⟩=some (.int .u64 xl)∧w'.cell? ⟨w.heap.size + 1,0,none⟩=some (.int .i64 yh)∧w'.cell? ⟨w.heap.size + 1,1,none⟩=some (.int .u64 yl)∧w'.cell? ⟨w.heap.size + 1 + 1,0,none⟩=some (.int .i64 0)∧w'.cell? ⟨w.heap.size + 1 + 1,1,none⟩=some (.int .u64 0)∧w'.cell? ⟨w.heap.size + 1 + 1 + 1,0,none⟩=some (.int .i64 H)∧w'.cell? ⟨w.heap.size + 1 + 1 + 1,1,none⟩=some (.int .u64 n)∧w'.frozen? ⟨w.heap.size + 1 + 1,0,none⟩=false∧w'.frozen? ⟨w.heap.size + 1 + 1,1,none⟩=false∧w.heap.size + 1 + 1 + 1 + 1≤w'.heap.size∧Below w.heap.size w w')
  (first | (go_split_ands;refine ⟨dN (by assumption) (by assumption),dN (by assumption) (by assumption),dN (by assumption) (by assumption),dN (by assumption) (by assumption),dN (by assumption) (by assumption),dN (by assumption) (by assumption),dN (by assumption) (by assumption),dN (by assumption) (by assumption),dS (by assumption) (by omega) (by assumption),dS (by assumption) (by omega) (by assumption),bH (by assumption) (Below.size (by assumption)),dY (by assumption) (by assumption)⟩) | (refine ⟨?_,?_,?_,?_,?_,?_,?_,?_,?_,?_,?_,?_⟩ <;> first | (with_reducible assumption) | (go_grown;done) | (simp [go_sem, *];done) | (simp [go_sem, *];omega)))
  ((first | (go_at_call 177;(with_reducible refine (gB xh xl _ _ Hx).mono ?_);rintro e w' ⟨rfl,hbb⟩) | (go_at_call 177;(with_reducible refine (gB yh yl _ _ Hy).mono ?_);rintro e w' ⟨rfl,hbb⟩) | (go_at_call 177;(with_reducible refine (gB H n _ _ HH).mono ?_);rintro e w' ⟨rfl,hbb⟩)))
 go_split_ands
 all_goals
  go_wp2
  refine aO (v:=.tuple #[.agg #[.int .i64 0,.int .u64 0],.int .i64 20]) (by simp [results,Tryz.results172,go_sem, *]) rfl ⟨rfl,by (repeat' (first | (with_reducible exact aI _ _) | (with_reducible assumption) | (with_reducible refine Below.drew ?_) | (with_reducible refine Below.setCell ?_ ?_ _) | (with_reducible refine dY ?_ (by assumption)) | (with_reducible refine Below.alloc ?_ ?_ _) | go_size))⟩
theorem Ta (xh yh H:Int) (xl yl n m p q b b2:Nat) (w:World) (r1:lV 182 xl yl n b) (r2:Words 182 p q b m b2)
  (e1:IntKind.u64.wrap xh=(p:Int)) (e2:IntKind.u64.wrap yh=(q:Int)) (e3:IntKind.i64.wrap (m:Int)=H)
  (Hx:Hid (decide (xh < 0)=true)) (Hy:Hid (decide (yh < 0)=false)) :
  Calls Tryz.prog 172 #[.agg #[.int .i64 xh,.int .u64 xl],.agg #[.int .i64 yh,.int .u64 yl]] w fun e w'=>e=.returned (.tuple #[.agg #[.int .i64 H,.int .u64 n],.int .i64 0])∧Below w.heap.size w w':=by
 unfold Words lV at *
 go_enter Tryz.func172,Tryz.ntmps172
 go_wp2
 go_region_with ((go_at_call 177;first | ((with_reducible refine (gB xh xl _ _ Hx).mono ?_);rintro e w' ⟨rfl,hbb⟩;have k0:w'.cell? ⟨w.heap.size,0,none⟩=some (.int .i64 xh):=dN hbb (by first | assumption | (simp [go_sem];done));have k1:w'.cell? ⟨w.heap.size,1,none⟩=some (.int .u64 xl):=dN hbb (by first | assumption | (simp [go_sem];done));have k2:w'.cell? ⟨w.heap.size + 1,0,none⟩=some (.int .i64 yh):=dN hbb (by first | assumption | (simp [go_sem];done));have k3:w'.cell? ⟨w.heap.size + 1,1,none⟩=some (.int .u64 yl):=dN hbb (by first | assumption | (simp [go_sem];done));have k4:w'.cell? ⟨w.heap.size + 1 + 1,0,none⟩=some (.int .i64 0):=dN hbb (by first | assumption | (simp [go_sem];done));have k5:w'.cell? ⟨w.heap.size + 1 + 1,1,none⟩=some (.int .u64 0):=dN hbb (by first | assumption | (simp [go_sem];done));have k6:w'.cell? ⟨w.heap.size + 1 + 1 + 1,0,none⟩=some (.int .i64 H):=dN hbb (by first | assumption | (simp [go_sem];done));have k7:w'.cell? ⟨w.heap.size + 1 + 1 + 1,1,none⟩=some (.int .u64 n):=dN hbb (by first | assumption | (simp [go_sem];done));have f0:w'.frozen? ⟨w.heap.size + 1 + 1,0,none⟩=false:=dS hbb (by first | omega | (simp [go_sem];done) | (simp [go_sem];omega)) (by first | assumption | (simp [go_sem];done));have f1:w'.frozen? ⟨w.heap.size + 1 + 1,1,none⟩=false:=dS hbb (by first | omega | (simp [go_sem];done) | (simp [go_sem];omega)) (by first | assumption | (simp [go_sem];done));have hs:w.heap.size + 1 + 1 + 1 + 1≤w'.heap.size:=bH (by first | assumption | (simp [go_sem];done)) hbb.size) | ((with_reducible refine (gB yh yl _ _ Hy).mono ?_);rintro e w' ⟨rfl,hbb⟩;have k0:w'.cell? ⟨w.heap.size,0,none⟩=some (.int .i64 xh):=dN hbb (by first | assumption | (simp [go_sem];done));have k1:w'.cell? ⟨w.heap.size,1,none⟩=some (.int .u64 xl):=dN hbb (by first | assumption | (simp [go_sem];done));have k2:w'.cell? ⟨w.heap.size + 1,0,none⟩=some (.int .i64 yh):=dN hbb (by first | assumption | (simp [go_sem];done));have k3:w'.cell? ⟨w.heap.size + 1,1,none⟩=some (.int .u64 yl):=dN hbb (by first | assumption | (simp [go_sem];done));have k4:w'.cell? ⟨w.heap.size + 1 + 1,0,none⟩=some (.int .i64 0):=dN hbb (by first | assumption | (simp [go_sem];done));have k5:w'.cell? ⟨w.heap.size + 1 + 1,1,none⟩=some (.int .u64 0):=dN hbb (by first | assumption | (simp [go_sem];done));have k6:w'.cell? ⟨w.heap.size + 1 + 1 + 1,0,none⟩=some (.int .i64 H):=dN hbb (by first | assumption | (simp [go_sem];done));have k7:w'.cell? ⟨w.heap.size + 1 + 1 + 1,1,none⟩=some (.int .u64 n):=dN hbb (by first | assumption | (simp [go_sem];done));have f0:w'.frozen? ⟨w.heap.size + 1 + 1,0,none⟩=false:=dS hbb (by first | omega | (simp [go_sem];done) | (simp [go_sem];omega)) (by first | assumption | (simp [go_sem];done));have f1:w'.frozen? ⟨w.heap.size + 1 + 1,1,none⟩=false:=dS hbb (by first | omega | (simp [go_sem];done) | (simp [go_sem];omega)) (by first | assumption | (simp [go_sem];done));have hs:w.heap.size + 1 + 1 + 1 + 1≤w'.heap.size:=bH (by first | assumption | (simp [go_sem];done)) hbb.size)))
 all_goals
  go_wp2
  refine aO (v:=.tuple #[.agg #[.int .i64 H,.int .u64 n],.int .i64 0]) (by simp [results,Tryz.results172,go_sem, *]) rfl ⟨rfl,by (repeat' (first | (with_reducible exact aI _ _) | (with_reducible assumption) | (with_reducible refine Below.drew ?_) | (with_reducible refine Below.setCell ?_ ?_ _) | (with_reducible refine dY ?_ (by assumption)) | (with_reducible refine Below.alloc ?_ ?_ _) | go_size))⟩
theorem Td (xh yh H:Int) (xl yl n m p q b b2:Nat) (w:World) (r1:lV 182 xl yl n b) (r2:Words 182 p q b m b2)
  (e1:IntKind.u64.wrap xh=(p:Int)) (e2:IntKind.u64.wrap yh=(q:Int)) (e3:IntKind.i64.wrap (m:Int)=H)
  (Hx:Hid (decide (xh < 0)=false)) (Hy:Hid (decide (yh < 0)=true)) :
  Calls Tryz.prog 172 #[.agg #[.int .i64 xh,.int .u64 xl],.agg #[.int .i64 yh,.int .u64 yl]] w fun e w'=>e=.returned (.tuple #[.agg #[.int .i64 H,.int .u64 n],.int .i64 0])∧Below w.heap.size w w':=by
 unfold Words lV at *
 go_enter Tryz.func172,Tryz.ntmps172
 go_wp2
 go_region_with ((go_at_call 177;first | ((with_reducible refine (gB xh xl _ _ Hx).mono ?_);rintro e w' ⟨rfl,hbb⟩;have k0:w'.cell? ⟨w.heap.size,0,none⟩=some (.int .i64 xh):=dN hbb (by first | assumption | (simp [go_sem];done));have k1:w'.cell? ⟨w.heap.size,1,none⟩=some (.int .u64 xl):=dN hbb (by first | assumption | (simp [go_sem];done));have k2:w'.cell? ⟨w.heap.size + 1,0,none⟩=some (.int .i64 yh):=dN hbb (by first | assumption | (simp [go_sem];done));have k3:w'.cell? ⟨w.heap.size + 1,1,none⟩=some (.int .u64 yl):=dN hbb (by first | assumption | (simp [go_sem];done));have k4:w'.cell? ⟨w.heap.size + 1 + 1,0,none⟩=some (.int .i64 0):=dN hbb (by first | assumption | (simp [go_sem];done));have k5:w'.cell? ⟨w.heap.size + 1 + 1,1,none⟩=some (.int .u64 0):=dN hbb (by first | assumption | (simp [go_sem];done));have k6:w'.cell? ⟨w.heap.size + 1 + 1 + 1,0,none⟩=some (.int .i64 H):=dN hbb (by first | assumption | (simp [go_sem];done));have k7:w'.cell? ⟨w.heap.size + 1 + 1 + 1,1,none⟩=some (.int .u64 n):=dN hbb (by first | assumption | (simp [go_sem];done));have f0:w'.frozen? ⟨w.heap.size + 1 + 1,0,none⟩=false:=dS hbb (by first | omega | (simp [go_sem];done) | (simp [go_sem];omega)) (by first | assumption | (simp [go_sem];done));have f1:w'.frozen? ⟨w.heap.size + 1 + 1,1,none⟩=false:=dS hbb (by first | omega | (simp [go_sem];done) | (simp [go_sem];omega)) (by first | assumption | (simp [go_sem];done));have hs:w.heap.size + 1 + 1 + 1 + 1≤w'.heap.size:=bH (by first | assumption | (simp [go_sem];done)) hbb.size) | ((with_reducible refine (gB yh yl _ _ Hy).mono ?_);rintro e w' ⟨rfl,hbb⟩;have k0:w'.cell? ⟨w.heap.size,0,none⟩=some (.int .i64 xh):=dN hbb (by first | assumption | (simp [go_sem];done));have k1:w'.cell? ⟨w.heap.size,1,none⟩=some (.int .u64 xl):=dN hbb (by first | assumption | (simp [go_sem];done));have k2:w'.cell? ⟨w.heap.size + 1,0,none⟩=some (.int .i64 yh):=dN hbb (by first | assumption | (simp [go_sem];done));have k3:w'.cell? ⟨w.heap.size + 1,1,none⟩=some (.int .u64 yl):=dN hbb (by first | assumption | (simp [go_sem];done));have k4:w'.cell? ⟨w.heap.size + 1 + 1,0,none⟩=some (.int .i64 0):=dN hbb (by first | assumption | (simp [go_sem];done));have k5:w'.cell? ⟨w.heap.size + 1 + 1,1,none⟩=some (.int .u64 0):=dN hbb (by first | assumption | (simp [go_sem];done));have k6:w'.cell? ⟨w.heap.size + 1 + 1 + 1,0,none⟩=some (.int .i64 H):=dN hbb (by first | assumption | (simp [go_sem];done));have k7:w'.cell? ⟨w.heap.size + 1 + 1 + 1,1,none⟩=some (.int .u64 n):=dN hbb (by first | assumption | (simp [go_sem];done));have f0:w'.frozen? ⟨w.heap.size + 1 + 1,0,none⟩=false:=dS hbb (by first | omega | (simp [go_sem];done) | (simp [go_sem];omega)) (by first | assumption | (simp [go_sem];done));have f1:w'.frozen? ⟨w.heap.size + 1 + 1,1,none⟩=false:=dS hbb (by first | omega | (simp [go_sem];done) | (simp [go_sem];omega)) (by first | assumption | (simp [go_sem];done));have hs:w.heap.size + 1 + 1 + 1 + 1≤w'.heap.size:=bH (by first | assumption | (simp [go_sem];done)) hbb.size)))
 all_goals
  go_wp2
  refine aO (v:=.tuple #[.agg #[.int .i64 H,.int .u64 n],.int .i64 0]) (by simp [results,Tryz.results172,go_sem, *]) rfl ⟨rfl,by (repeat' (first | (with_reducible exact aI _ _) | (with_reducible assumption) | (with_reducible refine Below.drew ?_) | (with_reducible refine Below.setCell ?_ ?_ _) | (with_reducible refine dY ?_ (by assumption)) | (with_reducible refine Below.alloc ?_ ?_ _) | go_size))⟩
theorem Li (xh yh H:Int) (xl yl n m p q b b2:Nat) (w:World) (r1:lV 182 xl yl n b) (r2:Words 182 p q b m b2)
  (e1:IntKind.u64.wrap xh=(p:Int)) (e2:IntKind.u64.wrap yh=(q:Int)) (e3:IntKind.i64.wrap (m:Int)=H)
  (Hx:Hid (decide (xh < 0)=false)) (Hy:Hid (decide (yh < 0)=false)) (HH:Hid (decide (H < 0)=true)) :
  Calls Tryz.prog 172 #[.agg #[.int .i64 xh,.int .u64 xl],.agg #[.int .i64 yh,.int .u64 yl]] w fun e w'=>e=.returned (.tuple #[.agg #[.int .i64 0,.int .u64 0],.int .i64 20])∧Below w.heap.size w w':=by
 unfold Words lV at *
 go_enter Tryz.func172,Tryz.ntmps172
 go_wp2
 go_region_held3 (fun w'=>w'.cell? ⟨w.heap.size,0,none⟩=some (.int .i64 xh)∧w'.cell? ⟨w.heap.size,1,none⟩=some (.int .u64 xl)∧w'.cell? ⟨w.heap.size + 1,0,none⟩=some (.int .i64 yh)∧w'.cell? ⟨w.heap.size + 1,1,none⟩=some (.int .u64 yl)∧w'.cell? ⟨w.heap.size + 1 + 1,0,none⟩=some (.int .i64 0)∧w'.cell? ⟨w.heap.size + 1 + 1,1,none⟩=some (.int .u64 0)∧w'.cell? ⟨w.heap.size + 1 + 1 + 1,0,none⟩=some (.int .i64 H)∧w'.cell? ⟨w.heap.size + 1 + 1 + 1,1,none⟩=some (.int .u64 n)∧w'.frozen? ⟨w.heap.size + 1 + 1,0,none⟩=false∧w'.frozen? ⟨w.heap.size + 1 + 1,1,none⟩=false∧w.heap.size + 1 + 1 + 1 + 1≤w'.heap.size∧Below w.heap.size w w')
  (first | (go_split_ands;refine ⟨dN (by assumption) (by assumption),dN (by assumption) (by assumption),dN (by assumption) (by assumption),dN (by assumption) (by assumption),dN (by assumption) (by assumption),dN (by assumption) (by assumption),dN (by assumption) (by assumption),dN (by assumption) (by assumption),dS (by assumption) (by omega) (by assumption),dS (by assumption) (by omega) (by assumption),bH (by assumption) (Below.size (by assumption)),dY (by assumption) (by assumption)⟩) | (refine ⟨?_,?_,?_,?_,?_,?_,?_,?_,?_,?_,?_,?_⟩ <;> first | (with_reducible assumption) | (go_grown;done) | (simp [go_sem, *];done) | (simp [go_sem, *];omega)))
  ((first | (go_at_call 177;(with_reducible refine (gB xh xl _ _ Hx).mono ?_);rintro e w' ⟨rfl,hbb⟩) | (go_at_call 177;(with_reducible refine (gB yh yl _ _ Hy).mono ?_);rintro e w' ⟨rfl,hbb⟩) | (go_at_call 177;(with_reducible refine (gB H n _ _ HH).mono ?_);rintro e w' ⟨rfl,hbb⟩)))
 go_split_ands
 all_goals
  go_wp2
  refine aO (v:=.tuple #[.agg #[.int .i64 0,.int .u64 0],.int .i64 20]) (by simp [results,Tryz.results172,go_sem, *]) rfl ⟨rfl,by (repeat' (first | (with_reducible exact aI _ _) | (with_reducible assumption) | (with_reducible refine Below.drew ?_) | (with_reducible refine Below.setCell ?_ ?_ _) | (with_reducible refine dY ?_ (by assumption)) | (with_reducible refine Below.alloc ?_ ?_ _) | go_size))⟩
theorem Lj (xh yh H:Int) (xl yl n m p q b b2:Nat) (w:World) (r1:lV 182 xl yl n b) (r2:Words 182 p q b m b2)
  (e1:IntKind.u64.wrap xh=(p:Int)) (e2:IntKind.u64.wrap yh=(q:Int)) (e3:IntKind.i64.wrap (m:Int)=H)
  (Hx:Hid (decide (xh < 0)=false)) (Hy:Hid (decide (yh < 0)=false)) (HH:Hid (decide (H < 0)=false)) :
  Calls Tryz.prog 172 #[.agg #[.int .i64 xh,.int .u64 xl],.agg #[.int .i64 yh,.int .u64 yl]] w fun e w'=>e=.returned (.tuple #[.agg #[.int .i64 H,.int .u64 n],.int .i64 0])∧Below w.heap.size w w':=by
 unfold Words lV at *
 go_enter Tryz.func172,Tryz.ntmps172
 go_wp2
 go_region_held3 (fun w'=>w'.cell? ⟨w.heap.size,0,none⟩=some (.int .i64 xh)∧w'.cell? ⟨w.heap.size,1,none⟩=some (.int .u64 xl)∧w'.cell? ⟨w.heap.size + 1,0,none⟩=some (.int .i64 yh)∧w'.cell? ⟨w.heap.size + 1,1,none⟩=some (.int .u64 yl)∧w'.cell? ⟨w.heap.size + 1 + 1,0,none⟩=some (.int .i64 0)∧w'.cell? ⟨w.heap.size + 1 + 1,1,none⟩=some (.int .u64 0)∧w'.cell? ⟨w.heap.size + 1 + 1 + 1,0,none⟩=some (.int .i64 H)∧w'.cell? ⟨w.heap.size + 1 + 1 + 1,1,none⟩=some (.int .u64 n)∧w'.frozen? ⟨w.heap.size + 1 + 1,0,none⟩=false∧w'.frozen? ⟨w.heap.size + 1 + 1,1,none⟩=false∧w.heap.size + 1 + 1 + 1 + 1≤w'.heap.size∧Below w.heap.size w w')
  (first | (go_split_ands;refine ⟨dN (by assumption) (by assumption),dN (by assumption) (by assumption),dN (by assumption) (by assumption),dN (by assumption) (by assumption),dN (by assumption) (by assumption),dN (by assumption) (by assumption),dN (by assumption) (by assumption),dN (by assumption) (by assumption),dS (by assumption) (by omega) (by assumption),dS (by assumption) (by omega) (by assumption),bH (by assumption) (Below.size (by assumption)),dY (by assumption) (by assumption)⟩) | (refine ⟨?_,?_,?_,?_,?_,?_,?_,?_,?_,?_,?_,?_⟩ <;> first | (with_reducible assumption) | (go_grown;done) | (simp [go_sem, *];done) | (simp [go_sem, *];omega)))
  ((first | (go_at_call 177;(with_reducible refine (gB xh xl _ _ Hx).mono ?_);rintro e w' ⟨rfl,hbb⟩) | (go_at_call 177;(with_reducible refine (gB yh yl _ _ Hy).mono ?_);rintro e w' ⟨rfl,hbb⟩) | (go_at_call 177;(with_reducible refine (gB H n _ _ HH).mono ?_);rintro e w' ⟨rfl,hbb⟩)))
 go_split_ands
 all_goals
  go_wp2
  refine aO (v:=.tuple #[.agg #[.int .i64 H,.int .u64 n],.int .i64 0]) (by simp [results,Tryz.results172,go_sem, *]) rfl ⟨rfl,by (repeat' (first | (with_reducible exact aI _ _) | (with_reducible assumption) | (with_reducible refine Below.drew ?_) | (with_reducible refine Below.setCell ?_ ?_ _) | (with_reducible refine dY ?_ (by assumption)) | (with_reducible refine Below.alloc ?_ ?_ _) | go_size))⟩
theorem SQ (x y xh yh:Int) (xl yl:Nat) (w:World) (hx:At x xh xl) (hy:At y yh yl) :
  Calls Tryz.prog 172 #[.agg #[.int .i64 xh,.int .u64 xl],.agg #[.int .i64 yh,.int .u64 yl]] w (Tn (x + y) w):=by
 have r1:lV 182 xl yl _ _:=fun w=>yS xl yl w
 have L:=Te hx hy
 have e1:IntKind.u64.wrap xh=(uw xh:Int):=by rw [aU,qF]
 have e2:IntKind.u64.wrap yh=(uw yh:Int):=by rw [aU,qF]
 obtain ⟨z,hz⟩:∃ z,nS (x + y)=z:=⟨_,rfl⟩
 have F:=Eb hx.inn hy.inn hz
 rw [hz] at L
 have hxs:=hx.neg
 have hys:=hy.neg
 have hb1:(xl + yl) / 18446744073709551616≤1:=by have:=hx.2.1;have:=hy.2.1;omega
 have r2:Words 182 (uw xh) (uw yh) _ _ _:=fun w=>run_add64 (uw xh) (uw yh) _ hb1 w
 have e3:=aZ (((uw xh + uw yh + (xl + yl) / 18446744073709551616) % 18446744073709551616:Nat):Int)
 have hzs:=L.neg
 clear hx hy
 generalize ((((uw xh + uw yh + (xl + yl) / 18446744073709551616) % 18446744073709551616:Nat):Int) + 9223372036854775808) % 18446744073709551616 - 9223372036854775808=H at *
 cases c1:decide (xh < 0) <;> cases c2:decide (yh < 0)
 ·have d1:=of_decide_eq_false c1
  have d2:=of_decide_eq_false c2
  cases c3:decide (H < 0)
  ·have d3:=of_decide_eq_false c3
   exact (Lj xh yh H xl yl _ _ _ _ _ _ w r1 r2 e1 e2 e3 (aA c1) (aA c2) (aA c3)).mono fun e w' ⟨he,hb⟩=>he▸PT (F.2 (by omega)) hz L hb
  ·have d3:=of_decide_eq_true c3
   exact (Li xh yh H xl yl _ _ _ _ _ _ w r1 r2 e1 e2 e3 (aA c1) (aA c2) (aA c3)).mono fun e w' ⟨he,hb⟩=>he▸ZV (fun hi=>by have:=F.1 hi;omega) hb
 ·have d1:=of_decide_eq_false c1
  have d2:=of_decide_eq_true c2
  exact (Td xh yh H xl yl _ _ _ _ _ _ w r1 r2 e1 e2 e3 (aA c1) (aA c2)).mono fun e w' ⟨he,hb⟩=>he▸PT (F.2 (by omega)) hz L hb
 ·have d1:=of_decide_eq_true c1
  have d2:=of_decide_eq_false c2
  exact (Ta xh yh H xl yl _ _ _ _ _ _ w r1 r2 e1 e2 e3 (aA c1) (aA c2)).mono fun e w' ⟨he,hb⟩=>he▸PT (F.2 (by omega)) hz L hb
 ·have d1:=of_decide_eq_true c1
  have d2:=of_decide_eq_true c2
  cases c3:decide (H < 0)
  ·have d3:=of_decide_eq_false c3
   exact (Lh xh yh H xl yl _ _ _ _ _ _ w r1 r2 e1 e2 e3 (aA c1) (aA c2) (aA c3)).mono fun e w' ⟨he,hb⟩=>he▸ZV (fun hi=>by have:=F.1 hi;omega) hb
  ·have d3:=of_decide_eq_true c3
   exact (Lg xh yh H xl yl _ _ _ _ _ _ w r1 r2 e1 e2 e3 (aA c1) (aA c2) (aA c3)).mono fun e w' ⟨he,hb⟩=>he▸PT (F.2 (by omega)) hz L hb
end Fx
end Go.Proofs.YtbbhmhihpdmoiaaGreat
