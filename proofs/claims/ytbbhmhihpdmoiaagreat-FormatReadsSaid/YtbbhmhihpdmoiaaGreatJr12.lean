import Derived.Test.YtbbhmhihpdmoiaaGreatJr10
set_option linter.unusedVariables false
set_option linter.unusedSimpArgs false
set_option maxRecDepth 100000
set_option maxHeartbeats 32000000
namespace Go.Proofs.YtbbhmhihpdmoiaaGreat
namespace Fx
open Go Go.RowKit Wm
theorem Sd (x xh c:Int) (xl n m q0 r0 R S:Nat) (T:Int) (w:World) (hx:At x xh xl) (Hx:Hid (decide (xh < 0)=false)) (hc:decide (c < 0)=false) (hc0:(c == 0)=false)
  (hsz:∀ w,Calls Tryz.prog 176 #[.int .i64 c] w fun e w'=>e=.returned (.int .u64 (m:Int))∧w=w')
  (hn:∀ w,Calls Tryz.prog 174 #[.agg #[.int .i64 xh,.int .u64 xl]] w (OO n w))
  (hby:∀ w h l,Na n h l→Calls Tryz.prog 175 #[.agg #[.int .u64 h,.int .u64 l],.int .u64 m] w (Lm q0 r0 w))
  (hR:r0=R)
  (z:Int) (hz:∀ w h l,Na q0 h l→Calls Tryz.prog 179 #[.agg #[.int .u64 h,.int .u64 l],.bool false] w (AZ z w))
  (hov:decide (z < 0)=false)
  (hT:IntKind.i64.wrap (R:Int)=T) (hTw:wrap64 (R:Int)=T) (hRu:IntKind.u64.wrap (R:Int)=(R:Int))
  : Calls Tryz.prog 162 #[.agg #[.int .i64 xh,.int .u64 xl],.int .i64 c] w (Lp z T 0 w):=by
 have HX:=aA hx
 clear hx
 have HS:=aA hsz
 clear hsz
 have HN:=aA hn
 clear hn
 have yH:=aA hby
 clear hby
 have HZ:=aA hz
 clear hz
 have HOV:=aA hov
 clear hov
 subst hR
 go_enter Tryz.func162,Tryz.ntmps162
 go_wp2_with fail
 refine (HN.out _).mono ?_
 rintro e qY ⟨a1,b1,rfl,KC,hb1⟩
 have hB1:Below w.heap.size w qY:=by (repeat' (first | (with_reducible exact aI _ _) | (with_reducible assumption) | (with_reducible refine Below.drew ?_) | (with_reducible refine Below.setCell ?_ ?_ _) | (with_reducible refine dY ?_ (by assumption)) | (with_reducible refine Below.alloc ?_ ?_ _) | go_size))
 have Ny:w.heap.size < qY.heap.size:=aM (by first | assumption | (simp [go_sem];done) | (simp [go_sem];omega)) hb1.size
 have Nw:w.heap.size + 1 < qY.heap.size:=aM (by first | assumption | (simp [go_sem];done) | (simp [go_sem];omega)) hb1.size
 have Xk:qY.cell? ⟨w.heap.size,0,none⟩=some (.int .i64 xh):=dN hb1 (by first | assumption | (simp [go_sem, *];done))
 have Xj:qY.cell? ⟨w.heap.size,1,none⟩=some (.int .u64 xl):=dN hb1 (by first | assumption | (simp [go_sem, *];done))
 have Xi:qY.cell? ⟨w.heap.size + 1,0,none⟩=some (.int .i64 0):=dN hb1 (by first | assumption | (simp [go_sem, *];done))
 have Xh:qY.cell? ⟨w.heap.size + 1,1,none⟩=some (.int .u64 0):=dN hb1 (by first | assumption | (simp [go_sem, *];done))
 have aAn:qY.frozen? ⟨w.heap.size,0,none⟩=false:=dS hb1 (by first | assumption | (simp [go_sem];done) | (simp [go_sem];omega)) (by first | assumption | (simp [go_sem, *];done))
 have aAm:qY.frozen? ⟨w.heap.size,1,none⟩=false:=dS hb1 (by first | assumption | (simp [go_sem];done) | (simp [go_sem];omega)) (by first | assumption | (simp [go_sem, *];done))
 have aAl:qY.frozen? ⟨w.heap.size + 1,0,none⟩=false:=dS hb1 (by first | assumption | (simp [go_sem];done) | (simp [go_sem];omega)) (by first | assumption | (simp [go_sem, *];done))
 have aAk:qY.frozen? ⟨w.heap.size + 1,1,none⟩=false:=dS hb1 (by first | assumption | (simp [go_sem];done) | (simp [go_sem];omega)) (by first | assumption | (simp [go_sem, *];done))
 have Fg:=aA KC
 clear KC
 go_wp2_with fail
 refine (HS.out _).mono ?_
 rintro e w' ⟨rfl,rfl⟩
 go_wp2_with fail
 refine (yH.out _ a1 b1 Fg.out).mono ?_
 rintro e jL ⟨a2,b2,rfl,KA,hb2⟩
 have hB2:Below w.heap.size w jL:=by (repeat' (first | (with_reducible exact aI _ _) | (with_reducible assumption) | (with_reducible refine Below.drew ?_) | (with_reducible refine Below.setCell ?_ ?_ _) | (with_reducible refine dY ?_ (by assumption)) | (with_reducible refine Below.alloc ?_ ?_ _) | go_size))
 have Nv:w.heap.size < jL.heap.size:=aM (by first | assumption | (simp [go_sem];done) | (simp [go_sem];omega)) hb2.size
 have Nu:w.heap.size + 1 < jL.heap.size:=aM (by first | assumption | (simp [go_sem];done) | (simp [go_sem];omega)) hb2.size
 have Xg:jL.cell? ⟨w.heap.size,0,none⟩=some (.int .i64 xh):=dN hb2 (by first | assumption | (simp [go_sem, *];done))
 have Xf:jL.cell? ⟨w.heap.size,1,none⟩=some (.int .u64 xl):=dN hb2 (by first | assumption | (simp [go_sem, *];done))
 have Xe:jL.cell? ⟨w.heap.size + 1,0,none⟩=some (.int .i64 0):=dN hb2 (by first | assumption | (simp [go_sem, *];done))
 have Xd:jL.cell? ⟨w.heap.size + 1,1,none⟩=some (.int .u64 0):=dN hb2 (by first | assumption | (simp [go_sem, *];done))
 have aAj:jL.frozen? ⟨w.heap.size,0,none⟩=false:=dS hb2 (by first | assumption | (simp [go_sem];done) | (simp [go_sem];omega)) (by first | assumption | (simp [go_sem, *];done))
 have aAi:jL.frozen? ⟨w.heap.size,1,none⟩=false:=dS hb2 (by first | assumption | (simp [go_sem];done) | (simp [go_sem];omega)) (by first | assumption | (simp [go_sem, *];done))
 have aAh:jL.frozen? ⟨w.heap.size + 1,0,none⟩=false:=dS hb2 (by first | assumption | (simp [go_sem];done) | (simp [go_sem];omega)) (by first | assumption | (simp [go_sem, *];done))
 have aAg:jL.frozen? ⟨w.heap.size + 1,1,none⟩=false:=dS hb2 (by first | assumption | (simp [go_sem];done) | (simp [go_sem];omega)) (by first | assumption | (simp [go_sem, *];done))
 have Ff:=aA KA
 clear KA
 go_wp2_with fail
 refine (gB xh xl _ _ Hx).mono ?_
 rintro e mU ⟨rfl,hb3⟩
 have hB3:Below w.heap.size w mU:=by (repeat' (first | (with_reducible exact aI _ _) | (with_reducible assumption) | (with_reducible refine Below.drew ?_) | (with_reducible refine Below.setCell ?_ ?_ _) | (with_reducible refine dY ?_ (by assumption)) | (with_reducible refine Below.alloc ?_ ?_ _) | go_size))
 have Nt:w.heap.size < mU.heap.size:=aM (by first | assumption | (simp [go_sem];done) | (simp [go_sem];omega)) hb3.size
 have Ns:w.heap.size + 1 < mU.heap.size:=aM (by first | assumption | (simp [go_sem];done) | (simp [go_sem];omega)) hb3.size
 have Nr:jL.heap.size < mU.heap.size:=aM (by first | assumption | (simp [go_sem];done) | (simp [go_sem];omega)) hb3.size
 have Xc:mU.cell? ⟨w.heap.size,0,none⟩=some (.int .i64 xh):=dN hb3 (by first | assumption | (simp [go_sem, *];done))
 have Xb:mU.cell? ⟨w.heap.size,1,none⟩=some (.int .u64 xl):=dN hb3 (by first | assumption | (simp [go_sem, *];done))
 have Xa:mU.cell? ⟨w.heap.size + 1,0,none⟩=some (.int .i64 0):=dN hb3 (by first | assumption | (simp [go_sem, *];done))
 have Wz:mU.cell? ⟨w.heap.size + 1,1,none⟩=some (.int .u64 0):=dN hb3 (by first | assumption | (simp [go_sem, *];done))
 have Wy:mU.cell? ⟨jL.heap.size,0,none⟩=some (.int .u64 a2):=dN hb3 (by first | assumption | (simp [go_sem, *];done))
 have Wx:mU.cell? ⟨jL.heap.size,1,none⟩=some (.int .u64 b2):=dN hb3 (by first | assumption | (simp [go_sem, *];done))
 have aAf:mU.frozen? ⟨w.heap.size,0,none⟩=false:=dS hb3 (by first | assumption | (simp [go_sem];done) | (simp [go_sem];omega)) (by first | assumption | (simp [go_sem, *];done))
 have aAe:mU.frozen? ⟨w.heap.size,1,none⟩=false:=dS hb3 (by first | assumption | (simp [go_sem];done) | (simp [go_sem];omega)) (by first | assumption | (simp [go_sem, *];done))
 have aAd:mU.frozen? ⟨w.heap.size + 1,0,none⟩=false:=dS hb3 (by first | assumption | (simp [go_sem];done) | (simp [go_sem];omega)) (by first | assumption | (simp [go_sem, *];done))
 have aAc:mU.frozen? ⟨w.heap.size + 1,1,none⟩=false:=dS hb3 (by first | assumption | (simp [go_sem];done) | (simp [go_sem];omega)) (by first | assumption | (simp [go_sem, *];done))
 have aAb:mU.frozen? ⟨jL.heap.size,0,none⟩=false:=dS hb3 (by first | assumption | (simp [go_sem];done) | (simp [go_sem];omega)) (by first | assumption | (simp [go_sem, *];done))
 have aAa:mU.frozen? ⟨jL.heap.size,1,none⟩=false:=dS hb3 (by first | assumption | (simp [go_sem];done) | (simp [go_sem];omega)) (by first | assumption | (simp [go_sem, *];done))
 go_wp2_with fail
 refine (HZ.out _ a2 b2 Ff.out).mono ?_
 rintro e lM ⟨a4,b4,rfl,hat,hb4⟩
 have hB4:Below w.heap.size w lM:=by (repeat' (first | (with_reducible exact aI _ _) | (with_reducible assumption) | (with_reducible refine Below.drew ?_) | (with_reducible refine Below.setCell ?_ ?_ _) | (with_reducible refine dY ?_ (by assumption)) | (with_reducible refine Below.alloc ?_ ?_ _) | go_size))
 have Nq:w.heap.size < lM.heap.size:=aM (by first | assumption | (simp [go_sem];done) | (simp [go_sem];omega)) hb4.size
 have Np:w.heap.size + 1 < lM.heap.size:=aM (by first | assumption | (simp [go_sem];done) | (simp [go_sem];omega)) hb4.size
 have Nn:jL.heap.size < lM.heap.size:=aM (by first | assumption | (simp [go_sem];done) | (simp [go_sem];omega)) hb4.size
 have Ww:lM.cell? ⟨w.heap.size,0,none⟩=some (.int .i64 xh):=dN hb4 (by first | assumption | (simp [go_sem, *];done))
 have Wv:lM.cell? ⟨w.heap.size,1,none⟩=some (.int .u64 xl):=dN hb4 (by first | assumption | (simp [go_sem, *];done))
 have Wu:lM.cell? ⟨w.heap.size + 1,0,none⟩=some (.int .i64 0):=dN hb4 (by first | assumption | (simp [go_sem, *];done))
 have Wt:lM.cell? ⟨w.heap.size + 1,1,none⟩=some (.int .u64 0):=dN hb4 (by first | assumption | (simp [go_sem, *];done))
 have Ws:lM.cell? ⟨jL.heap.size,0,none⟩=some (.int .u64 a2):=dN hb4 (by first | assumption | (simp [go_sem, *];done))
 have Wq:lM.cell? ⟨jL.heap.size,1,none⟩=some (.int .u64 b2):=dN hb4 (by first | assumption | (simp [go_sem, *];done))
 have Zz:lM.frozen? ⟨w.heap.size,0,none⟩=false:=dS hb4 (by first | assumption | (simp [go_sem];done) | (simp [go_sem];omega)) (by first | assumption | (simp [go_sem, *];done))
 have Zy:lM.frozen? ⟨w.heap.size,1,none⟩=false:=dS hb4 (by first | assumption | (simp [go_sem];done) | (simp [go_sem];omega)) (by first | assumption | (simp [go_sem, *];done))
 have Zx:lM.frozen? ⟨w.heap.size + 1,0,none⟩=false:=dS hb4 (by first | assumption | (simp [go_sem];done) | (simp [go_sem];omega)) (by first | assumption | (simp [go_sem, *];done))
 have Zw:lM.frozen? ⟨w.heap.size + 1,1,none⟩=false:=dS hb4 (by first | assumption | (simp [go_sem];done) | (simp [go_sem];omega)) (by first | assumption | (simp [go_sem, *];done))
 have Zv:lM.frozen? ⟨jL.heap.size,0,none⟩=false:=dS hb4 (by first | assumption | (simp [go_sem];done) | (simp [go_sem];omega)) (by first | assumption | (simp [go_sem, *];done))
 have Zu:lM.frozen? ⟨jL.heap.size,1,none⟩=false:=dS hb4 (by first | assumption | (simp [go_sem];done) | (simp [go_sem];omega)) (by first | assumption | (simp [go_sem, *];done))
 have HAT:=aA hat
 have HQ:Hid (decide (a4 < 0)=false):=aA (by rw [←HOV.out];exact bY.2 hat.neg)
 clear hat
 go_wp2_with fail
 refine (gB a4 b4 _ _ HQ).mono ?_
 rintro e qE ⟨rfl,hb5⟩
 have Zt:Below w.heap.size w qE:=by (repeat' (first | (with_reducible exact aI _ _) | (with_reducible assumption) | (with_reducible refine Below.drew ?_) | (with_reducible refine Below.setCell ?_ ?_ _) | (with_reducible refine dY ?_ (by assumption)) | (with_reducible refine Below.alloc ?_ ?_ _) | go_size))
 have Xv:w.heap.size < qE.heap.size:=aM (by first | assumption | (simp [go_sem];done) | (simp [go_sem];omega)) hb5.size
 have Xu:w.heap.size + 1 < qE.heap.size:=aM (by first | assumption | (simp [go_sem];done) | (simp [go_sem];omega)) hb5.size
 have Xt:jL.heap.size < qE.heap.size:=aM (by first | assumption | (simp [go_sem];done) | (simp [go_sem];omega)) hb5.size
 have hz5_3:lM.heap.size < qE.heap.size:=aM (by first | assumption | (simp [go_sem];done) | (simp [go_sem];omega)) hb5.size
 have k5_0:qE.cell? ⟨w.heap.size,0,none⟩=some (.int .i64 xh):=dN hb5 (by first | assumption | (simp [go_sem, *];done))
 have k5_1:qE.cell? ⟨w.heap.size,1,none⟩=some (.int .u64 xl):=dN hb5 (by first | assumption | (simp [go_sem, *];done))
 have k5_2:qE.cell? ⟨w.heap.size + 1,0,none⟩=some (.int .i64 0):=dN hb5 (by first | assumption | (simp [go_sem, *];done))
 have k5_3:qE.cell? ⟨w.heap.size + 1,1,none⟩=some (.int .u64 0):=dN hb5 (by first | assumption | (simp [go_sem, *];done))
 have k5_4:qE.cell? ⟨jL.heap.size,0,none⟩=some (.int .u64 a2):=dN hb5 (by first | assumption | (simp [go_sem, *];done))
 have k5_5:qE.cell? ⟨jL.heap.size,1,none⟩=some (.int .u64 b2):=dN hb5 (by first | assumption | (simp [go_sem, *];done))
 have k5_6:qE.cell? ⟨lM.heap.size,0,none⟩=some (.int .i64 a4):=dN hb5 (by first | assumption | (simp [go_sem, *];done))
 have k5_7:qE.cell? ⟨lM.heap.size,1,none⟩=some (.int .u64 b4):=dN hb5 (by first | assumption | (simp [go_sem, *];done))
 have f5_0:qE.frozen? ⟨w.heap.size,0,none⟩=false:=dS hb5 (by first | assumption | (simp [go_sem];done) | (simp [go_sem];omega)) (by first | assumption | (simp [go_sem, *];done))
 have f5_1:qE.frozen? ⟨w.heap.size,1,none⟩=false:=dS hb5 (by first | assumption | (simp [go_sem];done) | (simp [go_sem];omega)) (by first | assumption | (simp [go_sem, *];done))
 have f5_2:qE.frozen? ⟨w.heap.size + 1,0,none⟩=false:=dS hb5 (by first | assumption | (simp [go_sem];done) | (simp [go_sem];omega)) (by first | assumption | (simp [go_sem, *];done))
 have f5_3:qE.frozen? ⟨w.heap.size + 1,1,none⟩=false:=dS hb5 (by first | assumption | (simp [go_sem];done) | (simp [go_sem];omega)) (by first | assumption | (simp [go_sem, *];done))
 have f5_4:qE.frozen? ⟨jL.heap.size,0,none⟩=false:=dS hb5 (by first | assumption | (simp [go_sem];done) | (simp [go_sem];omega)) (by first | assumption | (simp [go_sem, *];done))
 have f5_5:qE.frozen? ⟨jL.heap.size,1,none⟩=false:=dS hb5 (by first | assumption | (simp [go_sem];done) | (simp [go_sem];omega)) (by first | assumption | (simp [go_sem, *];done))
 have f5_6:qE.frozen? ⟨lM.heap.size,0,none⟩=false:=dS hb5 (by first | assumption | (simp [go_sem];done) | (simp [go_sem];omega)) (by first | assumption | (simp [go_sem, *];done))
 have f5_7:qE.frozen? ⟨lM.heap.size,1,none⟩=false:=dS hb5 (by first | assumption | (simp [go_sem];done) | (simp [go_sem];omega)) (by first | assumption | (simp [go_sem, *];done))
 go_wp2
 refine aO (v:=.tuple #[.agg #[.int .i64 a4,.int .u64 b4],.int .i64 T,.int .i64 0]) (by simp [results,Tryz.results162,go_sem, *]) rfl (⟨_,_,rfl,HAT.out,?_⟩)
 repeat' (first | (with_reducible exact aI _ _) | (with_reducible assumption) | (with_reducible refine Below.drew ?_) | (with_reducible refine Below.setCell ?_ ?_ _) | (with_reducible refine dY ?_ (by assumption)) | (with_reducible refine Below.alloc ?_ ?_ _) | go_size)
theorem Sc (x xh c:Int) (xl n m q0 r0 R S:Nat) (T:Int) (w:World) (hx:At x xh xl) (Hx:Hid (decide (xh < 0)=true)) (hc:decide (c < 0)=false) (hc0:(c == 0)=false)
  (hsz:∀ w,Calls Tryz.prog 176 #[.int .i64 c] w fun e w'=>e=.returned (.int .u64 (m:Int))∧w=w')
  (hn:∀ w,Calls Tryz.prog 174 #[.agg #[.int .i64 xh,.int .u64 xl]] w (OO n w))
  (hby:∀ w h l,Na n h l→Calls Tryz.prog 175 #[.agg #[.int .u64 h,.int .u64 l],.int .u64 m] w (Lm q0 r0 w))
  (hr:((r0:Int) != 0)=false)
  (hR:r0=R)
  (z:Int) (hz:∀ w h l,Na q0 h l→Calls Tryz.prog 179 #[.agg #[.int .u64 h,.int .u64 l],.bool true] w (AZ z w))
  (hT:IntKind.i64.wrap (R:Int)=T) (hTw:wrap64 (R:Int)=T) (hRu:IntKind.u64.wrap (R:Int)=(R:Int))
  : Calls Tryz.prog 162 #[.agg #[.int .i64 xh,.int .u64 xl],.int .i64 c] w (Lp z T 0 w):=by
 have HX:=aA hx
 clear hx
 have HS:=aA hsz
 clear hsz
 have HN:=aA hn
 clear hn
 have yH:=aA hby
 clear hby
 have HZ:=aA hz
 clear hz
 subst hR
 go_enter Tryz.func162,Tryz.ntmps162
 go_wp2_with fail
 refine (HN.out _).mono ?_
 rintro e qY ⟨a1,b1,rfl,KC,hb1⟩
 have hB1:Below w.heap.size w qY:=by (repeat' (first | (with_reducible exact aI _ _) | (with_reducible assumption) | (with_reducible refine Below.drew ?_) | (with_reducible refine Below.setCell ?_ ?_ _) | (with_reducible refine dY ?_ (by assumption)) | (with_reducible refine Below.alloc ?_ ?_ _) | go_size))
 have Ny:w.heap.size < qY.heap.size:=aM (by first | assumption | (simp [go_sem];done) | (simp [go_sem];omega)) hb1.size
 have Nw:w.heap.size + 1 < qY.heap.size:=aM (by first | assumption | (simp [go_sem];done) | (simp [go_sem];omega)) hb1.size
 have Xk:qY.cell? ⟨w.heap.size,0,none⟩=some (.int .i64 xh):=dN hb1 (by first | assumption | (simp [go_sem, *];done))
 have Xj:qY.cell? ⟨w.heap.size,1,none⟩=some (.int .u64 xl):=dN hb1 (by first | assumption | (simp [go_sem, *];done))
 have Xi:qY.cell? ⟨w.heap.size + 1,0,none⟩=some (.int .i64 0):=dN hb1 (by first | assumption | (simp [go_sem, *];done))
 have Xh:qY.cell? ⟨w.heap.size + 1,1,none⟩=some (.int .u64 0):=dN hb1 (by first | assumption | (simp [go_sem, *];done))
 have aAn:qY.frozen? ⟨w.heap.size,0,none⟩=false:=dS hb1 (by first | assumption | (simp [go_sem];done) | (simp [go_sem];omega)) (by first | assumption | (simp [go_sem, *];done))
 have aAm:qY.frozen? ⟨w.heap.size,1,none⟩=false:=dS hb1 (by first | assumption | (simp [go_sem];done) | (simp [go_sem];omega)) (by first | assumption | (simp [go_sem, *];done))
 have aAl:qY.frozen? ⟨w.heap.size + 1,0,none⟩=false:=dS hb1 (by first | assumption | (simp [go_sem];done) | (simp [go_sem];omega)) (by first | assumption | (simp [go_sem, *];done))
 have aAk:qY.frozen? ⟨w.heap.size + 1,1,none⟩=false:=dS hb1 (by first | assumption | (simp [go_sem];done) | (simp [go_sem];omega)) (by first | assumption | (simp [go_sem, *];done))
 have Fg:=aA KC
 clear KC
 go_wp2_with fail
 refine (HS.out _).mono ?_
 rintro e w' ⟨rfl,rfl⟩
 go_wp2_with fail
 refine (yH.out _ a1 b1 Fg.out).mono ?_
 rintro e jL ⟨a2,b2,rfl,KA,hb2⟩
 have hB2:Below w.heap.size w jL:=by (repeat' (first | (with_reducible exact aI _ _) | (with_reducible assumption) | (with_reducible refine Below.drew ?_) | (with_reducible refine Below.setCell ?_ ?_ _) | (with_reducible refine dY ?_ (by assumption)) | (with_reducible refine Below.alloc ?_ ?_ _) | go_size))
 have Nv:w.heap.size < jL.heap.size:=aM (by first | assumption | (simp [go_sem];done) | (simp [go_sem];omega)) hb2.size
 have Nu:w.heap.size + 1 < jL.heap.size:=aM (by first | assumption | (simp [go_sem];done) | (simp [go_sem];omega)) hb2.size
 have Xg:jL.cell? ⟨w.heap.size,0,none⟩=some (.int .i64 xh):=dN hb2 (by first | assumption | (simp [go_sem, *];done))
 have Xf:jL.cell? ⟨w.heap.size,1,none⟩=some (.int .u64 xl):=dN hb2 (by first | assumption | (simp [go_sem, *];done))
 have Xe:jL.cell? ⟨w.heap.size + 1,0,none⟩=some (.int .i64 0):=dN hb2 (by first | assumption | (simp [go_sem, *];done))
 have Xd:jL.cell? ⟨w.heap.size + 1,1,none⟩=some (.int .u64 0):=dN hb2 (by first | assumption | (simp [go_sem, *];done))
 have aAj:jL.frozen? ⟨w.heap.size,0,none⟩=false:=dS hb2 (by first | assumption | (simp [go_sem];done) | (simp [go_sem];omega)) (by first | assumption | (simp [go_sem, *];done))
 have aAi:jL.frozen? ⟨w.heap.size,1,none⟩=false:=dS hb2 (by first | assumption | (simp [go_sem];done) | (simp [go_sem];omega)) (by first | assumption | (simp [go_sem, *];done))
 have aAh:jL.frozen? ⟨w.heap.size + 1,0,none⟩=false:=dS hb2 (by first | assumption | (simp [go_sem];done) | (simp [go_sem];omega)) (by first | assumption | (simp [go_sem, *];done))
 have aAg:jL.frozen? ⟨w.heap.size + 1,1,none⟩=false:=dS hb2 (by first | assumption | (simp [go_sem];done) | (simp [go_sem];omega)) (by first | assumption | (simp [go_sem, *];done))
 have Ff:=aA KA
 clear KA
 go_wp2_with fail
 refine (gB xh xl _ _ Hx).mono ?_
 rintro e mU ⟨rfl,hb3⟩
 have hB3:Below w.heap.size w mU:=by (repeat' (first | (with_reducible exact aI _ _) | (with_reducible assumption) | (with_reducible refine Below.drew ?_) | (with_reducible refine Below.setCell ?_ ?_ _) | (with_reducible refine dY ?_ (by assumption)) | (with_reducible refine Below.alloc ?_ ?_ _) | go_size))
 have Nt:w.heap.size < mU.heap.size:=aM (by first | assumption | (simp [go_sem];done) | (simp [go_sem];omega)) hb3.size
 have Ns:w.heap.size + 1 < mU.heap.size:=aM (by first | assumption | (simp [go_sem];done) | (simp [go_sem];omega)) hb3.size
 have Nr:jL.heap.size < mU.heap.size:=aM (by first | assumption | (simp [go_sem];done) | (simp [go_sem];omega)) hb3.size
 have Xc:mU.cell? ⟨w.heap.size,0,none⟩=some (.int .i64 xh):=dN hb3 (by first | assumption | (simp [go_sem, *];done))
 have Xb:mU.cell? ⟨w.heap.size,1,none⟩=some (.int .u64 xl):=dN hb3 (by first | assumption | (simp [go_sem, *];done))
 have Xa:mU.cell? ⟨w.heap.size + 1,0,none⟩=some (.int .i64 0):=dN hb3 (by first | assumption | (simp [go_sem, *];done))
 have Wz:mU.cell? ⟨w.heap.size + 1,1,none⟩=some (.int .u64 0):=dN hb3 (by first | assumption | (simp [go_sem, *];done))
 have Wy:mU.cell? ⟨jL.heap.size,0,none⟩=some (.int .u64 a2):=dN hb3 (by first | assumption | (simp [go_sem, *];done))
 have Wx:mU.cell? ⟨jL.heap.size,1,none⟩=some (.int .u64 b2):=dN hb3 (by first | assumption | (simp [go_sem, *];done))
 have aAf:mU.frozen? ⟨w.heap.size,0,none⟩=false:=dS hb3 (by first | assumption | (simp [go_sem];done) | (simp [go_sem];omega)) (by first | assumption | (simp [go_sem, *];done))
 have aAe:mU.frozen? ⟨w.heap.size,1,none⟩=false:=dS hb3 (by first | assumption | (simp [go_sem];done) | (simp [go_sem];omega)) (by first | assumption | (simp [go_sem, *];done))
 have aAd:mU.frozen? ⟨w.heap.size + 1,0,none⟩=false:=dS hb3 (by first | assumption | (simp [go_sem];done) | (simp [go_sem];omega)) (by first | assumption | (simp [go_sem, *];done))
 have aAc:mU.frozen? ⟨w.heap.size + 1,1,none⟩=false:=dS hb3 (by first | assumption | (simp [go_sem];done) | (simp [go_sem];omega)) (by first | assumption | (simp [go_sem, *];done))
 have aAb:mU.frozen? ⟨jL.heap.size,0,none⟩=false:=dS hb3 (by first | assumption | (simp [go_sem];done) | (simp [go_sem];omega)) (by first | assumption | (simp [go_sem, *];done))
 have aAa:mU.frozen? ⟨jL.heap.size,1,none⟩=false:=dS hb3 (by first | assumption | (simp [go_sem];done) | (simp [go_sem];omega)) (by first | assumption | (simp [go_sem, *];done))
 go_wp2_with fail
 refine (HZ.out _ a2 b2 Ff.out).mono ?_
 rintro e lM ⟨a4,b4,rfl,hat,hb4⟩
 have hB4:Below w.heap.size w lM:=by (repeat' (first | (with_reducible exact aI _ _) | (with_reducible assumption) | (with_reducible refine Below.drew ?_) | (with_reducible refine Below.setCell ?_ ?_ _) | (with_reducible refine dY ?_ (by assumption)) | (with_reducible refine Below.alloc ?_ ?_ _) | go_size))
 have Nq:w.heap.size < lM.heap.size:=aM (by first | assumption | (simp [go_sem];done) | (simp [go_sem];omega)) hb4.size
 have Np:w.heap.size + 1 < lM.heap.size:=aM (by first | assumption | (simp [go_sem];done) | (simp [go_sem];omega)) hb4.size
 have Nn:jL.heap.size < lM.heap.size:=aM (by first | assumption | (simp [go_sem];done) | (simp [go_sem];omega)) hb4.size
 have Ww:lM.cell? ⟨w.heap.size,0,none⟩=some (.int .i64 xh):=dN hb4 (by first | assumption | (simp [go_sem, *];done))
 have Wv:lM.cell? ⟨w.heap.size,1,none⟩=some (.int .u64 xl):=dN hb4 (by first | assumption | (simp [go_sem, *];done))
 have Wu:lM.cell? ⟨w.heap.size + 1,0,none⟩=some (.int .i64 0):=dN hb4 (by first | assumption | (simp [go_sem, *];done))
 have Wt:lM.cell? ⟨w.heap.size + 1,1,none⟩=some (.int .u64 0):=dN hb4 (by first | assumption | (simp [go_sem, *];done))
 have Ws:lM.cell? ⟨jL.heap.size,0,none⟩=some (.int .u64 a2):=dN hb4 (by first | assumption | (simp [go_sem, *];done))
 have Wq:lM.cell? ⟨jL.heap.size,1,none⟩=some (.int .u64 b2):=dN hb4 (by first | assumption | (simp [go_sem, *];done))
 have Zz:lM.frozen? ⟨w.heap.size,0,none⟩=false:=dS hb4 (by first | assumption | (simp [go_sem];done) | (simp [go_sem];omega)) (by first | assumption | (simp [go_sem, *];done))
 have Zy:lM.frozen? ⟨w.heap.size,1,none⟩=false:=dS hb4 (by first | assumption | (simp [go_sem];done) | (simp [go_sem];omega)) (by first | assumption | (simp [go_sem, *];done))
 have Zx:lM.frozen? ⟨w.heap.size + 1,0,none⟩=false:=dS hb4 (by first | assumption | (simp [go_sem];done) | (simp [go_sem];omega)) (by first | assumption | (simp [go_sem, *];done))
 have Zw:lM.frozen? ⟨w.heap.size + 1,1,none⟩=false:=dS hb4 (by first | assumption | (simp [go_sem];done) | (simp [go_sem];omega)) (by first | assumption | (simp [go_sem, *];done))
 have Zv:lM.frozen? ⟨jL.heap.size,0,none⟩=false:=dS hb4 (by first | assumption | (simp [go_sem];done) | (simp [go_sem];omega)) (by first | assumption | (simp [go_sem, *];done))
 have Zu:lM.frozen? ⟨jL.heap.size,1,none⟩=false:=dS hb4 (by first | assumption | (simp [go_sem];done) | (simp [go_sem];omega)) (by first | assumption | (simp [go_sem, *];done))
 have HAT:=aA hat
 clear hat
 go_wp2
 refine aO (v:=.tuple #[.agg #[.int .i64 a4,.int .u64 b4],.int .i64 T,.int .i64 0]) (by simp [results,Tryz.results162,go_sem, *]) rfl (⟨_,_,rfl,HAT.out,?_⟩)
 repeat' (first | (with_reducible exact aI _ _) | (with_reducible assumption) | (with_reducible refine Below.drew ?_) | (with_reducible refine Below.setCell ?_ ?_ _) | (with_reducible refine dY ?_ (by assumption)) | (with_reducible refine Below.alloc ?_ ?_ _) | go_size)
theorem Ku (x xh c:Int) (xl n m q0 r0 R S:Nat) (T:Int) (w:World) (hx:At x xh xl) (Hx:Hid (decide (xh < 0)=true)) (hc:decide (c < 0)=false) (hc0:(c == 0)=false)
  (hsz:∀ w,Calls Tryz.prog 176 #[.int .i64 c] w fun e w'=>e=.returned (.int .u64 (m:Int))∧w=w')
  (hn:∀ w,Calls Tryz.prog 174 #[.agg #[.int .i64 xh,.int .u64 xl]] w (OO n w))
  (hby:∀ w h l,Na n h l→Calls Tryz.prog 175 #[.agg #[.int .u64 h,.int .u64 l],.int .u64 m] w (Lm q0 r0 w))
  (hr:((r0:Int) != 0)=true)
  (q1:Nat) (hp:∀ w h l,Na q0 h l→Calls Tryz.prog 178 #[.agg #[.int .u64 h,.int .u64 l],.int .u64 1] w (OO q1 w)) (hR:(m:Int) - (r0:Int)=(R:Int))
  (z:Int) (hz:∀ w h l,Na q1 h l→Calls Tryz.prog 179 #[.agg #[.int .u64 h,.int .u64 l],.bool true] w (AZ z w))
  (hT:IntKind.i64.wrap (R:Int)=T) (hTw:wrap64 (R:Int)=T) (hRu:IntKind.u64.wrap (R:Int)=(R:Int))
  : Calls Tryz.prog 162 #[.agg #[.int .i64 xh,.int .u64 xl],.int .i64 c] w (Lp z T 0 w):=by
 have HX:=aA hx
 clear hx
 have HS:=aA hsz
 clear hsz
 have HN:=aA hn
 clear hn
 have yH:=aA hby
 clear hby
 have HZ:=aA hz
 clear hz
 have HP:=aA hp
 clear hp
 go_enter Tryz.func162,Tryz.ntmps162
 go_wp2_with fail
 refine (HN.out _).mono ?_
 rintro e qY ⟨a1,b1,rfl,KC,hb1⟩
 have hB1:Below w.heap.size w qY:=by (repeat' (first | (with_reducible exact aI _ _) | (with_reducible assumption) | (with_reducible refine Below.drew ?_) | (with_reducible refine Below.setCell ?_ ?_ _) | (with_reducible refine dY ?_ (by assumption)) | (with_reducible refine Below.alloc ?_ ?_ _) | go_size))
 have Ny:w.heap.size < qY.heap.size:=aM (by first | assumption | (simp [go_sem];done) | (simp [go_sem];omega)) hb1.size
 have Nw:w.heap.size + 1 < qY.heap.size:=aM (by first | assumption | (simp [go_sem];done) | (simp [go_sem];omega)) hb1.size
 have Xk:qY.cell? ⟨w.heap.size,0,none⟩=some (.int .i64 xh):=dN hb1 (by first | assumption | (simp [go_sem, *];done))
 have Xj:qY.cell? ⟨w.heap.size,1,none⟩=some (.int .u64 xl):=dN hb1 (by first | assumption | (simp [go_sem, *];done))
 have Xi:qY.cell? ⟨w.heap.size + 1,0,none⟩=some (.int .i64 0):=dN hb1 (by first | assumption | (simp [go_sem, *];done))
 have Xh:qY.cell? ⟨w.heap.size + 1,1,none⟩=some (.int .u64 0):=dN hb1 (by first | assumption | (simp [go_sem, *];done))
 have aAn:qY.frozen? ⟨w.heap.size,0,none⟩=false:=dS hb1 (by first | assumption | (simp [go_sem];done) | (simp [go_sem];omega)) (by first | assumption | (simp [go_sem, *];done))
 have aAm:qY.frozen? ⟨w.heap.size,1,none⟩=false:=dS hb1 (by first | assumption | (simp [go_sem];done) | (simp [go_sem];omega)) (by first | assumption | (simp [go_sem, *];done))
 have aAl:qY.frozen? ⟨w.heap.size + 1,0,none⟩=false:=dS hb1 (by first | assumption | (simp [go_sem];done) | (simp [go_sem];omega)) (by first | assumption | (simp [go_sem, *];done))
 have aAk:qY.frozen? ⟨w.heap.size + 1,1,none⟩=false:=dS hb1 (by first | assumption | (simp [go_sem];done) | (simp [go_sem];omega)) (by first | assumption | (simp [go_sem, *];done))
 have Fg:=aA KC
 clear KC
 go_wp2_with fail
 refine (HS.out _).mono ?_
 rintro e w' ⟨rfl,rfl⟩
 go_wp2_with fail
 refine (yH.out _ a1 b1 Fg.out).mono ?_
 rintro e jL ⟨a2,b2,rfl,KA,hb2⟩
 have hB2:Below w.heap.size w jL:=by (repeat' (first | (with_reducible exact aI _ _) | (with_reducible assumption) | (with_reducible refine Below.drew ?_) | (with_reducible refine Below.setCell ?_ ?_ _) | (with_reducible refine dY ?_ (by assumption)) | (with_reducible refine Below.alloc ?_ ?_ _) | go_size))
 have Nv:w.heap.size < jL.heap.size:=aM (by first | assumption | (simp [go_sem];done) | (simp [go_sem];omega)) hb2.size
 have Nu:w.heap.size + 1 < jL.heap.size:=aM (by first | assumption | (simp [go_sem];done) | (simp [go_sem];omega)) hb2.size
 have Xg:jL.cell? ⟨w.heap.size,0,none⟩=some (.int .i64 xh):=dN hb2 (by first | assumption | (simp [go_sem, *];done))
 have Xf:jL.cell? ⟨w.heap.size,1,none⟩=some (.int .u64 xl):=dN hb2 (by first | assumption | (simp [go_sem, *];done))
 have Xe:jL.cell? ⟨w.heap.size + 1,0,none⟩=some (.int .i64 0):=dN hb2 (by first | assumption | (simp [go_sem, *];done))
 have Xd:jL.cell? ⟨w.heap.size + 1,1,none⟩=some (.int .u64 0):=dN hb2 (by first | assumption | (simp [go_sem, *];done))
 have aAj:jL.frozen? ⟨w.heap.size,0,none⟩=false:=dS hb2 (by first | assumption | (simp [go_sem];done) | (simp [go_sem];omega)) (by first | assumption | (simp [go_sem, *];done))
 have aAi:jL.frozen? ⟨w.heap.size,1,none⟩=false:=dS hb2 (by first | assumption | (simp [go_sem];done) | (simp [go_sem];omega)) (by first | assumption | (simp [go_sem, *];done))
 have aAh:jL.frozen? ⟨w.heap.size + 1,0,none⟩=false:=dS hb2 (by first | assumption | (simp [go_sem];done) | (simp [go_sem];omega)) (by first | assumption | (simp [go_sem, *];done))
 have aAg:jL.frozen? ⟨w.heap.size + 1,1,none⟩=false:=dS hb2 (by first | assumption | (simp [go_sem];done) | (simp [go_sem];omega)) (by first | assumption | (simp [go_sem, *];done))
 have Ff:=aA KA
 clear KA
 go_wp2_with fail
 refine (gB xh xl _ _ Hx).mono ?_
 rintro e mU ⟨rfl,hb3⟩
 have hB3:Below w.heap.size w mU:=by (repeat' (first | (with_reducible exact aI _ _) | (with_reducible assumption) | (with_reducible refine Below.drew ?_) | (with_reducible refine Below.setCell ?_ ?_ _) | (with_reducible refine dY ?_ (by assumption)) | (with_reducible refine Below.alloc ?_ ?_ _) | go_size))
 have Nt:w.heap.size < mU.heap.size:=aM (by first | assumption | (simp [go_sem];done) | (simp [go_sem];omega)) hb3.size
 have Ns:w.heap.size + 1 < mU.heap.size:=aM (by first | assumption | (simp [go_sem];done) | (simp [go_sem];omega)) hb3.size
 have Nr:jL.heap.size < mU.heap.size:=aM (by first | assumption | (simp [go_sem];done) | (simp [go_sem];omega)) hb3.size
 have Xc:mU.cell? ⟨w.heap.size,0,none⟩=some (.int .i64 xh):=dN hb3 (by first | assumption | (simp [go_sem, *];done))
 have Xb:mU.cell? ⟨w.heap.size,1,none⟩=some (.int .u64 xl):=dN hb3 (by first | assumption | (simp [go_sem, *];done))
 have Xa:mU.cell? ⟨w.heap.size + 1,0,none⟩=some (.int .i64 0):=dN hb3 (by first | assumption | (simp [go_sem, *];done))
 have Wz:mU.cell? ⟨w.heap.size + 1,1,none⟩=some (.int .u64 0):=dN hb3 (by first | assumption | (simp [go_sem, *];done))
 have Wy:mU.cell? ⟨jL.heap.size,0,none⟩=some (.int .u64 a2):=dN hb3 (by first | assumption | (simp [go_sem, *];done))
 have Wx:mU.cell? ⟨jL.heap.size,1,none⟩=some (.int .u64 b2):=dN hb3 (by first | assumption | (simp [go_sem, *];done))
 have aAf:mU.frozen? ⟨w.heap.size,0,none⟩=false:=dS hb3 (by first | assumption | (simp [go_sem];done) | (simp [go_sem];omega)) (by first | assumption | (simp [go_sem, *];done))
 have aAe:mU.frozen? ⟨w.heap.size,1,none⟩=false:=dS hb3 (by first | assumption | (simp [go_sem];done) | (simp [go_sem];omega)) (by first | assumption | (simp [go_sem, *];done))
 have aAd:mU.frozen? ⟨w.heap.size + 1,0,none⟩=false:=dS hb3 (by first | assumption | (simp [go_sem];done) | (simp [go_sem];omega)) (by first | assumption | (simp [go_sem, *];done))
 have aAc:mU.frozen? ⟨w.heap.size + 1,1,none⟩=false:=dS hb3 (by first | assumption | (simp [go_sem];done) | (simp [go_sem];omega)) (by first | assumption | (simp [go_sem, *];done))
 have aAb:mU.frozen? ⟨jL.heap.size,0,none⟩=false:=dS hb3 (by first | assumption | (simp [go_sem];done) | (simp [go_sem];omega)) (by first | assumption | (simp [go_sem, *];done))
 have aAa:mU.frozen? ⟨jL.heap.size,1,none⟩=false:=dS hb3 (by first | assumption | (simp [go_sem];done) | (simp [go_sem];omega)) (by first | assumption | (simp [go_sem, *];done))
 go_wp2_with fail
 refine (HP.out _ a2 b2 Ff.out).mono ?_
 rintro e lM ⟨a3,b3,rfl,Yq,hb4⟩
 have hB4:Below w.heap.size w lM:=by (repeat' (first | (with_reducible exact aI _ _) | (with_reducible assumption) | (with_reducible refine Below.drew ?_) | (with_reducible refine Below.setCell ?_ ?_ _) | (with_reducible refine dY ?_ (by assumption)) | (with_reducible refine Below.alloc ?_ ?_ _) | go_size))
 have Nq:w.heap.size < lM.heap.size:=aM (by first | assumption | (simp [go_sem];done) | (simp [go_sem];omega)) hb4.size
 have Np:w.heap.size + 1 < lM.heap.size:=aM (by first | assumption | (simp [go_sem];done) | (simp [go_sem];omega)) hb4.size
 have Nn:jL.heap.size < lM.heap.size:=aM (by first | assumption | (simp [go_sem];done) | (simp [go_sem];omega)) hb4.size
 have Ww:lM.cell? ⟨w.heap.size,0,none⟩=some (.int .i64 xh):=dN hb4 (by first | assumption | (simp [go_sem, *];done))
 have Wv:lM.cell? ⟨w.heap.size,1,none⟩=some (.int .u64 xl):=dN hb4 (by first | assumption | (simp [go_sem, *];done))
 have Wu:lM.cell? ⟨w.heap.size + 1,0,none⟩=some (.int .i64 0):=dN hb4 (by first | assumption | (simp [go_sem, *];done))
 have Wt:lM.cell? ⟨w.heap.size + 1,1,none⟩=some (.int .u64 0):=dN hb4 (by first | assumption | (simp [go_sem, *];done))
 have Ws:lM.cell? ⟨jL.heap.size,0,none⟩=some (.int .u64 a2):=dN hb4 (by first | assumption | (simp [go_sem, *];done))
 have Wq:lM.cell? ⟨jL.heap.size,1,none⟩=some (.int .u64 b2):=dN hb4 (by first | assumption | (simp [go_sem, *];done))
 have Zz:lM.frozen? ⟨w.heap.size,0,none⟩=false:=dS hb4 (by first | assumption | (simp [go_sem];done) | (simp [go_sem];omega)) (by first | assumption | (simp [go_sem, *];done))
 have Zy:lM.frozen? ⟨w.heap.size,1,none⟩=false:=dS hb4 (by first | assumption | (simp [go_sem];done) | (simp [go_sem];omega)) (by first | assumption | (simp [go_sem, *];done))
 have Zx:lM.frozen? ⟨w.heap.size + 1,0,none⟩=false:=dS hb4 (by first | assumption | (simp [go_sem];done) | (simp [go_sem];omega)) (by first | assumption | (simp [go_sem, *];done))
 have Zw:lM.frozen? ⟨w.heap.size + 1,1,none⟩=false:=dS hb4 (by first | assumption | (simp [go_sem];done) | (simp [go_sem];omega)) (by first | assumption | (simp [go_sem, *];done))
 have Zv:lM.frozen? ⟨jL.heap.size,0,none⟩=false:=dS hb4 (by first | assumption | (simp [go_sem];done) | (simp [go_sem];omega)) (by first | assumption | (simp [go_sem, *];done))
 have Zu:lM.frozen? ⟨jL.heap.size,1,none⟩=false:=dS hb4 (by first | assumption | (simp [go_sem];done) | (simp [go_sem];omega)) (by first | assumption | (simp [go_sem, *];done))
 have HNA3:=aA Yq
 clear Yq
 go_wp2_with fail
 refine (HS.out _).mono ?_
 rintro e w' ⟨rfl,rfl⟩
 go_wp2_with fail
 refine (HZ.out _ a3 b3 HNA3.out).mono ?_
 rintro e qE ⟨a4,b4,rfl,hat,hb5⟩
 have Zt:Below w.heap.size w qE:=by (repeat' (first | (with_reducible exact aI _ _) | (with_reducible assumption) | (with_reducible refine Below.drew ?_) | (with_reducible refine Below.setCell ?_ ?_ _) | (with_reducible refine dY ?_ (by assumption)) | (with_reducible refine Below.alloc ?_ ?_ _) | go_size))
 have Xv:w.heap.size < qE.heap.size:=aM (by first | assumption | (simp [go_sem];done) | (simp [go_sem];omega)) hb5.size
 have Xu:w.heap.size + 1 < qE.heap.size:=aM (by first | assumption | (simp [go_sem];done) | (simp [go_sem];omega)) hb5.size
 have Xt:jL.heap.size < qE.heap.size:=aM (by first | assumption | (simp [go_sem];done) | (simp [go_sem];omega)) hb5.size
 have k5_0:qE.cell? ⟨w.heap.size,0,none⟩=some (.int .i64 xh):=dN hb5 (by first | assumption | (simp [go_sem, *];done))
 have k5_1:qE.cell? ⟨w.heap.size,1,none⟩=some (.int .u64 xl):=dN hb5 (by first | assumption | (simp [go_sem, *];done))
 have k5_2:qE.cell? ⟨w.heap.size + 1,0,none⟩=some (.int .i64 0):=dN hb5 (by first | assumption | (simp [go_sem, *];done))
 have k5_3:qE.cell? ⟨w.heap.size + 1,1,none⟩=some (.int .u64 0):=dN hb5 (by first | assumption | (simp [go_sem, *];done))
 have k5_4:qE.cell? ⟨jL.heap.size,0,none⟩=some (.int .u64 a3):=dN hb5 (by first | assumption | (simp [go_sem, *];done))
 have k5_5:qE.cell? ⟨jL.heap.size,1,none⟩=some (.int .u64 b3):=dN hb5 (by first | assumption | (simp [go_sem, *];done))
 have f5_0:qE.frozen? ⟨w.heap.size,0,none⟩=false:=dS hb5 (by first | assumption | (simp [go_sem];done) | (simp [go_sem];omega)) (by first | assumption | (simp [go_sem, *];done))
 have f5_1:qE.frozen? ⟨w.heap.size,1,none⟩=false:=dS hb5 (by first | assumption | (simp [go_sem];done) | (simp [go_sem];omega)) (by first | assumption | (simp [go_sem, *];done))
 have f5_2:qE.frozen? ⟨w.heap.size + 1,0,none⟩=false:=dS hb5 (by first | assumption | (simp [go_sem];done) | (simp [go_sem];omega)) (by first | assumption | (simp [go_sem, *];done))
 have f5_3:qE.frozen? ⟨w.heap.size + 1,1,none⟩=false:=dS hb5 (by first | assumption | (simp [go_sem];done) | (simp [go_sem];omega)) (by first | assumption | (simp [go_sem, *];done))
 have f5_4:qE.frozen? ⟨jL.heap.size,0,none⟩=false:=dS hb5 (by first | assumption | (simp [go_sem];done) | (simp [go_sem];omega)) (by first | assumption | (simp [go_sem, *];done))
 have f5_5:qE.frozen? ⟨jL.heap.size,1,none⟩=false:=dS hb5 (by first | assumption | (simp [go_sem];done) | (simp [go_sem];omega)) (by first | assumption | (simp [go_sem, *];done))
 have HAT:=aA hat
 clear hat
 go_wp2
 refine aO (v:=.tuple #[.agg #[.int .i64 a4,.int .u64 b4],.int .i64 T,.int .i64 0]) (by simp [results,Tryz.results162,go_sem, *]) rfl (⟨_,_,rfl,HAT.out,?_⟩)
 repeat' (first | (with_reducible exact aI _ _) | (with_reducible assumption) | (with_reducible refine Below.drew ?_) | (with_reducible refine Below.setCell ?_ ?_ _) | (with_reducible refine dY ?_ (by assumption)) | (with_reducible refine Below.alloc ?_ ?_ _) | go_size)
theorem QS {n:Nat} (h:n < 9223372036854775808):IntKind.i64.wrap (n:Int)=(n:Int)∧wrap64 (n:Int)=(n:Int)∧IntKind.u64.wrap (n:Int)=(n:Int)∧wrap64 (-(n:Int))=-(n:Int):=by
 rw [aZ,aU]
 unfold wrap64
 omega
theorem UN (n h l:Nat) (w:World) (a:Na n h l) (hi:In (n:Int)) :
  Calls Tryz.prog 179 #[.agg #[.int .u64 h,.int .u64 l],.bool false] w (AZ (n:Int) w):=by
 have:=yQ n h l false w a
 rw [aX (by decide),xJ hi] at this
 exact this
theorem yP (n h l:Nat) (w:World) (a:Na n h l) (hi:In (-(n:Int))) :
  Calls Tryz.prog 179 #[.agg #[.int .u64 h,.int .u64 l],.bool true] w (AZ (-(n:Int)) w):=by
 have:=yQ n h l true w a
 rw [aT rfl,xJ hi] at this
 exact this
theorem YY {m r:Nat} (h:r≤m):(m:Int) - (r:Int)=((m - r:Nat):Int):=by omega
theorem YD (x xh c:Int) (xl:Nat) (w:World) (hx:At x xh xl) (hc0:-9223372036854775808≤c) (hc1:c≤9223372036854775807) (hc2:2≤c) :
  Calls Tryz.prog 162 #[.agg #[.int .i64 xh,.int .u64 xl],.int .i64 c] w (Lp (tF (dv x c)) (if In (dv x c) then rs x c else 0) (CP (dv x c)) w):=by
 have hc:c≠0:=by omega
 have SZ:=fun w=>yO c w hc0 hc1
 have NN:=fun w=>MH x xh xl w hx
 have BY:=fun w h l (a:Na x.natAbs h l)=>Sq x.natAbs h l c.natAbs w a (by omega) (by omega)
 have cz:(c == 0)=false:=by simpa using hc
 have hn:x.natAbs≤170141183460469231731687303715884105728:=by have:=hx.inn;unfold In at this;omega
 have hr:x.natAbs % c.natAbs < c.natAbs:=cK _ (by omega)
 have hneg:=hx.neg
 have DL:=aA (@RF x c hc)
 have DU:=aA (@wI x c hc)
 have hqq:x.natAbs / c.natAbs≤85070591730234615865843651857942052864:=by
  refine bH (Nat.div_le_div_left (show 2≤c.natAbs by omega) (by omega)) ?_
  omega
 generalize x.natAbs / c.natAbs=q at *
 generalize x.natAbs % c.natAbs=r at *
 obtain ⟨r1,r2,r3,r4⟩:=@QS r (by omega)
 clear hn
 have cs:¬ c < 0:=by omega
 by_cases hl:x < 0↔c < 0
 ·obtain ⟨d1,d2⟩:=DL.out hl
  rw [d1,d2]
  have hi:In (q:Int):=by unfold In;omega
  have hz:decide ((q:Int) < 0)=false:=by rw [decide_eq_false_iff_not];omega
  have ZP:=fun w h l (a:Na q h l)=>UN q h l w a hi
  rw [tF,CP,aT hi,aT hi,aT hi,aX cs]
  exact Sd x xh c xl _ _ q r r 0 r w hx (aA (aN (by omega))) (aN cs) cz SZ NN BY rfl _ ZP hz r1 r2 r3
 ·have DU0:=aA (DU.out hl).1
  have DU1:=aA (DU.out hl).2
  by_cases h0:r=0
  ·subst h0
   obtain ⟨d1,d2⟩:=DU0.out rfl
   have hi:In (-(q:Int)):=by unfold In;omega
   rw [d1,d2,tF,CP,aT hi,aT hi,aT hi]
   have ZN:=fun w h l (a:Na q h l)=>yP q h l w a hi
   have hr0:(((0:Nat):Int) != 0)=false:=rfl
   exact Sc x xh c xl _ _ q 0 0 0 0 w hx (aA (aV (by omega))) (aN cs) cz SZ NN BY hr0 rfl _ ZN r1 r2 r3
  ·obtain ⟨d1,d2⟩:=DU1.out h0
   have hi:In (-((q + 1:Nat):Int)):=by unfold In;omega
   rw [d1,d2,tF,CP,aT hi,aT hi,aT hi]
   have PL:=fun w h l (a:Na q h l)=>Ad q h l 1 w a (by omega)
   rw [show (q + 1) % 340282366920938463463374607431768211456=q + 1 from Nat.mod_eq_of_lt (by omega)] at PL
   have ZQ:=fun w h l (a:Na (q + 1) h l)=>yP (q + 1) h l w a hi
   have hr0:((r:Int) != 0)=true:=by simpa using h0
   obtain ⟨s1,s2,s3,s4⟩:=@QS (c.natAbs - r) (by omega)
   rw [aX cs]
   exact Ku x xh c xl _ _ q r (c.natAbs - r) 0 _ w hx (aA (aV (by omega))) (aN cs) cz SZ NN BY hr0 (q + 1) PL (YY (Nat.le_of_lt hr)) _ ZQ s1 s2 s3
end Fx
end Go.Proofs.YtbbhmhihpdmoiaaGreat
