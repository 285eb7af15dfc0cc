import Derived.Test.YtbbhmhihpdmoiaaGreatJr20
set_option linter.unusedVariables false
set_option linter.unusedSimpArgs false
set_option maxRecDepth 100000
set_option maxHeartbeats 32000000
namespace Go.Proofs.YtbbhmhihpdmoiaaGreat
namespace Fx
open Go Go.RowKit Wm
theorem oI {P:Program} {fn:Func} {p p2 u:Tmp} {ty ty2:TypeId} (h:fn.results=#[.cell p ty,.cell p2 ty2,.tmp u]) (tmps:Array Value) (w:World) (g g2:Nat) (t t2:TypeId) (cs cs2:Array Value) (fr fr2:Nat×Nat) (d d2:TypeDesc) (v:Value)
  (hp:tmps.getD p undef=.pointer (some ⟨g,0,none⟩)) (hg:w.heap[g]?=some (.cells cs t fr)) (hu:P.underlying ty=some d) (hd:(match d with | .struct _ | .array _ _=>true | _=>false)=true) (hi:(P.info? ty).map (·.size)=some cs.size)
  (hp2:tmps.getD p2 undef=.pointer (some ⟨g2,0,none⟩)) (hg2:w.heap[g2]?=some (.cells cs2 t2 fr2)) (hu2:P.underlying ty2=some d2) (hd2:(match d2 with | .struct _ | .array _ _=>true | _=>false)=true) (hi2:(P.info? ty2).map (·.size)=some cs2.size)
  (hv:tmps.getD u undef=v) :
  (results fn tmps).run P w=.ok (.tuple #[.agg cs,.agg cs2,v]) w:=by
 have hp':tmps[p]?.getD undef=.pointer (some ⟨g,0,none⟩):=by simpa using hp
 have hp2':tmps[p2]?.getD undef=.pointer (some ⟨g2,0,none⟩):=by simpa using hp2
 have hv':tmps[u]?.getD undef=v:=by simpa using hv
 simp [results,h,hp',hp2',hv',asAddr,run_loadVar_row w g t ty cs fr d hg hu hd hi,run_loadVar_row w g2 t2 ty2 cs2 fr2 d2 hg2 hu2 hd2 hi2]
structure XH (x c Q:Int) (B:Nat) (w W:World):Prop where
 bx:dZ w.heap.size x W
 bc:dZ (w.heap.size + 1) c W
 bq:dZ B Q W
 hB:w.heap.size + 1 + 1 + 1 < B
 below:Below w.heap.size w W
theorem XH.up {x c Q:Int} {B:Nat} {w W X:World} (i:XH x c Q B w W) (hb:Below W.heap.size W X):XH x c Q B w X :=
 ⟨dZ.below hb i.bx,dZ.below hb i.bc,dZ.below hb i.bq,i.hB,dY i.below hb⟩
theorem XH.put {x c Q:Int} {B:Nat} {w W:World} (i:XH x c Q B w W) (g:Nat) (h1:g=w.heap.size + 1 + 1∨g=w.heap.size + 1 + 1 + 1) (a:Array Value):XH x c Q B w (W.setRow g a):=by
 have hB:=i.hB
 exact ⟨i.bx.other (by omega) _,i.bc.other (by omega) _,i.bq.other (by omega) _,hB,Below.row i.below (by omega) _⟩
theorem uH.done {x c Q:Int} {n q r B:Nat} {w W:World} (i:uH x c n q r B w W) (b:Bool) (hz:decide (Q < 0)=b) (hq:Q.natAbs=q) :
  XH x c Q B w (W.setCell ⟨B,0,none⟩ (.bool b))∧dZ (w.heap.size + 1 + 1) 0 (W.setCell ⟨B,0,none⟩ (.bool b))∧dZ (w.heap.size + 1 + 1 + 1) 0 (W.setCell ⟨B,0,none⟩ (.bool b)):=by
 have hB:=i.hB
 exact ⟨⟨i.bx.iX (by omega) _,i.bc.iX (by omega) _,i.bq.neg b Q hz hq,hB,i.below.setCell (p:=⟨B,0,none⟩) (by show _≤B;omega) _⟩,i.r1.iX (by omega) _,i.r2.iX (by omega) _⟩
theorem uH.Ch {x c:Int} {n q r B:Nat} {w W:World} (i:uH x c n q r B w W):W.cell? ⟨B,0,none⟩=some (.bool false)∧W.frozen? ⟨B,0,none⟩=false:=by
 have h:=i.bq.head
 rw [aN (by omega)] at h
 exact ⟨h,dU i.bq⟩
theorem Sr (w:World) (A B C D:Obj):(((((w.alloc A).alloc B).alloc C).alloc D).heap[w.heap.size]?=some A∧((((w.alloc A).alloc B).alloc C).alloc D).heap[w.heap.size + 1]?=some B)∧((((w.alloc A).alloc B).alloc C).alloc D).heap[w.heap.size + 1 + 1]?=some C∧((((w.alloc A).alloc B).alloc C).alloc D).heap[w.heap.size + 1 + 1 + 1]?=some D:=oL w A B C D
theorem TY (x c:Int) (m n:Nat) (Q P NP R:Int) (w:World) (hn:Hid (0 < n)) (hm:Hid (m < 2 ^ 144)) (hxm:Hid (x.natAbs=m)) (hcn:Hid (c.natAbs=n)) (hnB:Hid (n < BB / 4))
  (hsame:Hid (decide (x < 0)=decide (c < 0)→Q=((m / n:Nat):Int))) (FQ:Hid (decide (x < 0)≠decide (c < 0)→m % n=0→Q=-((m / n:Nat):Int))) (FP:Hid (decide (x < 0)≠decide (c < 0)→m % n≠0→Q=-((m / n + 1:Nat):Int)))
  (hqB:Hid (m / n < BB / 4)) (hcp:Hid (decide (c < 0)=false))
  (cE:Hid (pO 164 #[.agg (bv c)] (.bool false)))
  (cM:Hid (pO 157 #[.agg (bv Q),.agg (bv c)] (.agg (bv P)))) (cN:Hid (pO 168 #[.agg (bv P)] (.agg (bv NP)))) (cA:Hid (pO 158 #[.agg (bv x),.agg (bv NP)] (.agg (bv R)))) :
  Calls Tryz.prog 159 #[.agg (bv x),.agg (bv c)] w fun e w'=>e=.returned (.tuple #[.agg (bv Q),.agg (bv R),.int .i64 0])∧Below w.heap.size w w':=by
 have h4:=Sr w (.cells (bv x) 214) (.cells (bv c) 214) (.cells (bv 0) 214) (.cells (bv 0) 214)
 have HX:Hid (dZ w.heap.size x ((((w.alloc (.cells (bv x) 214)).alloc (.cells (bv c) 214)).alloc (.cells (bv 0) 214)).alloc (.cells (bv 0) 214))):=aA h4.1.1
 have HC:Hid (dZ (w.heap.size + 1) c ((((w.alloc (.cells (bv x) 214)).alloc (.cells (bv c) 214)).alloc (.cells (bv 0) 214)).alloc (.cells (bv 0) 214))):=aA h4.1.2
 have H1:Hid (dZ (w.heap.size + 1 + 1) 0 ((((w.alloc (.cells (bv x) 214)).alloc (.cells (bv c) 214)).alloc (.cells (bv 0) 214)).alloc (.cells (bv 0) 214))):=aA h4.2.1
 have H2:Hid (dZ (w.heap.size + 1 + 1 + 1) 0 ((((w.alloc (.cells (bv x) 214)).alloc (.cells (bv c) 214)).alloc (.cells (bv 0) 214)).alloc (.cells (bv 0) 214))):=aA h4.2.2
 have HB:Hid (Below w.heap.size w ((((w.alloc (.cells (bv x) 214)).alloc (.cells (bv c) 214)).alloc (.cells (bv 0) 214)).alloc (.cells (bv 0) 214))):=aA (by go_grown)
 clear h4
 go_enter Tryz.func159,Tryz.ntmps159
 go_wp2_with (refine wpList_load_row rfl 214 (.tmp 3) rfl (w.heap.size + 1) rfl _ _ _ _ HC.out aD rfl (eD _) ?_)
 refine (cE.out _).mono ?_
 rintro e w1 ⟨rfl,hb1⟩
 have hsz:w.heap.size + 1 + 1 + 1 < w1.heap.size:=by have:=hb1.size;simp at this;omega
 have HB1:=dY HB.out hb1
 have h3:=jU w1 (.cells (bv 0) 214) (.cells (bv 0) 214) (.cells (bv c) 214)
 have hc0:(bv c).setIfInBounds 0 (.bool false)=bv (n:Int):=by
  unfold bv
  rw [sG,hcn.out,aN (by omega),bW]
 have I0:uH x c n (m / 2 ^ 144 / n) (m / 2 ^ 144 % n) w1.heap.size w (((w1.alloc (.cells (bv 0) 214)).alloc (.cells (bv 0) 214)).alloc (.cells ((bv c).setIfInBounds 0 (.bool false)) 214)):=by
  have e0:m / 2 ^ 144=0:=Nat.div_eq_of_lt hm.out
  rw [e0,Nat.zero_div,Nat.zero_mod,hc0]
  have h3':=jU w1 (.cells (bv 0) 214) (.cells (bv 0) 214) (.cells (bv (n:Int)) 214)
  have hb2:Below w1.heap.size w1 (((w1.alloc (.cells (bv 0) 214)).alloc (.cells (bv 0) 214)).alloc (.cells (bv (n:Int)) 214)):=by go_grown
  exact ⟨dZ.below hb2 (dZ.below hb1 HX.out),dZ.below hb2 (dZ.below hb1 HC.out),dZ.below hb2 (dZ.below hb1 H1.out),dZ.below hb2 (dZ.below hb1 H2.out),h3'.1,h3'.2.1,h3'.2.2,hsz,dY HB1 hb2⟩
 have HI0:=aA I0
 have RC:Hid (dZ (w.heap.size + 1) c ((w1.alloc (.cells (bv 0) 214)).alloc (.cells (bv 0) 214))):=aA (dW (dW (dZ.below hb1 HC.out)))
 have RD:Hid (dZ (w1.heap.size + 1 + 1) c (((w1.alloc (.cells (bv 0) 214)).alloc (.cells (bv 0) 214)).alloc (.cells (bv c) 214))):=aA h3.2.2
 have cd:=RD.out.head
 have fd:(((w1.alloc (.cells (bv 0) 214)).alloc (.cells (bv 0) 214)).alloc (.cells (bv c) 214)).frozen? ⟨w1.heap.size + 1 + 1,0,none⟩=false:=dU RD.out
 clear I0 h3 HB1 hb1 HX HC H1 H2 HB hc0
 have RC2:=aA (dW (o:=.cells (bv 0) 214) RC.out)
 go_wp2_with (first | (refine wpList_load_row rfl 214 (.tmp 3) rfl (w.heap.size + 1) rfl _ _ _ _ RC.out aD rfl (eD _) ?_) | (refine wpList_load_row rfl 214 (.tmp 3) rfl (w.heap.size + 1) rfl _ _ _ _ RC2.out aD rfl (eD _) ?_) | (refine fB rfl 214 (.tmp 9) (.tmp 17) rfl (w1.heap.size + 1 + 1) _ _ (bv c) rfl (by simp) rfl (eD _) (gI 0 _) (gZ _) ?_))
 have Bg:∃ B,w1.heap.size=B:=⟨_,rfl⟩
 go_loopg [10] 144 (DoRel x c m n w1.heap.size w)
 case atStart=>exact ⟨by omega,rfl,HI0.out⟩
 case round =>
  clear HI0 RC RC2 RD cd fd
  obtain ⟨hg4,rfl,I⟩:=hrel
  generalize w1.heap.size=B at *
  cases gk with
  | succ k =>
   obtain ⟨q,hq⟩:∃ q,m / 2 ^ (k + 1) / n=q:=⟨_,rfl⟩
   obtain ⟨r,hr⟩:∃ r,m / 2 ^ (k + 1) % n=r:=⟨_,rfl⟩
   obtain ⟨b,hb⟩:∃ b,m / 2 ^ k % 2=b:=⟨_,rfl⟩
   obtain ⟨D,hD⟩:∃ D,m / 65536 ^ (k / 16) % 65536=D:=⟨_,rfl⟩
   obtain ⟨e,he⟩:∃ e,k % 16=e:=⟨_,rfl⟩
   obtain ⟨f,hf⟩:∃ f,k / 16=f:=⟨_,rfl⟩
   have hbe:D / 2 ^ e % 2=b:=by rw [←hD,←he,←hb];exact Rx m k
   have hst:=Kt hn.out hq hr hb
   have hrn:=dv_le hn.out hr
   have HST:=aA hst
   have qD:=aA hrn
   have HBE:=aA hbe
   have hDl:D < 65536:=by omega
   have HDL:=aA hDl
   have hbl:b≤1:=by omega
   have vR:=aA hbl
   rw [hq,hr] at I
   have HI:=aA I
   have s1:(((k + 1:Nat):Int) - 1)=(k:Int):=by omega
   have k0:(0:Int)≤(k:Int):=by omega
   have k1:(k:Int) < 144:=by omega
   have f0:(0:Int)≤(f:Int):=by omega
   have f1:(f:Int) < 20:=by omega
   have e16:(e:Int) < 16:=by omega
   have E0:(k:Int).tdiv 16=(f:Int):=by rw [Int.tdiv_eq_ediv_of_nonneg k0];omega
   have E1:(k:Int).tmod 16=(e:Int):=by rw [Int.tmod_eq_emod_of_nonneg k0];omega
   have E2:IntKind.i64.wrap (f:Int)=(f:Int):=by rw [aZ];omega
   have E3:IntKind.i64.wrap (e:Int)=(e:Int):=by rw [aZ];omega
   have cx0:∀ W,dZ w.heap.size x W→W.cell? ⟨w.heap.size,1 + f,none⟩=some (.int .u64 (D:Int)):=fun W h=>by rw [h.Si f (by omega),hxm.out,←hf,hD]
   have CX0:=aA cx0
   rw [s1]
   clear I hq hr hb hD he hf hst hrn hbe hDl hbl s1 hg4 cx0
   go_wp2_with (refine wpList_load_row rfl 214 (.tmp 8) rfl (B + 1) rfl _ _ _ _ HI.out.br aD rfl (eD _) ?_)
   obtain ⟨r2,hr2⟩:∃ r2,r + r=r2:=⟨_,rfl⟩
   have cM1:=Ba r r
   rw [hr2] at cM1
   refine (cM1 _).mono ?_
   rintro e1 x1 ⟨rfl,hb1⟩
   have I1:=HI.out.up hb1
   have HI1:=aA I1
   have I2:=I1.Wh r2
   have HI2:=aA I2
   have cx:=CX0.out _ I2.bx
   clear I1 I2 hb1 HI CX0 cM1
   go_wp2_with (refine dQ rfl 214 (.tmp 8) (.tmp 25) rfl (B + 1) _ _ (bv (r2:Int)) rfl rfl HI1.out.br (eD _) (gI _ _) (gZ _) ?_)
   go_loopg [11,12] e (DiRel x c n q r2 B D e w)
   case atStart=>exact ⟨0,rfl,by simp,rfl,by omega,HI2.out⟩
   case round =>
    clear HI1 HI2 cx
    obtain ⟨j,rfl,rfl,rfl,hje,I⟩:=hrel
    by_cases hj:j < e
    ·obtain ⟨v,hv⟩:∃ v,D / 2 ^ j=v:=⟨_,rfl⟩
     have hvl:v < 65536:=by rw [←hv];exact Nat.lt_of_le_of_lt (Nat.div_le_self _ _) HDL.out
     have hv2:D / 2 ^ (j + 1)=v / 2:=by rw [bM,←Nat.div_div_eq_div_mul,hv]
     have uJ:=aA hv2
     have HVL:=aA hvl
     have HI:=aA I
     have j1:(j:Int) < (e:Int):=by omega
     obtain ⟨v2,hv3⟩:∃ v2,v / 2=v2:=⟨_,rfl⟩
     have E4:IntKind.u64.wrap ((v:Int) / 2)=(v2:Int):=by rw [aU];omega
     rw [hv3] at uJ
     rw [hv]
     clear I hv hv2 hvl hv3
     go_wp2_with fail
     go_roundg (e - (j + 1))
     case measure=>omega
     case rel =>
      refine ⟨j + 1,rfl,?_,by go_num,by omega,HI.out⟩
      rw [uJ.out]
    ·obtain rfl:j=e:=by omega
     have j1:¬ ((j:Int) < (j:Int)):=by omega
     obtain ⟨v,hv⟩:∃ v,D / 2 ^ j=v:=⟨_,rfl⟩
     have hbe:=HBE.out
     have hvl:v < 65536:=by rw [←hv];exact Nat.lt_of_le_of_lt (Nat.div_le_self _ _) HDL.out
     rw [hv] at hbe ⊢
     obtain ⟨a,ha⟩:∃ a,r2 % 65536=a:=⟨_,rfl⟩
     obtain ⟨a2,ha2⟩:∃ a2,a + b=a2:=⟨_,rfl⟩
     obtain ⟨r3,hr3⟩:∃ r3,r2 + b=r3:=⟨_,rfl⟩
     obtain ⟨q2,hq2⟩:∃ q2,q + q=q2:=⟨_,rfl⟩
     have cr:wr.cell? ⟨B + 1,1,none⟩=some (.int .u64 (a:Int)):=by
      have:=I.br.Si 0 (by omega)
      rw [bW,Nat.pow_zero,Nat.div_one,ha] at this
      exact this
     have fr:wr.frozen? ⟨B + 1,1,none⟩=false:=dU I.br
     have E4:(v:Int) % 2=(b:Int):=by omega
     have E5:IntKind.u64.wrap (b:Int)=(b:Int):=by have:=vR.out;rw [aU];omega
     have E6:IntKind.u64.wrap ((a:Int) + (b:Int))=(a2:Int):=by have:=vR.out;rw [aU];omega
     have I3:=I.incR vR.out (by omega)
     rw [ha,ha2,hr3] at I3
     have HI3:=aA I3
     have cM2:=Ba q q
     rw [hq2] at cM2
     have CM2:=aA cM2
     have H3:Hid (r3 < n + n):=aA (by have h2:=qD.out;have h3:=vR.out;omega)
     have Mc:Hid ((r3 < n→m / 2 ^ k / n=q2∧m / 2 ^ k % n=r3)∧(¬ r3 < n→m / 2 ^ k / n=q2 + 1∧m / 2 ^ k % n=r3 - n)):=aA (by
      have:=HST.out
      rw [hr2,hr3,hq2] at this
      exact this)
     have Vo:Hid (q2 % 2=0):=aA (by omega)
     clear I I3 hv hvl hbe ha hje ha2 hr3 hq2 hr2 cM2 HST
     go_wp2_with (refine wpList_load_row rfl 214 (.tmp 7) rfl (B) rfl _ _ _ _ HI3.out.bq aD rfl (eD _) ?_)
     refine (CM2.out _).mono ?_
     rintro e1 x2 ⟨rfl,hb2⟩
     have I4:=HI3.out.up hb2
     have HI4:=aA I4
     have I5:=I4.Qj q2
     have Ul:=aA I5
     clear I4 I5 hb2 HI3 cr fr CM2
     go_wp2_with (first | (refine dQ rfl 214 (.tmp 7) (.tmp 49) rfl (B) _ _ (bv (q2:Int)) rfl rfl HI4.out.bq (eD _) (gI _ _) (gZ _) ?_) | (refine wpList_load_row rfl 214 (.tmp 8) rfl (B + 1) rfl _ _ _ _ Ul.out.br aD rfl (eD _) ?_) | (refine wpList_load_row rfl 214 (.tmp 9) rfl (B + 1 + 1) rfl _ _ _ _ Ul.out.bd aD rfl (eD _) ?_))
     refine (Rb r3 n _ ?_ ?_).mono ?_
     ·have h1:=hnB.out;have h2:=H3.out;omega
     ·have h1:=hnB.out;omega
     rintro e1 x3 ⟨rfl,hb3⟩
     have I6:=Ul.out.up hb3
     have XB:=aA I6
     clear I6 hb3 HI4 Ul
     by_cases hlt:r3 < n
     ·have hx:=Mc.out.1 hlt
      have HX:=aA hx
      rw [aV hlt]
      clear hx Mc hlt
      go_wp2_with fail
      go_roundg k
      case measure=>omega
      case rel =>
       refine ⟨by omega,by go_num,?_⟩
       rw [HX.out.1,HX.out.2]
       exact XB.out
     ·have hx:=Mc.out.2 hlt
      obtain ⟨r4,hr4⟩:∃ r4,r3 - n=r4:=⟨_,rfl⟩
      rw [hr4] at hx
      have HX:=aA hx
      have cA4:=fun w=>Sv r3 n w (by omega)
      rw [hr4] at cA4
      have CA4:=aA cA4
      rw [aN hlt]
      clear hx Mc hlt hr4 cA4
      go_wp2_with (first | (refine wpList_load_row rfl 214 (.tmp 8) rfl (B + 1) rfl _ _ _ _ XB.out.br aD rfl (eD _) ?_) | (refine wpList_load_row rfl 214 (.tmp 9) rfl (B + 1 + 1) rfl _ _ _ _ XB.out.bd aD rfl (eD _) ?_))
      refine (CA4.out _).mono ?_
      rintro e1 x4 ⟨rfl,hb4⟩
      have I7:=XB.out.up hb4
      have HI7:=aA I7
      have I8:=I7.Wh r4
      obtain ⟨u,hu⟩:∃ u,q2 % 65536=u:=⟨_,rfl⟩
      obtain ⟨u1,hu1⟩:∃ u1,u + 1=u1:=⟨_,rfl⟩
      have cq:(x4.setRow (B + 1) (bv (r4:Int))).cell? ⟨B,1,none⟩=some (.int .u64 (u:Int)):=by
       have:=I8.bq.Si 0 (by omega)
       rw [bW,Nat.pow_zero,Nat.div_one,hu] at this
       exact this
      have fq:(x4.setRow (B + 1) (bv (r4:Int))).frozen? ⟨B,1,none⟩=false:=dU I8.bq
      have E7:IntKind.u64.wrap ((u:Int) + 1)=(u1:Int):=by rw [aU];omega
      have I9:=I8.incQ Vo.out
      rw [hu,hu1] at I9
      have HI9:=aA I9
      clear I7 I8 I9 hb4 hu hu1 CA4
      go_wp2_with (refine dQ rfl 214 (.tmp 8) (.tmp 56) rfl (B + 1) _ _ (bv (r4:Int)) rfl rfl HI7.out.br (eD _) (gI _ _) (gZ _) ?_)
      go_roundg k
      case measure=>omega
      case rel =>
       refine ⟨by omega,by go_num,?_⟩
       rw [HX.out.1,HX.out.2]
       exact HI9.out
  | zero =>
   obtain ⟨q,hq⟩:∃ q,m / n=q:=⟨_,rfl⟩
   obtain ⟨r,hr⟩:∃ r,m % n=r:=⟨_,rfl⟩
   rw [Nat.pow_zero,Nat.div_one,hq,hr] at I
   have HI:=aA I
   have HQ:=aA hq
   have n0:¬ (0:Int)≤((0:Nat):Int) - 1:=by omega
   have hx:=I.bx.head
   have hc:=I.bc.head
   clear I
   cases hsx:decide (x < 0) with
   | true =>
    cases hsc:decide (c < 0) with
    | true =>
     exact absurd (hsc.symm.trans hcp.out) (by decide)
    | false =>
     have HSX:=aA hsx
     have HSC:=aA hsc
     rw [hsx] at hx
     rw [hsc] at hc
     have hne:decide (x < 0)≠decide (c < 0):=by rw [hsx,hsc];decide
     by_cases hr0:r=0
     ·have hQ:=FQ.out hne (by rw [hr];exact hr0)
      rw [hq] at hQ
      have Uh:=aA hQ
      have oO:=aA hr0
      clear hQ hr0 hne hsx hsc hq hr hsame FQ FP
      go_wp2_with (refine iT (by kernel_rfl) 214 (.tmp 8) rfl (B + 1) rfl _ _ _ _ HI.out.br aD rfl (eD _) ?_)
      refine (zD (r:Int) true _ (by have:=hqB.out;have h1:=oO.out;unfold BB at *;omega) (by have h1:=oO.out;rw [aV];omega)).mono ?_
      rintro e1 x1 ⟨rfl,hb1⟩
      have I1:=HI.out.up hb1
      have HI1:=aA I1
      have hx1:=I1.bx.head
      have hc1:=I1.bc.head
      rw [show decide (x < 0)=true from HSX.out] at hx1
      rw [show decide (c < 0)=false from HSC.out] at hc1
      clear I1 hb1 HI hx hc
      go_wp2_with (refine iT (by kernel_rfl) 214 (.tmp 7) rfl (B) rfl _ _ _ _ HI1.out.bq aD rfl (eD _) ?_)
      refine (zD (q:Int) (decide (q=0)) _ (by have:=hqB.out;have h1:=HQ.out;rw [h1] at this;unfold BB at *;omega) (by rw [bY];omega)).mono ?_
      rintro e1 x2 ⟨rfl,hb2⟩
      have I2:=HI1.out.up hb2
      obtain ⟨hq0,fq0⟩:=I2.Ch
      obtain ⟨bq,hbq⟩:∃ bq,decide (q=0)=bq:=⟨_,rfl⟩
      rw [hbq]
      obtain ⟨hS,h1,h2⟩:=I2.done (Q:=Q) (!bq) (by have:=Uh.out;rw [←hbq,←decide_not,bY];omega) (by have:=Uh.out;omega)
      have HS:=aA hS
      have H1:=aA h1
      have H2:=aA h2
      clear hS h1 h2 Uh HI1 I2 hb2 hx1 hc1 hbq HQ oO HSX HSC
      go_wp2_with fail
      rename_i K24 Cn
      refine (bG (n:=5)).1 (fD (F:=Fence.wide) (S:=fun X=>XH x c Q B w X) (by kernel_rfl) (XH.up HS.out (fG _ _ 1)) (fun hHeld=>?_))
      have gY:=dZ.below (fG _ _ 1) H1.out
      have hrow2:=dZ.below (fG _ _ 1) H2.out
      clear HS H1 H2
      refine dP (fun _=>trivial) (by kernel_rfl) (i:=0) (oi:=_) (v:=.agg (bv Q)) rfl (by kernel_rfl) (by kernel_rfl) (by kernel_rfl) (fun _ _ _ h=>h) (by assumption) (Or.inl ⟨by kernel_rfl,?_⟩) ?_
      ·intro wz hSw;exact eO 214 (.tmp 7) (by kernel_rfl) (B) (by kernel_rfl) _ _ _ _ (hSw.bq) aD (by kernel_rfl) (eD _)
      try simp only [aQ]
      refine dP (fun _=>trivial) (by kernel_rfl) (i:=1) (oi:=_) (v:=.agg (bv x)) rfl (by kernel_rfl) (by kernel_rfl) (by kernel_rfl) (fun _ _ _ h=>h) (by assumption) (Or.inl ⟨by kernel_rfl,?_⟩) ?_
      ·intro wz hSw;exact eO 214 (.tmp 2) (by kernel_rfl) (w.heap.size) (by kernel_rfl) _ _ _ _ (hSw.bx) aD (by kernel_rfl) (eD _)
      try simp only [aQ]
      refine dP (fun _=>trivial) (by kernel_rfl) (i:=2) (oi:=_) (v:=.agg (bv Q)) rfl (by kernel_rfl) (by kernel_rfl) (by kernel_rfl) (fun _ _ _ h=>h) (by assumption) (Or.inl ⟨by kernel_rfl,?_⟩) ?_
      ·intro wz hSw;exact eO 214 (.tmp 7) (by kernel_rfl) (B) (by kernel_rfl) _ _ _ _ (hSw.bq) aD (by kernel_rfl) (eD _)
      try simp only [aQ]
      refine dP (fun _=>trivial) (by kernel_rfl) (i:=3) (oi:=_) (v:=.agg (bv c)) rfl (by kernel_rfl) (by kernel_rfl) (by kernel_rfl) (fun _ _ _ h=>h) (by assumption) (Or.inl ⟨by kernel_rfl,?_⟩) ?_
      ·intro wz hSw;exact eO 214 (.tmp 3) (by kernel_rfl) (w.heap.size + 1) (by kernel_rfl) _ _ _ _ (hSw.bc) aD (by kernel_rfl) (eD _)
      try simp only [aQ]
      refine dX (fun _=>trivial) (i:=4) (o:=_) (by kernel_rfl) rfl (fun K hK=>?_)
      go_simp
      refine ⟨trivial,aW.2 ((cM.out _).mono ?_)⟩
      rintro e y1 ⟨rfl,hc1⟩
      dsimp only
      replace gY:=dZ.below hc1 gY;replace hrow2:=dZ.below hc1 hrow2
      refine hK.out _ _ (hHeld.up hc1) (fun hHeld=>?_)
      clear hK K
      try simp only [aQ]
      refine dX (fun _=>trivial) (i:=5) (o:=_) (by kernel_rfl) rfl (fun K hK=>?_)
      go_simp
      refine ⟨trivial,aW.2 ((cN.out _).mono ?_)⟩
      rintro e y2 ⟨rfl,hc2⟩
      dsimp only
      replace gY:=dZ.below hc2 gY;replace hrow2:=dZ.below hc2 hrow2
      refine hK.out _ _ (hHeld.up hc2) (fun hHeld=>?_)
      clear hK K
      try simp only [aQ]
      refine dX (fun _=>trivial) (i:=6) (o:=_) (by kernel_rfl) rfl (fun K hK=>?_)
      go_simp
      refine ⟨trivial,aW.2 ((cA.out _).mono ?_)⟩
      rintro e y3 ⟨rfl,hc3⟩
      dsimp only
      replace gY:=dZ.below hc3 gY;replace hrow2:=dZ.below hc3 hrow2
      refine hK.out _ _ (hHeld.up hc3) (fun hHeld=>?_)
      clear hK K
      try simp only [aQ]
      refine dX (fun _=>trivial) (i:=7) (o:=_) (by kernel_rfl) rfl (fun K hK=>?_)
      rw [aT (by kernel_rfl)]
      refine eY (fun _=>trivial) 214 (.tmp 4) (.tmp 87) (by kernel_rfl) (w.heap.size + 1 + 1) _ _ (bv Q) (by kernel_rfl) (by kernel_rfl) gY (eD _) (gI 0 _) (gZ _) ?_
      refine hK.out _ _ (hHeld.put _ (Or.inl rfl) _) (fun hHeld=>?_)
      clear hK K
      try simp only [aQ]
      replace hrow2:=dZ.other (k:=w.heap.size + 1 + 1) hrow2 (by omega) (bv Q)
      replace gY:=dZ.row gY Q
      refine dX (fun _=>trivial) (i:=8) (o:=_) (by kernel_rfl) rfl (fun K hK=>?_)
      rw [aT (by kernel_rfl)]
      refine eY (fun _=>trivial) 214 (.tmp 5) (.tmp 93) (by kernel_rfl) (w.heap.size + 1 + 1 + 1) _ _ (bv R) (by kernel_rfl) (by kernel_rfl) hrow2 (eD _) (gI 0 _) (gZ _) ?_
      refine hK.out _ _ (hHeld.put _ (Or.inr rfl) _) (fun hHeld=>?_)
      clear hK K
      try simp only [aQ]
      replace gY:=dZ.other (k:=w.heap.size + 1 + 1 + 1) gY (by omega) (bv R)
      replace hrow2:=dZ.row hrow2 R
      refine dP (fun _=>trivial) (by kernel_rfl) (i:=9) (oi:=_) (v:=?_) rfl (by kernel_rfl) (by kernel_rfl) (by kernel_rfl) (fun _ _ _ h=>h) (by assumption) (Or.inl ⟨by kernel_rfl,?_⟩) ?_
      rotate_left
      ·intro wz hSw;(first | (go_simp;done) | (go_simp;with_reducible rfl))
      try simp only [aQ]
      refine fC (by kernel_rfl) ?_ _
      refine Cn _ _ ?_
      have hBel:=hHeld.below
      refine wp_ret ?_
      (try simp only [Exit.inBlock,Exit.then])
      refine aO (v:=.tuple #[.agg (bv Q),.agg (bv R),.int .i64 0]) (oI rfl _ _ (w.heap.size + 1 + 1) (w.heap.size + 1 + 1 + 1) _ _ _ _ _ _ _ _ _ rfl gY aD rfl (eD _) rfl hrow2 aD rfl (eD _) rfl) rfl ?_
      exact ⟨rfl,hBel⟩
     ·have hQ:=FP.out hne (by rw [hr];exact hr0)
      rw [hq] at hQ
      have Uh:=aA hQ
      have oO:=aA hr0
      have qD:Hid (r < n):=aA (by rw [←hr];exact cK _ hn.out)
      clear hQ hr0 hne hsx hsc hq hr hsame FQ FP
      go_wp2_with (refine iT (by kernel_rfl) 214 (.tmp 8) rfl (B + 1) rfl _ _ _ _ HI.out.br aD rfl (eD _) ?_)
      refine (zD (r:Int) false _ (by have h1:=qD.out;have h2:=hnB.out;omega) (by have h1:=oO.out;rw [aN];omega)).mono ?_
      rintro e1 x1 ⟨rfl,hb1⟩
      have I1:=HI.out.up hb1
      have HI1:=aA I1
      clear I1 hb1 HI hx hc
      obtain ⟨q1,hq1⟩:∃ q1,q + 1=q1:=⟨_,rfl⟩
      have C1:Hid (pO 156 #[.int .i64 1] (.agg (bv 1))):=aA fun w=>Ap 1 w (by omega) (by omega)
      have C2:Hid (pO 158 #[.agg (bv (q:Int)),.agg (bv 1)] (.agg (bv (q1:Int)))):=aA fun w=>by
       have:=KS (q:Int) 1 w (by have h1:=hqB.out;have h2:=HQ.out;rw [h2] at h1;unfold BB at *;omega)
       rw [show (q:Int) + 1=(q1:Int) by omega] at this
       exact this
      have Mf:=aA hq1
      clear hq1
      go_wp2_with fail
      rename_i K22 hK22
      have HTT:∀ (X:World),uH x c n q1 r B w X→K22 { tmps:=#[.agg (bv x),.agg (bv c),.pointer (some ⟨w.heap.size,0,none⟩),.pointer (some ⟨w.heap.size + 1,0,none⟩),.pointer (some ⟨w.heap.size + 1 + 1,0,none⟩),.pointer (some ⟨w.heap.size + 1 + 1 + 1,0,none⟩),.int .i64 0,.pointer (some ⟨B,0,none⟩),.pointer (some ⟨B + 1,0,none⟩),.pointer (some ⟨B + 1 + 1,0,none⟩),.int .i64 (-1),u11,u12,.agg (bv c),.bool false,undef,undef,.agg (bv c),.pointer (some ⟨B + 1 + 1,0,none⟩),.int .i64 (-1),.bool false,u21,u22,u23,u24,u25,u26,u27,u28,u29,u30,u31,u32,u33,u34,u35,u36,u37,u38,u39,u40,u41,u42,u43,u44,u45,u46,u47,u48,u49,u50,u51,u52,u53,u54,u55,u56,u57,u58,u59,u60,u61,u62,.pointer (some ⟨w.heap.size,0,none⟩),.bool true,.pointer (some ⟨w.heap.size + 1,0,none⟩),.bool false,.bool true,.bool true,.agg (bv (r:Int)),.bool false,.bool true,.bool true,.agg (bv (q:Int)),.agg (bv 1),.agg (bv (q1:Int)),undef,undef,undef,undef,undef,undef,undef,undef,undef,undef,undef,undef,undef,undef,undef,undef,undef,undef],defers:=[] } X:=by
       intro X hX
       refine hK22 _ _ ?_
       have HI2:=aA hX
       have hx1:=hX.bx.head
       have hc1:=hX.bc.head
       rw [show decide (x < 0)=true from HSX.out] at hx1
       rw [show decide (c < 0)=false from HSC.out] at hc1
       clear hX
       go_wp2_with (refine iT (by kernel_rfl) 214 (.tmp 7) rfl (B) rfl _ _ _ _ HI2.out.bq aD rfl (eD _) ?_)
       refine (zD (q1:Int) false _ (by have:=hqB.out;have h1:=HQ.out;have h2:=Mf.out;rw [h1] at this;unfold BB at *;omega) (by have h2:=Mf.out;rw [aN];omega)).mono ?_
       rintro e1 x2 ⟨rfl,hb2⟩
       have I2:=HI2.out.up hb2
       obtain ⟨hq0,fq0⟩:=I2.Ch
       obtain ⟨hS,h1,h2⟩:=I2.done (Q:=Q) true (by have:=Uh.out;rw [aV];omega) (by have:=Uh.out;have h2:=Mf.out;omega)
       have HS:=aA hS
       have H1:=aA h1
       have H2:=aA h2
       clear hS h1 h2 Uh HI2 I2 hb2 hx1 hc1
       go_wp2_with fail
       rename_i K24 Cn
       refine (bG (n:=5)).1 (fD (F:=Fence.wide) (S:=fun X=>XH x c Q B w X) (by kernel_rfl) (XH.up HS.out (fG _ _ 1)) (fun hHeld=>?_))
       have gY:=dZ.below (fG _ _ 1) H1.out
       have hrow2:=dZ.below (fG _ _ 1) H2.out
       clear HS H1 H2
       refine dP (fun _=>trivial) (by kernel_rfl) (i:=0) (oi:=_) (v:=.agg (bv Q)) rfl (by kernel_rfl) (by kernel_rfl) (by kernel_rfl) (fun _ _ _ h=>h) (by assumption) (Or.inl ⟨by kernel_rfl,?_⟩) ?_
       ·intro wz hSw;exact eO 214 (.tmp 7) (by kernel_rfl) (B) (by kernel_rfl) _ _ _ _ (hSw.bq) aD (by kernel_rfl) (eD _)
       try simp only [aQ]
       refine dP (fun _=>trivial) (by kernel_rfl) (i:=1) (oi:=_) (v:=.agg (bv x)) rfl (by kernel_rfl) (by kernel_rfl) (by kernel_rfl) (fun _ _ _ h=>h) (by assumption) (Or.inl ⟨by kernel_rfl,?_⟩) ?_
       ·intro wz hSw;exact eO 214 (.tmp 2) (by kernel_rfl) (w.heap.size) (by kernel_rfl) _ _ _ _ (hSw.bx) aD (by kernel_rfl) (eD _)
       try simp only [aQ]
       refine dP (fun _=>trivial) (by kernel_rfl) (i:=2) (oi:=_) (v:=.agg (bv Q)) rfl (by kernel_rfl) (by kernel_rfl) (by kernel_rfl) (fun _ _ _ h=>h) (by assumption) (Or.inl ⟨by kernel_rfl,?_⟩) ?_
       ·intro wz hSw;exact eO 214 (.tmp 7) (by kernel_rfl) (B) (by kernel_rfl) _ _ _ _ (hSw.bq) aD (by kernel_rfl) (eD _)
       try simp only [aQ]
       refine dP (fun _=>trivial) (by kernel_rfl) (i:=3) (oi:=_) (v:=.agg (bv c)) rfl (by kernel_rfl) (by kernel_rfl) (by kernel_rfl) (fun _ _ _ h=>h) (by assumption) (Or.inl ⟨by kernel_rfl,?_⟩) ?_
       ·intro wz hSw;exact eO 214 (.tmp 3) (by kernel_rfl) (w.heap.size + 1) (by kernel_rfl) _ _ _ _ (hSw.bc) aD (by kernel_rfl) (eD _)
       try simp only [aQ]
       refine dX (fun _=>trivial) (i:=4) (o:=_) (by kernel_rfl) rfl (fun K hK=>?_)
       go_simp
       refine ⟨trivial,aW.2 ((cM.out _).mono ?_)⟩
       rintro e y1 ⟨rfl,hc1⟩
       dsimp only
       replace gY:=dZ.below hc1 gY;replace hrow2:=dZ.below hc1 hrow2
       refine hK.out _ _ (hHeld.up hc1) (fun hHeld=>?_)
       clear hK K
       try simp only [aQ]
       refine dX (fun _=>trivial) (i:=5) (o:=_) (by kernel_rfl) rfl (fun K hK=>?_)
       go_simp
       refine ⟨trivial,aW.2 ((cN.out _).mono ?_)⟩
       rintro e y2 ⟨rfl,hc2⟩
       dsimp only
       replace gY:=dZ.below hc2 gY;replace hrow2:=dZ.below hc2 hrow2
       refine hK.out _ _ (hHeld.up hc2) (fun hHeld=>?_)
       clear hK K
       try simp only [aQ]
       refine dX (fun _=>trivial) (i:=6) (o:=_) (by kernel_rfl) rfl (fun K hK=>?_)
       go_simp
       refine ⟨trivial,aW.2 ((cA.out _).mono ?_)⟩
       rintro e y3 ⟨rfl,hc3⟩
       dsimp only
       replace gY:=dZ.below hc3 gY;replace hrow2:=dZ.below hc3 hrow2
       refine hK.out _ _ (hHeld.up hc3) (fun hHeld=>?_)
       clear hK K
       try simp only [aQ]
       refine dX (fun _=>trivial) (i:=7) (o:=_) (by kernel_rfl) rfl (fun K hK=>?_)
       rw [aT (by kernel_rfl)]
       refine eY (fun _=>trivial) 214 (.tmp 4) (.tmp 87) (by kernel_rfl) (w.heap.size + 1 + 1) _ _ (bv Q) (by kernel_rfl) (by kernel_rfl) gY (eD _) (gI 0 _) (gZ _) ?_
       refine hK.out _ _ (hHeld.put _ (Or.inl rfl) _) (fun hHeld=>?_)
       clear hK K
       try simp only [aQ]
       replace hrow2:=dZ.other (k:=w.heap.size + 1 + 1) hrow2 (by omega) (bv Q)
       replace gY:=dZ.row gY Q
       refine dX (fun _=>trivial) (i:=8) (o:=_) (by kernel_rfl) rfl (fun K hK=>?_)
       rw [aT (by kernel_rfl)]
       refine eY (fun _=>trivial) 214 (.tmp 5) (.tmp 93) (by kernel_rfl) (w.heap.size + 1 + 1 + 1) _ _ (bv R) (by kernel_rfl) (by kernel_rfl) hrow2 (eD _) (gI 0 _) (gZ _) ?_
       refine hK.out _ _ (hHeld.put _ (Or.inr rfl) _) (fun hHeld=>?_)
       clear hK K
       try simp only [aQ]
       replace gY:=dZ.other (k:=w.heap.size + 1 + 1 + 1) gY (by omega) (bv R)
       replace hrow2:=dZ.row hrow2 R
       refine dP (fun _=>trivial) (by kernel_rfl) (i:=9) (oi:=_) (v:=?_) rfl (by kernel_rfl) (by kernel_rfl) (by kernel_rfl) (fun _ _ _ h=>h) (by assumption) (Or.inl ⟨by kernel_rfl,?_⟩) ?_
       rotate_left
       ·intro wz hSw;(first | (go_simp;done) | (go_simp;with_reducible rfl))
       try simp only [aQ]
       refine fC (by kernel_rfl) ?_ _
       refine Cn _ _ ?_
       have hBel:=hHeld.below
       refine wp_ret ?_
       (try simp only [Exit.inBlock,Exit.then])
       refine aO (v:=.tuple #[.agg (bv Q),.agg (bv R),.int .i64 0]) (oI rfl _ _ (w.heap.size + 1 + 1) (w.heap.size + 1 + 1 + 1) _ _ _ _ _ _ _ _ _ rfl gY aD rfl (eD _) rfl hrow2 aD rfl (eD _) rfl) rfl ?_
       exact ⟨rfl,hBel⟩
      refine (bG (n:=5)).1 (fD (F:=Fence.wide) (S:=fun X=>True) (by kernel_rfl) trivial (fun hHeld=>?_))
      clear hHeld
      have hs0:uH x c n q r B w x1.drew:=uH.up HI1.out (fG _ _ 1)
      refine kL (fun _=>trivial) (i:=0) (j:=1) (o:=_) (o2:=_) (by kernel_rfl) rfl rfl (fun K hK=>?_) (fun K hK=>?_)
      ·rw [aT (by kernel_rfl)]
       refine lW (fun _=>trivial) 214 (.tmp 7) (by kernel_rfl) (B) (by kernel_rfl) _ (bv (q:Int)) _ _ hs0.bq aD (by kernel_rfl) (eD _) ?_
       refine hK.out _ _ trivial (fun _=>?_)
       clear hK K
       try simp only [aQ]
       refine dX (fun _=>trivial) (i:=1) (o:=_) (by kernel_rfl) rfl (fun K hK=>?_)
       go_simp
       refine ⟨trivial,aW.2 ((C1.out _).mono ?_)⟩
       rintro e y1 ⟨rfl,hc1⟩
       dsimp only
       have hs1:=uH.up hs0 hc1
       refine hK.out _ _ (trivial) (fun hHeld=>?_)
       clear hK K
       try simp only [aQ]
       refine dX (fun _=>trivial) (i:=2) (o:=_) (by kernel_rfl) rfl (fun K hK=>?_)
       go_simp
       refine ⟨trivial,aW.2 ((C2.out _).mono ?_)⟩
       rintro e y2 ⟨rfl,hc2⟩
       dsimp only
       have hs2:=uH.up hs1 hc2
       refine hK.out _ _ (trivial) (fun hHeld=>?_)
       clear hK K
       try simp only [aQ]
       refine dX (fun _=>trivial) (i:=3) (o:=_) (by kernel_rfl) rfl (fun K hK=>?_)
       rw [aT (by kernel_rfl)]
       refine eY (fun _=>trivial) 214 (.tmp 7) (.tmp 75) (by kernel_rfl) (B) _ _ (bv (q1:Int)) (by kernel_rfl) (by kernel_rfl) hs2.bq (eD _) (gI _ _) (gZ _) ?_
       refine hK.out _ _ trivial (fun _=>?_)
       clear hK K
       try simp only [aQ]
       exact fC (by kernel_rfl) (HTT _ (uH.Qj hs2 q1)) _
      ·go_simp
       refine ⟨trivial,aW.2 ((C1.out _).mono ?_)⟩
       rintro e y1 ⟨rfl,hc1⟩
       dsimp only
       have hs1:=uH.up hs0 hc1
       refine hK.out _ _ (trivial) (fun hHeld=>?_)
       clear hK K
       try simp only [aQ]
       refine dX (fun _=>trivial) (i:=0) (o:=_) (by kernel_rfl) rfl (fun K hK=>?_)
       rw [aT (by kernel_rfl)]
       refine lW (fun _=>trivial) 214 (.tmp 7) (by kernel_rfl) (B) (by kernel_rfl) _ (bv (q:Int)) _ _ hs1.bq aD (by kernel_rfl) (eD _) ?_
       refine hK.out _ _ trivial (fun _=>?_)
       clear hK K
       try simp only [aQ]
       refine dX (fun _=>trivial) (i:=2) (o:=_) (by kernel_rfl) rfl (fun K hK=>?_)
       go_simp
       refine ⟨trivial,aW.2 ((C2.out _).mono ?_)⟩
       rintro e y2 ⟨rfl,hc2⟩
       dsimp only
       have hs2:=uH.up hs1 hc2
       refine hK.out _ _ (trivial) (fun hHeld=>?_)
       clear hK K
       try simp only [aQ]
       refine dX (fun _=>trivial) (i:=3) (o:=_) (by kernel_rfl) rfl (fun K hK=>?_)
       rw [aT (by kernel_rfl)]
       refine eY (fun _=>trivial) 214 (.tmp 7) (.tmp 75) (by kernel_rfl) (B) _ _ (bv (q1:Int)) (by kernel_rfl) (by kernel_rfl) hs2.bq (eD _) (gI _ _) (gZ _) ?_
       refine hK.out _ _ trivial (fun _=>?_)
       clear hK K
       try simp only [aQ]
       exact fC (by kernel_rfl) (HTT _ (uH.Qj hs2 q1)) _
   | false =>
    cases hsc:decide (c < 0) with
    | true =>
     exact absurd (hsc.symm.trans hcp.out) (by decide)
    | false =>
     rw [hsx] at hx
     rw [hsc] at hc
     have hQ:=hsame.out (by rw [hsx,hsc])
     obtain ⟨hq0,fq0⟩:=HI.out.Ch
     rw [hq] at hQ
     obtain ⟨hS,h1,h2⟩:=HI.out.done (Q:=Q) false (aN (by omega)) (by omega)
     have HS:=aA hS
     have H1:=aA h1
     have H2:=aA h2
     clear hS h1 h2 hQ HI hsx hsc hq hr hsame FQ FP
     go_wp2_with fail
     rename_i K24 Cn
     refine (bG (n:=5)).1 (fD (F:=Fence.wide) (S:=fun X=>XH x c Q B w X) (by kernel_rfl) (XH.up HS.out (fG _ _ 1)) (fun hHeld=>?_))
     have gY:=dZ.below (fG _ _ 1) H1.out
     have hrow2:=dZ.below (fG _ _ 1) H2.out
     clear HS H1 H2
     refine dP (fun _=>trivial) (by kernel_rfl) (i:=0) (oi:=_) (v:=.agg (bv Q)) rfl (by kernel_rfl) (by kernel_rfl) (by kernel_rfl) (fun _ _ _ h=>h) (by assumption) (Or.inl ⟨by kernel_rfl,?_⟩) ?_
     ·intro wz hSw;exact eO 214 (.tmp 7) (by kernel_rfl) (B) (by kernel_rfl) _ _ _ _ (hSw.bq) aD (by kernel_rfl) (eD _)
     try simp only [aQ]
     refine dP (fun _=>trivial) (by kernel_rfl) (i:=1) (oi:=_) (v:=.agg (bv x)) rfl (by kernel_rfl) (by kernel_rfl) (by kernel_rfl) (fun _ _ _ h=>h) (by assumption) (Or.inl ⟨by kernel_rfl,?_⟩) ?_
     ·intro wz hSw;exact eO 214 (.tmp 2) (by kernel_rfl) (w.heap.size) (by kernel_rfl) _ _ _ _ (hSw.bx) aD (by kernel_rfl) (eD _)
     try simp only [aQ]
     refine dP (fun _=>trivial) (by kernel_rfl) (i:=2) (oi:=_) (v:=.agg (bv Q)) rfl (by kernel_rfl) (by kernel_rfl) (by kernel_rfl) (fun _ _ _ h=>h) (by assumption) (Or.inl ⟨by kernel_rfl,?_⟩) ?_
     ·intro wz hSw;exact eO 214 (.tmp 7) (by kernel_rfl) (B) (by kernel_rfl) _ _ _ _ (hSw.bq) aD (by kernel_rfl) (eD _)
     try simp only [aQ]
     refine dP (fun _=>trivial) (by kernel_rfl) (i:=3) (oi:=_) (v:=.agg (bv c)) rfl (by kernel_rfl) (by kernel_rfl) (by kernel_rfl) (fun _ _ _ h=>h) (by assumption) (Or.inl ⟨by kernel_rfl,?_⟩) ?_
     ·intro wz hSw;exact eO 214 (.tmp 3) (by kernel_rfl) (w.heap.size + 1) (by kernel_rfl) _ _ _ _ (hSw.bc) aD (by kernel_rfl) (eD _)
     try simp only [aQ]
     refine dX (fun _=>trivial) (i:=4) (o:=_) (by kernel_rfl) rfl (fun K hK=>?_)
     go_simp
     refine ⟨trivial,aW.2 ((cM.out _).mono ?_)⟩
     rintro e y1 ⟨rfl,hc1⟩
     dsimp only
     replace gY:=dZ.below hc1 gY;replace hrow2:=dZ.below hc1 hrow2
     refine hK.out _ _ (hHeld.up hc1) (fun hHeld=>?_)
     clear hK K
     try simp only [aQ]
     refine dX (fun _=>trivial) (i:=5) (o:=_) (by kernel_rfl) rfl (fun K hK=>?_)
     go_simp
     refine ⟨trivial,aW.2 ((cN.out _).mono ?_)⟩
     rintro e y2 ⟨rfl,hc2⟩
     dsimp only
     replace gY:=dZ.below hc2 gY;replace hrow2:=dZ.below hc2 hrow2
     refine hK.out _ _ (hHeld.up hc2) (fun hHeld=>?_)
     clear hK K
     try simp only [aQ]
     refine dX (fun _=>trivial) (i:=6) (o:=_) (by kernel_rfl) rfl (fun K hK=>?_)
     go_simp
     refine ⟨trivial,aW.2 ((cA.out _).mono ?_)⟩
     rintro e y3 ⟨rfl,hc3⟩
     dsimp only
     replace gY:=dZ.below hc3 gY;replace hrow2:=dZ.below hc3 hrow2
     refine hK.out _ _ (hHeld.up hc3) (fun hHeld=>?_)
     clear hK K
     try simp only [aQ]
     refine dX (fun _=>trivial) (i:=7) (o:=_) (by kernel_rfl) rfl (fun K hK=>?_)
     rw [aT (by kernel_rfl)]
     refine eY (fun _=>trivial) 214 (.tmp 4) (.tmp 87) (by kernel_rfl) (w.heap.size + 1 + 1) _ _ (bv Q) (by kernel_rfl) (by kernel_rfl) gY (eD _) (gI 0 _) (gZ _) ?_
     refine hK.out _ _ (hHeld.put _ (Or.inl rfl) _) (fun hHeld=>?_)
     clear hK K
     try simp only [aQ]
     replace hrow2:=dZ.other (k:=w.heap.size + 1 + 1) hrow2 (by omega) (bv Q)
     replace gY:=dZ.row gY Q
     refine dX (fun _=>trivial) (i:=8) (o:=_) (by kernel_rfl) rfl (fun K hK=>?_)
     rw [aT (by kernel_rfl)]
     refine eY (fun _=>trivial) 214 (.tmp 5) (.tmp 93) (by kernel_rfl) (w.heap.size + 1 + 1 + 1) _ _ (bv R) (by kernel_rfl) (by kernel_rfl) hrow2 (eD _) (gI 0 _) (gZ _) ?_
     refine hK.out _ _ (hHeld.put _ (Or.inr rfl) _) (fun hHeld=>?_)
     clear hK K
     try simp only [aQ]
     replace gY:=dZ.other (k:=w.heap.size + 1 + 1 + 1) gY (by omega) (bv R)
     replace hrow2:=dZ.row hrow2 R
     refine dP (fun _=>trivial) (by kernel_rfl) (i:=9) (oi:=_) (v:=?_) rfl (by kernel_rfl) (by kernel_rfl) (by kernel_rfl) (fun _ _ _ h=>h) (by assumption) (Or.inl ⟨by kernel_rfl,?_⟩) ?_
     rotate_left
     ·intro wz hSw;(first | (go_simp;done) | (go_simp;with_reducible rfl))
     try simp only [aQ]
     refine fC (by kernel_rfl) ?_ _
     refine Cn _ _ ?_
     have hBel:=hHeld.below
     refine wp_ret ?_
     (try simp only [Exit.inBlock,Exit.then])
     refine aO (v:=.tuple #[.agg (bv Q),.agg (bv R),.int .i64 0]) (oI rfl _ _ (w.heap.size + 1 + 1) (w.heap.size + 1 + 1 + 1) _ _ _ _ _ _ _ _ _ rfl gY aD rfl (eD _) rfl hrow2 aD rfl (eD _) rfl) rfl ?_
     exact ⟨rfl,hBel⟩
theorem Po (x c:Int) (w:World) (hx:x.natAbs < 65536 ^ 9) (hc0:0 < c) (hcn:c.natAbs < 65536 ^ 9) :
  Calls Tryz.prog 159 #[.agg (bv x),.agg (bv c)] w fun e w'=>e=.returned (.tuple #[.agg (bv (dv x c)),.agg (bv (rs x c)),.int .i64 0])∧Below w.heap.size w w':=by
 have hc:c≠0:=by omega
 have e9:(65536:Nat) ^ 9=2 ^ 144:=by decide
 have VT:(2:Nat) ^ 144=22300745198530623141535718272648361505980416:=by decide
 have eB:BB / 4=533996758980227520598755426542388028650676130589163192486760401955554931445160137505740521734144:=by decide
 have eB1:BB=2135987035920910082395021706169552114602704522356652769947041607822219725780640550022962086936576:=by decide
 rw [e9,VT] at hx hcn
 have hn:0 < c.natAbs:=by omega
 have hqm:x.natAbs / c.natAbs≤x.natAbs:=Nat.div_le_self _ _
 have hsame:decide (x < 0)=decide (c < 0)→dv x c=((x.natAbs / c.natAbs:Nat):Int):=fun h=>(RF hc (bY.1 h)).1
 have hd0:decide (x < 0)≠decide (c < 0)→x.natAbs % c.natAbs=0→dv x c=-((x.natAbs / c.natAbs:Nat):Int):=fun h g=>((wI hc fun e=>h (bY.2 e)).1 g).1
 have hd1:decide (x < 0)≠decide (c < 0)→x.natAbs % c.natAbs≠0→dv x c=-((x.natAbs / c.natAbs + 1:Nat):Int):=fun h g=>((wI hc fun e=>h (bY.2 e)).2 g).1
 have hq1:x.natAbs % c.natAbs≠0→x.natAbs / c.natAbs + 1≤x.natAbs:=by
  intro hr
  have h2:2≤c.natAbs:=by
   rcases Nat.lt_or_ge c.natAbs 2 with h | h
   ·exfalso
    have : c.natAbs=1:=by omega
    rw [this,Nat.mod_one] at hr
    exact hr rfl
   ·exact h
  have h3:x.natAbs / c.natAbs≤x.natAbs / 2:=Nat.div_le_div_left h2 (by omega)
  have h4:x.natAbs≠0:=by
   intro h0
   rw [h0,Nat.zero_mod] at hr
   exact hr rfl
  have h5:x.natAbs=1→x.natAbs / c.natAbs=0:=fun h=>by rw [h];exact Nat.div_eq_of_lt (by omega)
  omega
 have hQ:(dv x c).natAbs≤x.natAbs:=by
  by_cases hs:decide (x < 0)=decide (c < 0)
  ·rw [hsame hs,bW]
   exact hqm
  ·by_cases hr:x.natAbs % c.natAbs=0
   ·rw [hd0 hs hr,Int.natAbs_neg,bW]
    exact hqm
   ·rw [hd1 hs hr,Int.natAbs_neg,bW]
    exact hq1 hr
 have hP:(dv x c * c).natAbs < 2 ^ 144 * 2 ^ 144:=by
  rw [Int.natAbs_mul]
  exact Nat.mul_lt_mul'' (by rw [VT];omega) (by rw [VT];omega)
 have e288:(2:Nat) ^ 144 * 2 ^ 144=497323236409786642155382248146820840100456150797347717440463976893159497012533375533056:=by decide
 rw [e288] at hP
 refine TY x c x.natAbs c.natAbs (dv x c) (dv x c * c) (-(dv x c * c)) (rs x c) w (aA hn) (aA (by rw [VT];exact hx)) (aA rfl) (aA rfl) (aA (by rw [eB];omega)) (aA hsame) (aA hd0) (aA hd1) (aA (by rw [eB];omega)) (aA (aN (by omega)))
  (aA fun w=>zD c false w (by rw [eB1];omega) (aN hc)) (aA fun w=>Nj _ _ w (by rw [e9,VT];omega) (by rw [e9,VT];omega)) (aA fun w=>Av _ w (by rw [eB1];omega)) (aA fun w=>?_)
 have:=KS x (-(dv x c * c)) w (by rw [eB1];omega)
 rw [show x + -(dv x c * c)=rs x c from rfl] at this
 exact this
end Fx
end Go.Proofs.YtbbhmhihpdmoiaaGreat
