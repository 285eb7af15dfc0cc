import Derived.Test.YtbbhmhihpdmoiaaGreatJf06
set_option linter.unusedVariables false
set_option linter.unusedSimpArgs false
set_option maxRecDepth 100000
set_option maxHeartbeats 32000000
namespace Go.Proofs.YtbbhmhihpdmoiaaGreat
open Go.Proofs.Tryz
namespace Fx
open Go Go.RowKit Wm
theorem qD {P:Program}{fn:Func}{p p2 u:Tmp}{ty ty2:TypeId}(h:fn.results=#[.cell p ty,.cell p2 ty2,.tmp u])(tmps:Array Value)(w:World)(g g2:Nat)(t t2:TypeId)(cs cs2:Array Value)(fr fr2:Nat×Nat)(d d2:TypeDesc)(v:Value)
  (hp:tmps.getD p undef=.pointer (some ⟨g,0,none⟩)) (hg:w.heap[g]?=some (.cells cs t fr)) (hu:P.underlying ty=some d) (hd:(match d with | .struct _ | .array _ _=>true|_=>false)=true) (hi:(P.info? ty).map (·.size)=some cs.size)
  (rH:tmps.getD p2 undef=.pointer (some ⟨g2,0,none⟩)) (hg2:w.heap[g2]?=some (.cells cs2 t2 fr2)) (hu2:P.underlying ty2=some d2) (Wl:(match d2 with | .struct _ | .array _ _=>true|_=>false)=true) (nT:(P.info? ty2).map (·.size)=some cs2.size)
  (hv:tmps.getD u undef=v) :
  (results fn tmps).run P w=.ok (.tuple #[.agg cs,.agg cs2,v]) w:=by
 have hp':tmps[p]?.getD undef=.pointer (some ⟨g,0,none⟩):=by simpa using hp
 have hp2':tmps[p2]?.getD undef=.pointer (some ⟨g2,0,none⟩):=by simpa using rH
 have hv':tmps[u]?.getD undef=v:=by simpa using hv
 simp[results,h,hp',hp2',hv',asAddr,run_loadVar_row w g t ty cs fr d hg hu hd hi,run_loadVar_row w g2 t2 ty2 cs2 fr2 d2 hg2 hu2 Wl nT]
structure Ia (x c Q:Int)(B:Nat)(w W:World):Prop where
 bx:dS w.heap.size x W
 bc:dS (w.heap.size+1) c W
 bq:dS B Q W
 hB:w.heap.size+1+1+1<B
 below:Below w.heap.size w W
theorem Ia.up {x c Q:Int}{B:Nat}{w W X:World}(i:Ia x c Q B w W)(hb:Below W.heap.size W X):Ia x c Q B w X :=
 ⟨dS.below hb i.bx,dS.below hb i.bc,dS.below hb i.bq,i.hB,dN i.below hb⟩
theorem Ia.put {x c Q:Int}{B:Nat}{w W:World}(i:Ia x c Q B w W)(g:Nat)(h1:g=w.heap.size+1+1∨g=w.heap.size+1+1+1)(a:Array Value):Ia x c Q B w (W.setRow g a):=by
 have hB:=i.hB;exact ⟨i.bx.other (by omega) _,i.bc.other (by omega) _,i.bq.other (by omega) _,hB,Below.row i.below (by omega) _⟩
theorem wP.done {x c Q:Int}{n q r B:Nat}{w W:World}(i:wP x c n q r B w W)(b:Bool)(hz:decide (Q<0)=b)(hq:Q.natAbs=q) :
  Ia x c Q B w (W.setCell ⟨B,0,none⟩ (.bool b))∧dS (w.heap.size+1+1) 0 (W.setCell ⟨B,0,none⟩ (.bool b))∧dS (w.heap.size+1+1+1) 0 (W.setCell ⟨B,0,none⟩ (.bool b)):=by
 have hB:=i.hB;exact ⟨⟨i.bx.iU (by omega) _,i.bc.iU (by omega) _,i.bq.neg b Q hz hq,hB,i.below.setCell (p:=⟨B,0,none⟩) (by show _≤B;omega) _⟩,i.r1.iU (by omega) _,i.r2.iU (by omega) _⟩
theorem wP.Nq {x c:Int}{n q r B:Nat}{w W:World}(i:wP x c n q r B w W):W.cell? ⟨B,0,none⟩=some (.bool false)∧W.frozen? ⟨B,0,none⟩=false:=by
 have h:=i.bq.head;rw[aN (by omega)] at h;exact ⟨h,dJ i.bq⟩
theorem block4 (w:World)(A B C D:Obj):(((((w.alloc A).alloc B).alloc C).alloc D).heap[w.heap.size]?=some A∧((((w.alloc A).alloc B).alloc C).alloc D).heap[w.heap.size+1]?=some B)∧((((w.alloc A).alloc B).alloc C).alloc D).heap[w.heap.size+1+1]?=some C∧((((w.alloc A).alloc B).alloc C).alloc D).heap[w.heap.size+1+1+1]?=some D:=qK w A B C D
theorem De (x c:Int)(m n:Nat)(Q P NP R:Int)(w:World)(hn:Hid (0<n))(hm:Hid (m<2^144))(OS:Hid (x.natAbs=m))(Ns:Hid (c.natAbs=n))(hnB:Hid (n<BB/4))
  (EK:Hid (decide (x<0)=decide (c<0)→Q=((m/n:Nat):Int))) (NK:Hid (decide (x<0)≠decide (c<0)→m%n=0→Q=-((m/n:Nat):Int))) (NJ:Hid (decide (x<0)≠decide (c<0)→m%n≠0→Q=-((m/n+1:Nat):Int)))
  (hqB:Hid (m/n<BB/4)) (Wn:Hid (decide (c<0)=false))
  (cE:Hid (vH 164 #[.agg (bv c)] (.bool false)))
  (cM:Hid (vH 157 #[.agg (bv Q),.agg (bv c)] (.agg (bv P)))) (cN:Hid (vH 168 #[.agg (bv P)] (.agg (bv NP)))) (cA:Hid (vH 158 #[.agg (bv x),.agg (bv NP)] (.agg (bv R)))) :
  Calls prog 159 #[.agg (bv x),.agg (bv c)] w fun e w'=>e=.returned (.tuple #[.agg (bv Q),.agg (bv R),.int .i64 0])∧Below w.heap.size w w':=by
 have h4:=block4 w (.cells (bv x) 214) (.cells (bv c) 214) (.cells (bv 0) 214) (.cells (bv 0) 214);have HX:Hid (dS w.heap.size x ((((w.alloc (.cells (bv x) 214)).alloc (.cells (bv c) 214)).alloc (.cells (bv 0) 214)).alloc (.cells (bv 0) 214))):=aA h4.1.1;have HC:Hid (dS (w.heap.size+1) c ((((w.alloc (.cells (bv x) 214)).alloc (.cells (bv c) 214)).alloc (.cells (bv 0) 214)).alloc (.cells (bv 0) 214))):=aA h4.1.2;have H1:Hid (dS (w.heap.size+1+1) 0 ((((w.alloc (.cells (bv x) 214)).alloc (.cells (bv c) 214)).alloc (.cells (bv 0) 214)).alloc (.cells (bv 0) 214))):=aA h4.2.1;have H2:Hid (dS (w.heap.size+1+1+1) 0 ((((w.alloc (.cells (bv x) 214)).alloc (.cells (bv c) 214)).alloc (.cells (bv 0) 214)).alloc (.cells (bv 0) 214))):=aA h4.2.2;have HB:Hid (Below w.heap.size w ((((w.alloc (.cells (bv x) 214)).alloc (.cells (bv c) 214)).alloc (.cells (bv 0) 214)).alloc (.cells (bv 0) 214))):=aA (by go_grown);clear h4;go_enter func159,ntmps159;go_wp2_with (refine wpList_load_row rfl 214 (.tmp 3) rfl (w.heap.size+1) rfl _ _ _ _ HC.out aH rfl (dV _) ?_)
 refine (cE.out _).mono ?_;rintro e w1 ⟨rfl,hb1⟩;have hsz:w.heap.size+1+1+1<w1.heap.size:=by have:=hb1.size;simp at this;omega
 have jK:=dN HB.out hb1;have h3:=kF w1 (.cells (bv 0) 214) (.cells (bv 0) 214) (.cells (bv c) 214);have hc0:(bv c).setIfInBounds 0 (.bool false)=bv (n:Int):=by
  unfold bv;rw[uI,Ns.out,aN (by omega),cH]
 have I0:wP x c n (m/2^144/n) (m/2^144%n) w1.heap.size w (((w1.alloc (.cells (bv 0) 214)).alloc (.cells (bv 0) 214)).alloc (.cells ((bv c).setIfInBounds 0 (.bool false)) 214)):=by
  have e0:m/2^144=0:=Nat.div_eq_of_lt hm.out;rw[e0,Nat.zero_div,Nat.zero_mod,hc0];have jv:=kF w1 (.cells (bv 0) 214) (.cells (bv 0) 214) (.cells (bv (n:Int)) 214);have hb2:Below w1.heap.size w1 (((w1.alloc (.cells (bv 0) 214)).alloc (.cells (bv 0) 214)).alloc (.cells (bv (n:Int)) 214)):=by go_grown
  exact ⟨dS.below hb2 (dS.below hb1 HX.out),dS.below hb2 (dS.below hb1 HC.out),dS.below hb2 (dS.below hb1 H1.out),dS.below hb2 (dS.below hb1 H2.out),jv.1,jv.2.1,jv.2.2,hsz,dN jK hb2⟩
 have oO:=aA I0;have RC:Hid (dS (w.heap.size+1) c ((w1.alloc (.cells (bv 0) 214)).alloc (.cells (bv 0) 214))):=aA (dM (dM (dS.below hb1 HC.out)));have RD:Hid (dS (w1.heap.size+1+1) c (((w1.alloc (.cells (bv 0) 214)).alloc (.cells (bv 0) 214)).alloc (.cells (bv c) 214))):=aA h3.2.2;have cd:=RD.out.head;have fd:(((w1.alloc (.cells (bv 0) 214)).alloc (.cells (bv 0) 214)).alloc (.cells (bv c) 214)).frozen? ⟨w1.heap.size+1+1,0,none⟩=false:=dJ RD.out;clear I0 h3 jK hb1 HX HC H1 H2 HB hc0;have RC2:=aA (dM (o:=.cells (bv 0) 214) RC.out);go_wp2_with (first|(refine wpList_load_row rfl 214 (.tmp 3) rfl (w.heap.size+1) rfl _ _ _ _ RC.out aH rfl (dV _) ?_)|(refine wpList_load_row rfl 214 (.tmp 3) rfl (w.heap.size+1) rfl _ _ _ _ RC2.out aH rfl (dV _) ?_)|(refine eJ rfl 214 (.tmp 9) (.tmp 17) rfl (w1.heap.size+1+1) _ _ (bv c) rfl (by simp) rfl (dV _) (fT 0 _) (gT _) ?_))
 have Bg:∃B,w1.heap.size=B:=⟨_,rfl⟩;go_loopg[10] 144 (DoRel x c m n w1.heap.size w)
 case atStart=>exact ⟨by omega,rfl,oO.out⟩
 case round =>
  clear oO RC RC2 RD cd fd;obtain ⟨hg4,rfl,I⟩:=hrel;generalize w1.heap.size=B at *
  cases gk with
  | succ k =>
   obtain ⟨q,hq⟩:∃q,m/2^(k+1)/n=q:=⟨_,rfl⟩;obtain ⟨r,hr⟩:∃r,m/2^(k+1)%n=r:=⟨_,rfl⟩;obtain ⟨b,hb⟩:∃b,m/2^k%2=b:=⟨_,rfl⟩;obtain ⟨D,hD⟩:∃D,m/65536^(k/16)%65536=D:=⟨_,rfl⟩;obtain ⟨e,he⟩:∃e,k%16=e:=⟨_,rfl⟩;obtain ⟨f,hf⟩:∃f,k/16=f:=⟨_,rfl⟩;have hbe:D/2^e%2=b:=by rw[←hD,←he,←hb];exact dv_bit m k
   have hst:=Xh hn.out hq hr hb;have SE:=dv_le hn.out hr;have HST:=aA hst;have mG:=aA SE;have HBE:=aA hbe;have hDl:D<65536:=by omega
   have HDL:=aA hDl;have hbl:b≤1:=by omega
   have xW:=aA hbl;rw[hq,hr] at I;have HI:=aA I;have s1:(((k+1:Nat):Int)-1)=(k:Int):=by omega
   have k0:(0:Int)≤(k:Int):=by omega
   have k1:(k:Int)<144:=by omega
   have f0:(0:Int)≤(f:Int):=by omega
   have f1:(f:Int)<20:=by omega
   have e16:(e:Int)<16:=by omega
   have E0:(k:Int).tdiv 16=(f:Int):=by rw[Int.tdiv_eq_ediv_of_nonneg k0];omega
   have E1:(k:Int).tmod 16=(e:Int):=by rw[Int.tmod_eq_emod_of_nonneg k0];omega
   have E2:IntKind.i64.wrap (f:Int)=(f:Int):=by rw[bL];omega
   have E3:IntKind.i64.wrap (e:Int)=(e:Int):=by rw[bL];omega
   have cx0:∀W,dS w.heap.size x W→W.cell? ⟨w.heap.size,1+f,none⟩=some (.int .u64 (D:Int)):=fun W h=>by rw[h.dig f (by omega),OS.out,←hf,hD]
   have CX0:=aA cx0;rw[s1];clear I hq hr hb hD he hf hst SE hbe hDl hbl s1 hg4 cx0;go_wp2_with (refine wpList_load_row rfl 214 (.tmp 8) rfl (B+1) rfl _ _ _ _ HI.out.br aH rfl (dV _) ?_)
   obtain ⟨r2,hr2⟩:∃r2,r+r=r2:=⟨_,rfl⟩;have cM1:=Ll r r;rw[hr2] at cM1;refine (cM1 _).mono ?_;rintro e1 x1 ⟨rfl,hb1⟩;have I1:=HI.out.up hb1;have nX:=aA I1;have I2:=I1.putR r2;have jP:=aA I2;have cx:=CX0.out _ I2.bx;clear I1 I2 hb1 HI CX0 cM1;go_wp2_with (refine dG rfl 214 (.tmp 8) (.tmp 25) rfl (B+1) _ _ (bv (r2:Int)) rfl rfl nX.out.br (dV _) (fT _ _) (gT _) ?_)
   go_loopg[11,12] e (DiRel x c n q r2 B D e w)
   case atStart=>exact ⟨0,rfl,by simp,rfl,by omega,jP.out⟩
   case round =>
    clear nX jP cx;obtain ⟨j,rfl,rfl,rfl,hje,I⟩:=hrel;by_cases hj:j<e
    ·obtain ⟨v,hv⟩:∃v,D/2^j=v:=⟨_,rfl⟩
     have ay:v<65536:=by rw[←hv];exact Nat.lt_of_le_of_lt (Nat.div_le_self _ _) HDL.out
     have hv2:D/2^(j+1)=v/2:=by rw[bY,←Nat.div_div_eq_div_mul,hv]
     have oM:=aA hv2;have HI:=aA I;have j1:(j:Int)<(e:Int):=by omega
     obtain ⟨v2,hv3⟩:∃v2,v/2=v2:=⟨_,rfl⟩;have E4:IntKind.u64.wrap ((v:Int)/2)=(v2:Int):=by rw[aV];omega
     rw[hv3] at oM;rw[hv];clear I hv hv2 ay hv3;go_wp2_with fail;go_roundg (e-(j+1))
     case measure=>omega
     case rel =>
      refine ⟨j+1,rfl,?_,by go_num,by omega,HI.out⟩;rw[oM.out]
    ·obtain rfl:j=e:=by omega
     have j1:¬ ((j:Int)<(j:Int)):=by omega
     obtain ⟨v,hv⟩:∃v,D/2^j=v:=⟨_,rfl⟩;have hbe:=HBE.out;have ay:v<65536:=by rw[←hv];exact Nat.lt_of_le_of_lt (Nat.div_le_self _ _) HDL.out
     rw[hv] at hbe ⊢;obtain ⟨a,ha⟩:∃a,r2%65536=a:=⟨_,rfl⟩;obtain ⟨a2,ha2⟩:∃a2,a+b=a2:=⟨_,rfl⟩;obtain ⟨r3,hr3⟩:∃r3,r2+b=r3:=⟨_,rfl⟩;obtain ⟨q2,dn⟩:∃q2,q+q=q2:=⟨_,rfl⟩;have cr:wr.cell? ⟨B+1,1,none⟩=some (.int .u64 (a:Int)):=by
      have:=I.br.dig 0 (by omega);rw[cH,Nat.pow_zero,Nat.div_one,ha] at this;exact this
     have fr:wr.frozen? ⟨B+1,1,none⟩=false:=dJ I.br;have E4:(v:Int)%2=(b:Int):=by omega
     have E5:IntKind.u64.wrap (b:Int)=(b:Int):=by have:=xW.out;rw[aV];omega
     have E6:IntKind.u64.wrap ((a:Int)+(b:Int))=(a2:Int):=by have:=xW.out;rw[aV];omega
     have I3:=I.incR xW.out (by omega);rw[ha,ha2,hr3] at I3;have qB:=aA I3;have cM2:=Ll q q;rw[dn] at cM2;have CM2:=aA cM2;have H3:Hid (r3<n+n):=aA (by have h2:=mG.out;have h3:=xW.out;omega);have Yo:Hid ((r3<n→m/2^k/n=q2∧m/2^k%n=r3)∧(¬ r3<n→m/2^k/n=q2+1∧m/2^k%n=r3-n)):=aA (by
      have:=HST.out;rw[hr2,hr3,dn] at this;exact this)
     have HQ2:Hid (q2%2=0):=aA (by omega);clear I I3 hv ay hbe ha hje ha2 hr3 dn hr2 cM2 HST;go_wp2_with (refine wpList_load_row rfl 214 (.tmp 7) rfl (B) rfl _ _ _ _ qB.out.bq aH rfl (dV _) ?_)
     refine (CM2.out _).mono ?_;rintro e1 x2 ⟨rfl,hb2⟩;have I4:=qB.out.up hb2;have Tc:=aA I4;have I5:=I4.yu q2;have Hp:=aA I5;clear I4 I5 hb2 qB cr fr CM2;go_wp2_with (first|(refine dG rfl 214 (.tmp 7) (.tmp 49) rfl (B) _ _ (bv (q2:Int)) rfl rfl Tc.out.bq (dV _) (fT _ _) (gT _) ?_)|(refine wpList_load_row rfl 214 (.tmp 8) rfl (B+1) rfl _ _ _ _ Hp.out.br aH rfl (dV _) ?_)|(refine wpList_load_row rfl 214 (.tmp 9) rfl (B+1+1) rfl _ _ _ _ Hp.out.bd aH rfl (dV _) ?_))
     refine (aAf r3 n _ ?_ ?_).mono ?_
     ·have h1:=hnB.out;have h2:=H3.out;omega
     ·have h1:=hnB.out;omega
     rintro e1 x3 ⟨rfl,hb3⟩;have I6:=Hp.out.up hb3;have YO:=aA I6;clear I6 hb3 Tc Hp;by_cases hlt:r3<n
     ·have hx:=Yo.out.1 hlt
      have HX:=aA hx;rw[bA hlt];clear hx Yo hlt;go_wp2_with fail;go_roundg k
      case measure=>omega
      case rel =>
       refine ⟨by omega,by go_num,?_⟩;rw[HX.out.1,HX.out.2];exact YO.out
     ·have hx:=Yo.out.2 hlt
      obtain ⟨r4,hr4⟩:∃r4,r3-n=r4:=⟨_,rfl⟩;rw[hr4] at hx;have HX:=aA hx;have cA4:=fun w=>away_n r3 n w (by omega)
      rw[hr4] at cA4;have CA4:=aA cA4;rw[aN hlt];clear hx Yo hlt hr4 cA4;go_wp2_with (first|(refine wpList_load_row rfl 214 (.tmp 8) rfl (B+1) rfl _ _ _ _ YO.out.br aH rfl (dV _) ?_)|(refine wpList_load_row rfl 214 (.tmp 9) rfl (B+1+1) rfl _ _ _ _ YO.out.bd aH rfl (dV _) ?_))
      refine (CA4.out _).mono ?_;rintro e1 x4 ⟨rfl,hb4⟩;have I7:=YO.out.up hb4;have Ho:=aA I7;have I8:=I7.putR r4;obtain ⟨u,hu⟩:∃u,q2%65536=u:=⟨_,rfl⟩;obtain ⟨u1,hu1⟩:∃u1,u+1=u1:=⟨_,rfl⟩;have cq:(x4.setRow (B+1) (bv (r4:Int))).cell? ⟨B,1,none⟩=some (.int .u64 (u:Int)):=by
       have:=I8.bq.dig 0 (by omega);rw[cH,Nat.pow_zero,Nat.div_one,hu] at this;exact this
      have fq:(x4.setRow (B+1) (bv (r4:Int))).frozen? ⟨B,1,none⟩=false:=dJ I8.bq;have E7:IntKind.u64.wrap ((u:Int)+1)=(u1:Int):=by rw[aV];omega
      have I9:=I8.incQ HQ2.out;rw[hu,hu1] at I9;have HI9:=aA I9;clear I7 I8 I9 hb4 hu hu1 CA4;go_wp2_with (refine dG rfl 214 (.tmp 8) (.tmp 56) rfl (B+1) _ _ (bv (r4:Int)) rfl rfl Ho.out.br (dV _) (fT _ _) (gT _) ?_)
      go_roundg k
      case measure=>omega
      case rel =>
       refine ⟨by omega,by go_num,?_⟩;rw[HX.out.1,HX.out.2];exact HI9.out
  | zero =>
   obtain ⟨q,hq⟩:∃q,m/n=q:=⟨_,rfl⟩;obtain ⟨r,hr⟩:∃r,m%n=r:=⟨_,rfl⟩;rw[Nat.pow_zero,Nat.div_one,hq,hr] at I;have HI:=aA I;have HQ:=aA hq;have n0:¬ (0:Int)≤((0:Nat):Int)-1:=by omega
   have hx:=I.bx.head;have hc:=I.bc.head;clear I
   cases Ao:decide (x<0) with
   | true =>
    cases hsc:decide (c<0) with
    | true =>
     exact absurd (hsc.symm.trans Wn.out) (by decide)
    | false =>
     have HSX:=aA Ao;have HSC:=aA hsc;rw[Ao] at hx;rw[hsc] at hc;have hne:decide (x<0)≠decide (c<0):=by rw[Ao,hsc];decide
     by_cases zS:r=0
     ·have hQ:=NK.out hne (by rw[hr];exact zS)
      rw[hq] at hQ;have Im:=aA hQ;have tA:=aA zS;clear hQ zS hne Ao hsc hq hr EK NK NJ;go_wp2_with (refine iJ (by kernel_rfl) 214 (.tmp 8) rfl (B+1) rfl _ _ _ _ HI.out.br aH rfl (dV _) ?_)
      refine (DZ (r:Int) true _ (by have:=hqB.out;have h1:=tA.out;unfold BB at *;omega) (by have h1:=tA.out;rw[bA];omega)).mono ?_;rintro e1 x1 ⟨rfl,hb1⟩;have I1:=HI.out.up hb1;have nX:=aA I1;have hx1:=I1.bx.head;have hc1:=I1.bc.head;rw[show decide (x<0)=true from HSX.out] at hx1;rw[show decide (c<0)=false from HSC.out] at hc1;clear I1 hb1 HI hx hc;go_wp2_with (refine iJ (by kernel_rfl) 214 (.tmp 7) rfl (B) rfl _ _ _ _ nX.out.bq aH rfl (dV _) ?_)
      refine (DZ (q:Int) (decide (q=0)) _ (by have:=hqB.out;have h1:=HQ.out;rw[h1] at this;unfold BB at *;omega) (by rw[cJ];omega)).mono ?_;rintro e1 x2 ⟨rfl,hb2⟩;have I2:=nX.out.up hb2;obtain ⟨hq0,fq0⟩:=I2.Nq;obtain ⟨bq,Wp⟩:∃bq,decide (q=0)=bq:=⟨_,rfl⟩;rw[Wp];obtain ⟨hS,h1,h2⟩:=I2.done (Q:=Q) (!bq) (by have:=Im.out;rw[←Wp,←decide_not,cJ];omega) (by have:=Im.out;omega);have HS:=aA hS;have H1:=aA h1;have H2:=aA h2;clear hS h1 h2 Im nX I2 hb2 hx1 hc1 Wp HQ tA HSX HSC;go_wp2_with fail;rename_i K24 Og;refine (bN (n:=5)).1 (eI (F:=Fence.wide) (S:=fun X=>Ia x c Q B w X) (by kernel_rfl) (Ia.up HS.out (eM _ _ 1)) (fun hHeld=>?_));have gK:=dS.below (eM _ _ 1) H1.out;have hrow2:=dS.below (eM _ _ 1) H2.out;clear HS H1 H2;refine dH (fun _=>trivial) (by kernel_rfl) (i:=0) (oi:=_) (v:=.agg (bv Q)) rfl (by kernel_rfl) (by kernel_rfl) (by kernel_rfl) (fun _ _ _ h=>h) (by assumption) (Or.inl ⟨by kernel_rfl,?_⟩) ?_
      ·intro wz hSw;exact dY 214 (.tmp 7) (by kernel_rfl) (B) (by kernel_rfl) _ _ _ _ (hSw.bq) aH (by kernel_rfl) (dV _)
      try simp only[aQ]
      refine dH (fun _=>trivial) (by kernel_rfl) (i:=1) (oi:=_) (v:=.agg (bv x)) rfl (by kernel_rfl) (by kernel_rfl) (by kernel_rfl) (fun _ _ _ h=>h) (by assumption) (Or.inl ⟨by kernel_rfl,?_⟩) ?_
      ·intro wz hSw;exact dY 214 (.tmp 2) (by kernel_rfl) (w.heap.size) (by kernel_rfl) _ _ _ _ (hSw.bx) aH (by kernel_rfl) (dV _)
      try simp only[aQ]
      refine dH (fun _=>trivial) (by kernel_rfl) (i:=2) (oi:=_) (v:=.agg (bv Q)) rfl (by kernel_rfl) (by kernel_rfl) (by kernel_rfl) (fun _ _ _ h=>h) (by assumption) (Or.inl ⟨by kernel_rfl,?_⟩) ?_
      ·intro wz hSw;exact dY 214 (.tmp 7) (by kernel_rfl) (B) (by kernel_rfl) _ _ _ _ (hSw.bq) aH (by kernel_rfl) (dV _)
      try simp only[aQ]
      refine dH (fun _=>trivial) (by kernel_rfl) (i:=3) (oi:=_) (v:=.agg (bv c)) rfl (by kernel_rfl) (by kernel_rfl) (by kernel_rfl) (fun _ _ _ h=>h) (by assumption) (Or.inl ⟨by kernel_rfl,?_⟩) ?_
      ·intro wz hSw;exact dY 214 (.tmp 3) (by kernel_rfl) (w.heap.size+1) (by kernel_rfl) _ _ _ _ (hSw.bc) aH (by kernel_rfl) (dV _)
      try simp only[aQ]
      refine dO (fun _=>trivial) (i:=4) (o:=_) (by kernel_rfl) rfl (fun K hK=>?_);go_simp;refine ⟨trivial,bG.2 ((cM.out _).mono ?_)⟩;rintro e y1 ⟨rfl,hc1⟩;dsimp only;replace gK:=dS.below hc1 gK;replace hrow2:=dS.below hc1 hrow2;refine hK.out _ _ (hHeld.up hc1) (fun hHeld=>?_);clear hK K;try simp only[aQ]
      refine dO (fun _=>trivial) (i:=5) (o:=_) (by kernel_rfl) rfl (fun K hK=>?_);go_simp;refine ⟨trivial,bG.2 ((cN.out _).mono ?_)⟩;rintro e y2 ⟨rfl,hc2⟩;dsimp only;replace gK:=dS.below hc2 gK;replace hrow2:=dS.below hc2 hrow2;refine hK.out _ _ (hHeld.up hc2) (fun hHeld=>?_);clear hK K;try simp only[aQ]
      refine dO (fun _=>trivial) (i:=6) (o:=_) (by kernel_rfl) rfl (fun K hK=>?_);go_simp;refine ⟨trivial,bG.2 ((cA.out _).mono ?_)⟩;rintro e y3 ⟨rfl,hc3⟩;dsimp only;replace gK:=dS.below hc3 gK;replace hrow2:=dS.below hc3 hrow2;refine hK.out _ _ (hHeld.up hc3) (fun hHeld=>?_);clear hK K;try simp only[aQ]
      refine dO (fun _=>trivial) (i:=7) (o:=_) (by kernel_rfl) rfl (fun K hK=>?_);rw[aZ (by kernel_rfl)];refine eD (fun _=>trivial) 214 (.tmp 4) (.tmp 87) (by kernel_rfl) (w.heap.size+1+1) _ _ (bv Q) (by kernel_rfl) (by kernel_rfl) gK (dV _) (fT 0 _) (gT _) ?_;refine hK.out _ _ (hHeld.put _ (Or.inl rfl) _) (fun hHeld=>?_);clear hK K;try simp only[aQ]
      replace hrow2:=dS.other (k:=w.heap.size+1+1) hrow2 (by omega) (bv Q);replace gK:=dS.row gK Q;refine dO (fun _=>trivial) (i:=8) (o:=_) (by kernel_rfl) rfl (fun K hK=>?_);rw[aZ (by kernel_rfl)];refine eD (fun _=>trivial) 214 (.tmp 5) (.tmp 93) (by kernel_rfl) (w.heap.size+1+1+1) _ _ (bv R) (by kernel_rfl) (by kernel_rfl) hrow2 (dV _) (fT 0 _) (gT _) ?_;refine hK.out _ _ (hHeld.put _ (Or.inr rfl) _) (fun hHeld=>?_);clear hK K;try simp only[aQ]
      replace gK:=dS.other (k:=w.heap.size+1+1+1) gK (by omega) (bv R);replace hrow2:=dS.row hrow2 R;refine dH (fun _=>trivial) (by kernel_rfl) (i:=9) (oi:=_) (v:=?_) rfl (by kernel_rfl) (by kernel_rfl) (by kernel_rfl) (fun _ _ _ h=>h) (by assumption) (Or.inl ⟨by kernel_rfl,?_⟩) ?_;rotate_left
      ·intro wz hSw;first|(go_simp;done)|(go_simp;with_reducible rfl)
      try simp only[aQ]
      refine eH (by kernel_rfl) ?_ _;refine Og _ _ ?_;have Oh:=hHeld.below;refine wp_ret ?_
      (try simp only[Exit.inBlock,Exit.then])
      refine aO (v:=.tuple #[.agg (bv Q),.agg (bv R),.int .i64 0]) (qD rfl _ _ (w.heap.size+1+1) (w.heap.size+1+1+1) _ _ _ _ _ _ _ _ _ rfl gK aH rfl (dV _) rfl hrow2 aH rfl (dV _) rfl) rfl ?_;exact ⟨rfl,Oh⟩
     ·have hQ:=NJ.out hne (by rw[hr];exact zS)
      rw[hq] at hQ;have Im:=aA hQ;have tA:=aA zS;have mG:Hid (r<n):=aA (by rw[←hr];exact cO _ hn.out);clear hQ zS hne Ao hsc hq hr EK NK NJ;go_wp2_with (refine iJ (by kernel_rfl) 214 (.tmp 8) rfl (B+1) rfl _ _ _ _ HI.out.br aH rfl (dV _) ?_)
      refine (DZ (r:Int) false _ (by have h1:=mG.out;have h2:=hnB.out;omega) (by have h1:=tA.out;rw[aN];omega)).mono ?_;rintro e1 x1 ⟨rfl,hb1⟩;have I1:=HI.out.up hb1;have nX:=aA I1;clear I1 hb1 HI hx hc;obtain ⟨q1,hq1⟩:∃q1,q+1=q1:=⟨_,rfl⟩;have C1:Hid (vH 156 #[.int .i64 1] (.agg (bv 1))):=aA fun w=>Le 1 w (by omega) (by omega)
      have C2:Hid (vH 158 #[.agg (bv (q:Int)),.agg (bv 1)] (.agg (bv (q1:Int)))):=aA fun w=>by
       have:=TX (q:Int) 1 w (by have h1:=hqB.out;have h2:=HQ.out;rw[h2] at h1;unfold BB at *;omega);rw[show (q:Int)+1=(q1:Int) by omega] at this;exact this
      have qd:=aA hq1;clear hq1;go_wp2_with fail;rename_i K22 hK22;have HTT:∀ (X:World),wP x c n q1 r B w X→K22 { tmps:=#[.agg (bv x),.agg (bv c),.pointer (some ⟨w.heap.size,0,none⟩),.pointer (some ⟨w.heap.size+1,0,none⟩),.pointer (some ⟨w.heap.size+1+1,0,none⟩),.pointer (some ⟨w.heap.size+1+1+1,0,none⟩),.int .i64 0,.pointer (some ⟨B,0,none⟩),.pointer (some ⟨B+1,0,none⟩),.pointer (some ⟨B+1+1,0,none⟩),.int .i64 (-1),u11,u12,.agg (bv c),.bool false,undef,undef,.agg (bv c),.pointer (some ⟨B+1+1,0,none⟩),.int .i64 (-1),.bool false,u21,u22,u23,u24,u25,u26,u27,u28,u29,u30,u31,u32,u33,u34,u35,u36,u37,u38,u39,u40,u41,u42,u43,u44,u45,u46,u47,u48,u49,u50,u51,u52,u53,u54,u55,u56,u57,u58,u59,u60,u61,u62,.pointer (some ⟨w.heap.size,0,none⟩),.bool true,.pointer (some ⟨w.heap.size+1,0,none⟩),.bool false,.bool true,.bool true,.agg (bv (r:Int)),.bool false,.bool true,.bool true,.agg (bv (q:Int)),.agg (bv 1),.agg (bv (q1:Int)),undef,undef,undef,undef,undef,undef,undef,undef,undef,undef,undef,undef,undef,undef,undef,undef,undef,undef],defers:=[] } X:=by
       intro X hX;refine hK22 _ _ ?_;have jP:=aA hX;have hx1:=hX.bx.head;have hc1:=hX.bc.head;rw[show decide (x<0)=true from HSX.out] at hx1;rw[show decide (c<0)=false from HSC.out] at hc1;clear hX;go_wp2_with (refine iJ (by kernel_rfl) 214 (.tmp 7) rfl (B) rfl _ _ _ _ jP.out.bq aH rfl (dV _) ?_)
       refine (DZ (q1:Int) false _ (by have:=hqB.out;have h1:=HQ.out;have h2:=qd.out;rw[h1] at this;unfold BB at *;omega) (by have h2:=qd.out;rw[aN];omega)).mono ?_;rintro e1 x2 ⟨rfl,hb2⟩;have I2:=jP.out.up hb2;obtain ⟨hq0,fq0⟩:=I2.Nq;obtain ⟨hS,h1,h2⟩:=I2.done (Q:=Q) true (by have:=Im.out;rw[bA];omega) (by have:=Im.out;have h2:=qd.out;omega);have HS:=aA hS;have H1:=aA h1;have H2:=aA h2;clear hS h1 h2 Im jP I2 hb2 hx1 hc1;go_wp2_with fail;rename_i K24 Og;refine (bN (n:=5)).1 (eI (F:=Fence.wide) (S:=fun X=>Ia x c Q B w X) (by kernel_rfl) (Ia.up HS.out (eM _ _ 1)) (fun hHeld=>?_));have gK:=dS.below (eM _ _ 1) H1.out;have hrow2:=dS.below (eM _ _ 1) H2.out;clear HS H1 H2;refine dH (fun _=>trivial) (by kernel_rfl) (i:=0) (oi:=_) (v:=.agg (bv Q)) rfl (by kernel_rfl) (by kernel_rfl) (by kernel_rfl) (fun _ _ _ h=>h) (by assumption) (Or.inl ⟨by kernel_rfl,?_⟩) ?_
       ·intro wz hSw;exact dY 214 (.tmp 7) (by kernel_rfl) (B) (by kernel_rfl) _ _ _ _ (hSw.bq) aH (by kernel_rfl) (dV _)
       try simp only[aQ]
       refine dH (fun _=>trivial) (by kernel_rfl) (i:=1) (oi:=_) (v:=.agg (bv x)) rfl (by kernel_rfl) (by kernel_rfl) (by kernel_rfl) (fun _ _ _ h=>h) (by assumption) (Or.inl ⟨by kernel_rfl,?_⟩) ?_
       ·intro wz hSw;exact dY 214 (.tmp 2) (by kernel_rfl) (w.heap.size) (by kernel_rfl) _ _ _ _ (hSw.bx) aH (by kernel_rfl) (dV _)
       try simp only[aQ]
       refine dH (fun _=>trivial) (by kernel_rfl) (i:=2) (oi:=_) (v:=.agg (bv Q)) rfl (by kernel_rfl) (by kernel_rfl) (by kernel_rfl) (fun _ _ _ h=>h) (by assumption) (Or.inl ⟨by kernel_rfl,?_⟩) ?_
       ·intro wz hSw;exact dY 214 (.tmp 7) (by kernel_rfl) (B) (by kernel_rfl) _ _ _ _ (hSw.bq) aH (by kernel_rfl) (dV _)
       try simp only[aQ]
       refine dH (fun _=>trivial) (by kernel_rfl) (i:=3) (oi:=_) (v:=.agg (bv c)) rfl (by kernel_rfl) (by kernel_rfl) (by kernel_rfl) (fun _ _ _ h=>h) (by assumption) (Or.inl ⟨by kernel_rfl,?_⟩) ?_
       ·intro wz hSw;exact dY 214 (.tmp 3) (by kernel_rfl) (w.heap.size+1) (by kernel_rfl) _ _ _ _ (hSw.bc) aH (by kernel_rfl) (dV _)
       try simp only[aQ]
       refine dO (fun _=>trivial) (i:=4) (o:=_) (by kernel_rfl) rfl (fun K hK=>?_);go_simp;refine ⟨trivial,bG.2 ((cM.out _).mono ?_)⟩;rintro e y1 ⟨rfl,hc1⟩;dsimp only;replace gK:=dS.below hc1 gK;replace hrow2:=dS.below hc1 hrow2;refine hK.out _ _ (hHeld.up hc1) (fun hHeld=>?_);clear hK K;try simp only[aQ]
       refine dO (fun _=>trivial) (i:=5) (o:=_) (by kernel_rfl) rfl (fun K hK=>?_);go_simp;refine ⟨trivial,bG.2 ((cN.out _).mono ?_)⟩;rintro e y2 ⟨rfl,hc2⟩;dsimp only;replace gK:=dS.below hc2 gK;replace hrow2:=dS.below hc2 hrow2;refine hK.out _ _ (hHeld.up hc2) (fun hHeld=>?_);clear hK K;try simp only[aQ]
       refine dO (fun _=>trivial) (i:=6) (o:=_) (by kernel_rfl) rfl (fun K hK=>?_);go_simp;refine ⟨trivial,bG.2 ((cA.out _).mono ?_)⟩;rintro e y3 ⟨rfl,hc3⟩;dsimp only;replace gK:=dS.below hc3 gK;replace hrow2:=dS.below hc3 hrow2;refine hK.out _ _ (hHeld.up hc3) (fun hHeld=>?_);clear hK K;try simp only[aQ]
       refine dO (fun _=>trivial) (i:=7) (o:=_) (by kernel_rfl) rfl (fun K hK=>?_);rw[aZ (by kernel_rfl)];refine eD (fun _=>trivial) 214 (.tmp 4) (.tmp 87) (by kernel_rfl) (w.heap.size+1+1) _ _ (bv Q) (by kernel_rfl) (by kernel_rfl) gK (dV _) (fT 0 _) (gT _) ?_;refine hK.out _ _ (hHeld.put _ (Or.inl rfl) _) (fun hHeld=>?_);clear hK K;try simp only[aQ]
       replace hrow2:=dS.other (k:=w.heap.size+1+1) hrow2 (by omega) (bv Q);replace gK:=dS.row gK Q;refine dO (fun _=>trivial) (i:=8) (o:=_) (by kernel_rfl) rfl (fun K hK=>?_);rw[aZ (by kernel_rfl)];refine eD (fun _=>trivial) 214 (.tmp 5) (.tmp 93) (by kernel_rfl) (w.heap.size+1+1+1) _ _ (bv R) (by kernel_rfl) (by kernel_rfl) hrow2 (dV _) (fT 0 _) (gT _) ?_;refine hK.out _ _ (hHeld.put _ (Or.inr rfl) _) (fun hHeld=>?_);clear hK K;try simp only[aQ]
       replace gK:=dS.other (k:=w.heap.size+1+1+1) gK (by omega) (bv R);replace hrow2:=dS.row hrow2 R;refine dH (fun _=>trivial) (by kernel_rfl) (i:=9) (oi:=_) (v:=?_) rfl (by kernel_rfl) (by kernel_rfl) (by kernel_rfl) (fun _ _ _ h=>h) (by assumption) (Or.inl ⟨by kernel_rfl,?_⟩) ?_;rotate_left
       ·intro wz hSw;first|(go_simp;done)|(go_simp;with_reducible rfl)
       try simp only[aQ]
       refine eH (by kernel_rfl) ?_ _;refine Og _ _ ?_;have Oh:=hHeld.below;refine wp_ret ?_
       (try simp only[Exit.inBlock,Exit.then])
       refine aO (v:=.tuple #[.agg (bv Q),.agg (bv R),.int .i64 0]) (qD rfl _ _ (w.heap.size+1+1) (w.heap.size+1+1+1) _ _ _ _ _ _ _ _ _ rfl gK aH rfl (dV _) rfl hrow2 aH rfl (dV _) rfl) rfl ?_;exact ⟨rfl,Oh⟩
      refine (bN (n:=5)).1 (eI (F:=Fence.wide) (S:=fun X=>True) (by kernel_rfl) trivial (fun hHeld=>?_));clear hHeld;have hs0:wP x c n q r B w x1.drew:=wP.up nX.out (eM _ _ 1);refine kY (fun _=>trivial) (i:=0) (j:=1) (o:=_) (o2:=_) (by kernel_rfl) rfl rfl (fun K hK=>?_) (fun K hK=>?_)
      ·rw[aZ (by kernel_rfl)]
       refine mZ (fun _=>trivial) 214 (.tmp 7) (by kernel_rfl) (B) (by kernel_rfl) _ (bv (q:Int)) _ _ hs0.bq aH (by kernel_rfl) (dV _) ?_;refine hK.out _ _ trivial (fun _=>?_);clear hK K;try simp only[aQ]
       refine dO (fun _=>trivial) (i:=1) (o:=_) (by kernel_rfl) rfl (fun K hK=>?_);go_simp;refine ⟨trivial,bG.2 ((C1.out _).mono ?_)⟩;rintro e y1 ⟨rfl,hc1⟩;dsimp only;have hs1:=wP.up hs0 hc1;refine hK.out _ _ (trivial) (fun hHeld=>?_);clear hK K;try simp only[aQ]
       refine dO (fun _=>trivial) (i:=2) (o:=_) (by kernel_rfl) rfl (fun K hK=>?_);go_simp;refine ⟨trivial,bG.2 ((C2.out _).mono ?_)⟩;rintro e y2 ⟨rfl,hc2⟩;dsimp only;have hs2:=wP.up hs1 hc2;refine hK.out _ _ (trivial) (fun hHeld=>?_);clear hK K;try simp only[aQ]
       refine dO (fun _=>trivial) (i:=3) (o:=_) (by kernel_rfl) rfl (fun K hK=>?_);rw[aZ (by kernel_rfl)];refine eD (fun _=>trivial) 214 (.tmp 7) (.tmp 75) (by kernel_rfl) (B) _ _ (bv (q1:Int)) (by kernel_rfl) (by kernel_rfl) hs2.bq (dV _) (fT _ _) (gT _) ?_;refine hK.out _ _ trivial (fun _=>?_);clear hK K;try simp only[aQ]
       exact eH (by kernel_rfl) (HTT _ (wP.yu hs2 q1)) _
      ·go_simp
       refine ⟨trivial,bG.2 ((C1.out _).mono ?_)⟩;rintro e y1 ⟨rfl,hc1⟩;dsimp only;have hs1:=wP.up hs0 hc1;refine hK.out _ _ (trivial) (fun hHeld=>?_);clear hK K;try simp only[aQ]
       refine dO (fun _=>trivial) (i:=0) (o:=_) (by kernel_rfl) rfl (fun K hK=>?_);rw[aZ (by kernel_rfl)];refine mZ (fun _=>trivial) 214 (.tmp 7) (by kernel_rfl) (B) (by kernel_rfl) _ (bv (q:Int)) _ _ hs1.bq aH (by kernel_rfl) (dV _) ?_;refine hK.out _ _ trivial (fun _=>?_);clear hK K;try simp only[aQ]
       refine dO (fun _=>trivial) (i:=2) (o:=_) (by kernel_rfl) rfl (fun K hK=>?_);go_simp;refine ⟨trivial,bG.2 ((C2.out _).mono ?_)⟩;rintro e y2 ⟨rfl,hc2⟩;dsimp only;have hs2:=wP.up hs1 hc2;refine hK.out _ _ (trivial) (fun hHeld=>?_);clear hK K;try simp only[aQ]
       refine dO (fun _=>trivial) (i:=3) (o:=_) (by kernel_rfl) rfl (fun K hK=>?_);rw[aZ (by kernel_rfl)];refine eD (fun _=>trivial) 214 (.tmp 7) (.tmp 75) (by kernel_rfl) (B) _ _ (bv (q1:Int)) (by kernel_rfl) (by kernel_rfl) hs2.bq (dV _) (fT _ _) (gT _) ?_;refine hK.out _ _ trivial (fun _=>?_);clear hK K;try simp only[aQ]
       exact eH (by kernel_rfl) (HTT _ (wP.yu hs2 q1)) _
   | false =>
    cases hsc:decide (c<0) with
    | true =>
     exact absurd (hsc.symm.trans Wn.out) (by decide)
    | false =>
     rw[Ao] at hx;rw[hsc] at hc;have hQ:=EK.out (by rw[Ao,hsc]);obtain ⟨hq0,fq0⟩:=HI.out.Nq;rw[hq] at hQ;obtain ⟨hS,h1,h2⟩:=HI.out.done (Q:=Q) false (aN (by omega)) (by omega);have HS:=aA hS;have H1:=aA h1;have H2:=aA h2;clear hS h1 h2 hQ HI Ao hsc hq hr EK NK NJ;go_wp2_with fail;rename_i K24 Og;refine (bN (n:=5)).1 (eI (F:=Fence.wide) (S:=fun X=>Ia x c Q B w X) (by kernel_rfl) (Ia.up HS.out (eM _ _ 1)) (fun hHeld=>?_));have gK:=dS.below (eM _ _ 1) H1.out;have hrow2:=dS.below (eM _ _ 1) H2.out;clear HS H1 H2;refine dH (fun _=>trivial) (by kernel_rfl) (i:=0) (oi:=_) (v:=.agg (bv Q)) rfl (by kernel_rfl) (by kernel_rfl) (by kernel_rfl) (fun _ _ _ h=>h) (by assumption) (Or.inl ⟨by kernel_rfl,?_⟩) ?_
     ·intro wz hSw;exact dY 214 (.tmp 7) (by kernel_rfl) (B) (by kernel_rfl) _ _ _ _ (hSw.bq) aH (by kernel_rfl) (dV _)
     try simp only[aQ]
     refine dH (fun _=>trivial) (by kernel_rfl) (i:=1) (oi:=_) (v:=.agg (bv x)) rfl (by kernel_rfl) (by kernel_rfl) (by kernel_rfl) (fun _ _ _ h=>h) (by assumption) (Or.inl ⟨by kernel_rfl,?_⟩) ?_
     ·intro wz hSw;exact dY 214 (.tmp 2) (by kernel_rfl) (w.heap.size) (by kernel_rfl) _ _ _ _ (hSw.bx) aH (by kernel_rfl) (dV _)
     try simp only[aQ]
     refine dH (fun _=>trivial) (by kernel_rfl) (i:=2) (oi:=_) (v:=.agg (bv Q)) rfl (by kernel_rfl) (by kernel_rfl) (by kernel_rfl) (fun _ _ _ h=>h) (by assumption) (Or.inl ⟨by kernel_rfl,?_⟩) ?_
     ·intro wz hSw;exact dY 214 (.tmp 7) (by kernel_rfl) (B) (by kernel_rfl) _ _ _ _ (hSw.bq) aH (by kernel_rfl) (dV _)
     try simp only[aQ]
     refine dH (fun _=>trivial) (by kernel_rfl) (i:=3) (oi:=_) (v:=.agg (bv c)) rfl (by kernel_rfl) (by kernel_rfl) (by kernel_rfl) (fun _ _ _ h=>h) (by assumption) (Or.inl ⟨by kernel_rfl,?_⟩) ?_
     ·intro wz hSw;exact dY 214 (.tmp 3) (by kernel_rfl) (w.heap.size+1) (by kernel_rfl) _ _ _ _ (hSw.bc) aH (by kernel_rfl) (dV _)
     try simp only[aQ]
     refine dO (fun _=>trivial) (i:=4) (o:=_) (by kernel_rfl) rfl (fun K hK=>?_);go_simp;refine ⟨trivial,bG.2 ((cM.out _).mono ?_)⟩;rintro e y1 ⟨rfl,hc1⟩;dsimp only;replace gK:=dS.below hc1 gK;replace hrow2:=dS.below hc1 hrow2;refine hK.out _ _ (hHeld.up hc1) (fun hHeld=>?_);clear hK K;try simp only[aQ]
     refine dO (fun _=>trivial) (i:=5) (o:=_) (by kernel_rfl) rfl (fun K hK=>?_);go_simp;refine ⟨trivial,bG.2 ((cN.out _).mono ?_)⟩;rintro e y2 ⟨rfl,hc2⟩;dsimp only;replace gK:=dS.below hc2 gK;replace hrow2:=dS.below hc2 hrow2;refine hK.out _ _ (hHeld.up hc2) (fun hHeld=>?_);clear hK K;try simp only[aQ]
     refine dO (fun _=>trivial) (i:=6) (o:=_) (by kernel_rfl) rfl (fun K hK=>?_);go_simp;refine ⟨trivial,bG.2 ((cA.out _).mono ?_)⟩;rintro e y3 ⟨rfl,hc3⟩;dsimp only;replace gK:=dS.below hc3 gK;replace hrow2:=dS.below hc3 hrow2;refine hK.out _ _ (hHeld.up hc3) (fun hHeld=>?_);clear hK K;try simp only[aQ]
     refine dO (fun _=>trivial) (i:=7) (o:=_) (by kernel_rfl) rfl (fun K hK=>?_);rw[aZ (by kernel_rfl)];refine eD (fun _=>trivial) 214 (.tmp 4) (.tmp 87) (by kernel_rfl) (w.heap.size+1+1) _ _ (bv Q) (by kernel_rfl) (by kernel_rfl) gK (dV _) (fT 0 _) (gT _) ?_;refine hK.out _ _ (hHeld.put _ (Or.inl rfl) _) (fun hHeld=>?_);clear hK K;try simp only[aQ]
     replace hrow2:=dS.other (k:=w.heap.size+1+1) hrow2 (by omega) (bv Q);replace gK:=dS.row gK Q;refine dO (fun _=>trivial) (i:=8) (o:=_) (by kernel_rfl) rfl (fun K hK=>?_);rw[aZ (by kernel_rfl)];refine eD (fun _=>trivial) 214 (.tmp 5) (.tmp 93) (by kernel_rfl) (w.heap.size+1+1+1) _ _ (bv R) (by kernel_rfl) (by kernel_rfl) hrow2 (dV _) (fT 0 _) (gT _) ?_;refine hK.out _ _ (hHeld.put _ (Or.inr rfl) _) (fun hHeld=>?_);clear hK K;try simp only[aQ]
     replace gK:=dS.other (k:=w.heap.size+1+1+1) gK (by omega) (bv R);replace hrow2:=dS.row hrow2 R;refine dH (fun _=>trivial) (by kernel_rfl) (i:=9) (oi:=_) (v:=?_) rfl (by kernel_rfl) (by kernel_rfl) (by kernel_rfl) (fun _ _ _ h=>h) (by assumption) (Or.inl ⟨by kernel_rfl,?_⟩) ?_;rotate_left
     ·intro wz hSw;first|(go_simp;done)|(go_simp;with_reducible rfl)
     try simp only[aQ]
     refine eH (by kernel_rfl) ?_ _;refine Og _ _ ?_;have Oh:=hHeld.below;refine wp_ret ?_
     (try simp only[Exit.inBlock,Exit.then])
     refine aO (v:=.tuple #[.agg (bv Q),.agg (bv R),.int .i64 0]) (qD rfl _ _ (w.heap.size+1+1) (w.heap.size+1+1+1) _ _ _ _ _ _ _ _ _ rfl gK aH rfl (dV _) rfl hrow2 aH rfl (dV _) rfl) rfl ?_;exact ⟨rfl,Oh⟩
theorem ug (x c:Int)(w:World)(hx:x.natAbs<65536^9)(hc0:0<c)(Ns:c.natAbs<65536^9) :
  Calls prog 159 #[.agg (bv x),.agg (bv c)] w fun e w'=>e=.returned (.tuple #[.agg (bv (dv x c)),.agg (bv (rs x c)),.int .i64 0])∧Below w.heap.size w w':=by
 have hc:c≠0:=by omega
 have e9:(65536:Nat)^9=2^144:=by decide
 have Gi:(2:Nat)^144=22300745198530623141535718272648361505980416:=by decide
 have eB:BB/4=533996758980227520598755426542388028650676130589163192486760401955554931445160137505740521734144:=by decide
 have eB1:BB=2135987035920910082395021706169552114602704522356652769947041607822219725780640550022962086936576:=by decide
 rw[e9,Gi] at hx Ns;have hn:0<c.natAbs:=by omega
 have hqm:x.natAbs/c.natAbs≤x.natAbs:=Nat.div_le_self _ _;have EK:decide (x<0)=decide (c<0)→dv x c=((x.natAbs/c.natAbs:Nat):Int):=fun h=>(Bh hc (cJ.1 h)).1
 have hd0:decide (x<0)≠decide (c<0)→x.natAbs%c.natAbs=0→dv x c=-((x.natAbs/c.natAbs:Nat):Int):=fun h g=>((yO hc fun e=>h (cJ.2 e)).1 g).1
 have Ig:decide (x<0)≠decide (c<0)→x.natAbs%c.natAbs≠0→dv x c=-((x.natAbs/c.natAbs+1:Nat):Int):=fun h g=>((yO hc fun e=>h (cJ.2 e)).2 g).1
 have hq1:x.natAbs%c.natAbs≠0→x.natAbs/c.natAbs+1≤x.natAbs:=by
  intro hr;have h2:2≤c.natAbs:=by
   rcases Nat.lt_or_ge c.natAbs 2 with h|h
   ·exfalso
    have : c.natAbs=1:=by omega
    rw[this,Nat.mod_one] at hr;exact hr rfl
   ·exact h
  have h3:x.natAbs/c.natAbs≤x.natAbs/2:=Nat.div_le_div_left h2 (by omega);have h4:x.natAbs≠0:=by
   intro h0;rw[h0,Nat.zero_mod] at hr;exact hr rfl
  have h5:x.natAbs=1→x.natAbs/c.natAbs=0:=fun h=>by rw[h];exact Nat.div_eq_of_lt (by omega)
  omega
 have hQ:(dv x c).natAbs≤x.natAbs:=by
  by_cases hs:decide (x<0)=decide (c<0)
  ·rw[EK hs,cH]
   exact hqm
  ·by_cases hr:x.natAbs%c.natAbs=0
   ·rw[hd0 hs hr,Int.natAbs_neg,cH]
    exact hqm
   ·rw[Ig hs hr,Int.natAbs_neg,cH]
    exact hq1 hr
 have hP:(dv x c*c).natAbs<2^144*2^144:=by
  rw[Int.natAbs_mul];exact Nat.mul_lt_mul'' (by rw[Gi];omega) (by rw[Gi];omega)
 have e288:(2:Nat)^144*2^144=497323236409786642155382248146820840100456150797347717440463976893159497012533375533056:=by decide
 rw[e288] at hP;refine De x c x.natAbs c.natAbs (dv x c) (dv x c*c) (-(dv x c*c)) (rs x c) w (aA hn) (aA (by rw[Gi];exact hx)) (aA rfl) (aA rfl) (aA (by rw[eB];omega)) (aA EK) (aA hd0) (aA Ig) (aA (by rw[eB];omega)) (aA (aN (by omega)))
  (aA fun w=>DZ c false w (by rw[eB1];omega) (aN hc)) (aA fun w=>Zp _ _ w (by rw[e9,Gi];omega) (by rw[e9,Gi];omega)) (aA fun w=>Li _ w (by rw[eB1];omega)) (aA fun w=>?_)
 have:=TX x (-(dv x c*c)) w (by rw[eB1];omega);rw[show x + -(dv x c*c)=rs x c from rfl] at this;exact this
end Fx
end Go.Proofs.YtbbhmhihpdmoiaaGreat
