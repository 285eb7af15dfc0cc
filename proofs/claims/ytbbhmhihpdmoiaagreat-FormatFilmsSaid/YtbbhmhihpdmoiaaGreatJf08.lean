import Derived.Test.YtbbhmhihpdmoiaaGreatJf07
set_option linter.unusedVariables false
set_option linter.unusedSimpArgs false
set_option maxRecDepth 100000
set_option maxHeartbeats 32000000
namespace Go.Proofs.YtbbhmhihpdmoiaaGreat
open Go.Proofs.Tryz
namespace Fx
open Go Go.RowKit Wm
section
variable {n:Nat} {P:Program} {ops:Array Oper} {Q:Exit→Act→World→Prop} {md:Region.Mode} {S:World→Prop} {Z:List Nat}
def dI (t:TypeId)(g:Nat)(cs:Array Value)(W:World):Prop:=W.heap[g]?=some (.cells cs t (0,0))
theorem dI.below {t:TypeId}{g:Nat}{cs:Array Value}{W X:World}(hb:Below W.heap.size W X)(h:dI t g cs W):dI t g cs X:=dL hb h
theorem dI.row {t:TypeId}{g:Nat}{cs:Array Value}{W:World}(h:dI t g cs W)(c:Array Value):dI t g c (W.setRow g c):=setRow_heap _ _ _ _ _ _ h
theorem dI.other {t:TypeId}{g k:Nat}{cs:Array Value}{W:World}(h:dI t g cs W)(hk:g≠k)(c:Array Value):dI t g cs (W.setRow k c):=by unfold dI;rw[setRow_other _ _ _ _ hk];exact h
theorem dI.lt {t:TypeId}{g:Nat}{cs:Array Value}{W:World}(h:dI t g cs W):g<W.heap.size:=(aC.1 h).1
theorem dI.new (W:World)(t:TypeId)(cs:Array Value):dI t W.heap.size cs (W.alloc (.cells cs t)):=aG _ _
theorem dI.alloc {t:TypeId}{g:Nat}{cs:Array Value}{W:World}(h:dI t g cs W)(o:Obj):dI t g cs (W.alloc o):=dM h
theorem dI.cell {t:TypeId}{g j:Nat}{cs:Array Value}{W:World}(h:dI t g cs W):W.cell? ⟨g,j,none⟩=cs[j]?:=aD _ _ _ _ _ _ h
theorem dI.free {t:TypeId}{g j:Nat}{cs:Array Value}{W:World}(h:dI t g cs W):W.frozen? ⟨g,j,none⟩=false:=dJ h
theorem XL (i j:Nat){o o2:Oper}{fuel:Nat}{listed:Array Bool}{a:Act}{w:World}(hr:Region.ready md ops listed=[i,j])(ho:ops[i]?=some o)(sA:ops[j]?=some o2)
  (h:∀K':Act→World→Prop,Shut (∀a w,(Z.contains i=false→S w)→(∀w3,Below w.heap.size w w3→gX n P md ops Q S Z fuel (listed.setIfInBounds i true) a w3)→K' a w)→if Region.wanted o (yielded ops a.tmps)=true then Oper.wpIn Fence.wide n P o a w K' Q else K' (a.put o.dst undef) w)
  (h2:∀K':Act→World→Prop,Shut (∀a w,(Z.contains j=false→S w)→(∀w3,Below w.heap.size w w3→gX n P md ops Q S Z fuel (listed.setIfInBounds j true) a w3)→K' a w)→if Region.wanted o2 (yielded ops a.tmps)=true then Oper.wpIn Fence.wide n P o2 a w K' Q else K' (a.put o2.dst undef) w) :
  gX n P md ops Q S Z (fuel+1) listed a w:=by
 refine ⟨fun h0=>(by rw[hr] at h0;cases h0),fun k hk=>?_⟩;rw[hr] at hk;simp only[List.mem_cons,List.not_mem_nil,or_false] at hk
 rcases hk with rfl|rfl
 ·unfold wpOpIn
  simp only[ho];have h':=h (fun a' w'=>(Z.contains k=false→S w')∧∀w3,Below w'.heap.size w' w3→gX n P md ops Q S Z fuel (listed.setIfInBounds k true) a' w3) (fun a w hS hW=>⟨hS,hW⟩)
  split
  ·rename_i hw
   rw[aZ hw] at h';exact h'
  ·rename_i hw
   rw[bF hw] at h';exact ⟨fun f _=>trivial,h'⟩
 ·unfold wpOpIn
  simp only[sA];have h':=h2 (fun a' w'=>(Z.contains k=false→S w')∧∀w3,Below w'.heap.size w' w3→gX n P md ops Q S Z fuel (listed.setIfInBounds k true) a' w3) (fun a w hS hW=>⟨hS,hW⟩)
  split
  ·rename_i hw
   rw[aZ hw] at h';exact h'
  ·rename_i hw
   rw[bF hw] at h';exact ⟨fun f _=>trivial,h'⟩
theorem KM (D:List Nat)(i:Nat)(v:Value)(s:Sound P ops Q S){oi:Oper}{fuel:Nat}{listed:Array Bool}{a:Act}{w:World}(hi:ops[i]?=some oi)
  (hk:mU md ops Z listed i D=true) (hS:S w) (hy:Gives P ops S oi v a)
  (h:∀w3,S w3→Below w.heap.size w w3→gX n P md ops Q S Z fuel (listed.setIfInBounds i true) (a.put oi.dst v) w3):gX n P md ops Q S Z (fuel+1) listed a w:=by
 unfold mU at hk;simp only[Bool.and_eq_true] at hk;obtain ⟨⟨⟨hf,hr⟩,hz⟩,hc⟩:=hk;refine ET s.calm hi (Region.noSelect_spec s.Zn) (fun c a w=>s.pan _ _ _ _ _) D (fun z hz'=>?_) s.mono fuel listed a w (Region.free_spec hi hf) (by simpa using hr) (wK hc) hy hS fun w3 hb=>h w3 (s.mono _ _ hS hb) hb
 have:=bU.1 hz z hz';exact List.contains_iff_mem.1 this
theorem dT (D:List Nat)(i:Nat)(v:Value)(s:Sound P ops Q S){oi:Oper}{fuel:Nat}{listed:Array Bool}{a:Act}{w:World}(hi:ops[i]?=some oi)
  (hk:mU md ops Z listed i D=true) (hS:S w) (hw:Region.wanted oi (yielded ops a.tmps)=true) (hv:∀w,S w→(execOp a.eval oi).run P w=.ok (.value v) w)
  (h:∀w3,S w3→Below w.heap.size w w3→gX n P md ops Q S Z fuel (listed.setIfInBounds i true) (a.put oi.dst v) w3):gX n P md ops Q S Z (fuel+1) listed a w :=
 KM D i v s hi hk hS (Or.inl ⟨hw,fun w hS=>Or.inl (hv w hS)⟩) h
theorem lC (D:List Nat)(i:Nat)(f:FuncId)(args:Array Value)(v:Value)(s:Sound P ops Q S){oi:Oper}{fuel:Nat}{listed:Array Bool}{a:Act}{w:World}(hi:ops[i]?=some oi)
  (hk:mU md ops Z listed i D=true) (hS:S w) (hw:Region.wanted oi (yielded ops a.tmps)=true) (hv:∀w,(execOp a.eval oi).run P w=.ok (.enter f args) w)
  (hc:∀w,Calls P f args w fun e w'=>e=.returned v∧Below w.heap.size w w')
  (h:∀w3,S w3→Below w.heap.size w w3→gX n P md ops Q S Z fuel (listed.setIfInBounds i true) (a.put oi.dst v) w3):gX n P md ops Q S Z (fuel+1) listed a w :=
 KM D i v s hi hk hS (Or.inl ⟨hw,fun w _=>Or.inr ⟨f,args,hv w,hc w⟩⟩) h
end
theorem Tz {bound:Int}{m:List Int}{k n:Nat}(h:wB bound m n=true)(hk:k≤n):wB bound m k=true:=by
 unfold wB at *;rw[bU] at *;intro j hj;exact h j (List.mem_range.2 (aP (List.mem_range.1 hj) hk))
theorem zk {bound x:Int}(h:bound<0∨bound<x∨x < -bound):okB bound x=false:=by
 unfold okB;exact aN (by omega)
theorem Vb {bound x:Int}(h:0≤bound)(h1:x≤bound)(h2:-bound≤x):okB bound x=true:=by
 unfold okB;exact bA ⟨h,h2,h1⟩
theorem nE (m:List Int)(bound:Int)(w:World)(hm:m.length=16)(b0:-9223372036854775808≤bound)(b1:bound≤9223372036854775807) :
  Calls prog 104 #[.agg (mC m),.int .i64 bound] w (fJ (wB bound m 16) w):=by
 have HM:Hid (mE w.heap.size m (w.alloc (.cells (mC m) 25))):=aA (aG _ _);have HB:Hid (Below w.heap.size w (w.alloc (.cells (mC m) 25))):=aA (by go_grown);have HL:=aA hm;clear hm;go_enter func104,ntmps104;go_wp2_with fail;generalize (w.alloc (.cells (mC m) 25))=V at HM HB ⊢
 go_loop [5] (fun s=>∃r:Nat,s=.int .i64 (r:Int)∧r≤4∧wB bound m (4*r)=true) (fun s=>4-(intOf s).toNat)
 case atStart=>exact ⟨0,rfl,by omega,rfl⟩
 case round =>
  obtain ⟨r,rfl,hr,hw⟩:=hrel;have HW:=aA hw;clear hw;by_cases hr4:r<4
  ·have r1:(r:Int)<4:=by omega
   go_wp2_with fail
   go_loop [6] (fun s=>∃c:Nat,s=.int .i64 (c:Int)∧c≤4∧wB bound m (4*r+c)=true) (fun s=>4-(intOf s).toNat)
   case atStart=>exact ⟨0,rfl,by omega,HW.out⟩
   case round =>
    obtain ⟨c,rfl,hc,hw2⟩:=hrel;have Ik:=aA hw2;clear hw2;by_cases Wo:c<4
    ·have c1:(c:Int)<4:=by omega
     obtain ⟨x,hx⟩:∃x,m.getD (4*r+c) 0=x:=⟨_,rfl⟩;have hcell:V.cell? ⟨w.heap.size,4*r+c,none⟩=some (.int .i64 x):=by rw[←hx];exact HM.out.cell (by rw[HL.out];omega)
     have HS:Hid (wB bound m (4*r+c+1)=okB bound x):=aA (by rw[YQ,Ik.out,hx];rfl);clear hx;have hno:∀ (h:bound<0∨bound<x∨x < -bound),wB bound m 16=false:=fun h=>by
      by_cases hh:wB bound m 16=true
      ·have:=Tz hh (k:=4*r+c+1) (by omega)
       rw[HS.out,zk h] at this
       cases this
      ·simpa using hh
     have Vs:∀ (h:0≤bound) (h1:x≤bound) (h2:-bound≤x),wB bound m (4*r+(c+1))=true:=fun h h1 h2=>HS.out.trans (Vb h h1 h2)
     have sQ:=aA hno;have Hh:=aA Vs;clear hno Vs;have hcell2:V.cell? ⟨w.heap.size,r*4+c,none⟩=some (.int .i64 x):=by rw[cF];exact hcell
     by_cases hb:bound<0
     ·go_wp2_with fail
      go_ret;exact ⟨by rw[sQ.out (Or.inl hb)];rfl,HB.out⟩
     ·have hb0:0≤bound:=by omega
      have hneg:IntKind.i64.wrap (-bound)=-bound:=by rw[bL];omega
      by_cases h1:bound<x
      ·go_wp2_with fail
       go_ret;exact ⟨by rw[sQ.out (Or.inr (Or.inl h1))];rfl,HB.out⟩
      ·have h1':x≤bound:=by omega
       by_cases h2:x < -bound
       ·go_wp2_with fail
        go_ret;exact ⟨by rw[sQ.out (Or.inr (Or.inr h2))];rfl,HB.out⟩
       ·have h2':-bound≤x:=by omega
        go_wp2_with fail
        go_round
        case rel=>exact ⟨c+1,by go_num,by omega,Hh.out hb0 h1' h2'⟩
        case measure=>simp[intOf];omega
    ·obtain rfl:c=4:=by omega
     have c1:¬ ((4:Nat):Int)<4:=by omega
     go_wp2_with fail
     go_round
     case rel=>exact ⟨r+1,by go_num,by omega,Ik.out⟩
     case measure=>simp[intOf];omega
  ·obtain rfl:r=4:=by omega
   have r1:¬ ((4:Nat):Int)<4:=by omega
   go_wp2_with fail;go_ret;exact ⟨by have:=HW.out;rw[this];rfl,HB.out⟩
def AQ (q:Int):Int:=if okB 4611686018427387904 q=true then q else 0
def FJ (a v:List Int):Nat→Int
 | 0=>0
 | k+1=>FJ a v k+a.getD k 0*v.getD k 0
theorem dsum_4 (a v:List Int):FJ a v 4=dot a v:=by
 simp only[FJ,dot];omega
theorem Bl {a v:List Int}(ha:∀j,-9223372036854775808≤a.getD j 0∧a.getD j 0≤9223372036854775807)(hv:∀j,-9223372036854775808≤v.getD j 0∧v.getD j 0≤9223372036854775807):∀k,(FJ a v k).natAbs≤k*85070591730234615865843651857942052864
 | 0=>by simp[FJ]
 | k+1=>by
  have h1:=Bl ha hv k;have h2:(a.getD k 0*v.getD k 0).natAbs≤85070591730234615865843651857942052864:=by
   rw[Int.natAbs_mul];have h3:=ha k;have h4:=hv k;exact Nat.mul_le_mul (show (a.getD k 0).natAbs≤9223372036854775808 by omega) (show (v.getD k 0).natAbs≤9223372036854775808 by omega)
  rw[FJ];omega
theorem Kr {x y:Int}(hx:-9223372036854775808≤x∧x≤9223372036854775807)(hy:-9223372036854775808≤y∧y≤9223372036854775807):(x*y).natAbs≤85070591730234615865843651857942052864:=by
 rw[Int.natAbs_mul];exact Nat.mul_le_mul (show x.natAbs≤9223372036854775808 by omega) (show y.natAbs≤9223372036854775808 by omega)
structure Sn (a v:List Int)(B k:Nat)(w W:World):Prop where
 ra:dI 23 w.heap.size (mC a) W
 rv:dI 23 (w.heap.size+1) (mC v) W
 rs:dI 214 B (bv (FJ a v k)) W
 below:Below w.heap.size w W
 lt:w.heap.size+1<B
theorem Sn.up {a v:List Int}{B k:Nat}{w W V:World}(i:Sn a v B k w W)(hb:Below W.heap.size W V):Sn a v B k w V:=⟨i.ra.below hb,i.rv.below hb,i.rs.below hb,dN i.below hb,i.lt⟩
theorem Sn.put {a v:List Int}{B k:Nat}{w W:World}(i:Sn a v B k w W):Sn a v B (k+1) w (W.setRow B (bv (FJ a v (k+1)))) :=
 ⟨i.ra.other (by have:=i.lt;omega) _,i.rv.other (by have:=i.lt;omega) _,i.rs.row _,Below.row i.below (by have:=i.lt;omega) _,i.lt⟩
def SuRel (a v:List Int)(B:Nat)(w:World)(g:Nat)(s:Value)(W:World):Prop:=∃k,g=4-k∧s=.int .i64 (k:Int)∧k≤4∧Sn a v B k w W
theorem kR {m:List Int}{k:Nat}(hk:k<m.length):(mC m)[k]?=some (.int .i64 (m.getD k 0)):=zE m k hk
theorem Ir (a v:List Int)(w:World)(la:a.length=4)(lv:v.length=4)(ba:∀j,-9223372036854775808≤a.getD j 0∧a.getD j 0≤9223372036854775807)(Xo:∀j,-9223372036854775808≤v.getD j 0∧v.getD j 0≤9223372036854775807) :
  Calls prog 154 #[.agg (mC a),.agg (mC v)] w fun e w'=>e=.returned (.tuple #[.int .i64 (AQ (pq a v)),.bool (okB 4611686018427387904 (pq a v))])∧Below w.heap.size w w':=by
 have LA:=aA la;have LV:=aA lv;have Te:=aA (Bl ba Xo);have BA:=aA ba;have BV:=aA Xo;have cO0:Hid (vH 156 #[.int .i64 0] (.agg (bv 0))):=aA fun w=>Le 0 w (by omega) (by omega)
 have RA0:Hid (dI 23 w.heap.size (mC a) ((w.alloc (.cells (mC a) 23)).alloc (.cells (mC v) 23))):=aA (dI.alloc (dI.new _ _ _) _);have RV0:Hid (dI 23 (w.heap.size+1) (mC v) ((w.alloc (.cells (mC a) 23)).alloc (.cells (mC v) 23))):=aA (heap_alloc2_new _ _ _);have CH:Hid (Below w.heap.size w ((w.alloc (.cells (mC a) 23)).alloc (.cells (mC v) 23))):=aA (by go_grown);clear la lv ba Xo;go_enter func154,ntmps154;go_wp2_with fail;refine (cO0.out _).mono ?_;rintro e w1 ⟨rfl,hb1⟩;have Bn:=dN CH.out hb1;have hz1:w.heap.size+1<w1.heap.size:=by have:=hb1.size;simp at this;omega
 have Z1:Hid (dS w1.heap.size 0 (w1.alloc (.cells #[.bool false,.int .u64 0,.int .u64 0,.int .u64 0,.int .u64 0,.int .u64 0,.int .u64 0,.int .u64 0,.int .u64 0,.int .u64 0,.int .u64 0,.int .u64 0,.int .u64 0,.int .u64 0,.int .u64 0,.int .u64 0,.int .u64 0,.int .u64 0,.int .u64 0,.int .u64 0,.int .u64 0] 214))):=aA (aG _ _);have I0:Hid (Sn a v w1.heap.size 0 w ((w1.alloc (.cells #[.bool false,.int .u64 0,.int .u64 0,.int .u64 0,.int .u64 0,.int .u64 0,.int .u64 0,.int .u64 0,.int .u64 0,.int .u64 0,.int .u64 0,.int .u64 0,.int .u64 0,.int .u64 0,.int .u64 0,.int .u64 0,.int .u64 0,.int .u64 0,.int .u64 0,.int .u64 0,.int .u64 0] 214)).setRow w1.heap.size (bv 0))):=aA ⟨((RA0.out.below hb1).alloc _).other (by omega) _,((RV0.out.below hb1).alloc _).other (by omega) _,dS.row Z1.out 0,Below.row (Bn.alloc Bn.size _) (by have:=Bn.size;omega) _,hz1⟩;clear RA0 RV0 CH hb1 Bn;go_wp2_with (refine dG rfl 214 (.tmp 6) (.tmp 14) rfl (w1.heap.size) _ _ (bv 0) rfl rfl Z1.out (dV _) (fT 0 _) (gT _) ?_)
 generalize ((w1.alloc (.cells #[.bool false,.int .u64 0,.int .u64 0,.int .u64 0,.int .u64 0,.int .u64 0,.int .u64 0,.int .u64 0,.int .u64 0,.int .u64 0,.int .u64 0,.int .u64 0,.int .u64 0,.int .u64 0,.int .u64 0,.int .u64 0,.int .u64 0,.int .u64 0,.int .u64 0,.int .u64 0,.int .u64 0] 214)).setRow w1.heap.size (bv 0))=V at I0 ⊢;clear Z1;generalize w1.heap.size=B at hz1 I0 ⊢;go_loopg[7] 4 (SuRel a v B w)
 case atStart=>exact ⟨0,rfl,rfl,by omega,I0.out⟩
 case round =>
  clear I0;obtain ⟨k,hg,rfl,hk4,I⟩:=hrel;have HI:=aA I;clear I;subst hg;by_cases hk:k<4
  ·have k1:(k:Int)<4:=by omega
   obtain ⟨x,hx⟩:∃x,a.getD k 0=x:=⟨_,rfl⟩;obtain ⟨y,hy⟩:∃y,v.getD k 0=y:=⟨_,rfl⟩;obtain ⟨p,hp⟩:∃p,x*y=p:=⟨_,rfl⟩;obtain ⟨z,hz⟩:∃z,FJ a v k=z:=⟨_,rfl⟩;obtain ⟨z2,hz2⟩:∃z2,FJ a v (k+1)=z2:=⟨_,rfl⟩;have hzz:z2=z+p:=by rw[←hz2,←hz,←hp,←hx,←hy];rfl
   have bx:=BA.out k;have by1:=BV.out k;rw[hx] at bx;rw[hy] at by1;have hpl:=Kr bx by1;rw[hp] at hpl;have hzl:=Te.out k;rw[hz] at hzl;have cOx:Hid (vH 156 #[.int .i64 x] (.agg (bv x))):=aA fun w=>Le x w (by omega) (by omega)
   have cOy:Hid (vH 156 #[.int .i64 y] (.agg (bv y))):=aA fun w=>Le y w (by omega) (by omega)
   have h9:(65536:Nat)^9=22300745198530623141535718272648361505980416:=by decide
   have cM:Hid (vH 157 #[.agg (bv x),.agg (bv y)] (.agg (bv p))):=aA fun w=>by
    have:=Zp x y w (by rw[h9];omega) (by rw[h9];omega);rw[hp] at this;exact this
   have cA:Hid (vH 158 #[.agg (bv z),.agg (bv p)] (.agg (bv z2))):=aA fun w=>by
    have eB:BB=2135987035920910082395021706169552114602704522356652769947041607822219725780640550022962086936576:=by decide
    have:=TX z p w (by rw[eB];omega);rw[←hzz] at this;exact this
   have hca:Hid (∀W,dI 23 w.heap.size (mC a) W→W.cell? ⟨w.heap.size,k,none⟩=some (.int .i64 x)):=aA (fun W h=>by rw[h.cell,kR (by rw[LA.out];exact hk),hx]);have hcv:Hid (∀W,dI 23 (w.heap.size+1) (mC v) W→W.cell? ⟨w.heap.size+1,k,none⟩=some (.int .i64 y)):=aA (fun W h=>by rw[h.cell,kR (by rw[LV.out];exact hk),hy]);have HZ:=aA hz;have HZ2:=aA hz2;clear hx hy hp hz hz2 hzz bx by1 hpl hzl h9 BA BV Te;go_wp2_with fail;rename_i K5 Aw;have hs0:Sn a v B k w wr.drew:=HI.out.up (eM _ _ 1);refine (bN (n:=5)).1 (eA (S:=fun X=>Below wr.heap.size wr X) (Z:=[]) (by kernel_rfl) (by kernel_rfl) dU (fun d _ _ _ _ h=>by cases d <;> exact h) (eM _ _ 1) (fun hG v0 h0=>?_));refine dT [] 0 (?_) hG rfl (by kernel_rfl) h0 (by kernel_rfl) ?_ ?_;rotate_left
   ·intro wz hSw;first|(go_simp;done)|(go_simp;with_reducible rfl)
   intro v1 h1 eL;clear eL h0 v0;try simp only[aQ]
   refine dT [] 1 (.pointer (some ⟨w.heap.size,k,none⟩)) hG rfl (by kernel_rfl) h1 (by kernel_rfl) ?_ ?_
   ·intro wz hSw;first|(go_simp;done)|(go_simp;with_reducible rfl)
   intro v2 h2 eL;clear eL h1 v1;try simp only[aQ]
   refine dT [] 2 (.int .i64 x) hG rfl (by kernel_rfl) h2 (by kernel_rfl) ?_ ?_
   ·intro wz hSw;have hcc:=hca.out wz (HI.out.ra.below hSw);(first|(go_simp;done)|(go_simp;with_reducible rfl))
   intro v3 h3 eL;clear eL h2 v2;try simp only[aQ]
   refine dT [] 4 (?_) hG rfl (by kernel_rfl) h3 (by kernel_rfl) ?_ ?_;rotate_left
   ·intro wz hSw;first|(go_simp;done)|(go_simp;with_reducible rfl)
   intro v4 h4 eL;clear eL h3 v3;try simp only[aQ]
   refine dT [] 5 (.pointer (some ⟨w.heap.size+1,k,none⟩)) hG rfl (by kernel_rfl) h4 (by kernel_rfl) ?_ ?_
   ·intro wz hSw;first|(go_simp;done)|(go_simp;with_reducible rfl)
   intro v5 h5 eL;clear eL h4 v4;try simp only[aQ]
   refine dT [] 6 (.int .i64 y) hG rfl (by kernel_rfl) h5 (by kernel_rfl) ?_ ?_
   ·intro wz hSw;have hcc:=hcv.out wz (HI.out.rv.below hSw);(first|(go_simp;done)|(go_simp;with_reducible rfl))
   intro v6 h6 eL;clear eL h5 v5;try simp only[aQ]
   refine lC [] 3 156 #[.int .i64 x] (.agg (bv x)) hG rfl (by kernel_rfl) h6 (by kernel_rfl) ?_ (cOx.out) ?_
   ·intro wz;(first|(go_simp;done)|(go_simp;with_reducible rfl))
   intro v7 h7 eL;clear eL h6 v6;try simp only[aQ]
   refine lC [] 7 156 #[.int .i64 y] (.agg (bv y)) hG rfl (by kernel_rfl) h7 (by kernel_rfl) ?_ (cOy.out) ?_
   ·intro wz;(first|(go_simp;done)|(go_simp;with_reducible rfl))
   intro v8 h8 eL;clear eL h7 v7;try simp only[aQ]
   refine lC [] 8 157 #[.agg (bv x),.agg (bv y)] (.agg (bv p)) hG rfl (by kernel_rfl) h8 (by kernel_rfl) ?_ (cM.out) ?_
   ·intro wz;(first|(go_simp;done)|(go_simp;with_reducible rfl))
   intro v9 h9 eL;clear eL h8 v8;try simp only[aQ]
   refine fN 9 (by kernel_rfl) rfl (fun K hK=>?_);go_simp;obtain ⟨bP,hbP⟩:∃b,v9.heap.size=b:=⟨_,rfl⟩;have gbP:wr.heap.size≤bP:=by rw[←hbP];exact h9.size
   rw[hbP];have ER:Below wr.heap.size wr (v9.alloc (.cells #[.bool false,.int .u64 0,.int .u64 0,.int .u64 0,.int .u64 0,.int .u64 0,.int .u64 0,.int .u64 0,.int .u64 0,.int .u64 0,.int .u64 0,.int .u64 0,.int .u64 0,.int .u64 0,.int .u64 0,.int .u64 0,.int .u64 0,.int .u64 0,.int .u64 0,.int .u64 0,.int .u64 0] 214)):=Below.alloc h9 (by have:=h9.size;omega) _;have TP:=(show dI 214 bP #[.bool false,.int .u64 0,.int .u64 0,.int .u64 0,.int .u64 0,.int .u64 0,.int .u64 0,.int .u64 0,.int .u64 0,.int .u64 0,.int .u64 0,.int .u64 0,.int .u64 0,.int .u64 0,.int .u64 0,.int .u64 0,.int .u64 0,.int .u64 0,.int .u64 0,.int .u64 0,.int .u64 0] (v9.alloc (.cells #[.bool false,.int .u64 0,.int .u64 0,.int .u64 0,.int .u64 0,.int .u64 0,.int .u64 0,.int .u64 0,.int .u64 0,.int .u64 0,.int .u64 0,.int .u64 0,.int .u64 0,.int .u64 0,.int .u64 0,.int .u64 0,.int .u64 0,.int .u64 0,.int .u64 0,.int .u64 0,.int .u64 0] 214)) by rw[←hbP];exact dI.new _ _ _);refine hK.out _ _ (fun _=>ER) (fun v10 eL=>?_);have h10:=dU _ _ ER eL;have RP:=dI.below eL TP;clear TP;clear eL hK K h9 ER;try simp only[aQ]
   clear hbP;refine fN 10 (by kernel_rfl) rfl (fun K hK=>?_);rw[aZ (by kernel_rfl)];refine eD (fun _=>trivial) 214 (.tmp 8) (.tmp 27) (by kernel_rfl) (bP) _ _ (bv p) (by kernel_rfl) (by kernel_rfl) RP (dV _) (fT 0 _) (gT _) ?_;have EP:Below wr.heap.size wr (v10.setRow bP (bv p)):=Below.row h10 (by omega) _;have TP:=dI.row RP (bv p);refine hK.out _ _ (fun _=>EP) (fun v11 eL=>?_);have h11:=dU _ _ EP eL;replace RP:=dI.below eL TP;clear TP;clear eL hK K h10 EP;try simp only[aQ]
   refine eK (by kernel_rfl) (?_) _;refine Aw _ _ ?_;have RPH:=aA RP;have I1:=aA (HI.out.up h11);clear RP Aw hG HI hs0 gbP cOx cOy cM hca hcv h11;have RSH:Hid (dS B z v11):=aA (by have:=I1.out.rs;rw[HZ.out] at this;exact this);go_wp2_with (first|(refine wpList_load_row rfl 214 (.tmp 6) rfl (B) rfl _ _ _ _ RSH.out aH rfl (dV _) ?_)|(refine wpList_load_row rfl 214 (.tmp 8) rfl (bP) rfl _ _ _ _ RPH.out aH rfl (dV _) ?_))
   refine (cA.out _).mono ?_;rintro e w9 ⟨rfl,OU⟩;have I2:Hid (Sn a v B (k+1) w (w9.setRow B (bv z2))):=aA (by rw[←HZ2.out];exact (I1.out.up OU).put);have RS9:Hid (dS B z w9):=aA (dS.below OU RSH.out);clear OU I1 RSH RPH;go_wp2_with (refine dG rfl 214 (.tmp 6) (.tmp 30) rfl (B) _ _ (bv z2) rfl rfl RS9.out (dV _) (fT z _) (gT _) ?_)
   go_roundg (4-(k+1))
   case measure=>omega
   case rel=>exact ⟨k+1,rfl,by go_num,by omega,I2.out⟩
  ·obtain rfl:k=4:=by omega
   have k1:¬ ((4:Nat):Int)<4:=by omega
   obtain ⟨s,hs⟩:∃s,FJ a v 4=s:=⟨_,rfl⟩;have hds:s=dot a v:=by rw[←hs,dsum_4]
   have hsl:=Te.out 4;rw[hs] at hsl;obtain ⟨q,hq⟩:∃q,pq a v=q:=⟨_,rfl⟩;have hqd:dv s 65536=q:=by unfold dv;rw[aZ (by omega),←hq,hds];rfl
   have hqs:q=s/65536:=by rw[←hq,hds];rfl
   have sB:In q:=by unfold In;omega
   have cO6:Hid (vH 156 #[.int .i64 65536] (.agg (bv 65536))):=aA fun w=>Le 65536 w (by omega) (by omega)
   obtain ⟨r,hr⟩:∃r,rs s 65536=r:=⟨_,rfl⟩;have cD:Hid (vH 159 #[.agg (bv s),.agg (bv 65536)] (.tuple #[.agg (bv q),.agg (bv r),.int .i64 0])):=aA fun w=>by
    have h9:(65536:Nat)^9=22300745198530623141535718272648361505980416:=by decide
    have:=ug s 65536 w (by rw[h9];omega) (by omega) (by rw[h9];omega);rw[hqd,hr] at this;exact this
   obtain ⟨h,l,hat⟩:=At.ex sB;have cT:Hid (vH 160 #[.agg (bv q)] (.tuple #[.agg #[.int .i64 h,.int .u64 l],.bool true])):=aA fun w=>by
    have e18:(65536:Nat)^18=497323236409786642155382248146820840100456150797347717440463976893159497012533375533056:=by decide
    refine (to_z q w (by rw[e18];omega) sB).mono ?_;rintro e w' ⟨h',l',rfl,ha,hb⟩;rw[show wV q=q from aZ sB] at ha;obtain ⟨rfl,rfl⟩:=At.uniq hat ha;exact ⟨by rw[bA sB],hb⟩
   have RSH:Hid (dS B s wr):=aA (by have:=HI.out.rs;rw[hs] at this;exact this);have xW:=aA HI.out.below;have HQ:=aA hq;have JE:=aA hat;clear hs hds hsl hq hqd hqs sB hr hat HI BA BV Te cO0 LA LV;go_wp2_with fail;rename_i K7 hK7;refine (bN (n:=5)).1 (eA (S:=fun X=>Below wr.heap.size wr X) (Z:=[]) (by kernel_rfl) (by kernel_rfl) dU (fun d _ _ _ _ h=>by cases d <;> exact h) (eM _ _ 1) (fun hG v0 h0=>?_));refine dT [] 0 (.agg (bv s)) hG rfl (by kernel_rfl) h0 (by kernel_rfl) ?_ ?_
   ·intro wz hSw;exact dY 214 (.tmp 6) (by kernel_rfl) B (by kernel_rfl) _ _ _ _ (dS.below hSw RSH.out) aH (by kernel_rfl) (dV _)
   intro v1 h1 eL;clear eL h0 v0;try simp only[aQ]
   refine lC [] 1 156 #[.int .i64 65536] (.agg (bv 65536)) hG rfl (by kernel_rfl) h1 (by kernel_rfl) ?_ (cO6.out) ?_
   ·intro wz;(first|(go_simp;done)|(go_simp;with_reducible rfl))
   intro v2 h2 eL;clear eL h1 v1;try simp only[aQ]
   refine lC [] 2 159 #[.agg (bv s),.agg (bv 65536)] (.tuple #[.agg (bv q),.agg (bv r),.int .i64 0]) hG rfl (by kernel_rfl) h2 (by kernel_rfl) ?_ (cD.out) ?_
   ·intro wz;(first|(go_simp;done)|(go_simp;with_reducible rfl))
   intro v3 h3 eL;clear eL h2 v2;try simp only[aQ]
   refine dT [] 3 (?_) hG rfl (by kernel_rfl) h3 (by kernel_rfl) ?_ ?_;rotate_left
   ·intro wz hSw;first|(go_simp;done)|(go_simp;with_reducible rfl)
   intro v4 h4 eL;clear eL h3 v3;try simp only[aQ]
   refine dT [] 4 (?_) hG rfl (by kernel_rfl) h4 (by kernel_rfl) ?_ ?_;rotate_left
   ·intro wz hSw;first|(go_simp;done)|(go_simp;with_reducible rfl)
   intro v5 h5 eL;clear eL h4 v4;try simp only[aQ]
   refine dT [] 5 (?_) hG rfl (by kernel_rfl) h5 (by kernel_rfl) ?_ ?_;rotate_left
   ·intro wz hSw;first|(go_simp;done)|(go_simp;with_reducible rfl)
   intro v6 h6 eL;clear eL h5 v5;try simp only[aQ]
   refine dT [] 6 (?_) hG rfl (by kernel_rfl) h6 (by kernel_rfl) ?_ ?_;rotate_left
   ·intro wz hSw;first|(go_simp;done)|(go_simp;with_reducible rfl)
   intro v7 h7 eL;clear eL h6 v6;try simp only[aQ]
   refine XL 7 8 (by kernel_rfl) rfl rfl (fun K hK=>?_) (fun K hK=>?_)
   ·go_simp
    obtain ⟨bQ,Ws⟩:∃b,v7.heap.size=b:=⟨_,rfl⟩;have gbQ:wr.heap.size≤bQ:=by rw[←Ws];exact h7.size
    rw[Ws];have h80:Below wr.heap.size wr (v7.alloc (.cells #[.bool false,.int .u64 0,.int .u64 0,.int .u64 0,.int .u64 0,.int .u64 0,.int .u64 0,.int .u64 0,.int .u64 0,.int .u64 0,.int .u64 0,.int .u64 0,.int .u64 0,.int .u64 0,.int .u64 0,.int .u64 0,.int .u64 0,.int .u64 0,.int .u64 0,.int .u64 0,.int .u64 0] 214)):=Below.alloc h7 (by have:=h7.size;omega) _;have TQ:=(show dI 214 bQ #[.bool false,.int .u64 0,.int .u64 0,.int .u64 0,.int .u64 0,.int .u64 0,.int .u64 0,.int .u64 0,.int .u64 0,.int .u64 0,.int .u64 0,.int .u64 0,.int .u64 0,.int .u64 0,.int .u64 0,.int .u64 0,.int .u64 0,.int .u64 0,.int .u64 0,.int .u64 0,.int .u64 0] (v7.alloc (.cells #[.bool false,.int .u64 0,.int .u64 0,.int .u64 0,.int .u64 0,.int .u64 0,.int .u64 0,.int .u64 0,.int .u64 0,.int .u64 0,.int .u64 0,.int .u64 0,.int .u64 0,.int .u64 0,.int .u64 0,.int .u64 0,.int .u64 0,.int .u64 0,.int .u64 0,.int .u64 0,.int .u64 0] 214)) by rw[←Ws];exact dI.new _ _ _);refine hK.out _ _ (fun _=>h80) (fun v8 eL=>?_);have h8:=dU _ _ h80 eL;have RQ:=dI.below eL TQ;clear TQ;clear eL hK K h7 h80;try simp only[aQ]
    clear Ws;refine fN 8 (by kernel_rfl) rfl (fun K hK=>?_);go_simp;obtain ⟨bR,Wq⟩:∃b,v8.heap.size=b:=⟨_,rfl⟩;have gbR:wr.heap.size≤bR:=by rw[←Wq];exact h8.size
    have nR_Q:bQ≠bR:=by have:=RQ.lt;omega
    rw[Wq];have h90:Below wr.heap.size wr (v8.alloc (.cells #[.bool false,.int .u64 0,.int .u64 0,.int .u64 0,.int .u64 0,.int .u64 0,.int .u64 0,.int .u64 0,.int .u64 0,.int .u64 0,.int .u64 0,.int .u64 0,.int .u64 0,.int .u64 0,.int .u64 0,.int .u64 0,.int .u64 0,.int .u64 0,.int .u64 0,.int .u64 0,.int .u64 0] 214)):=Below.alloc h8 (by have:=h8.size;omega) _;have TQ:=dI.alloc RQ (.cells #[.bool false,.int .u64 0,.int .u64 0,.int .u64 0,.int .u64 0,.int .u64 0,.int .u64 0,.int .u64 0,.int .u64 0,.int .u64 0,.int .u64 0,.int .u64 0,.int .u64 0,.int .u64 0,.int .u64 0,.int .u64 0,.int .u64 0,.int .u64 0,.int .u64 0,.int .u64 0,.int .u64 0] 214);have TR:=(show dI 214 bR #[.bool false,.int .u64 0,.int .u64 0,.int .u64 0,.int .u64 0,.int .u64 0,.int .u64 0,.int .u64 0,.int .u64 0,.int .u64 0,.int .u64 0,.int .u64 0,.int .u64 0,.int .u64 0,.int .u64 0,.int .u64 0,.int .u64 0,.int .u64 0,.int .u64 0,.int .u64 0,.int .u64 0] (v8.alloc (.cells #[.bool false,.int .u64 0,.int .u64 0,.int .u64 0,.int .u64 0,.int .u64 0,.int .u64 0,.int .u64 0,.int .u64 0,.int .u64 0,.int .u64 0,.int .u64 0,.int .u64 0,.int .u64 0,.int .u64 0,.int .u64 0,.int .u64 0,.int .u64 0,.int .u64 0,.int .u64 0,.int .u64 0] 214)) by rw[←Wq];exact dI.new _ _ _);refine hK.out _ _ (fun _=>h90) (fun v9 eL=>?_);have h9:=dU _ _ h90 eL;replace RQ:=dI.below eL TQ;have RR:=dI.below eL TR;clear TQ;clear TR;clear eL hK K h8 h90;try simp only[aQ]
    clear Wq;refine fN 9 (by kernel_rfl) rfl (fun K hK=>?_);rw[aZ (by kernel_rfl)];refine eD (fun _=>trivial) 214 (.tmp 9) (.tmp 35) (by kernel_rfl) (bQ) _ _ (bv q) (by kernel_rfl) (by kernel_rfl) RQ (dV _) (fT 0 _) (gT _) ?_;have ER:Below wr.heap.size wr (v9.setRow bQ (bv q)):=Below.row h9 (by omega) _;have TQ:=dI.row RQ (bv q);have TR:=dI.other RR (by first|assumption|(apply Ne.symm;assumption)|omega) (bv q);refine hK.out _ _ (fun _=>ER) (fun v10 eL=>?_);have h10:=dU _ _ ER eL;replace RQ:=dI.below eL TQ;replace RR:=dI.below eL TR;clear TQ;clear TR;clear eL hK K h9 ER;try simp only[aQ]
    refine fN 10 (by kernel_rfl) rfl (fun K hK=>?_);rw[aZ (by kernel_rfl)];refine eD (fun _=>trivial) 214 (.tmp 10) (.tmp 36) (by kernel_rfl) (bR) _ _ (bv r) (by kernel_rfl) (by kernel_rfl) RR (dV _) (fT 0 _) (gT _) ?_;have EP:Below wr.heap.size wr (v10.setRow bR (bv r)):=Below.row h10 (by omega) _;have TQ:=dI.other RQ (by first|assumption|(apply Ne.symm;assumption)|omega) (bv r);have TR:=dI.row RR (bv r);refine hK.out _ _ (fun _=>EP) (fun v11 eL=>?_);have h11:=dU _ _ EP eL;replace RQ:=dI.below eL TQ;replace RR:=dI.below eL TR;clear TQ;clear TR;clear eL hK K h10 EP;try simp only[aQ]
    refine dT [] 11 (?_) hG rfl (by kernel_rfl) h11 (by kernel_rfl) ?_ ?_;rotate_left
    ·intro wz hSw;first|(go_simp;done)|(go_simp;with_reducible rfl)
    intro v12 OW eL;replace RQ:=dI.below eL RQ;replace RR:=dI.below eL RR;clear eL h11 v11;try simp only[aQ]
    refine eK (by kernel_rfl) (?_) _;refine hK7 _ _ ?_;have RQH:=aA RQ;have Rq:=aA (dN xW.out OW);clear RQ RR hK7 hG xW RSH cO6 cD gbQ gbR OW
    (try clear nQ_R)
    (try clear nR_Q)
    go_wp2_with (refine wpList_load_row rfl 214 (.tmp 9) rfl (bQ) rfl _ _ _ _ RQH.out aH rfl (dV _) ?_)
    refine (cT.out _).mono ?_;rintro e w9 ⟨rfl,OU⟩;have Bn:=dN Rq.out OU;have HE:Hid (Below w.heap.size w (w9.alloc (.cells #[.int .i64 h,.int .u64 l] 220))):=aA (Bn.alloc Bn.size _);clear OU Bn Rq RQH cT;have hA:=JE.out;unfold At at hA;by_cases h0:h=0
    ·subst h0
     by_cases h1:(4611686018427387904:Int)<(l:Int)
     ·skip
      have kC:Hid (okB 4611686018427387904 q=false):=aA (by unfold okB;exact aN (by omega));have IW:Hid (AQ q=0):=aA (by unfold AQ;rw[kC.out];rfl);have Ig:decide ((4611686018427387904:Int)<(l:Int))=true:=bA h1;have Wl:decide (4611686018427387904<l)=true:=bA (by omega);have hd3:4611686018427387904<l:=by omega
      clear hA;go_wp2_with fail;go_ret2;exact ⟨by rw[HQ.out,IW.out,kC.out];rfl,HE.out⟩
     ·skip
      have kC:Hid (okB 4611686018427387904 q=true):=aA (by unfold okB;exact bA (by omega));have IW:Hid (AQ q=q):=aA (by unfold AQ;rw[kC.out];rfl);have Ig:decide ((4611686018427387904:Int)<(l:Int))=false:=aN h1;have Wl:decide (4611686018427387904<l)=false:=aN (by omega);have hd3:l≤4611686018427387904:=by omega
      have hwr:IntKind.i64.wrap (l:Int)=q:=by rw[bL];omega
      clear hA;go_wp2_with fail;go_ret2;exact ⟨by rw[HQ.out,IW.out,kC.out];rfl,HE.out⟩
    ·by_cases hm:h=-1
     ·subst hm
      by_cases h1:(l:Int)<13835058055282163712
      ·skip
       have kC:Hid (okB 4611686018427387904 q=false):=aA (by unfold okB;exact aN (by omega));have IW:Hid (AQ q=0):=aA (by unfold AQ;rw[kC.out];rfl);have Ig:decide ((l:Int)<13835058055282163712)=true:=bA h1;have Wl:decide (l<13835058055282163712)=true:=bA (by omega);have hd3:l<13835058055282163712:=by omega
       clear hA;go_wp2_with fail;go_ret2;exact ⟨by rw[HQ.out,IW.out,kC.out];rfl,HE.out⟩
      ·skip
       have kC:Hid (okB 4611686018427387904 q=true):=aA (by unfold okB;exact bA (by omega));have IW:Hid (AQ q=q):=aA (by unfold AQ;rw[kC.out];rfl);have Ig:decide ((l:Int)<13835058055282163712)=false:=aN h1;have Wl:decide (l<13835058055282163712)=false:=aN (by omega);have hd3:13835058055282163712≤l:=by omega
       have hwr:IntKind.i64.wrap (l:Int)=q:=by rw[bL];omega
       clear hA;go_wp2_with fail;go_ret2;exact ⟨by rw[HQ.out,IW.out,kC.out];rfl,HE.out⟩
     ·skip
      have kC:Hid (okB 4611686018427387904 q=false):=aA (by unfold okB;exact aN (by omega));have IW:Hid (AQ q=0):=aA (by unfold AQ;rw[kC.out];rfl);have d1:(h == 0)=false:=by simpa using h0
      have d2:(h != 0)=true:=by simpa using h0
      have d3:(h == -1)=false:=by simpa using hm
      have d4:(h != -1)=true:=by simpa using hm
      clear hA;go_wp2_with fail;go_ret2;exact ⟨by rw[HQ.out,IW.out,kC.out];rfl,HE.out⟩
   ·go_simp
    obtain ⟨bR,Wq⟩:∃b,v7.heap.size=b:=⟨_,rfl⟩;have gbR:wr.heap.size≤bR:=by rw[←Wq];exact h7.size
    rw[Wq];have h80:Below wr.heap.size wr (v7.alloc (.cells #[.bool false,.int .u64 0,.int .u64 0,.int .u64 0,.int .u64 0,.int .u64 0,.int .u64 0,.int .u64 0,.int .u64 0,.int .u64 0,.int .u64 0,.int .u64 0,.int .u64 0,.int .u64 0,.int .u64 0,.int .u64 0,.int .u64 0,.int .u64 0,.int .u64 0,.int .u64 0,.int .u64 0] 214)):=Below.alloc h7 (by have:=h7.size;omega) _;have TR:=(show dI 214 bR #[.bool false,.int .u64 0,.int .u64 0,.int .u64 0,.int .u64 0,.int .u64 0,.int .u64 0,.int .u64 0,.int .u64 0,.int .u64 0,.int .u64 0,.int .u64 0,.int .u64 0,.int .u64 0,.int .u64 0,.int .u64 0,.int .u64 0,.int .u64 0,.int .u64 0,.int .u64 0,.int .u64 0] (v7.alloc (.cells #[.bool false,.int .u64 0,.int .u64 0,.int .u64 0,.int .u64 0,.int .u64 0,.int .u64 0,.int .u64 0,.int .u64 0,.int .u64 0,.int .u64 0,.int .u64 0,.int .u64 0,.int .u64 0,.int .u64 0,.int .u64 0,.int .u64 0,.int .u64 0,.int .u64 0,.int .u64 0,.int .u64 0] 214)) by rw[←Wq];exact dI.new _ _ _);refine hK.out _ _ (fun _=>h80) (fun v8 eL=>?_);have h8:=dU _ _ h80 eL;have RR:=dI.below eL TR;clear TR;clear eL hK K h7 h80;try simp only[aQ]
    clear Wq;refine fN 7 (by kernel_rfl) rfl (fun K hK=>?_);go_simp;obtain ⟨bQ,Ws⟩:∃b,v8.heap.size=b:=⟨_,rfl⟩;have gbQ:wr.heap.size≤bQ:=by rw[←Ws];exact h8.size
    have nQ_R:bR≠bQ:=by have:=RR.lt;omega
    rw[Ws];have h90:Below wr.heap.size wr (v8.alloc (.cells #[.bool false,.int .u64 0,.int .u64 0,.int .u64 0,.int .u64 0,.int .u64 0,.int .u64 0,.int .u64 0,.int .u64 0,.int .u64 0,.int .u64 0,.int .u64 0,.int .u64 0,.int .u64 0,.int .u64 0,.int .u64 0,.int .u64 0,.int .u64 0,.int .u64 0,.int .u64 0,.int .u64 0] 214)):=Below.alloc h8 (by have:=h8.size;omega) _;have TR:=dI.alloc RR (.cells #[.bool false,.int .u64 0,.int .u64 0,.int .u64 0,.int .u64 0,.int .u64 0,.int .u64 0,.int .u64 0,.int .u64 0,.int .u64 0,.int .u64 0,.int .u64 0,.int .u64 0,.int .u64 0,.int .u64 0,.int .u64 0,.int .u64 0,.int .u64 0,.int .u64 0,.int .u64 0,.int .u64 0] 214);have TQ:=(show dI 214 bQ #[.bool false,.int .u64 0,.int .u64 0,.int .u64 0,.int .u64 0,.int .u64 0,.int .u64 0,.int .u64 0,.int .u64 0,.int .u64 0,.int .u64 0,.int .u64 0,.int .u64 0,.int .u64 0,.int .u64 0,.int .u64 0,.int .u64 0,.int .u64 0,.int .u64 0,.int .u64 0,.int .u64 0] (v8.alloc (.cells #[.bool false,.int .u64 0,.int .u64 0,.int .u64 0,.int .u64 0,.int .u64 0,.int .u64 0,.int .u64 0,.int .u64 0,.int .u64 0,.int .u64 0,.int .u64 0,.int .u64 0,.int .u64 0,.int .u64 0,.int .u64 0,.int .u64 0,.int .u64 0,.int .u64 0,.int .u64 0,.int .u64 0] 214)) by rw[←Ws];exact dI.new _ _ _);refine hK.out _ _ (fun _=>h90) (fun v9 eL=>?_);have h9:=dU _ _ h90 eL;replace RR:=dI.below eL TR;have RQ:=dI.below eL TQ;clear TR;clear TQ;clear eL hK K h8 h90;try simp only[aQ]
    clear Ws;refine fN 9 (by kernel_rfl) rfl (fun K hK=>?_);rw[aZ (by kernel_rfl)];refine eD (fun _=>trivial) 214 (.tmp 9) (.tmp 35) (by kernel_rfl) (bQ) _ _ (bv q) (by kernel_rfl) (by kernel_rfl) RQ (dV _) (fT 0 _) (gT _) ?_;have ER:Below wr.heap.size wr (v9.setRow bQ (bv q)):=Below.row h9 (by omega) _;have TR:=dI.other RR (by first|assumption|(apply Ne.symm;assumption)|omega) (bv q);have TQ:=dI.row RQ (bv q);refine hK.out _ _ (fun _=>ER) (fun v10 eL=>?_);have h10:=dU _ _ ER eL;replace RR:=dI.below eL TR;replace RQ:=dI.below eL TQ;clear TR;clear TQ;clear eL hK K h9 ER;try simp only[aQ]
    refine fN 10 (by kernel_rfl) rfl (fun K hK=>?_);rw[aZ (by kernel_rfl)];refine eD (fun _=>trivial) 214 (.tmp 10) (.tmp 36) (by kernel_rfl) (bR) _ _ (bv r) (by kernel_rfl) (by kernel_rfl) RR (dV _) (fT 0 _) (gT _) ?_;have EP:Below wr.heap.size wr (v10.setRow bR (bv r)):=Below.row h10 (by omega) _;have TR:=dI.row RR (bv r);have TQ:=dI.other RQ (by first|assumption|(apply Ne.symm;assumption)|omega) (bv r);refine hK.out _ _ (fun _=>EP) (fun v11 eL=>?_);have h11:=dU _ _ EP eL;replace RR:=dI.below eL TR;replace RQ:=dI.below eL TQ;clear TR;clear TQ;clear eL hK K h10 EP;try simp only[aQ]
    refine dT [] 11 (?_) hG rfl (by kernel_rfl) h11 (by kernel_rfl) ?_ ?_;rotate_left
    ·intro wz hSw;first|(go_simp;done)|(go_simp;with_reducible rfl)
    intro v12 OW eL;replace RR:=dI.below eL RR;replace RQ:=dI.below eL RQ;clear eL h11 v11;try simp only[aQ]
    refine eK (by kernel_rfl) (?_) _;refine hK7 _ _ ?_;have RQH:=aA RQ;have Rq:=aA (dN xW.out OW);clear RQ RR hK7 hG xW RSH cO6 cD gbQ gbR OW
    (try clear nQ_R)
    (try clear nR_Q)
    go_wp2_with (refine wpList_load_row rfl 214 (.tmp 9) rfl (bQ) rfl _ _ _ _ RQH.out aH rfl (dV _) ?_)
    refine (cT.out _).mono ?_;rintro e w9 ⟨rfl,OU⟩;have Bn:=dN Rq.out OU;have HE:Hid (Below w.heap.size w (w9.alloc (.cells #[.int .i64 h,.int .u64 l] 220))):=aA (Bn.alloc Bn.size _);clear OU Bn Rq RQH cT;have hA:=JE.out;unfold At at hA;by_cases h0:h=0
    ·subst h0
     by_cases h1:(4611686018427387904:Int)<(l:Int)
     ·skip
      have kC:Hid (okB 4611686018427387904 q=false):=aA (by unfold okB;exact aN (by omega));have IW:Hid (AQ q=0):=aA (by unfold AQ;rw[kC.out];rfl);have Ig:decide ((4611686018427387904:Int)<(l:Int))=true:=bA h1;have Wl:decide (4611686018427387904<l)=true:=bA (by omega);have hd3:4611686018427387904<l:=by omega
      clear hA;go_wp2_with fail;go_ret2;exact ⟨by rw[HQ.out,IW.out,kC.out];rfl,HE.out⟩
     ·skip
      have kC:Hid (okB 4611686018427387904 q=true):=aA (by unfold okB;exact bA (by omega));have IW:Hid (AQ q=q):=aA (by unfold AQ;rw[kC.out];rfl);have Ig:decide ((4611686018427387904:Int)<(l:Int))=false:=aN h1;have Wl:decide (4611686018427387904<l)=false:=aN (by omega);have hd3:l≤4611686018427387904:=by omega
      have hwr:IntKind.i64.wrap (l:Int)=q:=by rw[bL];omega
      clear hA;go_wp2_with fail;go_ret2;exact ⟨by rw[HQ.out,IW.out,kC.out];rfl,HE.out⟩
    ·by_cases hm:h=-1
     ·subst hm
      by_cases h1:(l:Int)<13835058055282163712
      ·skip
       have kC:Hid (okB 4611686018427387904 q=false):=aA (by unfold okB;exact aN (by omega));have IW:Hid (AQ q=0):=aA (by unfold AQ;rw[kC.out];rfl);have Ig:decide ((l:Int)<13835058055282163712)=true:=bA h1;have Wl:decide (l<13835058055282163712)=true:=bA (by omega);have hd3:l<13835058055282163712:=by omega
       clear hA;go_wp2_with fail;go_ret2;exact ⟨by rw[HQ.out,IW.out,kC.out];rfl,HE.out⟩
      ·skip
       have kC:Hid (okB 4611686018427387904 q=true):=aA (by unfold okB;exact bA (by omega));have IW:Hid (AQ q=q):=aA (by unfold AQ;rw[kC.out];rfl);have Ig:decide ((l:Int)<13835058055282163712)=false:=aN h1;have Wl:decide (l<13835058055282163712)=false:=aN (by omega);have hd3:13835058055282163712≤l:=by omega
       have hwr:IntKind.i64.wrap (l:Int)=q:=by rw[bL];omega
       clear hA;go_wp2_with fail;go_ret2;exact ⟨by rw[HQ.out,IW.out,kC.out];rfl,HE.out⟩
     ·skip
      have kC:Hid (okB 4611686018427387904 q=false):=aA (by unfold okB;exact aN (by omega));have IW:Hid (AQ q=0):=aA (by unfold AQ;rw[kC.out];rfl);have d1:(h == 0)=false:=by simpa using h0
      have d2:(h != 0)=true:=by simpa using h0
      have d3:(h == -1)=false:=by simpa using hm
      have d4:(h != -1)=true:=by simpa using hm
      clear hA;go_wp2_with fail;go_ret2;exact ⟨by rw[HQ.out,IW.out,kC.out];rfl,HE.out⟩
end Fx
end Go.Proofs.YtbbhmhihpdmoiaaGreat
