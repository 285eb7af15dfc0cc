import Derived.Test.YtbbhmhihpdmoiaaGreatJf05
set_option linter.unusedVariables false
set_option linter.unusedSimpArgs false
set_option maxRecDepth 100000
set_option maxHeartbeats 32000000
namespace Go.Proofs.YtbbhmhihpdmoiaaGreat
open Go.Proofs.Tryz
namespace Fx
open Go Go.RowKit Wm
theorem NW (neg:Bool)(d:List Nat)(q v:Nat):(dW neg d).setIfInBounds (1+q) (.int .u64 (v:Int))=dW neg (d.set q v):=by
 unfold dW;rw[List.setIfInBounds_toArray,Nat.add_comm,List.set_cons_succ,List.map_set];rfl
structure Sm (q v:Nat)(w W:World):Prop where
 br:W.heap[w.heap.size]?=some (.cells (dW false zeros) 214 (0,0))
 bz:W.heap[w.heap.size+1]?=some (.cells (dW false (zeros.set q v)) 214 (0,0))
 below:Below w.heap.size w W
theorem Sm.next {q v:Nat}{w W:World}(h:Sm q v w W)(u:Nat):Sm q u w (W.setCell ⟨w.heap.size+1,1+q,none⟩ (.int .u64 (u:Int))):=by
 refine ⟨?_,?_,h.below.setCell (p:=⟨w.heap.size+1,1+q,none⟩) (by show _≤w.heap.size+1;omega) _⟩
 ·rw[aK _ _ _ _ (by show _≠w.heap.size+1;omega)];exact h.br
 ·rw[aM _ _ _ _ _ _ h.bz,NW,List.set_set]
theorem Sm.cell {q v:Nat}{w W:World}(h:Sm q v w W)(hq:q<20):W.cell? ⟨w.heap.size+1,1+q,none⟩=some (.int .u64 (v:Int))∧W.frozen? ⟨w.heap.size+1,1+q,none⟩=false:=by
 refine ⟨?_,dJ h.bz⟩;rw[aD _ _ _ _ _ _ h.bz,kJ _ _ _ (by rw[List.length_set];exact hq)]
 congr 3
 simp[aS,hq,zeros]
theorem tw0 (q:Nat)(w:World)(hq:zeros.set q 0=zeros):Sm q 0 w ((w.alloc (.cells (dW false zeros) 214)).alloc (.cells (dW false zeros) 214)) :=
 ⟨dM (aG _ _),by rw[hq];exact heap_alloc2_new _ _ _,by go_grown⟩
theorem Jr (w:World):Calls prog 169 #[.int .i64 127] w (sP false (dg (2^127)) w):=by
 have hI0:=tw0 7 w rfl;have hI1:Sm 7 1 w ((w.alloc (.cells (dW false zeros) 214)).alloc (.cells (dW false (zeros.set 7 1)) 214)):=⟨dM (aG _ _),heap_alloc2_new _ _ _,by go_grown⟩;have c00:=(hI0.cell (by omega)).1;have f00:=(hI0.cell (by omega)).2;have KH:dW false zeros=#[.bool false,.int .u64 0,.int .u64 0,.int .u64 0,.int .u64 0,.int .u64 0,.int .u64 0,.int .u64 0,.int .u64 0,.int .u64 0,.int .u64 0,.int .u64 0,.int .u64 0,.int .u64 0,.int .u64 0,.int .u64 0,.int .u64 0,.int .u64 0,.int .u64 0,.int .u64 0,.int .u64 0]:=rfl;rw[KH] at c00 f00;have nX:=aA hI1;clear hI0 hI1 KH;go_enter func169,ntmps169;go_wp2_with fail;go_loopg[4] 15 (fun g s wr=>∃k v:Nat,g=15-k∧s=.int .i64 (k:Int)∧k≤15∧v=2^k∧Sm 7 v w wr)
 case atStart=>exact ⟨0,1,rfl,rfl,by omega,rfl,nX.out⟩
 case round =>
  clear nX c00 f00;obtain ⟨k,v,rfl,rfl,hk4,hv,I⟩:=hrel;by_cases hk:k<15
  ·have cz:=(I.cell (by omega)).1
   have fz:=(I.cell (by omega)).2;have ay:v≤16384:=by
    rw[hv];exact Nat.pow_le_pow_right (n:=2) (by omega) (show k≤14 by omega)
   have hv2:v*2=2^(k+1):=by rw[hv,bY]
   have k1:(k:Int)<15:=by omega
   have hv3:(v:Int)≤16384:=by omega
   have I2:=I.next (v*2);have jP:=aA I2;have oM:=aA hv2;clear I I2 hv hv2 ay;go_wp2_with fail;go_roundg (15-(k+1))
   case measure=>omega
   case rel =>
    refine ⟨k+1,v*2,rfl,by go_num,by omega,oM.out,?_⟩;have:=jP.out
    simpa using this
  ·have Wh:k=15:=by omega
   subst Wh;have hz:zeros.set 7 v=dg (2^127):=by rw[hv];decide +kernel
   have bz:=I.bz;rw[hz] at bz;have BZ:=aA bz;have BR:=aA I.br;have BL:=aA I.below;have HI:=aA (eR false (dg (2^127)) (fD _));have HS:=aA (gU false false zeros (dg (2^127)) rfl (fD _));clear I bz hz hv;go_wp2_with (first|(refine wpList_load_row rfl 214 (.tmp 3) rfl (w.heap.size+1) rfl _ _ _ _ BZ.out aH rfl HI.out ?_)|(refine dG rfl 214 (.tmp 2) (.tmp 25) rfl w.heap.size _ _ (dW false (dg (2^127))) rfl rfl BR.out HI.out HS.out (gG _ _) ?_))
   refine aO (v:=.agg (dW false (dg (2^127)))) (results_cell_row rfl _ _ w.heap.size _ _ _ _ rfl (setRow_heap _ _ _ _ _ _ BR.out) aH rfl HI.out) rfl ?_;exact ⟨rfl,Below.row BL.out (aB _) _⟩
theorem Jq (w:World):Calls prog 169 #[.int .i64 128] w (sP false (dg (2^128)) w):=by
 have hI0:=tw0 8 w rfl;have hI1:Sm 8 1 w ((w.alloc (.cells (dW false zeros) 214)).alloc (.cells (dW false (zeros.set 8 1)) 214)):=⟨dM (aG _ _),heap_alloc2_new _ _ _,by go_grown⟩;have c00:=(hI0.cell (by omega)).1;have f00:=(hI0.cell (by omega)).2;have KH:dW false zeros=#[.bool false,.int .u64 0,.int .u64 0,.int .u64 0,.int .u64 0,.int .u64 0,.int .u64 0,.int .u64 0,.int .u64 0,.int .u64 0,.int .u64 0,.int .u64 0,.int .u64 0,.int .u64 0,.int .u64 0,.int .u64 0,.int .u64 0,.int .u64 0,.int .u64 0,.int .u64 0,.int .u64 0]:=rfl;rw[KH] at c00 f00;have nX:=aA hI1;clear hI0 hI1 KH;go_enter func169,ntmps169;go_wp2_with fail;go_loopg[4] 0 (fun g s wr=>∃k v:Nat,g=0-k∧s=.int .i64 (k:Int)∧k≤0∧v=2^k∧Sm 8 v w wr)
 case atStart=>exact ⟨0,1,rfl,rfl,by omega,rfl,nX.out⟩
 case round =>
  clear nX c00 f00;obtain ⟨k,v,rfl,rfl,hk4,hv,I⟩:=hrel;have Wh:k=0:=by omega
  subst Wh;have hz:zeros.set 8 v=dg (2^128):=by rw[hv];decide +kernel
  have bz:=I.bz;rw[hz] at bz;have BZ:=aA bz;have BR:=aA I.br;have BL:=aA I.below;have HI:=aA (eR false (dg (2^128)) (fD _));have HS:=aA (gU false false zeros (dg (2^128)) rfl (fD _));clear I bz hz hv;go_wp2_with (first|(refine wpList_load_row rfl 214 (.tmp 3) rfl (w.heap.size+1) rfl _ _ _ _ BZ.out aH rfl HI.out ?_)|(refine dG rfl 214 (.tmp 2) (.tmp 25) rfl w.heap.size _ _ (dW false (dg (2^128))) rfl rfl BR.out HI.out HS.out (gG _ _) ?_))
  refine aO (v:=.agg (dW false (dg (2^128)))) (results_cell_row rfl _ _ w.heap.size _ _ _ _ rfl (setRow_heap _ _ _ _ _ _ BR.out) aH rfl HI.out) rfl ?_;exact ⟨rfl,Below.row BL.out (aB _) _⟩
theorem Ug (w:World):Calls prog 169 #[.int .i64 127] w (OB (2^127) w):=(Jr w).mono fun e w' ⟨he,hb⟩=>⟨by rw[he];exact congrArg (fun a=>Ending.returned (Value.agg a)) (FM (by decide) (by congr 1)),hb⟩
theorem Uf (w:World):Calls prog 169 #[.int .i64 128] w (OB (2^128) w):=(Jq w).mono fun e w' ⟨he,hb⟩=>⟨by rw[he];exact congrArg (fun a=>Ending.returned (Value.agg a)) (FM (by decide) (by congr 1)),hb⟩
theorem xC:∀ (d:List Nat)(k v:Nat),k<d.length→num (d.set k v)+d.getD k 0*65536^k=num d+v*65536^k
 | [],k,v,h=>by simp at h
 | x::d,0,v,h=>by
  simp only[List.set_cons_zero,num,List.getD_cons_zero,Nat.pow_zero,Nat.mul_one];omega
 | x::d,k+1,v,h=>by
  have ih:=xC d k v (by simpa using h);simp only[List.set_cons_succ,num,List.getD_cons_succ];rw[bY,←Nat.mul_assoc,←Nat.mul_assoc];generalize d.getD k 0*65536^k=A at *;generalize v*65536^k=B at *;omega
theorem Pm {d:List Nat}(h:Dg d)(k:Nat){v:Nat}(hv:v<65536):Dg (d.set k v):=by
 refine ⟨by rw[List.length_set];exact h.1,fun x hx=>?_⟩
 rcases List.mem_or_eq_of_mem_set hx with hx|rfl
 ·exact h.2 x hx
 ·exact hv
theorem TL {d:List Nat}(h:Dg d)(k:Nat):d.getD k 0<65536:=by
 rw[aS];by_cases hk:k<d.length
 ·rw[aF hk]
  exact h.2 _ (List.getElem_mem hk)
 ·rw[List.getElem?_eq_none (by omega)]
  simp
theorem EU (l:List Nat)(k p:Nat)(x:Nat)(hk:k<l.length):(l.set k x).getD p 0=if k=p then x else l.getD p 0:=by
 simp only[aS,List.getElem?_set]
 split
 ·subst_vars
  simp[hk]
 ·rfl
structure Pr (m n i j c:Nat)(d:List Nat):Prop where
 hd:Dg d
 eq:num d+c*65536^(i+j)=m%65536^i*n+m/65536^i%65536*(n%65536^j)*65536^i
 hc:c<65536
 up:∀p,i+9≤p→d.getD p 0=0
theorem Pr.next {m n i j c a b s:Nat}{d:List Nat}(h:Pr m n i j c d)(hij:i+j<20)(hj:j<9)(ha:m/65536^i%65536=a)(hb:n/65536^j%65536=b)(hs:s=d.getD (i+j) 0+a*b+c) :
  Pr m n i (j+1) (s/65536) (d.set (i+j) (s%65536)):=by
 have hz:=TL h.hd (i+j);have hab:a*b≤65535*65535:=Nat.mul_le_mul (by omega) (by omega);have hc:=h.hc;refine ⟨Pm h.hd _ (by omega),?_,by omega,fun p hp=>?_⟩
 ·have e1:=xC d (i+j) (s%65536) (by rw[h.hd.1];exact hij)
  have e2:=h.eq;rw[ha] at e2 ⊢;have e3:n%65536^(j+1)=n%65536^j+65536^j*b:=by rw[Nat.mod_pow_succ,hb]
  have e4:a*(65536^j*b)*65536^i=a*b*65536^(i+j):=by rw[Nat.pow_add];ac_rfl
  have e5:65536^(i+(j+1))=65536^(i+j)*65536:=by rw[←bY];rfl
  rw[e3,Nat.mul_add,Nat.add_mul,e4,e5];have e6:s/65536*(65536^(i+j)*65536)+s%65536*65536^(i+j)=s*65536^(i+j):=by
   rw[cF (65536^(i+j)) 65536,←Nat.mul_assoc,←Nat.add_mul,Nat.div_add_mod']
  have e7:s*65536^(i+j)=d.getD (i+j) 0*65536^(i+j)+a*b*65536^(i+j)+c*65536^(i+j):=by rw[hs,Nat.add_mul,Nat.add_mul]
  generalize s/65536*(65536^(i+j)*65536)=A1 at *;generalize s%65536*65536^(i+j)=A2 at *;generalize s*65536^(i+j)=A3 at *;generalize d.getD (i+j) 0*65536^(i+j)=A4 at *;generalize a*b*65536^(i+j)=A5 at *;generalize c*65536^(i+j)=A6 at *;generalize a*(n%65536^j)*65536^i=A7 at *;generalize m%65536^i*n=A8 at *;omega
 ·rw[EU _ _ _ _ (by rw[h.hd.1];exact hij),bF (by omega)]
  exact h.up p hp
theorem Pr.row {m n i c:Nat}{d:List Nat}(h:Pr m n i 9 c d)(hi:i<9)(hn:n<65536^9):Pr m n (i+1) 0 0 (d.set (i+9) c):=by
 refine ⟨Pm h.hd _ h.hc,?_,by omega,fun p hp=>?_⟩
 ·have e1:=xC d (i+9) c (by rw[h.hd.1];omega)
  have e2:=h.eq;rw[h.up (i+9) (by omega),Nat.zero_mul] at e1;rw[Nat.mod_eq_of_lt hn] at e2;rw[Nat.mod_pow_succ,Nat.zero_mul,Nat.pow_zero,Nat.mod_one,Nat.mul_zero,Nat.zero_mul,Nat.add_mul];have e3:65536^i*(m/65536^i%65536)*n=m/65536^i%65536*n*65536^i:=by ac_rfl
  rw[e3];omega
 ·rw[EU _ _ _ _ (by rw[h.hd.1];omega),bF (by omega)]
  exact h.up p (by omega)
theorem Pr.start (m n:Nat):Pr m n 0 0 0 zeros:=by
 refine ⟨uF 0,by simp[Nat.mod_one,num,zeros],by omega,fun p hp=>?_⟩;rw[aS,zeros,List.getElem?_replicate]
 split <;> rfl
theorem Pr.done {m n:Nat}{d:List Nat}(h:Pr m n 9 0 0 d)(hm:m<65536^9):d=dg (m*n):=by
 have e:=h.eq;rw[Nat.mod_eq_of_lt hm,Nat.pow_zero,Nat.mod_one,Nat.mul_zero,Nat.zero_mul,Nat.add_zero,Nat.add_zero] at e;rw[←e];exact (dg_num h.hd).symm
theorem rZ.put {nx ny nz:Bool}{dx dy dz:List Nat}{w W:World}(h:rZ nx ny nz dx dy dz w W)(k v:Nat):rZ nx ny nz dx dy (dz.set k v) w (W.setCell ⟨w.heap.size+1+1+1,1+k,none⟩ (.int .u64 (v:Int))) :=
 ⟨by rw[aK _ _ _ _ (by show _≠w.heap.size+1+1+1;omega)];exact h.bx,by rw[aK _ _ _ _ (by show _≠w.heap.size+1+1+1;omega)];exact h.yR,by rw[aK _ _ _ _ (by show _≠w.heap.size+1+1+1;omega)];exact h.br,
  by rw[aM _ _ _ _ _ _ h.bz,NW],h.below.setCell (p:=⟨w.heap.size+1+1+1,1+k,none⟩) (by show _≤w.heap.size+1+1+1;omega) _⟩
theorem rZ.drewN {nx ny nz:Bool}{dx dy dz:List Nat}{w W:World}(h:rZ nx ny nz dx dy dz w W)(q:Nat):rZ nx ny nz dx dy dz w (W.drewN q):=h.up (eM _ _ q)
def MORel (nx ny:Bool)(m n:Nat)(w:World)(g:Nat)(s:Value)(W:World):Prop:=∃ (i:Nat) (d:List Nat),g=9-i∧s=.int .i64 (i:Int)∧i≤9∧Pr m n i 0 0 d∧rZ nx ny false (dg m) (dg n) d w W
def MIRel (nx ny:Bool)(m n i:Nat)(w:World)(g:Nat)(s7 s8:Value)(W:World):Prop:=∃ (j c:Nat) (d:List Nat),g=9-j∧s7=.int .u64 (c:Int)∧s8=.int .i64 (j:Int)∧j≤9∧Pr m n i j c d∧rZ nx ny false (dg m) (dg n) d w W
theorem Lj (nx ny:Bool)(m n:Nat)(w:World)(hm:Hid (m<65536^9))(hn:Hid (n<65536^9))(sg:Bool)(hsg:Hid ((!(nx == ny) && !(dg (m*n) == zeros))=sg)) :
  Calls prog 157 #[.agg (dW nx (dg m)),.agg (dW ny (dg n))] w (sP sg (dg (m*n)) w):=by
 have oO:=aA (KU nx ny (dg m) (dg n) w);have AG:=hn;go_enter func157,ntmps157;go_wp2_with fail;go_loopg[6] 9 (MORel nx ny m n w)
 case atStart=>exact ⟨0,zeros,rfl,rfl,by omega,Pr.start m n,oO.out⟩
 case round =>
  clear oO;obtain ⟨i,d,rfl,rfl,hi9,P,I⟩:=hrel;by_cases hi:i<9
  ·have HP:=aA P
   have HI:=aA I;have i1:(i:Int)<9:=by omega
   clear P I;go_wp2_with fail;go_loopg[7,8] 9 (MIRel nx ny m n i w)
   case atStart=>exact ⟨0,0,d,rfl,rfl,rfl,by omega,HP.out,HI.out⟩
   case round =>
    clear HP HI;obtain ⟨j,c,d,rfl,rfl,rfl,hj9,P,I⟩:=hrel;by_cases hj:j<9
    ·obtain ⟨k,hk⟩:∃k,i+j=k:=⟨_,rfl⟩
     obtain ⟨a,ha⟩:∃a,m/65536^i%65536=a:=⟨_,rfl⟩;obtain ⟨b,hb⟩:∃b,n/65536^j%65536=b:=⟨_,rfl⟩;obtain ⟨z,hz⟩:∃z,d.getD k 0=z:=⟨_,rfl⟩;have al:a<65536:=by omega
     have bl:b<65536:=by omega
     have zl:z<65536:=by rw[←hz];exact TL P.hd k
     have cl:=P.hc;have cx:wr.cell? ⟨w.heap.size,1+i,none⟩=some (.int .u64 (a:Int)):=by rw[aD _ _ _ _ _ _ I.bx,kJ _ _ _ (by rw[fD];omega)];unfold dg;rw[yP _ _ _ (by omega),ha]
     have cy:wr.cell? ⟨w.heap.size+1,1+j,none⟩=some (.int .u64 (b:Int)):=by rw[aD _ _ _ _ _ _ I.yR,kJ _ _ _ (by rw[fD];omega)];unfold dg;rw[yP _ _ _ (by omega),hb]
     have cz:wr.cell? ⟨w.heap.size+1+1+1,1+k,none⟩=some (.int .u64 (z:Int)):=by rw[aD _ _ _ _ _ _ I.bz,kJ _ _ _ (by rw[P.hd.1];omega),hz]
     have fz:wr.frozen? ⟨w.heap.size+1+1+1,1+k,none⟩=false:=dJ I.bz;have hab:a*b≤65535*65535:=Nat.mul_le_mul (by omega) (by omega);obtain ⟨p,hp⟩:∃p,a*b=p:=⟨_,rfl⟩;rw[hp] at hab;obtain ⟨q,hq⟩:∃q,z+p=q:=⟨_,rfl⟩;obtain ⟨s,hs⟩:∃s,q+c=s:=⟨_,rfl⟩;have N:=P.next (a:=a) (b:=b) (s:=s) (by omega) hj ha hb (by rw[hk,hz,hp,hq,hs]);rw[hk] at N;have HN:=aA N;have NI:=aA (fun q=>(I.drewN q).put k (s%65536));have j1:(j:Int)<9:=by omega
     have j0:(0:Int)≤(j:Int):=by omega
     have i0:(0:Int)≤(i:Int):=by omega
     have k0:(0:Int)≤(k:Int):=by omega
     have k1:(k:Int)<20:=by omega
     have i2:(i:Int)<20:=by omega
     have j2:(j:Int)<20:=by omega
     have E0:IntKind.i64.wrap ((i:Int)+(j:Int))=(k:Int):=by rw[bL];omega
     have E00:(i:Int)+(j:Int)=(k:Int):=by omega
     have pz:((a:Int)*(b:Int))=(p:Int):=by rw[←hp];push_cast;rfl
     have E1:IntKind.u64.wrap ((a:Int)*(b:Int))=(p:Int):=by rw[pz,aV];omega
     have E2:IntKind.u64.wrap ((z:Int)+(p:Int))=(q:Int):=by rw[aV];omega
     have E3:IntKind.u64.wrap ((q:Int)+(c:Int))=(s:Int):=by rw[aV];omega
     have SL:=aA (show s<4300000000 by omega);clear P I ha hb hz hab hp hq hs N al bl zl cl pz hk;go_wp2_with fail
     go_quiet (fail)
     clear E0 E1 E2 E3 cx cy;go_wp2_with fail;go_roundg (9-(j+1))
     case measure=>omega
     case rel =>
      exact ⟨j+1,s/65536,_,rfl,by rw[show IntKind.u64.wrap ((s:Int)/65536)=((s/65536:Nat):Int) by rw[aV];have:=SL.out;omega],by go_num,by omega,HN.out,by have:=NI.out nq;simpa using this⟩
    ·obtain rfl:j=9:=by omega
     have j1:¬ (((9:Nat):Int)<9):=by omega
     have R:=aA (P.row hi (AG.out));have RI:=aA (I.put (i+9) c);obtain ⟨k,hk⟩:∃k,i+9=k:=⟨_,rfl⟩;obtain ⟨z,hz⟩:∃z,d.getD k 0=z:=⟨_,rfl⟩;have cz:wr.cell? ⟨w.heap.size+1+1+1,1+k,none⟩=some (.int .u64 (z:Int)):=by rw[aD _ _ _ _ _ _ I.bz,kJ _ _ _ (by rw[P.hd.1];omega),hz]
     have fz:wr.frozen? ⟨w.heap.size+1+1+1,1+k,none⟩=false:=dJ I.bz;rw[hk] at R RI;have i0:(0:Int)≤(i:Int):=by omega
     have k0:(0:Int)≤(k:Int):=by omega
     have k1:(k:Int)<20:=by omega
     have E0:IntKind.i64.wrap ((i:Int)+9)=(k:Int):=by rw[bL];omega
     have E00:(i:Int)+9=(k:Int):=by omega
     clear P I hz hk;go_wp2_with fail;go_roundg (9-(i+1))
     case measure=>omega
     case rel=>exact ⟨i+1,_,rfl,by go_num,by omega,R.out,RI.out⟩
  ·obtain rfl:i=9:=by omega
   have i1:¬ (((9:Nat):Int)<9):=by omega
   obtain rfl:=P.done hm.out;have HII:=aA I;obtain ⟨g0,g1,g2,g3⟩:=I.heads;have BZ:=aA I.bz;have IZ:=aA (eR false (dg (m*n)) (fD _));have IS:=aA (eR sg (dg (m*n)) (fD _));have SR:=aA (gU false sg zeros (dg (m*n)) rfl (fD _));have NN:=aA (fun w=>nM false (dg (m*n)) w (fD _));clear P I;by_cases hs:nx=ny
   ·obtain rfl:sg=false:=by have:=hsg.out;simp[hs] at this;exact this
    subst hs;have I3:=HII.out.sign false;have B3:=aA I3.bz;have R3:=aA I3.br;have L3:=aA I3.below;clear I3;go_wp2_with (first|(refine wpList_load_row rfl 214 (.tmp 5) rfl (w.heap.size+1+1+1) rfl _ _ _ _ B3.out aH rfl IS.out ?_)|(refine dG rfl 214 (.tmp 4) (.tmp 61) rfl (w.heap.size+1+1) _ _ (dW false (dg (m*n))) rfl rfl R3.out IS.out SR.out (gG _ _) ?_))
    refine aO (v:=.agg (dW false (dg (m*n)))) (results_cell_row rfl _ _ (w.heap.size+1+1) _ _ _ _ rfl (setRow_heap _ _ _ _ _ _ R3.out) aH rfl IS.out) rfl ?_;exact ⟨rfl,Below.row L3.out (by omega) _⟩
   ·have hs1:(nx == ny)=false:=by simpa using hs
    have hs2:(nx != ny)=true:=by simpa using hs
    have hz:(!(dg (m*n) == zeros))=sg:=by have:=hsg.out;rw[hs1] at this;simpa using this
    have HZ:=aA hz;clear hz
    cases nx <;> cases ny <;> first|exact absurd rfl hs|skip
    all_goals
     go_wp2_with (refine iJ (by kernel_rfl) 214 (.tmp 5) rfl (w.heap.size+1+1+1) rfl _ _ _ _ BZ.out aH rfl IZ.out ?_)
     refine (NN.out _).mono ?_;rintro e w4 ⟨rfl,hb4⟩;have I4:=HII.out.up hb4;obtain ⟨n0,n1,n2,n3⟩:=I4.heads;have I5:=I4.sign sg;have B5:=aA I5.bz;have R3:=aA I5.br;have L3:=aA I5.below;have hz:=HZ.out;clear I4 I5 hb4 g0 g1 g2 g3;generalize (dg (m*n) == zeros)=zq at hz ⊢;go_wp2_with (first|(refine wpList_load_row rfl 214 (.tmp 5) rfl (w.heap.size+1+1+1) rfl _ _ _ _ B5.out aH rfl IS.out ?_)|(refine dG rfl 214 (.tmp 4) (.tmp 61) rfl (w.heap.size+1+1) _ _ (dW sg (dg (m*n))) rfl rfl R3.out IS.out SR.out (gG _ _) ?_))
     refine aO (v:=.agg (dW sg (dg (m*n)))) (results_cell_row rfl _ _ (w.heap.size+1+1) _ _ _ _ rfl (setRow_heap _ _ _ _ _ _ R3.out) aH rfl IS.out) rfl ?_;exact ⟨rfl,Below.row L3.out (by omega) _⟩
theorem Zp (x y:Int)(w:World)(hx:x.natAbs<65536^9)(hy:y.natAbs<65536^9):Calls prog 157 #[.agg (bv x),.agg (bv y)] w (OB (x*y) w):=by
 have hlt:x.natAbs*y.natAbs<BB:=by
  unfold BB
  calc x.natAbs*y.natAbs<65536^9*65536^9:=Nat.mul_lt_mul'' hx hy
   _≤65536^20:=by decide
 refine (Lj (decide (x<0)) (decide (y<0)) x.natAbs y.natAbs w (aA hx) (aA hy) (decide (x*y<0)) (aA ?_)).mono ?_
 ·rw[pY hlt,Bool.eq_iff_iff]
  have h0:x.natAbs*y.natAbs=(x*y).natAbs:=(Int.natAbs_mul x y).symm;rw[h0];simp only[Bool.and_eq_true,Bool.not_eq_true',beq_eq_false_iff_ne,ne_eq,cJ,decide_eq_true_eq,decide_eq_false_iff_not]
  rcases Int.lt_trichotomy x 0 with hx0|hx0|hx0
  ·rcases Int.lt_trichotomy y 0 with Ak|Ak|Ak
   ·have:=Int.mul_pos_of_neg_of_neg hx0 Ak
    omega
   ·subst Ak;simp
   ·have:=Int.mul_neg_of_neg_of_pos hx0 Ak
    omega
  ·subst hx0;simp
  ·rcases Int.lt_trichotomy y 0 with Ak|Ak|Ak
   ·have:=Int.mul_neg_of_pos_of_neg hx0 Ak
    omega
   ·subst Ak;simp
   ·have:=Int.mul_pos hx0 Ak
    omega
 ·rintro e w' ⟨rfl,hb⟩
  exact ⟨by rw[FM (z:=x*y) rfl (by rw[Int.natAbs_mul])],hb⟩
def dS (g:Nat)(z:Int)(W:World):Prop:=W.heap[g]?=some (.cells (bv z) 214 (0,0))
theorem dS.below {W X:World}{g:Nat}{z:Int}(hb:Below W.heap.size W X)(h:dS g z W):dS g z X:=dL hb h
theorem dV (z:Int):(prog.info? 214).map (·.size)=some (bv z).size:=eR _ _ (fD _)
theorem fT (x z:Int):(bv x).size=(bv z).size:=gU _ _ _ _ (fD _) (fD _)
theorem gT (z:Int):(bv z).all (·.oneCell')=true:=gG _ _
theorem dS.head {g:Nat}{z:Int}{W:World}(h:dS g z W):W.cell? ⟨g,0,none⟩=some (.bool (decide (z<0))):=by rw[aD _ _ _ _ _ _ h];exact uJ _ _
theorem dS.dig {g:Nat}{z:Int}{W:World}(h:dS g z W)(k:Nat)(hk:k<20):W.cell? ⟨g,1+k,none⟩=some (.int .u64 ((z.natAbs/65536^k%65536:Nat):Int)):=by
 rw[aD _ _ _ _ _ _ h];unfold bv;rw[kJ _ _ _ (by rw[fD];exact hk)];unfold dg;rw[yP _ _ _ hk]
theorem Ey (x y n z:Int)(b:Bool)(w:World)(cN:Hid (vH 168 #[.agg (bv y)] (.agg (bv n))))(cA:Hid (vH 158 #[.agg (bv x),.agg (bv n)] (.agg (bv z))))(hz:Hid (decide (z<0)=b)) :
  Calls prog 170 #[.agg (bv x),.agg (bv y)] w fun e w'=>e=.returned (.bool b)∧Below w.heap.size w w':=by
 go_enter func170,ntmps170;go_wp2_with fail;have rX:dS w.heap.size x ((w.alloc (.cells (bv x) 214)).alloc (.cells (bv y) 214)):=dM (aG _ _);have rY:dS (w.heap.size+1) y ((w.alloc (.cells (bv x) 214)).alloc (.cells (bv y) 214)):=heap_alloc2_new _ _ _;have TD:Below w.heap.size w ((w.alloc (.cells (bv x) 214)).alloc (.cells (bv y) 214)):=by go_grown
 generalize ((w.alloc (.cells (bv x) 214)).alloc (.cells (bv y) 214))=V at rX rY TD ⊢;have HX:=aA rX;have HY:=aA rY;have qy:=aA TD;clear rX rY TD;try rename_i KK hKK
 have HT:∀ (Bq:Nat) (Wf:World),dS Bq z Wf→Below V.heap.size V Wf→KK { tmps:=#[.agg (bv x),.agg (bv y),.pointer (some ⟨w.heap.size,0,none⟩),.pointer (some ⟨w.heap.size+1,0,none⟩),.bool false,.pointer (some ⟨Bq,0,none⟩),.agg (bv x),.agg (bv y),.agg (bv n),.agg (bv z),undef,undef],defers:=[] } Wf:=by
  intro Bq Wf hq hb;refine hKK _ _ ?_;have mI:=aA (dN qy.out hb);have hc:=hq.head;rw[hz.out] at hc;clear hKK hq hb HX HY qy;go_wp2_with fail;go_ret;exact ⟨rfl,mI.out⟩
 refine (bN (n:=5)).1 (eI (F:=Fence.wide) (S:=fun X=>Below V.heap.size V X) (by kernel_rfl) (eM _ _ 1) (fun hHeld=>?_));refine dH (fun _=>trivial) (by kernel_rfl) (i:=0) (oi:=_) (v:=.agg (bv x)) rfl (by kernel_rfl) (by kernel_rfl) (by kernel_rfl) (fun _ _ _ h=>h) (by assumption) (Or.inl ⟨by kernel_rfl,?_⟩) ?_
 ·intro wz hSw;exact dY 214 (.tmp 2) (by kernel_rfl) (w.heap.size) (by kernel_rfl) _ _ _ _ (dS.below hSw HX.out) aH (by kernel_rfl) (dV _)
 try simp only[aQ]
 refine dH (fun _=>trivial) (by kernel_rfl) (i:=1) (oi:=_) (v:=.agg (bv y)) rfl (by kernel_rfl) (by kernel_rfl) (by kernel_rfl) (fun _ _ _ h=>h) (by assumption) (Or.inl ⟨by kernel_rfl,?_⟩) ?_
 ·intro wz hSw;exact dY 214 (.tmp 3) (by kernel_rfl) (w.heap.size+1) (by kernel_rfl) _ _ _ _ (dS.below hSw HY.out) aH (by kernel_rfl) (dV _)
 try simp only[aQ]
 refine kY (fun _=>trivial) (i:=2) (j:=4) (o:=_) (o2:=_) (by kernel_rfl) rfl rfl (fun K hK=>?_) (fun K hK=>?_)
 ·go_simp
  refine ⟨trivial,bG.2 ((cN.out _).mono ?_)⟩;rintro e x1 ⟨rfl,hb1⟩;dsimp only;refine hK.out _ _ (dN hHeld hb1) (fun hHeld=>?_);clear hK K;try simp only[aQ]
  refine kY (fun _=>trivial) (i:=3) (j:=4) (o:=_) (o2:=_) (by kernel_rfl) rfl rfl (fun K hK=>?_) (fun K hK=>?_)
  ·go_simp
   refine ⟨trivial,bG.2 ((cA.out _).mono ?_)⟩;rintro e x2 ⟨rfl,hb2⟩;dsimp only;refine hK.out _ _ (dN hHeld hb2) (fun hHeld=>?_);clear hK K;try simp only[aQ]
   refine dO (fun _=>trivial) (i:=4) (o:=_) (by kernel_rfl) rfl (fun K hK=>?_);have hBq:V.heap.size≤x2.heap.size:=hHeld.size;go_simp;have hrow:=aG (x2) ((.cells #[.bool false,.int .u64 0,.int .u64 0,.int .u64 0,.int .u64 0,.int .u64 0,.int .u64 0,.int .u64 0,.int .u64 0,.int .u64 0,.int .u64 0,.int .u64 0,.int .u64 0,.int .u64 0,.int .u64 0,.int .u64 0,.int .u64 0,.int .u64 0,.int .u64 0,.int .u64 0,.int .u64 0] 214));refine hK.out _ _ (hHeld.alloc hHeld.size _) (fun hHeld=>?_);clear hK K;try simp only[aQ]
   refine dO (fun _=>trivial) (i:=5) (o:=_) (by kernel_rfl) rfl (fun K hK=>?_);rw[aZ (by kernel_rfl)];refine eD (fun _=>trivial) 214 (.tmp 5) (.tmp 9) (by kernel_rfl) (x2.heap.size) _ _ (bv z) (by kernel_rfl) (by kernel_rfl) hrow (dV _) (fT 0 _) (gT _) ?_;refine hK.out _ _ (Below.row hHeld hBq _) (fun hHeld=>?_);clear hK K;try simp only[aQ]
   refine eH (by kernel_rfl) ?_ _;exact HT (x2.heap.size) _ (setRow_heap _ _ _ _ _ _ hrow) hHeld
  ·have hBq:V.heap.size≤x1.heap.size:=hHeld.size
   go_simp;have hrow:=aG (x1) ((.cells #[.bool false,.int .u64 0,.int .u64 0,.int .u64 0,.int .u64 0,.int .u64 0,.int .u64 0,.int .u64 0,.int .u64 0,.int .u64 0,.int .u64 0,.int .u64 0,.int .u64 0,.int .u64 0,.int .u64 0,.int .u64 0,.int .u64 0,.int .u64 0,.int .u64 0,.int .u64 0,.int .u64 0] 214));refine hK.out _ _ (hHeld.alloc hHeld.size _) (fun hHeld=>?_);clear hK K;try simp only[aQ]
   refine dO (fun _=>trivial) (i:=3) (o:=_) (by kernel_rfl) rfl (fun K hK=>?_);go_simp;refine ⟨trivial,bG.2 ((cA.out _).mono ?_)⟩;rintro e x2 ⟨rfl,hb2⟩;dsimp only;replace hrow:=dL hb2 hrow;refine hK.out _ _ (dN hHeld hb2) (fun hHeld=>?_);clear hK K;try simp only[aQ]
   refine dO (fun _=>trivial) (i:=5) (o:=_) (by kernel_rfl) rfl (fun K hK=>?_);rw[aZ (by kernel_rfl)];refine eD (fun _=>trivial) 214 (.tmp 5) (.tmp 9) (by kernel_rfl) (x1.heap.size) _ _ (bv z) (by kernel_rfl) (by kernel_rfl) hrow (dV _) (fT 0 _) (gT _) ?_;refine hK.out _ _ (Below.row hHeld hBq _) (fun hHeld=>?_);clear hK K;try simp only[aQ]
   refine eH (by kernel_rfl) ?_ _;exact HT (x1.heap.size) _ (setRow_heap _ _ _ _ _ _ hrow) hHeld
 ·have hBq:V.heap.size≤V.heap.size:=hHeld.size
  go_simp;have hrow:=aG (V.drew) ((.cells #[.bool false,.int .u64 0,.int .u64 0,.int .u64 0,.int .u64 0,.int .u64 0,.int .u64 0,.int .u64 0,.int .u64 0,.int .u64 0,.int .u64 0,.int .u64 0,.int .u64 0,.int .u64 0,.int .u64 0,.int .u64 0,.int .u64 0,.int .u64 0,.int .u64 0,.int .u64 0,.int .u64 0] 214));refine hK.out _ _ (hHeld.alloc hHeld.size _) (fun hHeld=>?_);clear hK K;try simp only[aQ]
  refine dO (fun _=>trivial) (i:=2) (o:=_) (by kernel_rfl) rfl (fun K hK=>?_);go_simp;refine ⟨trivial,bG.2 ((cN.out _).mono ?_)⟩;rintro e x1 ⟨rfl,hb1⟩;dsimp only;replace hrow:=dL hb1 hrow;refine hK.out _ _ (dN hHeld hb1) (fun hHeld=>?_);clear hK K;try simp only[aQ]
  refine dO (fun _=>trivial) (i:=3) (o:=_) (by kernel_rfl) rfl (fun K hK=>?_);go_simp;refine ⟨trivial,bG.2 ((cA.out _).mono ?_)⟩;rintro e x2 ⟨rfl,hb2⟩;dsimp only;replace hrow:=dL hb2 hrow;refine hK.out _ _ (dN hHeld hb2) (fun hHeld=>?_);clear hK K;try simp only[aQ]
  refine dO (fun _=>trivial) (i:=5) (o:=_) (by kernel_rfl) rfl (fun K hK=>?_);rw[aZ (by kernel_rfl)];refine eD (fun _=>trivial) 214 (.tmp 5) (.tmp 9) (by kernel_rfl) (V.heap.size) _ _ (bv z) (by kernel_rfl) (by kernel_rfl) hrow (dV _) (fT 0 _) (gT _) ?_;refine hK.out _ _ (Below.row hHeld hBq _) (fun hHeld=>?_);clear hK K;try simp only[aQ]
  refine eH (by kernel_rfl) ?_ _;exact HT (V.heap.size) _ (setRow_heap _ _ _ _ _ _ hrow) hHeld
theorem Lz (x y:Int)(w:World)(h:x.natAbs+y.natAbs<BB):Calls prog 170 #[.agg (bv x),.agg (bv y)] w fun e w'=>e=.returned (.bool (decide (x<y)))∧Below w.heap.size w w' :=
 Ey x y (-y) (x + -y) _ w (aA fun w=>Li y w (by omega)) (aA fun w=>TX x (-y) w (by omega)) (aA (by rw[cJ];omega))
structure FrI (h:Int)(l:Nat)(p:List Nat)(w W:World):Prop where
 bw:W.heap[w.heap.size]?=some (.cells #[.int .i64 h,.int .u64 l] 220 (0,0))
 br:W.heap[w.heap.size+1]?=some (.cells (dW false zeros) 214 (0,0))
 bl:W.heap[w.heap.size+1+1]?=some (.cells (dW false (pad p)) 214 (0,0))
 below:Below w.heap.size w W
theorem FrI.next {h:Int}{l:Nat}{p:List Nat}{w W:World}(i:FrI h l p w W)(v:Nat)(hp:p.length<20):FrI h l (p++[v]) w (W.setCell ⟨w.heap.size+1+1,1+p.length,none⟩ (.int .u64 (v:Int))):=by
 refine ⟨?_,?_,?_,i.below.setCell (p:=⟨w.heap.size+1+1,1+p.length,none⟩) (by show _≤w.heap.size+1+1;omega) _⟩
 ·rw[aK _ _ _ _ (by show _≠w.heap.size+1+1;omega)];exact i.bw
 ·rw[aK _ _ _ _ (by show _≠w.heap.size+1+1;omega)];exact i.br
 ·rw[aM _ _ _ _ _ _ i.bl,AV p v false hp]
structure ru (h:Int)(l:Nat)(w W:World):Prop where
 bw:W.heap[w.heap.size]?=some (.cells #[.int .i64 h,.int .u64 l] 220 (0,0))
 bl:dS (w.heap.size+1+1) (l:Int) W
 below:Below w.heap.size w W
theorem ru.up {h:Int}{l:Nat}{w W X:World}(i:ru h l w W)(hb:Below W.heap.size W X):ru h l w X:=⟨dL hb i.bw,dS.below hb i.bl,dN i.below hb⟩
theorem ru.c0 {h:Int}{l:Nat}{w W:World}(i:ru h l w W):W.cell? ⟨w.heap.size,0,none⟩=some (.int .i64 h):=by rw[aD _ _ _ _ _ _ i.bw];rfl
theorem ru.put {h:Int}{l:Nat}{w W:World}(i:ru h l w W)(c:Array Value):ru h l w (W.setRow (w.heap.size+1) c) :=
 ⟨by rw[setRow_other _ _ _ _ (by omega)];exact i.bw,by unfold dS;rw[setRow_other _ _ _ _ (by omega)];exact i.bl,Below.row i.below (by omega) _⟩
theorem eY {P:Program}{fn:Func}{p u:Tmp}{ty:TypeId}(h:fn.results=#[.cell p ty,.tmp u])(tmps:Array Value)(w:World)(g:Nat)(t:TypeId)(cs:Array Value)(fr:Nat×Nat)(d:TypeDesc)(v:Value)
  (hp:tmps.getD p undef=.pointer (some ⟨g,0,none⟩)) (hg:w.heap[g]?=some (.cells cs t fr))
  (hu:P.underlying ty=some d) (hd:(match d with | .struct _ | .array _ _=>true|_=>false)=true) (hi:(P.info? ty).map (·.size)=some cs.size) (hv:tmps.getD u undef=v) :
  (results fn tmps).run P w=.ok (.tuple #[.agg cs,v]) w:=by
 rw[results_cell_tmp h,hp,hv];simp[asAddr,Result.andThen,run_loadVar_row w g t ty cs fr d hg hu hd hi]
def WideAt (g:Nat)(h:Int)(l:Nat)(W:World):Prop:=W.heap[g]?=some (.cells #[.int .i64 h,.int .u64 l] 220 (0,0))
theorem WideAt.below {W X:World}{g l:Nat}{h:Int}(hb:Below W.heap.size W X)(i:WideAt g h l W):WideAt g h l X:=dL hb i
theorem WideAt.c0 {W:World}{g l:Nat}{h:Int}(i:WideAt g h l W):W.cell? ⟨g,0,none⟩=some (.int .i64 h):=by rw[aD _ _ _ _ _ _ i];rfl
theorem WideAt.c1 {W:World}{g l:Nat}{h:Int}(i:WideAt g h l W):W.cell? ⟨g,1,none⟩=some (.int .u64 (l:Int)):=by rw[aD _ _ _ _ _ _ i];rfl
theorem WideAt.fr {W:World}{g l:Nat}{h:Int}(i:WideAt g h l W)(j:Nat):W.frozen? ⟨g,j,none⟩=false:=dJ i
theorem WideAt.rC {W:World}{g b l:Nat}{a h:Int}(i:WideAt g a b W):WideAt g h l ((W.setCell ⟨g,0,none⟩ (.int .i64 h)).setCell ⟨g,1,none⟩ (.int .u64 (l:Int))):=by
 unfold WideAt;rw[aM _ _ _ _ _ _ (aM _ _ _ _ _ _ i)];rfl
theorem Below.rC {B:Nat}{v W:World}{g:Nat}(hb:Below B v W)(hg:B≤g)(x y:Value):Below B v ((W.setCell ⟨g,0,none⟩ x).setCell ⟨g,1,none⟩ y) :=
 (hb.setCell (p:=⟨g,0,none⟩) hg _).setCell (p:=⟨g,1,none⟩) hg _
theorem mZ {F:Fence}{n:Nat}{P:Program}{o:Oper}{a:Act}{w:World}{K:Act→World→Prop}{Q:Exit→Act→World→Prop}(hF:∀f,F.fn f)(ty:TypeId)(x:Operand)(ho:o.op=.load ty x)
  (g:Nat) (hx:a.eval x=.pointer (some ⟨g,0,none⟩)) (t:TypeId) (cs:Array Value) (fr:Nat×Nat) (d:TypeDesc) (hg:w.heap[g]?=some (.cells cs t fr))
  (hu:P.underlying ty=some d) (hd:(match d with | .struct _ | .array _ _=>true|_=>false)=true) (hi:(P.info? ty).map (·.size)=some cs.size) (h:K (a.put o.dst (.agg cs)) w):Oper.wpIn F n P o a w K Q:=by
 unfold Oper.wpIn;rw[Oper.semAt_plain F _ _ (by intro c e;rw[ho] at e;cases e)];rw[dY ty x ho g hx t cs fr d hg hu hd hi];exact ⟨fun f _=>hF f,h⟩
structure ToI (y:Nat)(w W:World):Prop where
 bx:dS w.heap.size (y:Int) W
 br:WideAt (w.heap.size+1) 0 0 W
 below:Below w.heap.size w W
structure Hd (x:Int)(w W:World):Prop where
 bx:dS w.heap.size x W
 br:WideAt (w.heap.size+1) 0 0 W
 below:Below w.heap.size w W
theorem Hd.up {x:Int}{w W X:World}(i:Hd x w W)(hb:Below W.heap.size W X):Hd x w X:=⟨dS.below hb i.bx,WideAt.below hb i.br,dN i.below hb⟩
theorem Hd.put {x:Int}{w W:World}(y:Nat)(i:Hd x w W):ToI y w (W.setRow w.heap.size (bv (y:Int))) :=
 ⟨setRow_heap _ _ _ _ _ _ i.bx,by unfold WideAt;rw[setRow_other _ _ _ _ (by omega)];exact i.br,Below.row i.below (aB _) _⟩
def ku (y:Nat)(w:World)(g:Nat)(s5 s6 s7:Value)(W:World):Prop :=
 ∃k:Nat,g=k∧s5=.int .u64 ((y/65536^k%65536^(4-k):Nat):Int)∧s6=.int .u64 ((y/65536^(k+4)%65536^(4-k):Nat):Int)∧s7=.int .i64 ((k:Int)-1)∧k≤4∧ToI y w W
theorem AL (y k:Nat)(hk:k<4):y/65536^k%65536^(4-k)=y/65536^(k+1)%65536^(4-(k+1))*65536+y/65536^k%65536:=by
 have h1:y/65536^(k+1)=y/65536^k/65536:=by rw[bY,Nat.div_div_eq_div_mul]
 obtain ⟨m,hm⟩:∃m,4-(k+1)=m:=⟨_,rfl⟩;rw[h1,hm,show 4-k=m+1 by omega];generalize y/65536^k=q;rw[bY,cF (65536^m) 65536,Nat.mod_mul];omega
theorem YW (y k:Nat)(hk:1≤k):y%65536^(4-k)<281474976710656:=by
 have h1:y%65536^(4-k)<65536^(4-k):=cO _ (Nat.pow_pos (by omega));have h2:65536^(4-k)≤65536^3:=Nat.pow_le_pow_right (by omega) (by omega);have h3:(65536:Nat)^3=281474976710656:=by decide
 omega
theorem uq (x t n:Int)(y lo hi:Nat)(h:Int)(w:World)(cT:Hid (vH 169 #[.int .i64 127] (.agg (bv t))))(cL:Hid (vH 170 #[.agg (bv x),.agg (bv t)] (.bool true)))(cN:Hid (vH 168 #[.agg (bv t)] (.agg (bv n))))(cL2:Hid (vH 170 #[.agg (bv x),.agg (bv n)] (.bool false)))(KJ:Hid (y%65536^4=lo))(Nl:Hid (y/65536^4%65536^4=hi))(hh:IntKind.i64.wrap (hi:Int)=h)(hxy:Hid (x=(y:Int)))
  : Calls prog 160 #[.agg (bv x)] w (fun e w'=>e=.returned (.tuple #[.agg #[.int .i64 h,.int .u64 lo],.bool true])∧Below w.heap.size w w'):=by
 go_enter func160,ntmps160;go_wp2_with fail;refine (cT.out _).mono ?_;rintro e w1 ⟨rfl,hb1⟩;have rX:dS w.heap.size x (w1.alloc (.cells (bv t) 214)):=dM (dS.below hb1 (dM (aG _ _)));have rR:WideAt (w.heap.size+1) 0 0 (w1.alloc (.cells (bv t) 214)):=dM (WideAt.below hb1 (heap_alloc2_new _ _ _));have rT:dS w1.heap.size t (w1.alloc (.cells (bv t) 214)):=aG _ _;have EJ:Below w.heap.size w w1:=(by go_grown:Below w.heap.size w ((w.alloc (.cells (bv x) 214)).alloc (.cells #[.int .i64 0,.int .u64 0] 220))).trans (hb1.mono (by simp;omega));have TD:Below w.heap.size w (w1.alloc (.cells (bv t) 214)):=EJ.alloc EJ.size _;have hsz:w.heap.size+1<w1.heap.size:=by have:=hb1.size;simp at this;omega
 clear hb1 EJ;go_wp2_with (refine eJ rfl 214 (.tmp 4) (.tmp 8) rfl w1.heap.size _ _ (bv t) rfl rfl rfl (dV _) (fT 0 _) (gT _) ?_)
 generalize (w1.alloc (.cells (bv t) 214))=V at rX rR rT TD ⊢;generalize w1.heap.size=B at rT hsz ⊢;have HX:=aA rX;have HR:=aA rR;have HT:=aA rT;have qy:=aA TD;clear rX rR rT TD;try rename_i KK hKK
 refine (bN (n:=5)).1 (eI (F:=Fence.wide) (S:=fun X=>Below V.heap.size V X) (by kernel_rfl) (eM _ _ 1) (fun hHeld=>?_));refine dH (fun _=>trivial) (by kernel_rfl) (i:=0) (oi:=_) (v:=.agg (bv x)) rfl (by kernel_rfl) (by kernel_rfl) (by kernel_rfl) (fun _ _ _ h=>h) (by assumption) (Or.inl ⟨by kernel_rfl,?_⟩) ?_
 ·intro wz hSw;exact dY 214 (.tmp 1) (by kernel_rfl) (w.heap.size) (by kernel_rfl) _ _ _ _ (dS.below hSw HX.out) aH (by kernel_rfl) (dV _)
 try simp only[aQ]
 refine dH (fun _=>trivial) (by kernel_rfl) (i:=1) (oi:=_) (v:=.agg (bv t)) rfl (by kernel_rfl) (by kernel_rfl) (by kernel_rfl) (fun _ _ _ h=>h) (by assumption) (Or.inl ⟨by kernel_rfl,?_⟩) ?_
 ·intro wz hSw;exact dY 214 (.tmp 4) (by kernel_rfl) (B) (by kernel_rfl) _ _ _ _ (dS.below hSw HT.out) aH (by kernel_rfl) (dV _)
 try simp only[aQ]
 refine dO (fun _=>trivial) (i:=2) (o:=_) (by kernel_rfl) rfl (fun K hK=>?_);go_simp;refine ⟨trivial,bG.2 ((cL.out _).mono ?_)⟩;rintro e x1 ⟨rfl,hb1⟩;dsimp only;refine hK.out _ _ (dN hHeld hb1) (fun hHeld=>?_);clear hK K;try simp only[aQ]
 refine dH (fun _=>trivial) (by kernel_rfl) (i:=3) (oi:=_) (v:=?_) rfl (by kernel_rfl) (by kernel_rfl) (by kernel_rfl) (fun _ _ _ h=>h) (by assumption) (Or.inl ⟨by kernel_rfl,?_⟩) ?_;rotate_left
 ·intro wz hSw;first|(go_simp;done)|(go_simp;with_reducible rfl)
 try simp only[aQ]
 refine dH (fun _=>trivial) (by kernel_rfl) (i:=4) (oi:=_) (v:=?_) rfl (by kernel_rfl) (by kernel_rfl) (by kernel_rfl) (fun _ _ _ h=>h) (by assumption) (Or.inl ⟨by kernel_rfl,?_⟩) ?_;rotate_left
 ·intro wz hSw;first|(go_simp;done)|(go_simp;with_reducible rfl)
 try simp only[aQ]
 refine dH (fun _=>trivial) (by kernel_rfl) (i:=5) (oi:=_) (v:=.agg (bv x)) rfl (by kernel_rfl) (by kernel_rfl) (by kernel_rfl) (fun _ _ _ h=>h) (by assumption) (Or.inl ⟨by kernel_rfl,?_⟩) ?_
 ·intro wz hSw;exact dY 214 (.tmp 1) (by kernel_rfl) (w.heap.size) (by kernel_rfl) _ _ _ _ (dS.below hSw HX.out) aH (by kernel_rfl) (dV _)
 try simp only[aQ]
 refine dH (fun _=>trivial) (by kernel_rfl) (i:=6) (oi:=_) (v:=.agg (bv t)) rfl (by kernel_rfl) (by kernel_rfl) (by kernel_rfl) (fun _ _ _ h=>h) (by assumption) (Or.inl ⟨by kernel_rfl,?_⟩) ?_
 ·intro wz hSw;exact dY 214 (.tmp 4) (by kernel_rfl) (B) (by kernel_rfl) _ _ _ _ (dS.below hSw HT.out) aH (by kernel_rfl) (dV _)
 try simp only[aQ]
 refine dO (fun _=>trivial) (i:=7) (o:=_) (by kernel_rfl) rfl (fun K hK=>?_);go_simp;refine ⟨trivial,bG.2 ((cN.out _).mono ?_)⟩;rintro e x2 ⟨rfl,hb2⟩;dsimp only;refine hK.out _ _ (dN hHeld hb2) (fun hHeld=>?_);clear hK K;try simp only[aQ]
 refine dO (fun _=>trivial) (i:=8) (o:=_) (by kernel_rfl) rfl (fun K hK=>?_);go_simp;refine ⟨trivial,bG.2 ((cL2.out _).mono ?_)⟩;rintro e x3 ⟨rfl,hb3⟩;dsimp only;refine hK.out _ _ (dN hHeld hb3) (fun hHeld=>?_);clear hK K;try simp only[aQ]
 refine dH (fun _=>trivial) (by kernel_rfl) (i:=9) (oi:=_) (v:=?_) rfl (by kernel_rfl) (by kernel_rfl) (by kernel_rfl) (fun _ _ _ h=>h) (by assumption) (Or.inl ⟨by kernel_rfl,?_⟩) ?_;rotate_left
 ·intro wz hSw;first|(go_simp;done)|(go_simp;with_reducible rfl)
 try simp only[aQ]
 refine eH (by kernel_rfl) ?_ _
 first|(refine hKK _ _ ?_)|skip
 have Zl:=dS.below hHeld HX.out;have rR2:=WideAt.below hHeld HR.out;have HB:=dN qy.out hHeld;rw[hxy.out] at Zl;have hd:=Zl.head;rw[aN (by omega)] at hd;have oO:Hid (ToI y w x3):=aA ⟨Zl,rR2,HB⟩;clear hHeld HX HT HR qy Zl rR2 HB hsz;go_wp2_with fail;go_loopg[5,6,7] 4 (ku y w)
 case atStart=>exact ⟨4,rfl,by simp[Nat.mod_one],by simp[Nat.mod_one],rfl,by omega,oO.out⟩
 case round =>
  clear oO;obtain ⟨k,rfl,rfl,rfl,rfl,hk4,I⟩:=hrel
  cases gk with
  | succ k =>
   obtain ⟨a,ha⟩:∃a,y/65536^(k+1)%65536^(4-(k+1))=a:=⟨_,rfl⟩;obtain ⟨b,hb⟩:∃b,y/65536^(k+1+4)%65536^(4-(k+1))=b:=⟨_,rfl⟩;obtain ⟨d,hd⟩:∃d,y/65536^k%65536=d:=⟨_,rfl⟩;obtain ⟨f,hf⟩:∃f,y/65536^(k+4)%65536=f:=⟨_,rfl⟩;obtain ⟨k4,hk5⟩:∃k4,k+4=k4:=⟨_,rfl⟩;have al:a<281474976710656:=by rw[←ha];exact YW _ _ (by omega)
   have bl:b<281474976710656:=by rw[←hb];exact YW _ _ (by omega)
   have dl:d<65536:=by omega
   have fl:f<65536:=by omega
   have N1:Hid (y/65536^k%65536^(4-k)=a*65536+d):=aA (by rw[AL y k (by omega),ha,hd]);have N2:Hid (y/65536^(k+4)%65536^(4-k)=b*65536+f):=aA (by
    have:=AL (y/65536^4) k (by omega);rw[Nat.div_div_eq_div_mul,Nat.div_div_eq_div_mul,←Nat.pow_add,←Nat.pow_add,Nat.add_comm 4 k,show 4+(k+1)=k+1+4 by omega,hb,hf] at this;exact this)
   have cz:wr.cell? ⟨w.heap.size,1+k,none⟩=some (.int .u64 (d:Int)):=by rw[I.bx.dig k (by omega),cH,hd]
   have cy:wr.cell? ⟨w.heap.size,1+k4,none⟩=some (.int .u64 (f:Int)):=by rw[I.bx.dig k4 (by omega),cH,←hk5,hf]
   have s1:(((k+1:Nat):Int)-1)=(k:Int):=by omega
   have HI:=aA I;have k0:(0:Int)≤(k:Int):=by omega
   have k1:(k:Int)<20:=by omega
   have k00:(0:Int)≤(k4:Int):=by omega
   have k11:(k4:Int)<20:=by omega
   have E0:IntKind.i64.wrap ((k:Int)+4)=(k4:Int):=by rw[bL];omega
   have E00:(k:Int)+4=(k4:Int):=by omega
   have E1:IntKind.u64.wrap ((a:Int)*65536)=((a*65536:Nat):Int):=by rw[aV];omega
   have E2:IntKind.u64.wrap (((a*65536:Nat):Int)+(d:Int))=((a*65536+d:Nat):Int):=by rw[aV];omega
   have E3:IntKind.u64.wrap ((b:Int)*65536)=((b*65536:Nat):Int):=by rw[aV];omega
   have E4:IntKind.u64.wrap (((b*65536:Nat):Int)+(f:Int))=((b*65536+f:Nat):Int):=by rw[aV];omega
   obtain ⟨A1,IP⟩:∃A1,a*65536=A1:=⟨_,rfl⟩;obtain ⟨A2,Fp⟩:∃A2,A1+d=A2:=⟨_,rfl⟩;obtain ⟨B1,OV⟩:∃B1,b*65536=B1:=⟨_,rfl⟩;obtain ⟨B2,BO⟩:∃B2,B1+f=B2:=⟨_,rfl⟩;rw[IP] at E1 E2;rw[Fp] at E2;rw[OV] at E3 E4;rw[BO] at E4;rw[ha,hb,s1];have N3:Hid (y/65536^k%65536^(4-k)=A2):=aA (by rw[N1.out,IP,Fp]);have N4:Hid (y/65536^(k+4)%65536^(4-k)=B2):=aA (by rw[N2.out,OV,BO]);clear I ha hb hd hf hk5 s1 IP Fp OV BO N1 N2 al bl dl fl;go_wp2_with fail;go_roundg k
   case measure=>omega
   case rel =>
    refine ⟨k,rfl,?_,?_,?_,by omega,HI.out⟩
    ·rw[N3.out]
    ·rw[N4.out]
    ·go_num
  | zero =>
   have HI:=aA I;have e1:y/65536^0%65536^(4-0)=lo:=by rw[Nat.pow_zero,Nat.div_one];exact KJ.out
   have e2:y/65536^(0+4)%65536^(4-0)=hi:=Nl.out;rw[e1,e2];have BR:=aA I.br;clear I e1 e2;have n0:¬ (0:Int)≤((0:Nat):Int)-1:=by omega
   have c0:=BR.out.c0;have c1:=BR.out.c1;have f0:=BR.out.fr 0;have f1:=BR.out.fr 1;go_wp2_with fail
   (try simp only[Exit.inBlock,Exit.then])
   refine aO (v:=.tuple #[.agg #[.int .i64 h,.int .u64 lo],.bool true]) (eY rfl _ _ (w.heap.size+1) _ _ _ _ _ rfl (WideAt.rC (h:=h) (l:=lo) BR.out) underlying220 rfl (by kernel_rfl) rfl) rfl ?_;exact ⟨rfl,Below.rC HI.out.below (by omega) _ _⟩
theorem uy (x t n t2:Int)(y lo hi:Nat)(h:Int)(w:World)(cT:Hid (vH 169 #[.int .i64 127] (.agg (bv t))))(cL:Hid (vH 170 #[.agg (bv x),.agg (bv t)] (.bool true)))(cN:Hid (vH 168 #[.agg (bv t)] (.agg (bv n))))(cL2:Hid (vH 170 #[.agg (bv x),.agg (bv n)] (.bool false)))(KJ:Hid (y%65536^4=lo))(Nl:Hid (y/65536^4%65536^4=hi))(hh:IntKind.i64.wrap (hi:Int)=h)(hneg:Hid (x<0))(cT2:Hid (vH 169 #[.int .i64 128] (.agg (bv t2))))(cA:Hid (vH 158 #[.agg (bv x),.agg (bv t2)] (.agg (bv (y:Int)))))
  : Calls prog 160 #[.agg (bv x)] w (fun e w'=>e=.returned (.tuple #[.agg #[.int .i64 h,.int .u64 lo],.bool true])∧Below w.heap.size w w'):=by
 go_enter func160,ntmps160;go_wp2_with fail;refine (cT.out _).mono ?_;rintro e w1 ⟨rfl,hb1⟩;have rX:dS w.heap.size x (w1.alloc (.cells (bv t) 214)):=dM (dS.below hb1 (dM (aG _ _)));have rR:WideAt (w.heap.size+1) 0 0 (w1.alloc (.cells (bv t) 214)):=dM (WideAt.below hb1 (heap_alloc2_new _ _ _));have rT:dS w1.heap.size t (w1.alloc (.cells (bv t) 214)):=aG _ _;have EJ:Below w.heap.size w w1:=(by go_grown:Below w.heap.size w ((w.alloc (.cells (bv x) 214)).alloc (.cells #[.int .i64 0,.int .u64 0] 220))).trans (hb1.mono (by simp;omega));have TD:Below w.heap.size w (w1.alloc (.cells (bv t) 214)):=EJ.alloc EJ.size _;have hsz:w.heap.size+1<w1.heap.size:=by have:=hb1.size;simp at this;omega
 clear hb1 EJ;go_wp2_with (refine eJ rfl 214 (.tmp 4) (.tmp 8) rfl w1.heap.size _ _ (bv t) rfl rfl rfl (dV _) (fT 0 _) (gT _) ?_)
 generalize (w1.alloc (.cells (bv t) 214))=V at rX rR rT TD ⊢;generalize w1.heap.size=B at rT hsz ⊢;have HX:=aA rX;have HR:=aA rR;have HT:=aA rT;have qy:=aA TD;clear rX rR rT TD;try rename_i KK hKK
 refine (bN (n:=5)).1 (eI (F:=Fence.wide) (S:=fun X=>Below V.heap.size V X) (by kernel_rfl) (eM _ _ 1) (fun hHeld=>?_));refine dH (fun _=>trivial) (by kernel_rfl) (i:=0) (oi:=_) (v:=.agg (bv x)) rfl (by kernel_rfl) (by kernel_rfl) (by kernel_rfl) (fun _ _ _ h=>h) (by assumption) (Or.inl ⟨by kernel_rfl,?_⟩) ?_
 ·intro wz hSw;exact dY 214 (.tmp 1) (by kernel_rfl) (w.heap.size) (by kernel_rfl) _ _ _ _ (dS.below hSw HX.out) aH (by kernel_rfl) (dV _)
 try simp only[aQ]
 refine dH (fun _=>trivial) (by kernel_rfl) (i:=1) (oi:=_) (v:=.agg (bv t)) rfl (by kernel_rfl) (by kernel_rfl) (by kernel_rfl) (fun _ _ _ h=>h) (by assumption) (Or.inl ⟨by kernel_rfl,?_⟩) ?_
 ·intro wz hSw;exact dY 214 (.tmp 4) (by kernel_rfl) (B) (by kernel_rfl) _ _ _ _ (dS.below hSw HT.out) aH (by kernel_rfl) (dV _)
 try simp only[aQ]
 refine dO (fun _=>trivial) (i:=2) (o:=_) (by kernel_rfl) rfl (fun K hK=>?_);go_simp;refine ⟨trivial,bG.2 ((cL.out _).mono ?_)⟩;rintro e x1 ⟨rfl,hb1⟩;dsimp only;refine hK.out _ _ (dN hHeld hb1) (fun hHeld=>?_);clear hK K;try simp only[aQ]
 refine dH (fun _=>trivial) (by kernel_rfl) (i:=3) (oi:=_) (v:=?_) rfl (by kernel_rfl) (by kernel_rfl) (by kernel_rfl) (fun _ _ _ h=>h) (by assumption) (Or.inl ⟨by kernel_rfl,?_⟩) ?_;rotate_left
 ·intro wz hSw;first|(go_simp;done)|(go_simp;with_reducible rfl)
 try simp only[aQ]
 refine dH (fun _=>trivial) (by kernel_rfl) (i:=4) (oi:=_) (v:=?_) rfl (by kernel_rfl) (by kernel_rfl) (by kernel_rfl) (fun _ _ _ h=>h) (by assumption) (Or.inl ⟨by kernel_rfl,?_⟩) ?_;rotate_left
 ·intro wz hSw;first|(go_simp;done)|(go_simp;with_reducible rfl)
 try simp only[aQ]
 refine dH (fun _=>trivial) (by kernel_rfl) (i:=5) (oi:=_) (v:=.agg (bv x)) rfl (by kernel_rfl) (by kernel_rfl) (by kernel_rfl) (fun _ _ _ h=>h) (by assumption) (Or.inl ⟨by kernel_rfl,?_⟩) ?_
 ·intro wz hSw;exact dY 214 (.tmp 1) (by kernel_rfl) (w.heap.size) (by kernel_rfl) _ _ _ _ (dS.below hSw HX.out) aH (by kernel_rfl) (dV _)
 try simp only[aQ]
 refine dH (fun _=>trivial) (by kernel_rfl) (i:=6) (oi:=_) (v:=.agg (bv t)) rfl (by kernel_rfl) (by kernel_rfl) (by kernel_rfl) (fun _ _ _ h=>h) (by assumption) (Or.inl ⟨by kernel_rfl,?_⟩) ?_
 ·intro wz hSw;exact dY 214 (.tmp 4) (by kernel_rfl) (B) (by kernel_rfl) _ _ _ _ (dS.below hSw HT.out) aH (by kernel_rfl) (dV _)
 try simp only[aQ]
 refine dO (fun _=>trivial) (i:=7) (o:=_) (by kernel_rfl) rfl (fun K hK=>?_);go_simp;refine ⟨trivial,bG.2 ((cN.out _).mono ?_)⟩;rintro e x2 ⟨rfl,hb2⟩;dsimp only;refine hK.out _ _ (dN hHeld hb2) (fun hHeld=>?_);clear hK K;try simp only[aQ]
 refine dO (fun _=>trivial) (i:=8) (o:=_) (by kernel_rfl) rfl (fun K hK=>?_);go_simp;refine ⟨trivial,bG.2 ((cL2.out _).mono ?_)⟩;rintro e x3 ⟨rfl,hb3⟩;dsimp only;refine hK.out _ _ (dN hHeld hb3) (fun hHeld=>?_);clear hK K;try simp only[aQ]
 refine dH (fun _=>trivial) (by kernel_rfl) (i:=9) (oi:=_) (v:=?_) rfl (by kernel_rfl) (by kernel_rfl) (by kernel_rfl) (fun _ _ _ h=>h) (by assumption) (Or.inl ⟨by kernel_rfl,?_⟩) ?_;rotate_left
 ·intro wz hSw;first|(go_simp;done)|(go_simp;with_reducible rfl)
 try simp only[aQ]
 refine eH (by kernel_rfl) ?_ _
 first|(refine hKK _ _ ?_)|skip
 have Zl:=dS.below hHeld HX.out;have rR2:=WideAt.below hHeld HR.out;have HB:=dN qy.out hHeld;have hd:=Zl.head;rw[bA hneg.out] at hd;have Sv:=aA Zl;have iP:=aA rR2;have zK:=aA HB;clear hHeld HX HT HR qy Zl rR2 HB hsz;go_wp2_with fail;try rename_i KK2 hKK2
 have HTT:∀ (X:World),ToI y w X→KK2 { tmps:=#[.agg (bv x),.pointer (some ⟨w.heap.size,0,none⟩),.pointer (some ⟨w.heap.size+1,0,none⟩),.bool false,.pointer (some ⟨B,0,none⟩),undef,undef,undef,.agg (bv t),.agg (bv x),.agg (bv t),.bool true,.bool false,.bool false,.agg (bv x),.agg (bv t),.agg (bv n),.bool false,.bool false,undef,.pointer (some ⟨w.heap.size,0,none⟩),.bool true,.agg (bv x),.agg (bv t2),.agg (bv (y:Int)),undef,undef,undef,undef,undef,undef,undef,undef,undef,undef,undef,undef,undef,undef,undef,undef,undef,undef,undef,undef,undef,undef,undef],defers:=[] } X:=by
  intro X hX;refine hKK2 _ _ ?_;have oO:=aA hX;clear hX;go_wp2_with fail;go_loopg[5,6,7] 4 (ku y w)
  case atStart=>exact ⟨4,rfl,by simp[Nat.mod_one],by simp[Nat.mod_one],rfl,by omega,oO.out⟩
  case round =>
   clear oO;obtain ⟨k,rfl,rfl,rfl,rfl,hk4,I⟩:=hrel
   cases gk with
   | succ k =>
    obtain ⟨a,ha⟩:∃a,y/65536^(k+1)%65536^(4-(k+1))=a:=⟨_,rfl⟩;obtain ⟨b,hb⟩:∃b,y/65536^(k+1+4)%65536^(4-(k+1))=b:=⟨_,rfl⟩;obtain ⟨d,hd⟩:∃d,y/65536^k%65536=d:=⟨_,rfl⟩;obtain ⟨f,hf⟩:∃f,y/65536^(k+4)%65536=f:=⟨_,rfl⟩;obtain ⟨k4,hk5⟩:∃k4,k+4=k4:=⟨_,rfl⟩;have al:a<281474976710656:=by rw[←ha];exact YW _ _ (by omega)
    have bl:b<281474976710656:=by rw[←hb];exact YW _ _ (by omega)
    have dl:d<65536:=by omega
    have fl:f<65536:=by omega
    have N1:Hid (y/65536^k%65536^(4-k)=a*65536+d):=aA (by rw[AL y k (by omega),ha,hd]);have N2:Hid (y/65536^(k+4)%65536^(4-k)=b*65536+f):=aA (by
     have:=AL (y/65536^4) k (by omega);rw[Nat.div_div_eq_div_mul,Nat.div_div_eq_div_mul,←Nat.pow_add,←Nat.pow_add,Nat.add_comm 4 k,show 4+(k+1)=k+1+4 by omega,hb,hf] at this;exact this)
    have cz:wr.cell? ⟨w.heap.size,1+k,none⟩=some (.int .u64 (d:Int)):=by rw[I.bx.dig k (by omega),cH,hd]
    have cy:wr.cell? ⟨w.heap.size,1+k4,none⟩=some (.int .u64 (f:Int)):=by rw[I.bx.dig k4 (by omega),cH,←hk5,hf]
    have s1:(((k+1:Nat):Int)-1)=(k:Int):=by omega
    have HI:=aA I;have k0:(0:Int)≤(k:Int):=by omega
    have k1:(k:Int)<20:=by omega
    have k00:(0:Int)≤(k4:Int):=by omega
    have k11:(k4:Int)<20:=by omega
    have E0:IntKind.i64.wrap ((k:Int)+4)=(k4:Int):=by rw[bL];omega
    have E00:(k:Int)+4=(k4:Int):=by omega
    have E1:IntKind.u64.wrap ((a:Int)*65536)=((a*65536:Nat):Int):=by rw[aV];omega
    have E2:IntKind.u64.wrap (((a*65536:Nat):Int)+(d:Int))=((a*65536+d:Nat):Int):=by rw[aV];omega
    have E3:IntKind.u64.wrap ((b:Int)*65536)=((b*65536:Nat):Int):=by rw[aV];omega
    have E4:IntKind.u64.wrap (((b*65536:Nat):Int)+(f:Int))=((b*65536+f:Nat):Int):=by rw[aV];omega
    obtain ⟨A1,IP⟩:∃A1,a*65536=A1:=⟨_,rfl⟩;obtain ⟨A2,Fp⟩:∃A2,A1+d=A2:=⟨_,rfl⟩;obtain ⟨B1,OV⟩:∃B1,b*65536=B1:=⟨_,rfl⟩;obtain ⟨B2,BO⟩:∃B2,B1+f=B2:=⟨_,rfl⟩;rw[IP] at E1 E2;rw[Fp] at E2;rw[OV] at E3 E4;rw[BO] at E4;rw[ha,hb,s1];have N3:Hid (y/65536^k%65536^(4-k)=A2):=aA (by rw[N1.out,IP,Fp]);have N4:Hid (y/65536^(k+4)%65536^(4-k)=B2):=aA (by rw[N2.out,OV,BO]);clear I ha hb hd hf hk5 s1 IP Fp OV BO N1 N2 al bl dl fl;go_wp2_with fail;go_roundg k
    case measure=>omega
    case rel =>
     refine ⟨k,rfl,?_,?_,?_,by omega,HI.out⟩
     ·rw[N3.out]
     ·rw[N4.out]
     ·go_num
   | zero =>
    have HI:=aA I;have e1:y/65536^0%65536^(4-0)=lo:=by rw[Nat.pow_zero,Nat.div_one];exact KJ.out
    have e2:y/65536^(0+4)%65536^(4-0)=hi:=Nl.out;rw[e1,e2];have BR:=aA I.br;clear I e1 e2;have n0:¬ (0:Int)≤((0:Nat):Int)-1:=by omega
    have c0:=BR.out.c0;have c1:=BR.out.c1;have f0:=BR.out.fr 0;have f1:=BR.out.fr 1;go_wp2_with fail
    (try simp only[Exit.inBlock,Exit.then])
    refine aO (v:=.tuple #[.agg #[.int .i64 h,.int .u64 lo],.bool true]) (eY rfl _ _ (w.heap.size+1) _ _ _ _ _ rfl (WideAt.rC (h:=h) (l:=lo) BR.out) underlying220 rfl (by kernel_rfl) rfl) rfl ?_;exact ⟨rfl,Below.rC HI.out.below (by omega) _ _⟩
 refine (bN (n:=5)).1 (eI (F:=Fence.wide) (S:=fun X=>True) (by kernel_rfl) trivial (fun hHeld=>?_));clear hHeld;have hs0:Hd x w x3.drew:=Hd.up ⟨Sv.out,iP.out,zK.out⟩ (eM _ _ 1);refine kY (fun _=>trivial) (i:=0) (j:=1) (o:=_) (o2:=_) (by kernel_rfl) rfl rfl (fun K hK=>?_) (fun K hK=>?_)
 ·rw[aZ (by kernel_rfl)]
  refine mZ (fun _=>trivial) 214 (.tmp 1) (by kernel_rfl) (w.heap.size) (by kernel_rfl) _ (bv x) _ _ hs0.bx aH (by kernel_rfl) (dV _) ?_;refine hK.out _ _ trivial (fun _=>?_);clear hK K;try simp only[aQ]
  refine dO (fun _=>trivial) (i:=1) (o:=_) (by kernel_rfl) rfl (fun K hK=>?_);go_simp;refine ⟨trivial,bG.2 ((cT2.out _).mono ?_)⟩;rintro e x4 ⟨rfl,hb4⟩;dsimp only;have hs1:=Hd.up hs0 hb4;refine hK.out _ _ (trivial) (fun hHeld=>?_);clear hK K;try simp only[aQ]
  refine dO (fun _=>trivial) (i:=2) (o:=_) (by kernel_rfl) rfl (fun K hK=>?_);go_simp;refine ⟨trivial,bG.2 ((cA.out _).mono ?_)⟩;rintro e x5 ⟨rfl,jT⟩;dsimp only;have hs2:=Hd.up hs1 jT;refine hK.out _ _ (trivial) (fun hHeld=>?_);clear hK K;try simp only[aQ]
  refine dO (fun _=>trivial) (i:=3) (o:=_) (by kernel_rfl) rfl (fun K hK=>?_);rw[aZ (by kernel_rfl)];refine eD (fun _=>trivial) 214 (.tmp 1) (.tmp 24) (by kernel_rfl) (w.heap.size) _ _ (bv (y:Int)) (by kernel_rfl) (by kernel_rfl) hs2.bx (dV _) (fT _ _) (gT _) ?_;refine hK.out _ _ trivial (fun _=>?_);clear hK K;try simp only[aQ]
  exact eH (by kernel_rfl) (HTT _ (Hd.put y hs2)) _
 ·go_simp
  refine ⟨trivial,bG.2 ((cT2.out _).mono ?_)⟩;rintro e x4 ⟨rfl,hb4⟩;dsimp only;have hs1:=Hd.up hs0 hb4;refine hK.out _ _ (trivial) (fun hHeld=>?_);clear hK K;try simp only[aQ]
  refine dO (fun _=>trivial) (i:=0) (o:=_) (by kernel_rfl) rfl (fun K hK=>?_);rw[aZ (by kernel_rfl)];refine mZ (fun _=>trivial) 214 (.tmp 1) (by kernel_rfl) (w.heap.size) (by kernel_rfl) _ (bv x) _ _ hs1.bx aH (by kernel_rfl) (dV _) ?_;refine hK.out _ _ trivial (fun _=>?_);clear hK K;try simp only[aQ]
  refine dO (fun _=>trivial) (i:=2) (o:=_) (by kernel_rfl) rfl (fun K hK=>?_);go_simp;refine ⟨trivial,bG.2 ((cA.out _).mono ?_)⟩;rintro e x5 ⟨rfl,jT⟩;dsimp only;have hs2:=Hd.up hs1 jT;refine hK.out _ _ (trivial) (fun hHeld=>?_);clear hK K;try simp only[aQ]
  refine dO (fun _=>trivial) (i:=3) (o:=_) (by kernel_rfl) rfl (fun K hK=>?_);rw[aZ (by kernel_rfl)];refine eD (fun _=>trivial) 214 (.tmp 1) (.tmp 24) (by kernel_rfl) (w.heap.size) _ _ (bv (y:Int)) (by kernel_rfl) (by kernel_rfl) hs2.bx (dV _) (fT _ _) (gT _) ?_;refine hK.out _ _ trivial (fun _=>?_);clear hK K;try simp only[aQ]
  exact eH (by kernel_rfl) (HTT _ (Hd.put y hs2)) _
def RetT (x:Int)(w:World)(e:Ending)(w':World):Prop:=∃h:Int,∃l:Nat,e=.returned (.tuple #[.agg #[.int .i64 h,.int .u64 l],.bool (decide (In x))])∧At (wV x) h l∧Below w.heap.size w w'
theorem to_z (x:Int)(w:World)(hx:x.natAbs<65536^18)(sB:In x):Calls prog 160 #[.agg (bv x)] w (RetT x w):=by
 have e127:(2:Int)^127=170141183460469231731687303715884105728:=by decide
 have e128:(2:Int)^128=340282366920938463463374607431768211456:=by decide
 have e4:(65536:Nat)^4=18446744073709551616:=by decide
 have e18:(65536:Nat)^18<BB-340282366920938463463374607431768211456:=by decide
 have cT:Hid (vH 169 #[.int .i64 127] (.agg (bv (2^127)))):=aA fun w=>Ug w
 have cT2:Hid (vH 169 #[.int .i64 128] (.agg (bv (2^128)))):=aA fun w=>Uf w
 have cN:Hid (vH 168 #[.agg (bv (2^127))] (.agg (bv (-2^127)))):=aA fun w=>Li _ w (by decide)
 have cL:=fun w=>Lz x (2^127) w (by rw[e127];omega)
 have cL2:=fun w=>Lz x (-2^127) w (by rw[e127];omega)
 by_cases h1:x<2^127
 ·rw[bA h1] at cL
  by_cases h2:x < -2^127
  ·exact absurd sB (by unfold In;rw[e127] at h2;omega)
  ·rw[aN h2] at cL2
   have hn:In x:=by unfold In;rw[e127] at h1 h2;omega
   rw[e127] at h1 h2;by_cases h0:x<0
   ·obtain ⟨y,hy⟩:∃y:Nat,x+2^128=(y:Int):=⟨(x+2^128).natAbs,by rw[e128];omega⟩
    have hy2:=hy;rw[e128] at hy2;obtain ⟨lo,KJ⟩:∃lo,y%65536^4=lo:=⟨_,rfl⟩;obtain ⟨hi,Nl⟩:∃hi,y/65536^4%65536^4=hi:=⟨_,rfl⟩;have hlo2:=KJ;have hhi2:=Nl;rw[e4] at hlo2 hhi2;have hh:IntKind.i64.wrap (hi:Int)=(hi:Int)-18446744073709551616:=by rw[bL];omega
    refine (uy x (2^127) (-2^127) (2^128) y lo hi _ w cT (aA cL) cN (aA cL2) (aA KJ) (aA Nl) hh (aA h0) cT2 (aA fun w=>by
     have:=TX x (2^128) w (by rw[e128];omega);rw[hy] at this;exact this)).mono ?_
    rintro e w' ⟨rfl,hb⟩;exact ⟨_,_,by rw[bA hn],by unfold wV;rw[aZ hn];unfold At;omega,hb⟩
   ·obtain ⟨y,hy⟩:∃y:Nat,x=(y:Int):=⟨x.natAbs,by omega⟩
    obtain ⟨lo,KJ⟩:∃lo,y%65536^4=lo:=⟨_,rfl⟩;obtain ⟨hi,Nl⟩:∃hi,y/65536^4%65536^4=hi:=⟨_,rfl⟩;have hlo2:=KJ;have hhi2:=Nl;rw[e4] at hlo2 hhi2;have hh:IntKind.i64.wrap (hi:Int)=(hi:Int):=by rw[bL];omega
    refine (uq x (2^127) (-2^127) y lo hi _ w cT (aA cL) cN (aA cL2) (aA KJ) (aA Nl) hh (aA hy)).mono ?_;rintro e w' ⟨rfl,hb⟩;exact ⟨_,_,by rw[bA hn],by unfold wV;rw[aZ hn];unfold At;omega,hb⟩
 ·exact absurd sB (by unfold In;rw[e127] at h1;omega)
theorem dS.Kf {g:Nat}{z:Int}{W:World}(h:dS g z W)(b:Bool):(W.setCell ⟨g,0,none⟩ (.bool b)).heap[g]?=some (.cells (dW b (dg z.natAbs)) 214 (0,0)):=by
 rw[aM _ _ _ _ _ _ h];unfold bv;rw[uI]
theorem dS.neg {g:Nat}{q:Nat}{W:World}(h:dS g (q:Int) W)(b:Bool)(z:Int)(hz:decide (z<0)=b)(hq:z.natAbs=q):dS g z (W.setCell ⟨g,0,none⟩ (.bool b)):=by
 have:=h.Kf b;unfold dS bv;rw[hz,hq,this,cH]
theorem dg_inc (r b:Nat)(hb:b≤1)(hr:r%2=0):(dg r).set 0 (r%65536+b)=dg (r+b):=by
 unfold dg;rw[show nD 20 r=r%65536::nD 19 (r/65536) from rfl,show nD 20 (r+b)=(r+b)%65536::nD 19 ((r+b)/65536) from rfl,List.set_cons_zero,show (r+b)%65536=r%65536+b by omega,show (r+b)/65536=r/65536 by omega]
theorem dS.inc {g r b:Nat}{W:World}(h:dS g (r:Int) W)(hb:b≤1)(hr:r%2=0):dS g ((r+b:Nat):Int) (W.setCell ⟨g,1,none⟩ (.int .u64 ((r%65536+b:Nat):Int))):=by
 unfold dS;rw[show (1:Nat)=1+0 from rfl,aM _ _ _ _ _ _ h];unfold bv;rw[NW,cH,cH,dg_inc r b hb hr]
 congr 3
theorem dS.row {g:Nat}{z:Int}{W:World}(h:dS g z W)(y:Int):dS g y (W.setRow g (bv y)):=setRow_heap _ _ _ _ _ _ h
theorem dS.other {g k:Nat}{z:Int}{W:World}(h:dS g z W)(hk:g≠k)(c:Array Value):dS g z (W.setRow k c):=by unfold dS;rw[setRow_other _ _ _ _ hk];exact h
theorem dS.iU {g k j:Nat}{z:Int}{W:World}(h:dS g z W)(hk:g≠k)(v:Value):dS g z (W.setCell ⟨k,j,none⟩ v):=by unfold dS;rw[aK _ _ _ _ (by show g≠k;exact hk)];exact h
theorem uG (n:Nat):bv (n:Int)=dW false (dg n):=by
 unfold bv;rw[aN (by omega),cH]
theorem Ll (a b:Nat)(w:World):Calls prog 165 #[.agg (bv (a:Int)),.agg (bv (b:Int))] w (OB ((a+b:Nat):Int) w):=by
 have:=xF false false (dg a) (dg b) w (uF _) (uF _);rw[Qf,←uG,←uG] at this;refine this.mono ?_;rintro e w' ⟨rfl,hb⟩;exact ⟨by rw[uG],hb⟩
theorem aAf (a b:Nat)(w:World)(ha:a<BB)(hb:b<BB):Calls prog 166 #[.agg (bv (a:Int)),.agg (bv (b:Int))] w fun e w'=>e=.returned (.bool (decide (a<b)))∧Below w.heap.size w w':=by
 have:=QZ false false (dg a) (dg b) w (fD _) (fD _);rw[Af ha hb,←uG,←uG] at this;exact this
theorem away_n (a b:Nat)(w:World)(h:b≤a):Calls prog 167 #[.agg (bv (a:Int)),.agg (bv (b:Int))] w (OB ((a-b:Nat):Int) w):=by
 have:=FU false false (dg a) (dg b) w (uF _) (uF _);rw[VO h,←uG,←uG] at this;refine this.mono ?_;rintro e w' ⟨rfl,hb⟩;exact ⟨by rw[uG],hb⟩
theorem DZ (z:Int)(b:Bool)(w:World)(hz:z.natAbs<BB)(hb:decide (z=0)=b):Calls prog 164 #[.agg (bv z)] w fun e w'=>e=.returned (.bool b)∧Below w.heap.size w w':=by
 have:=nM (decide (z<0)) (dg z.natAbs) w (fD _);rw[pY hz] at this;rw[show b=decide (z.natAbs=0) by rw[←hb,cJ];omega];exact this
structure wP (x c:Int)(n q r B:Nat)(w W:World):Prop where
 bx:dS w.heap.size x W
 bc:dS (w.heap.size+1) c W
 r1:dS (w.heap.size+1+1) 0 W
 r2:dS (w.heap.size+1+1+1) 0 W
 bq:dS B (q:Int) W
 br:dS (B+1) (r:Int) W
 bd:dS (B+1+1) (n:Int) W
 hB:w.heap.size+1+1+1<B
 below:Below w.heap.size w W
theorem wP.up {x c:Int}{n q r B:Nat}{w W X:World}(i:wP x c n q r B w W)(hb:Below W.heap.size W X):wP x c n q r B w X :=
 ⟨dS.below hb i.bx,dS.below hb i.bc,dS.below hb i.r1,dS.below hb i.r2,dS.below hb i.bq,dS.below hb i.br,dS.below hb i.bd,i.hB,dN i.below hb⟩
theorem wP.putR {x c:Int}{n q r B:Nat}{w W:World}(i:wP x c n q r B w W)(s:Nat):wP x c n q s B w (W.setRow (B+1) (bv (s:Int))):=by
 have hB:=i.hB;exact ⟨i.bx.other (by omega) _,i.bc.other (by omega) _,i.r1.other (by omega) _,i.r2.other (by omega) _,i.bq.other (by omega) _,i.br.row _,i.bd.other (by omega) _,hB,Below.row i.below (by omega) _⟩
theorem wP.yu {x c:Int}{n q r B:Nat}{w W:World}(i:wP x c n q r B w W)(s:Nat):wP x c n s r B w (W.setRow B (bv (s:Int))):=by
 have hB:=i.hB;exact ⟨i.bx.other (by omega) _,i.bc.other (by omega) _,i.r1.other (by omega) _,i.r2.other (by omega) _,i.bq.row _,i.br.other (by omega) _,i.bd.other (by omega) _,hB,Below.row i.below (by omega) _⟩
theorem wP.incR {x c:Int}{n q r B:Nat}{w W:World}(i:wP x c n q r B w W){b:Nat}(hb:b≤1)(hr:r%2=0):wP x c n q (r+b) B w (W.setCell ⟨B+1,1,none⟩ (.int .u64 ((r%65536+b:Nat):Int))):=by
 have hB:=i.hB;exact ⟨i.bx.iU (by omega) _,i.bc.iU (by omega) _,i.r1.iU (by omega) _,i.r2.iU (by omega) _,i.bq.iU (by omega) _,i.br.inc hb hr,i.bd.iU (by omega) _,hB,i.below.setCell (p:=⟨B+1,1,none⟩) (by show _≤B+1;omega) _⟩
theorem wP.incQ {x c:Int}{n q r B:Nat}{w W:World}(i:wP x c n q r B w W)(hr:q%2=0):wP x c n (q+1) r B w (W.setCell ⟨B,1,none⟩ (.int .u64 ((q%65536+1:Nat):Int))):=by
 have hB:=i.hB;exact ⟨i.bx.iU (by omega) _,i.bc.iU (by omega) _,i.r1.iU (by omega) _,i.r2.iU (by omega) _,i.bq.inc (by omega) hr,i.br.iU (by omega) _,i.bd.iU (by omega) _,hB,i.below.setCell (p:=⟨B,1,none⟩) (by show _≤B;omega) _⟩
def DoRel (x c:Int)(m n B:Nat)(w:World)(g:Nat)(s:Value)(W:World):Prop :=
 g≤144∧s=.int .i64 ((g:Int)-1)∧wP x c n (m/2^g/n) (m/2^g%n) B w W
def DiRel (x c:Int)(n q r B D e:Nat)(w:World)(g:Nat)(s11 s12:Value)(W:World):Prop :=
 ∃j:Nat,g=e-j∧s11=.int .u64 ((D/2^j:Nat):Int)∧s12=.int .i64 (j:Int)∧j≤e∧wP x c n q r B w W
theorem Xh {m n k q r b:Nat}(hn:0<n)(hq:m/2^(k+1)/n=q)(hr:m/2^(k+1)%n=r)(hb:m/2^k%2=b) :
  (r+r+b<n→m/2^k/n=q+q∧m/2^k%n=r+r+b)∧(¬ r+r+b<n→m/2^k/n=q+q+1∧m/2^k%n=r+r+b-n):=by
 have h1:m/2^(k+1)=m/2^k/2:=by rw[bY,Nat.div_div_eq_div_mul]
 rw[h1] at hq hr;generalize m/2^k=M at *;have h2:=Nat.div_add_mod (M/2) n;rw[hq,hr] at h2;have SE:r<n:=by rw[←hr];exact cO _ hn
 have h3:n*(q+q)=n*q+n*q:=Nat.mul_add _ _ _;have h4:n*(q+q+1)=n*q+n*q+n:=by rw[Nat.mul_add,h3,Nat.mul_one]
 refine ⟨fun h=>(Nat.div_mod_unique hn).2 ⟨?_,h⟩,fun h=>(Nat.div_mod_unique hn).2 ⟨?_,by omega⟩⟩
 ·omega
 ·omega
theorem dv_bit (m k:Nat):m/65536^(k/16)%65536/2^(k%16)%2=m/2^k%2:=by
 have e1:(65536:Nat)^(k/16)=2^(16*(k/16)):=by rw[show (65536:Nat)=2^16 by decide,←Nat.pow_mul]
 have e2:k=16*(k/16)+k%16:=by omega
 have e3:m/2^k=m/2^(16*(k/16))/2^(k%16):=by
  conv=>lhs;rw[e2,Nat.pow_add,←Nat.div_div_eq_div_mul]
 rw[e1,e3];generalize m/2^(16*(k/16))=u;have e4:(65536:Nat)=2^(k%16)*2^(16-k%16):=by rw[←Nat.pow_add,show k%16+(16-k%16)=16 by omega]
 rw[e4,Nat.mod_mul_right_div_self,show 16-k%16=1+(15-k%16) by omega,Nat.pow_add,Nat.pow_one,Nat.mod_mul_right_mod]
theorem dv_le {m n r k:Nat}(hn:0<n)(h:m/2^k%n=r):r<n:=by rw[←h];exact cO _ hn
end Fx
end Go.Proofs.YtbbhmhihpdmoiaaGreat
