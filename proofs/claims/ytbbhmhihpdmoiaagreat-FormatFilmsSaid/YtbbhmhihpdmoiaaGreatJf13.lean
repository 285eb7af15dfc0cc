import Derived.Test.YtbbhmhihpdmoiaaGreatJf12
set_option linter.unusedVariables false
set_option linter.unusedSimpArgs false
set_option maxRecDepth 100000
set_option maxHeartbeats 32000000
namespace Go.Proofs.YtbbhmhihpdmoiaaGreat
open Go.Proofs.Tryz
namespace Pk
open Fx (dU eK gD dF eA)
open Go Go.RowKit
def pB (lost:Bool)(n dR:Nat):Int:=if lost=true∨dR<n then 50 else 0
theorem PH (o:Option Addr)(c:Nat)(l:List Nat)(p dR:Nat)(lost:Bool)(w:World)(k:fW l dR)(h:ZR o c l p dR lost w) :
  Calls prog 49 #[.pointer (some ⟨p,0,none⟩)] w fun e w'=>e=.returned (.int .i64 (pB lost l.length dR))∧Below w.heap.size w w':=by
 have HZ:=aA h;clear h
 cases lost with
 | true =>
  have e1:pB true l.length dR=50:=rfl;rw[e1];clear k e1;go_enter func49,ntmps49;go_wp2_with fail;rename_i K1 jq;refine (bN (n:=5)).1 (eA (S:=fun X=>Below w.heap.size w X) (Z:=[]) (by kernel_rfl) (by kernel_rfl) dU (fun d _ _ _ _ h=>by cases d <;> exact h) (eM _ _ 1) (fun hG rA hw0=>?_));refine dF [] 0 (?_) hG rfl (by kernel_rfl) hw0 (by kernel_rfl) ?_ ?_;rotate_left
  ·intro wz hSw;first|(go_simp;done)|(go_simp;with_reducible rfl)
  intro qZ kS;clear hw0 rA;try simp only[aQ]
  refine dF [] 1 (?_) hG rfl (by kernel_rfl) kS (by kernel_rfl) ?_ ?_;rotate_left
  ·intro wz hSw;first|(go_simp;done)|(go_simp;with_reducible rfl)
  intro qY hw2;clear kS qZ;try simp only[aQ]
  refine dF [] 2 (?_) hG rfl (by kernel_rfl) hw2 (by kernel_rfl) ?_ ?_;rotate_left
  ·intro wz hSw;first|(go_simp;done)|(go_simp;with_reducible rfl)
  intro qX hw3;clear hw2 qY;try simp only[aQ]
  refine dF [] 3 (.bool true) hG rfl (by kernel_rfl) hw3 (by kernel_rfl) ?_ ?_
  ·intro wz hSw;obtain ⟨c0,c1,c2,_,_⟩:=(HZ.out.below hSw).facts;(first|(go_simp;done)|(go_simp;with_reducible rfl))
  intro qW hw4;clear hw3 qX;try simp only[aQ]
  refine dF [] 4 (?_) hG rfl (by kernel_rfl) hw4 (by kernel_rfl) ?_ ?_;rotate_left
  ·intro wz hSw;first|(go_simp;done)|(go_simp;with_reducible rfl)
  intro qV lB;clear hw4 qW;try simp only[aQ]
  refine gD [] 5 hG rfl (by kernel_rfl) lB (by kernel_rfl) ?_;intro qU kA;clear lB qV;try simp only[aQ]
  refine gD [] 6 hG rfl (by kernel_rfl) kA (by kernel_rfl) ?_;intro qC kP;clear kA qU;try simp only[aQ]
  refine gD [] 7 hG rfl (by kernel_rfl) kP (by kernel_rfl) ?_;intro sF kH;clear kP qC;try simp only[aQ]
  refine gD [] 8 hG rfl (by kernel_rfl) kH (by kernel_rfl) ?_;intro sD lI;clear kH sF;try simp only[aQ]
  refine gD [] 9 hG rfl (by kernel_rfl) lI (by kernel_rfl) ?_;intro jG gH;clear lI sD;try simp only[aQ]
  refine gD [] 10 hG rfl (by kernel_rfl) gH (by kernel_rfl) ?_;intro kL gQ;clear gH jG;try simp only[aQ]
  refine gD [] 11 hG rfl (by kernel_rfl) gQ (by kernel_rfl) ?_;intro lH iG;clear gQ kL;try simp only[aQ]
  refine gD [] 12 hG rfl (by kernel_rfl) iG (by kernel_rfl) ?_;intro mS iW;clear iG lH;try simp only[aQ]
  refine gD [] 13 hG rfl (by kernel_rfl) iW (by kernel_rfl) ?_;intro nH iZ;clear iW mS;try simp only[aQ]
  refine gD [] 14 hG rfl (by kernel_rfl) iZ (by kernel_rfl) ?_;intro oB jM;clear iZ nH;try simp only[aQ]
  refine dF [] 15 (?_) hG rfl (by kernel_rfl) jM (by kernel_rfl) ?_ ?_;rotate_left
  ·intro wz hSw;first|(go_simp;done)|(go_simp;with_reducible rfl)
  intro sG jB;clear jM oB;try simp only[aQ]
  refine eK (by kernel_rfl) (?_) _;refine jq _ _ ?_;have HB:=aA jB;clear jq hG jB;go_wp2_with fail;go_ret;exact ⟨rfl,HB.out⟩
 | false =>
  by_cases hl:dR<l.length
  ·have Nb:(dR:Int)<(l.length:Int):=by omega
   have e1:pB false l.length dR=50:=aZ (Or.inr hl);rw[e1];clear k e1;go_enter func49,ntmps49;go_wp2_with fail;rename_i K1 jq;refine (bN (n:=5)).1 (eA (S:=fun X=>Below w.heap.size w X) (Z:=[]) (by kernel_rfl) (by kernel_rfl) dU (fun d _ _ _ _ h=>by cases d <;> exact h) (eM _ _ 1) (fun hG rA hw0=>?_));refine dF [] 0 (?_) hG rfl (by kernel_rfl) hw0 (by kernel_rfl) ?_ ?_;rotate_left
   ·intro wz hSw;first|(go_simp;done)|(go_simp;with_reducible rfl)
   intro qZ kS;clear hw0 rA;try simp only[aQ]
   refine dF [] 1 (?_) hG rfl (by kernel_rfl) kS (by kernel_rfl) ?_ ?_;rotate_left
   ·intro wz hSw;first|(go_simp;done)|(go_simp;with_reducible rfl)
   intro qY hw2;clear kS qZ;try simp only[aQ]
   refine dF [] 2 (?_) hG rfl (by kernel_rfl) hw2 (by kernel_rfl) ?_ ?_;rotate_left
   ·intro wz hSw;first|(go_simp;done)|(go_simp;with_reducible rfl)
   intro qX hw3;clear hw2 qY;try simp only[aQ]
   refine dF [] 3 (.bool false) hG rfl (by kernel_rfl) hw3 (by kernel_rfl) ?_ ?_
   ·intro wz hSw;obtain ⟨c0,c1,c2,_,_⟩:=(HZ.out.below hSw).facts;(first|(go_simp;done)|(go_simp;with_reducible rfl))
   intro qW hw4;clear hw3 qX;try simp only[aQ]
   refine dF [] 4 (?_) hG rfl (by kernel_rfl) hw4 (by kernel_rfl) ?_ ?_;rotate_left
   ·intro wz hSw;first|(go_simp;done)|(go_simp;with_reducible rfl)
   intro qV lB;clear hw4 qW;try simp only[aQ]
   refine dF [] 5 (?_) hG rfl (by kernel_rfl) lB (by kernel_rfl) ?_ ?_;rotate_left
   ·intro wz hSw;first|(go_simp;done)|(go_simp;with_reducible rfl)
   intro qU kA;clear lB qV;try simp only[aQ]
   refine dF [] 6 (?_) hG rfl (by kernel_rfl) kA (by kernel_rfl) ?_ ?_;rotate_left
   ·intro wz hSw;first|(go_simp;done)|(go_simp;with_reducible rfl)
   intro qC kP;clear kA qU;try simp only[aQ]
   refine dF [] 7 (?_) hG rfl (by kernel_rfl) kP (by kernel_rfl) ?_ ?_;rotate_left
   ·intro wz hSw;first|(go_simp;done)|(go_simp;with_reducible rfl)
   intro sF kH;clear kP qC;try simp only[aQ]
   refine dF [] 8 (.int .i64 (dR:Int)) hG rfl (by kernel_rfl) kH (by kernel_rfl) ?_ ?_
   ·intro wz hSw;obtain ⟨c0,c1,c2,_,_⟩:=(HZ.out.below hSw).facts;(first|(go_simp;done)|(go_simp;with_reducible rfl))
   intro sD lI;clear kH sF;try simp only[aQ]
   refine dF [] 9 (?_) hG rfl (by kernel_rfl) lI (by kernel_rfl) ?_ ?_;rotate_left
   ·intro wz hSw;first|(go_simp;done)|(go_simp;with_reducible rfl)
   intro jG gH;clear lI sD;try simp only[aQ]
   refine dF [] 10 (?_) hG rfl (by kernel_rfl) gH (by kernel_rfl) ?_ ?_;rotate_left
   ·intro wz hSw;first|(go_simp;done)|(go_simp;with_reducible rfl)
   intro kL gQ;clear gH jG;try simp only[aQ]
   refine dF [] 11 (?_) hG rfl (by kernel_rfl) gQ (by kernel_rfl) ?_ ?_;rotate_left
   ·intro wz hSw;first|(go_simp;done)|(go_simp;with_reducible rfl)
   intro lH iG;clear gQ kL;try simp only[aQ]
   refine dF [] 12 (.slice o l.length c) hG rfl (by kernel_rfl) iG (by kernel_rfl) ?_ ?_
   ·intro wz hSw;obtain ⟨c0,c1,c2,_,_⟩:=(HZ.out.below hSw).facts;(first|(go_simp;done)|(go_simp;with_reducible rfl))
   intro mS iW;clear iG lH;try simp only[aQ]
   refine dF [] 13 (?_) hG rfl (by kernel_rfl) iW (by kernel_rfl) ?_ ?_;rotate_left
   ·intro wz hSw;first|(go_simp;done)|(go_simp;with_reducible rfl)
   intro nH iZ;clear iW mS;try simp only[aQ]
   refine dF [] 14 (.bool true) hG rfl (by kernel_rfl) iZ (by kernel_rfl) ?_ ?_
   ·intro wz hSw;(first|(go_simp;done)|(go_simp;exact Nb)|(go_simp;omega))
   intro oB jM;clear iZ nH;try simp only[aQ]
   refine dF [] 15 (?_) hG rfl (by kernel_rfl) jM (by kernel_rfl) ?_ ?_;rotate_left
   ·intro wz hSw;first|(go_simp;done)|(go_simp;with_reducible rfl)
   intro sG jB;clear jM oB;try simp only[aQ]
   refine eK (by kernel_rfl) (?_) _;refine jq _ _ ?_;have HB:=aA jB;clear jq hG jB;go_wp2_with fail;go_ret;exact ⟨rfl,HB.out⟩
  ·have Nb:¬ (dR:Int)<(l.length:Int):=by omega
   have e1:pB false l.length dR=0:=bF (fun h=>h.elim (fun h=>by cases h) hl);rw[e1];clear k e1;go_enter func49,ntmps49;go_wp2_with fail;rename_i K1 jq;refine (bN (n:=5)).1 (eA (S:=fun X=>Below w.heap.size w X) (Z:=[]) (by kernel_rfl) (by kernel_rfl) dU (fun d _ _ _ _ h=>by cases d <;> exact h) (eM _ _ 1) (fun hG rA hw0=>?_));refine dF [] 0 (?_) hG rfl (by kernel_rfl) hw0 (by kernel_rfl) ?_ ?_;rotate_left
   ·intro wz hSw;first|(go_simp;done)|(go_simp;with_reducible rfl)
   intro qZ kS;clear hw0 rA;try simp only[aQ]
   refine dF [] 1 (?_) hG rfl (by kernel_rfl) kS (by kernel_rfl) ?_ ?_;rotate_left
   ·intro wz hSw;first|(go_simp;done)|(go_simp;with_reducible rfl)
   intro qY hw2;clear kS qZ;try simp only[aQ]
   refine dF [] 2 (?_) hG rfl (by kernel_rfl) hw2 (by kernel_rfl) ?_ ?_;rotate_left
   ·intro wz hSw;first|(go_simp;done)|(go_simp;with_reducible rfl)
   intro qX hw3;clear hw2 qY;try simp only[aQ]
   refine dF [] 3 (.bool false) hG rfl (by kernel_rfl) hw3 (by kernel_rfl) ?_ ?_
   ·intro wz hSw;obtain ⟨c0,c1,c2,_,_⟩:=(HZ.out.below hSw).facts;(first|(go_simp;done)|(go_simp;with_reducible rfl))
   intro qW hw4;clear hw3 qX;try simp only[aQ]
   refine dF [] 4 (?_) hG rfl (by kernel_rfl) hw4 (by kernel_rfl) ?_ ?_;rotate_left
   ·intro wz hSw;first|(go_simp;done)|(go_simp;with_reducible rfl)
   intro qV lB;clear hw4 qW;try simp only[aQ]
   refine dF [] 5 (?_) hG rfl (by kernel_rfl) lB (by kernel_rfl) ?_ ?_;rotate_left
   ·intro wz hSw;first|(go_simp;done)|(go_simp;with_reducible rfl)
   intro qU kA;clear lB qV;try simp only[aQ]
   refine dF [] 6 (?_) hG rfl (by kernel_rfl) kA (by kernel_rfl) ?_ ?_;rotate_left
   ·intro wz hSw;first|(go_simp;done)|(go_simp;with_reducible rfl)
   intro qC kP;clear kA qU;try simp only[aQ]
   refine dF [] 7 (?_) hG rfl (by kernel_rfl) kP (by kernel_rfl) ?_ ?_;rotate_left
   ·intro wz hSw;first|(go_simp;done)|(go_simp;with_reducible rfl)
   intro sF kH;clear kP qC;try simp only[aQ]
   refine dF [] 8 (.int .i64 (dR:Int)) hG rfl (by kernel_rfl) kH (by kernel_rfl) ?_ ?_
   ·intro wz hSw;obtain ⟨c0,c1,c2,_,_⟩:=(HZ.out.below hSw).facts;(first|(go_simp;done)|(go_simp;with_reducible rfl))
   intro sD lI;clear kH sF;try simp only[aQ]
   refine dF [] 9 (?_) hG rfl (by kernel_rfl) lI (by kernel_rfl) ?_ ?_;rotate_left
   ·intro wz hSw;first|(go_simp;done)|(go_simp;with_reducible rfl)
   intro jG gH;clear lI sD;try simp only[aQ]
   refine dF [] 10 (?_) hG rfl (by kernel_rfl) gH (by kernel_rfl) ?_ ?_;rotate_left
   ·intro wz hSw;first|(go_simp;done)|(go_simp;with_reducible rfl)
   intro kL gQ;clear gH jG;try simp only[aQ]
   refine dF [] 11 (?_) hG rfl (by kernel_rfl) gQ (by kernel_rfl) ?_ ?_;rotate_left
   ·intro wz hSw;first|(go_simp;done)|(go_simp;with_reducible rfl)
   intro lH iG;clear gQ kL;try simp only[aQ]
   refine dF [] 12 (.slice o l.length c) hG rfl (by kernel_rfl) iG (by kernel_rfl) ?_ ?_
   ·intro wz hSw;obtain ⟨c0,c1,c2,_,_⟩:=(HZ.out.below hSw).facts;(first|(go_simp;done)|(go_simp;with_reducible rfl))
   intro mS iW;clear iG lH;try simp only[aQ]
   refine dF [] 13 (?_) hG rfl (by kernel_rfl) iW (by kernel_rfl) ?_ ?_;rotate_left
   ·intro wz hSw;first|(go_simp;done)|(go_simp;with_reducible rfl)
   intro nH iZ;clear iW mS;try simp only[aQ]
   refine dF [] 14 (.bool false) hG rfl (by kernel_rfl) iZ (by kernel_rfl) ?_ ?_
   ·intro wz hSw;(first|(go_simp;done)|(go_simp;exact Nb)|(go_simp;omega))
   intro oB jM;clear iZ nH;try simp only[aQ]
   refine dF [] 15 (?_) hG rfl (by kernel_rfl) jM (by kernel_rfl) ?_ ?_;rotate_left
   ·intro wz hSw;first|(go_simp;done)|(go_simp;with_reducible rfl)
   intro sG jB;clear jM oB;try simp only[aQ]
   refine eK (by kernel_rfl) (?_) _;refine jq _ _ ?_;have HB:=aA jB;clear jq hG jB;go_wp2_with fail;go_ret;exact ⟨rfl,HB.out⟩
end Pk
namespace Pk
open Go Go.RowKit
def iO (o:Option Addr)(c l:Nat):Option Addr:=o.map fun a=>if c=l then a else ⟨a.block,a.off+l,none⟩
theorem Bs.cut {W:World}{o:Option Addr}{m:List Nat}{c l h:Nat}(hb:Bs W o m)(hl:l≤h)(hh:h≤m.length)(hc:m.length≤c):Bs W (iO o c l) ((m.drop l).take (h-l)):=fun j hj=>by
 have EL:j<h-l:=by simp at hj;omega
 obtain ⟨b,off,e,hcell⟩:=hb (l+j) (by omega);subst e;refine ⟨b,off+l,?_,?_⟩
 ·unfold iO
  simp only[Option.map_some];rw[bF (by omega)]
 ·rw[show off+l+j=off+(l+j) by omega,hcell]
  congr 3
  simp[List.getD,List.getElem?_take,List.getElem?_drop,EL]
theorem LX (W:World)(o:Option Addr)(n c l h:Nat)(hl:l≤h)(hh:h≤c)(ho:o=none→c=0)(hs:0<c→∀a,o=some a→a.spot=none) :
  (Instr.slice 31 (.slice o n c) (some (.int .i64 (l:Int))) (some (.int .i64 (h:Int))) none).run prog W=.ok (.slice (iO o c l) (h-l) (c-l)) W:=by
 have ht:prog.underlying 31=some (.slice 5):=bJ;have hz:∀w,(Go.sizeOf 5).run prog w=.ok 1 w:=fun _=>by kernel_rfl
 have Am:prog.underlying 31=some (.slice (prog.elem 31)):=by simp[Program.elem,ht]
 have he:prog.elem 31=5:=by simp[Program.elem,ht]
 rw[run_slice_lh W 31 _ _ _ Am .i64 .i64 _ _ (by omega) (by omega) (by omega),he,hz]
 cases o with
 | none =>
  obtain rfl:=ho rfl;obtain rfl:h=0:=by omega
  obtain rfl:l=0:=by omega
  simp[Result.andThen,sliced,iO]
 | some a =>
  obtain ⟨b,off,spot⟩:=a;by_cases Av:c=l
  ·subst Av
   simp[Result.andThen,sliced,Addr.add,iO]
  ·obtain rfl:spot=none:=hs (by omega) _ rfl
   by_cases h0:l=0
   ·subst h0
    simp[Result.andThen,sliced,Addr.add,iO,Av]
   ·simp[Result.andThen,sliced,Addr.add,iO,Av,h0]
theorem TI {o:Oper}{a:Act}{W:World}(x y z:Operand)(ho:o.op=.slice 31 x (some y) (some z) none)(oa:Option Addr)(n c l h:Nat)(i j:Int)(hi:i=(l:Int))(hj:j=(h:Int))(hx:a.eval x=.slice oa n c)(hy:a.eval y=.int .i64 i)(hz:a.eval z=.int .i64 j)
  (hl:l≤h) (hh:h≤c) (hn:oa=none→c=0) (hs:0<c→∀a,oa=some a→a.spot=none) :
  (execOp a.eval o).run prog W=.ok (.value (.slice (iO oa c l) (h-l) (c-l))) W:=by
 subst hi hj;have Am:prog.underlying 31=some (.slice (prog.elem 31)):=by simp[Program.elem,bJ]
 unfold execOp;simp only[ho,hx,hy,hz,Option.map_some,Option.map_none,Sem.run_bind,run_sliceAt_slice W 31 _ _ _ _ Am,LX W oa n c l h hl hh hn hs,Result.andThen_ok,Sem.run_pure]
theorem Jg {n:Nat}{o:Oper}{a:Act}{K:Act→World→Prop}{Q:Exit→Act→World→Prop}{w:World}(s x:Operand)
  (ho:o.op=.call { callee:=.builtin .append,args:=#[s,x],argTypes:=#[31,31] })
  (B:Nat) (v:Value) (l:List Nat) (hs:a.eval s=v) (hown:Own w B v l) (ox:Option Addr) (m:List Nat) (c:Nat) (hx:a.eval x=.slice ox m.length c) (hc:ox=none→c=0) (hb:Bs w ox m)
  (hlen:l.length+m.length≤1000000000) (hbase:B≤w.heap.size)
  (h:∀v' w',Own w' B v' (l++m)→w.grownBy w' v.ownBlock→K (a.put o.dst v') w'):Oper.wpIn Fence.wide n prog o a w K Q:=by
 obtain ⟨i0,hi,hz0,hz1,hz2⟩:=info_parts info5;unfold Oper.wpIn;rw[Oper.semAt_plain _ _ _ (by intro c e;rw[ho] at e;cases e)];refine ⟨fun _ _=>trivial,?_⟩
 cases ox with
 | none =>
  obtain rfl:=wA hb;obtain rfl:=hc rfl;have hrun:=run_append_owned_none (P:=prog) (w:=w) B 31 o.type 5 i0 1 bJ hi v l.length (l.map fO) hown;unfold execOp;simp only[List.length_nil] at hx;simp only[ho,resolve,invoke,builtin,Sem.run_bind,Sem.run_pure,Result.andThen_ok,List.map_toArray,List.map_cons,List.map_nil,hs,hx,hrun];exact h v w (by rw[List.append_nil];exact hown) (cG _ _)
 | some ad =>
  obtain ⟨v',w',hr,h2,h3,h4⟩:=run_append_own (P:=prog) w B 31 o.type 5 i0 (.int .u8 0) 1 1 bJ hi hz0 hz1 hz2 rfl (by decide) v l.length (l.map fO) hown ad m.length c (m.map fO) (by simp) (kO hb ad rfl) (kN m) (by unfold maxLen;omega) (by omega) hbase;unfold execOp;simp only[ho,resolve,invoke,builtin,Sem.run_bind,Sem.run_pure,Result.andThen_ok,List.map_toArray,List.map_cons,List.map_nil,hs,hx,hr];exact h v' w' (by unfold Own;rw[aI,List.map_append];exact h2) h3
def CO (lost:Bool)(most:Int)(l:List Nat)(dR:Nat):Option (List Nat×Nat) :=
 match rz lost most (l.drop dR) with
 | none=>none
 | some (n,j)=>if n≤l.length-(dR+j) then some ((l.drop (dR+j)).take n,j+n) else none
def txA (r:Option (List Nat×Nat))(dR:Nat):Nat:=match r with|some (_,d)=>dR+d|none=>dR
def Xz (o:Option Addr)(c:Nat)(l:List Nat)(p dR:Nat)(r:Option (List Nat×Nat))(w:World)(e:Ending)(w':World):Prop :=
 (∃v,e=.returned v∧Own w' w.heap.size v ((r.map (·.1)).getD []))∧ZR o c l p (txA r dR) r.isNone w'∧w.grownBy w' (some p)
theorem Zm {k:Nat}(h:k≤8):(2:Nat)^(64-7*k)=128*2^(64-7*(k+1)):=ZJ k (by omega)
theorem QK:∀ (f m most k a:Nat)(t:List Nat),m<128^f→m<2^(64-7*k)→k≤9→(k=0∨m≠0)→a+m*128^k≤most→DF most k a (form m++t)=some (a+m*128^k,k+(form m).length)
 | 0,m,most,k,a,t,hf,hm,hk,h0,hle=>by
  have hm0:m=0:=by simpa using hf
  subst hm0
  have hk0 : k = 0 := by rcases h0 with h | h; · exact h
                         ·exact absurd rfl h
  subst hk0;rw[jX (by omega)];simp[DF]
  simpa using hle
 | f+1,m,most,k,a,t,hf,hm,hk,h0,hle=>by
  by_cases oH:m<128
  ·rw[jX oH]
   have h9:¬ (k=9∧1<m):=by
    rintro ⟨rfl,h1⟩;simp at hm;omega
   have hmod:m%128=m:=Nat.mod_eq_of_lt oH;simp only[cC,cB,DF];rw[bF h9,bF (by omega),bF (by rw[hmod];rintro (⟨h1,h2⟩|h1) <;> omega),hmod];simp
  ·have hk8:k≤8:=by
    rcases Nat.lt_or_ge k 9 with h|h
    ·omega
    ·have e:k=9:=by omega
     subst e;simp at hm;omega
   have SJ:m<18446744073709551616:=by
    have h1:(2:Nat)^(64-7*k)≤2^64:=Nat.pow_le_pow_right (by omega) (by omega);have h2:(2:Nat)^64=18446744073709551616:=by decide
    omega
   rw[uC oH SJ];have hc:(128+m%128)%128=m%128:=by omega
   have WZ:a+m%128*128^k+m/128*128^(k+1)=a+m*128^k:=by
    rw[bY];have e:m=m%128+128*(m/128):=by omega
    have : m*128^k=(m%128+128*(m/128))*128^k:=by rw[←e]
    rw[this,Nat.add_mul,Nat.add_assoc]
    congr 2
    rw[cF (128^k) 128,←Nat.mul_assoc,cF (m/128) 128]
   simp only[cC,DF];rw[bF (by omega),aZ (by omega),hc,QK f (m/128) most (k+1) _ t (by rw[bY] at hf;omega) (by rw[Zm hk8] at hm;exact Nat.div_lt_of_lt_mul hm) (by omega) (Or.inr (by omega)) (by rw[WZ];exact hle),WZ];simp;omega
theorem uT (n most:Nat)(t:List Nat)(hn:n<18446744073709551616)(hm:n≤most):rd most (form n++t)=some (n,(form n).length):=by
 have h1:(128:Nat)^10=1180591620717411303424:=by decide
 have h2:(2:Nat)^(64-7*0)=18446744073709551616:=by decide
 have:=QK 10 n most 0 0 t (by rw[h1];omega) (by rw[h2];exact hn) (by omega) (Or.inl rfl) (by simpa using hm);unfold rd;rw[this];simp
theorem ZE:∀ {s:List Nat}{most k a v j:Nat},By s→k≤9→DF most k a s=some (v,j)→∃m,v=a+m*128^k∧s.take (j-k)=form m∧m<2^(64-7*k)∧(k=0∨m≠0)∧k<j
 | [],_,_,_,_,_,_,_,h=>by simp[DF] at h
 | c::s,most,k,a,v,j,hb,hk,h=>by
  have hc:c<256:=hb c (by simp);rw[DF] at h
  split at h
  ·cases h
  ·rename_i h9
   split at h
   ·rename_i oH
    have hk8:k≤8:=by omega
    obtain ⟨m,hv,ht,hm,h0,hlt⟩:=ZE (fun x hx=>hb x (by simp[hx])) (by omega) h
    have hm0 : m ≠ 0 := by rcases h0 with h | h; · omega
                           ·exact h
    have sW:c%128+128*m<2^(64-7*k):=by rw[Zm hk8];omega
    refine ⟨c%128+128*m,?_,?_,sW,Or.inr (by omega),by omega⟩
    ·rw[hv,bY,Nat.add_mul,Nat.add_assoc]
     congr 2
     rw[cF (128^k) 128,←Nat.mul_assoc,cF m 128]
    ·have SJ:c%128+128*m<18446744073709551616:=by
      have h1:(2:Nat)^(64-7*k)≤2^64:=Nat.pow_le_pow_right (by omega) (by omega);have h2:(2:Nat)^64=18446744073709551616:=by decide
      omega
     rw[uC (by omega) SJ,show j-k=(j-(k+1))+1 by omega,List.take_succ_cons,ht]
     congr 1
     ·omega
     ·congr 1
      omega
   ·rename_i oH
    split at h
    ·cases h
    ·rename_i hz
     cases h;refine ⟨c,by rw[Nat.mod_eq_of_lt (by omega)],?_,?_,by omega,by omega⟩
     ·rw[show k+1-k=1 by omega,jX (by omega)]
      simp
     ·rcases Nat.lt_or_ge k 9 with h|h
      ·have : (2:Nat)^8≤2^(64-7*k):=Nat.pow_le_pow_right (by omega) (by omega)
       omega
      ·have e:k=9:=by omega
       subst e;simp;omega
theorem MD {s:List Nat}{most n j:Nat}(hb:By s)(h:rd most s=some (n,j)):s.take j=form n∧n<18446744073709551616∧j=(form n).length:=by
 obtain ⟨m,hv,ht,hm,_,hj⟩:=ZE hb (by omega) h;have e:n=m:=by simpa using hv
 subst e;have h2:(2:Nat)^(64-7*0)=18446744073709551616:=by decide
 have hl:=(tI h).2.2;have Am:s.take j=form n:=by simpa using ht
 refine ⟨Am,by rw[h2] at hm;exact hm,?_⟩;rw[←Am,bT];omega
theorem PT {z:Int}(h0:-9223372036854775808≤z)(h1:z≤9223372036854775807):GI (fold z)=z:=by
 unfold GI fold
 split <;> split <;> omega
theorem EY {n:Nat}(h:n<18446744073709551616):fold (GI n)=n:=by
 unfold GI fold
 split <;> split <;> omega
def encI (x:Int):Value:=.int .i64 x
def rV (W:World)(B:Nat)(v:Value)(l:List Int):Prop:=W.ownsRow B 2 1 v l.length (l.map encI)
theorem rV.below {w W:World}{B:Nat}{v:Value}{l:List Int}(h:Below w.heap.size w W)(s:rV w B v l):rV W B v l:=by
 obtain ⟨h1,h2⟩:=s;refine ⟨h1,?_⟩
 rcases h2 with h2|⟨g,cap,cur,e,hb,hg,h3⟩
 ·exact Or.inl h2
 ·exact Or.inr ⟨g,cap,cur,e,hb,dL h hg,h3⟩
theorem rV.alloc {w:World}{B:Nat}{v:Value}{l:List Int}(s:rV w B v l)(o:Obj):rV (w.alloc o) B v l:=by
 obtain ⟨h1,h2⟩:=s;refine ⟨h1,?_⟩
 rcases h2 with h2|⟨g,cap,cur,e,hb,hg,h3⟩
 ·exact Or.inl h2
 ·exact Or.inr ⟨g,cap,cur,e,hb,dM hg,h3⟩
theorem rV.blk {w:World}{B:Nat}{v:Value}{l:List Int}(s:rV w B v l):∀k,v.ownBlock=some k→B≤k:=by
 intro k hk;obtain ⟨h1,h2⟩:=s
 rcases h2 with ⟨rfl,_⟩|⟨g,cap,cur,rfl,hb,_⟩
 ·cases hk
 ·cases hk
  exact hb
theorem rV.apart {W:World}{B p:Nat}{v:Value}{l:List Int}{cs:Array Value}{t:TypeId}{fr:Nat×Nat}(s:rV W B v l)(h:W.heap[p]?=some (.cells cs t fr))(ht:t≠2):∀k,v.ownBlock=some k→k≠p:=by
 intro k hk e;subst e;obtain ⟨h1,h2⟩:=s
 rcases h2 with ⟨rfl,_⟩|⟨g,cap,cur,rfl,hb,hg,_⟩
 ·cases hk
 ·cases hk
  rw[h] at hg
  injection hg with hg
  injection hg with _ hg
  exact ht hg
theorem rV.grown {W X:World}{B:Nat}{v:Value}{l:List Int}{row:Option Nat}(s:rV W B v l)(hg:W.grownBy X row)(hr:∀k,v.ownBlock=some k→some k≠row):rV X B v l:=by
 obtain ⟨h1,h2⟩:=s;refine ⟨h1,?_⟩
 rcases h2 with h2|⟨g,cap,cur,rfl,hb,je,h3⟩
 ·exact Or.inl h2
 ·exact Or.inr ⟨g,cap,cur,rfl,hb,by rw[hg.block g (aC.1 je).1 (hr g rfl)];exact je,h3⟩
theorem ZR.grown {o:Option Addr}{c:Nat}{l:List Nat}{p dR:Nat}{lost:Bool}{W X:World}{row:Option Nat}(h:ZR o c l p dR lost W)(hg:W.grownBy X row)(hp:some p≠row)(hr:∀b off,o=some ⟨b,off,none⟩→0<l.length→some b≠row):ZR o c l p dR lost X :=
 ⟨by rw[hg.block p h.lt hp];exact h.row,h.bs.grown hg hr⟩
def pP:Nat:=18446744073709551615
def yD:Nat→Nat→List Nat→Nat
 | _,n,[]=>n
 | k,n,c::s=>if c<128 then n+c%128*128^k%18446744073709551616 else yD (k+1) (n+c%128*128^k%18446744073709551616) s
def yC (s:List Nat):Nat:=yD 0 0 (s.take 10)
theorem yx (k:Nat):(2:Nat)^(7*k)=128^k:=by rw[Nat.pow_mul]
theorem Ux {n c k:Nat}(hn:n<128^k)(hk:k≤9):n ||| (c%128*128^k%18446744073709551616)=n+c%128*128^k%18446744073709551616:=by
 have e:c%128*128^k%18446744073709551616=2^(7*k)*(c%128%2^(64-7*k)):=by
  rw[←yx,cF,show (18446744073709551616:Nat)=2^(7*k)*2^(64-7*k) by rw[←Nat.pow_add,show 7*k+(64-7*k)=64 by omega],Nat.mul_mod_mul_left]
 rw[e,Nat.or_comm,←Nat.two_pow_add_eq_or_of_lt (by rw[yx];exact hn),Nat.add_comm]
theorem MG {n c k:Nat}(hn:n<128^k)(hk:k≤8):n+c%128*128^k%18446744073709551616<128^(k+1):=by
 have h1:c%128*128^k%18446744073709551616≤c%128*128^k:=Nat.mod_le _ _;have h2:c%128*128^k≤127*128^k:=Nat.mul_le_mul_right _ (by omega);rw[bY];omega
theorem Kw {n c:Nat}(hn:n<128^9):n+c%128*128^9%18446744073709551616<18446744073709551616:=by
 have h9:(128:Nat)^9=9223372036854775808:=by decide
 rw[h9] at hn ⊢;omega
theorem Ky {n c k:Nat}(hn:n<128^k)(hk:k≤9):n+c%128*128^k%18446744073709551616<18446744073709551616:=by
 rcases Nat.lt_or_ge k 9 with h|h
 ·have h1:=MG (c:=c) hn (show k≤8 by omega)
  have h2:(128:Nat)^(k+1)≤128^9:=Nat.pow_le_pow_right (by omega) (by omega);have h9:(128:Nat)^9=9223372036854775808:=by decide
  omega
 ·obtain rfl:k=9:=by omega
  exact Kw hn
theorem YR:∀ (s:List Nat)(k n:Nat),k+s.length≤10→n<128^k→n<18446744073709551616→yD k n s<18446744073709551616
 | [],_,_,_,_,h=>h
 | c::s,k,n,hk,hn,_=>by
  simp only[bO] at hk;rw[yD];have h64:=Ky (c:=c) hn (show k≤9 by omega)
  split
  ·exact h64
  ·cases s with
   | nil=>exact h64
   | cons d s =>
    simp only[bO] at hk;exact YR _ _ _ (by simp;omega) (MG hn (by omega)) h64
theorem LK (s:List Nat):yC s<18446744073709551616:=YR _ _ _ (by simp;omega) (by simp) (by omega)
theorem JK:∀ (f m k a:Nat)(t:List Nat),m<128^f→a+m*128^k<18446744073709551616→yD k a (form m++t)=a+m*128^k
 | 0,m,k,a,t,hf,h=>by
  have hm0:m=0:=by simpa using hf
  subst hm0;rw[jX (by omega)];simp[yD]
 | f+1,m,k,a,t,hf,h=>by
  by_cases oH:m<128
  ·rw[jX oH]
   simp only[cC,cB,yD];rw[aZ oH,Nat.mod_eq_of_lt oH,Nat.mod_eq_of_lt (by omega)]
  ·have SJ:m<18446744073709551616:=by
    have : m*1≤m*128^k:=Nat.mul_le_mul_left _ (Nat.pow_pos (by omega));omega
   rw[uC oH SJ];have hc:(128+m%128)%128=m%128:=by omega
   have WZ:a+m%128*128^k+m/128*128^(k+1)=a+m*128^k:=by
    rw[bY];have e:m=m%128+128*(m/128):=by omega
    have : m*128^k=(m%128+128*(m/128))*128^k:=by rw[←e]
    rw[this,Nat.add_mul,Nat.add_assoc]
    congr 2
    rw[cF (128^k) 128,←Nat.mul_assoc,cF (m/128) 128]
   simp only[cC,yD];rw[bF (by omega),hc,Nat.mod_eq_of_lt (by omega),JK f (m/128) (k+1) _ t (by rw[bY] at hf;omega) (by rw[WZ];exact h),WZ]
theorem QJ:∀ {s:List Nat}{most k n a j:Nat},k≤9→DF most k n s=some (a,j)→j≤10
 | [],_,_,_,_,_,_,h=>by simp[DF] at h
 | c::s,most,k,n,a,j,hk,h=>by
  rw[DF] at h
  split at h
  ·cases h
  ·rename_i h9
   split at h
   ·rename_i oH
    exact QJ (by omega) h
   ·split at h
    ·cases h
    ·cases h
     omega
theorem XM {n:Nat}(h:n<18446744073709551616):(form n).length≤10:=by
 have hr:=uT n pP [] h (by unfold pP;omega);have:=QJ (by omega) hr
 simpa using this
theorem Dm {n:Nat}(t:List Nat)(hn:n<18446744073709551616):yC (form n++t)=n:=by
 unfold yC;rw[List.take_append,bB (XM hn)];have h1:(128:Nat)^10=1180591620717411303424:=by decide
 have:=JK 10 n 0 0 (t.take (10-(form n).length)) (by rw[h1];omega) (by simpa using hn)
 simpa using this
theorem rd_val (s:List Nat)(hb:By s):rd pP s=if (form (yC s)).isPrefixOf s then some (yC s,(form (yC s)).length) else none:=by
 cases h:rd pP s with
 | none =>
  rw[bF];intro hp;obtain ⟨t,ht⟩:=List.isPrefixOf_iff_prefix.1 hp;have:=uT (yC s) pP t (LK s) (by have:=LK s;unfold pP;omega);rw[ht,h] at this
  cases this
 | some r =>
  obtain ⟨n,j⟩:=r;obtain ⟨h1,h2,h3⟩:=MD hb h;have hs:form n++s.drop j=s:=by rw[←h1];exact List.take_append_drop j s
  have hv:yC s=n:=by
   have:=Dm (s.drop j) h2;rw[hs] at this;exact this
  rw[hv,aZ (List.isPrefixOf_iff_prefix.2 ⟨_,hs⟩),h3]
theorem QI:∀ {s:List Nat}{most k a:Nat},most≤pP→DF most k a s=match DF pP k a s with|none=>none|some (v,j)=>if v≤most then some (v,j) else none
 | [],_,_,_,_=>by simp[DF]
 | c::s,most,k,a,hm=>by
  rw[DF,DF]
  split
  ·rfl
  ·split
   ·exact QI hm
   ·by_cases h0:0<k∧c=0
    ·rw[aZ (.inl h0),aZ (.inl h0)]
    ·by_cases h1:pP<a+c%128*128^k
     ·rw[aZ (.inr (by omega)),aZ (.inr h1)]
     ·rw[bF (show ¬((0<k∧c=0)∨pP<a+c%128*128^k) by rintro (h|h);exact h0 h;exact h1 h)]
      dsimp only;by_cases h2:a+c%128*128^k≤most
      ·rw[aZ h2,bF (by rintro (h|h);exact h0 h;omega)]
      ·rw[bF h2,aZ (.inr (by omega))]
theorem wY (s:List Nat){most:Nat}(hm:most≤pP):rd most s=match rd pP s with|none=>none|some (v,j)=>if v≤most then some (v,j) else none:=QI hm
theorem VJ (x:Nat)(h:x<256):bits .andNot .u8 (x:Int) 128=((x%128:Nat):Int):=by
 have h0:∀x:Fin 256,bits .andNot .u8 ((x.val:Nat):Int) 128=((x.val%128:Nat):Int):=by decide
 exact h0 ⟨x,h⟩
theorem Dl (o:Option Addr)(c:Nat)(l:List Nat)(w:World)(hby:By l)(hlen:l.length≤1000000000)(hc:l.length≤c∧c≤9223372036854775807∧(o=none→c=0))(hb:Bs w o l) :
  Calls prog 138 #[.slice o l.length c] w fun e w'=>e=.returned (.int .u64 ((yC l:Nat):Int))∧w=w':=by
 obtain ⟨hc1,hc2,hc3⟩:=hc;obtain ⟨s,hs⟩:∃s,l.take 10=s:=⟨_,rfl⟩;obtain ⟨N,hN⟩:∃N,s.length=N:=⟨_,rfl⟩;have hN10:N≤10:=by rw[←hN,←hs];simp;omega
 have hNl:N≤l.length:=by rw[←hN,←hs,bT];omega
 have hmin:min (l.length:Int) 10=(N:Int):=by rw[←hN,←hs,bT];omega
 have hmax:max (N:Int) 0=(N:Int):=by omega
 have hV:yD 0 0 s=yC l:=by unfold yC;rw[hs]
 have mJ:=hb.take 10;rw[hs] at mJ;have hbsy:By s:=by rw[←hs];exact hby.take 10
 have GY:=aA mJ;have yA:=aA hbsy;have HN:=aA hN;have HV:=aA hV;obtain ⟨V,hVV⟩:∃V,yC l=V:=⟨_,rfl⟩;rw[hVV] at HV ⊢;clear hs hN hb mJ hbsy hV hVV hby;go_enter func138,ntmps138;go_wp2_with fail;go_loopg[3,12] 10 (fun g s3 s12 wr=>∃ (k n:Nat),g=10-k∧k≤N∧s12=.int .i64 (k:Int)∧s3=.int .u64 (n:Int)∧n<128^k∧n<18446744073709551616∧yD k n (s.drop k)=V∧wr=w)
 case atStart=>exact ⟨0,0,rfl,by omega,rfl,rfl,by simp,by omega,HV.out,rfl⟩
 case round =>
  obtain ⟨k,n,hg,hk,rfl,rfl,hn,XB,hv,rfl⟩:=hrel;subst hg;have k0:(0:Int)≤(k:Int):=by omega
  have HVV:=aA hv;have AG:=aA hn;clear hv hn HV;by_cases jc:k<N
  ·have k1:(k:Int)<(N:Int):=by omega
   have k9:k≤9:=by omega
   have wI:k<s.length:=by rw[HN.out];exact jc
   obtain ⟨b,off,rfl,hcell⟩:=GY.out k wI;obtain ⟨x,hx⟩:∃x,s.getD k 0=x:=⟨_,rfl⟩;have RX:=yA.out.get k;have ji:s.drop k=x::s.drop (k+1):=by
    rw[List.drop_eq_getElem_cons wI,←hx];simp[List.getD,wI]
   rw[hx] at hcell RX;have HX:=HVV.out;rw[ji,yD] at HX;have HX:=aA HX;have hand:=VJ x RX;have hwr:IntKind.u64.wrap ((x:Int)%128*2^(7*k))=((x%128*128^k%18446744073709551616:Nat):Int):=by
    rw[aV,←yx];simp
   have hor:=u64_or_nat n (x%128*128^k%18446744073709551616) XB (by omega);rw[Ux AG.out k9] at hor;have hp:=Ky (c:=x) AG.out k9;have hp8:k≤8→n+x%128*128^k%18446744073709551616<128^(k+1):=fun h=>MG AG.out h
   have HP8:=aA hp8;have hmul:IntKind.i64.wrap (7*(k:Int))=7*(k:Int):=by rw[bL];omega
   clear hx ji HVV hp8;generalize x%128*128^k%18446744073709551616=M at *;obtain ⟨Y,hY⟩:∃Y,n+M=Y:=⟨_,rfl⟩;rw[hY] at hor hp HP8 HX;have qg:=aA hp;clear hY hp;by_cases oH:x<128
   ·have t1:(x:Int)<128:=by omega
    have hV2:Y=V:=by
     have:=HX.out;rw[aZ oH] at this;exact this
    subst hV2;clear HX HP8;go_wp2_with fail;go_ret;exact ⟨rfl,rfl⟩
   ·have t1:¬ (x:Int)<128:=by omega
    have oM:Hid (yD (k+1) Y (s.drop (k+1))=V):=aA (by
     have:=HX.out;rw[bF oH] at this;exact this)
    have HP9:Hid (Y<128^(k+1)):=aA (by
     rcases Nat.lt_or_ge k 9 with h|h
     ·exact HP8.out (by omega)
     ·obtain rfl:k=9:=by omega
      have h10:(128:Nat)^(9+1)=1180591620717411303424:=by decide
      have:=qg.out;omega)
    clear HX HP8;go_wp2_with fail;go_roundg (10-(k+1))
    case measure=>omega
    case rel=>exact ⟨k+1,Y,rfl,by omega,by go_num,rfl,HP9.out,qg.out,oM.out,rfl⟩
  ·have k1:¬ (k:Int)<(N:Int):=by omega
   have Si:k=s.length:=by rw[HN.out];omega
   have hV2:n=V:=by
    have:=HVV.out;rw[Si,List.drop_length,yD] at this;exact this
   subst hV2;clear HVV Si;go_wp2_with fail;go_ret;exact ⟨rfl,rfl⟩
end Pk
namespace Pk
open Fx (Kept jW iN gF eG gJ)
open Go Go.RowKit Go.Shelf
attribute [local go_sem] Oper.semAt_some
structure Ft (o:Option Addr)(c:Nat)(l:List Nat)(n k:Nat)(x y:Int)(w W:World):Prop where
 box:W.heap[w.heap.size]?=some (.cells #[.slice o l.length c] 31 (0,0))
 r1:W.heap[w.heap.size+1]?=some (.cells #[.int .u64 x] 89 (0,0))
 r2:W.heap[w.heap.size+1+1]?=some (.cells #[.int .i64 y] 3 (0,0))
 len:W.heap[w.heap.size+1+1+1]?=some (.cells #[.int .i64 (k:Int)] 3 (0,0))
 kB:W.heap[w.heap.size+1+1+1+1]?=some (.cells #[.int .u64 (n:Int)] 89 (0,0))
 below:Below w.heap.size w W
theorem Ft.kept {o:Option Addr}{c:Nat}{l:List Nat}{n k B:Nat}{x y:Int}{w W X:World}(hB:w.heap.size≤B)(h:Kept B W X)(s:Ft o c l n k x y w W):Ft o c l n k x y w X :=
 ⟨h.cells s.box,h.cells s.r1,h.cells s.r2,h.cells s.len,h.cells s.kB,h.below hB s.below⟩
theorem Ft.drew {o:Option Addr}{c:Nat}{l:List Nat}{n k:Nat}{x y:Int}{w W:World}(s:Ft o c l n k x y w W):Ft o c l n k x y w W.drew:=⟨s.box,s.r1,s.r2,s.len,s.kB,⟨s.below.os,s.below.tape,s.below.output,s.below.size,s.below.block⟩⟩
theorem Ft.facts {o:Option Addr}{c:Nat}{l:List Nat}{n k:Nat}{x y:Int}{w W:World}(s:Ft o c l n k x y w W) :
  W.cell? ⟨w.heap.size,0,none⟩=some (.slice o l.length c)∧W.cell? ⟨w.heap.size+1,0,none⟩=some (.int .u64 x)∧W.cell? ⟨w.heap.size+1+1,0,none⟩=some (.int .i64 y)∧W.cell? ⟨w.heap.size+1+1+1,0,none⟩=some (.int .i64 (k:Int)) ∧
  W.frozen? ⟨w.heap.size+1,0,none⟩=false∧W.frozen? ⟨w.heap.size+1+1,0,none⟩=false∧W.frozen? ⟨w.heap.size+1+1+1,0,none⟩=false :=
 ⟨by rw[aD _ _ _ _ _ _ s.box];rfl,by rw[aD _ _ _ _ _ _ s.r1];rfl,by rw[aD _ _ _ _ _ _ s.r2];rfl,by rw[aD _ _ _ _ _ _ s.len];rfl,dJ s.r1,dJ s.r2,dJ s.len⟩
theorem Ft.reads {o:Option Addr}{c:Nat}{l:List Nat}{n k:Nat}{x y:Int}{w W:World}(s:Ft o c l n k x y w W):Hv n (w.heap.size+1+1+1+1) W:=by
 unfold Hv;rw[aD _ _ _ _ _ _ s.kB];rfl
theorem Ft.next {o:Option Addr}{c:Nat}{l:List Nat}{n k:Nat}{x y:Int}{w W:World}(s:Ft o c l n k x y w W)(j:Nat)(z:Int)(hz:z=(j:Int)):Ft o c l n j x y w (W.setCell ⟨w.heap.size+1+1+1,0,none⟩ (.int .i64 z)):=by
 subst hz;exact ⟨by rw[aK _ _ _ _ (by show _≠w.heap.size+1+1+1;omega)];exact s.box,by rw[aK _ _ _ _ (by show _≠w.heap.size+1+1+1;omega)];exact s.r1,by rw[aK _ _ _ _ (by show _≠w.heap.size+1+1+1;omega)];exact s.r2,
  aM _ _ 0 _ _ _ s.len,by rw[aK _ _ _ _ (by show _≠w.heap.size+1+1+1;omega)];exact s.kB,s.below.setCell (p:=⟨w.heap.size+1+1+1,0,none⟩) (by show _≤w.heap.size+1+1+1;omega) _⟩
theorem Ft.put {o:Option Addr}{c:Nat}{l:List Nat}{n k:Nat}{x y x2 y2:Int}{w W:World}(s:Ft o c l n k x y w W):Ft o c l n k x2 y2 w ((W.setCell ⟨w.heap.size+1,0,none⟩ (.int .u64 x2)).setCell ⟨w.heap.size+1+1,0,none⟩ (.int .i64 y2)):=by
 have a1:=aM W _ 0 _ _ (.int .u64 x2) s.r1;have o1:∀ {g:Nat} {ob:Obj},g≠w.heap.size+1→g≠w.heap.size+1+1→W.heap[g]?=some ob→((W.setCell ⟨w.heap.size+1,0,none⟩ (.int .u64 x2)).setCell ⟨w.heap.size+1+1,0,none⟩ (.int .i64 y2)).heap[g]?=some ob:=fun h1 h2 h=>by
  rw[aK _ _ _ _ h2,aK _ _ _ _ h1];exact h
 refine ⟨o1 (by omega) (by omega) s.box,?_,?_,o1 (by omega) (by omega) s.len,o1 (by omega) (by omega) s.kB,(s.below.setCell (p:=⟨w.heap.size+1,0,none⟩) (by show _≤w.heap.size+1;omega) _).setCell (p:=⟨w.heap.size+1+1,0,none⟩) (by show _≤w.heap.size+1+1;omega) _⟩
 ·rw[aK _ _ _ _ (by show _≠w.heap.size+1+1;omega)]
  exact a1
 ·have a2:(W.setCell ⟨w.heap.size+1,0,none⟩ (.int .u64 x2)).heap[w.heap.size+1+1]?=some (.cells #[.int .i64 y] 3 (0,0)):=by
   rw[aK _ _ _ _ (by show _≠w.heap.size+1;omega)];exact s.r2
  exact aM _ _ 0 _ _ (.int .i64 y2) a2
def FI (o:Option Addr)(c:Nat)(l:List Nat)(n:Nat)(w:World)(k:Nat)(W:World):Prop:=Ft o c l n k 0 0 w W∧k≤l.length∧l.take k=(form n).take k
def FX (o:Option Addr)(c:Nat)(l:List Nat)(n:Nat)(w:World)(W:World):Prop:=(∃k,Ft o c l n k 0 0 w W)∧(form n).isPrefixOf l=false
def FA (o:Option Addr)(c:Nat)(l:List Nat)(n:Nat)(w:World)(k:Nat)(a:Act):Prop :=
 a={ tmps:=#[.slice o l.length c,.pointer (some ⟨w.heap.size,0,none⟩),.pointer (some ⟨w.heap.size+1,0,none⟩),.pointer (some ⟨w.heap.size+1+1,0,none⟩),.int .u64 (n:Int),.pointer (some ⟨w.heap.size+1+1+1,0,none⟩),.int .u8 (((form n).getD k 0:Nat):Int),
  .slice o l.length c,.int .u64 (n:Int),.int .u64 (n:Int),.func (.func 139) #[] #[.pointer (some ⟨w.heap.size+1+1+1+1,0,none⟩)],.int .u8 (((form n).getD k 0:Nat):Int),undef,undef,undef,undef,undef,undef,undef,undef,undef,undef,undef,undef,undef,undef,undef,undef],defers:=[] }
theorem Ur {l m:List Nat}{k:Nat}(hk:k=m.length)(h:l.take k=m.take k):m.isPrefixOf l=true:=by
 subst hk;rw[List.take_length] at h;exact List.isPrefixOf_iff_prefix.2 ⟨l.drop m.length,by
  have:=List.take_append_drop m.length l;rw[h] at this;exact this⟩
theorem Em {l m:List Nat}{k:Nat}(hk:k<m.length)(h:k=l.length):m.isPrefixOf l=false:=by
 rw[Bool.eq_false_iff];intro hp;have:=(List.isPrefixOf_iff_prefix.1 hp).length_le;omega
theorem yw {l m:List Nat}{k:Nat}(hk:k<m.length)(hl:k<l.length)(h:l.getD k 0≠m.getD k 0):m.isPrefixOf l=false:=by
 rw[Bool.eq_false_iff];intro hp;obtain ⟨t,rfl⟩:=List.isPrefixOf_iff_prefix.1 hp
 apply h
 simp[List.getD,cX hk]
theorem Uj {l m:List Nat}{k:Nat}(hk:k<m.length)(hl:k<l.length)(h:l.getD k 0=m.getD k 0)(ht:l.take k=m.take k):l.take (k+1)=m.take (k+1):=by
 rw[CP hk,CP hl,h,ht]
def fsV (r:Option (Nat×Nat)):Value:=.tuple #[.int .u64 ((pR r:Nat):Int),.int .i64 (((r.map (·.2)).getD 0:Nat):Int)]
def Hz (l:List Nat)(w:World)(e:Ending)(w':World):Prop:=e=.returned (fsV (rd pP l))∧Below w.heap.size w w'
theorem Fs (o:Option Addr)(c:Nat)(l:List Nat)(w:World)(hby:By l)(hlen:l.length≤1000000000)(hc:l.length≤c∧c≤9223372036854775807∧(o=none→c=0))(hb:Bs w o l) :
  Calls prog 114 #[.slice o l.length c] w (Hz l w):=by
 have Sb:=rd_val l hby;obtain ⟨n,hn⟩:∃n,yC l=n:=⟨_,rfl⟩;have XB:n<18446744073709551616:=by rw[←hn];exact LK l
 have HVAL:Hid (∀W:World,Below w.heap.size w W→Calls prog 138 #[.slice o l.length c] W fun e w'=>e=.returned (.int .u64 (n:Int))∧W=w'):=aA (fun W h=>by
  have:=Dl o c l W hby hlen hc (hb.below h);rw[hn] at this;exact this)
 rw[hn] at Sb;have HRD:=aA Sb;have GY:=aA hb;have HLEN:=aA hlen;clear Sb hn hb hby hlen hc;obtain ⟨W1,hW1⟩:∃W1,((w.alloc (.cells #[.slice o l.length c] 31)).alloc (.cells #[.int .u64 0] 89)).alloc (.cells #[.int .i64 0] 3)=W1:=⟨_,rfl⟩;have b1:Below w.heap.size w W1:=by rw[←hW1];exact (((aJ _ w).alloc (aB _) _).alloc (by simp) _).alloc (by simp;omega) _
 have HV:=aA (HVAL.out W1 b1);obtain ⟨W0,hW0⟩:∃W0,(W1.alloc (.cells #[.int .i64 0] 3)).alloc (.cells #[.int .u64 (n:Int)] 89)=W0:=⟨_,rfl⟩;have hs1:W1.heap.size=w.heap.size+1+1+1:=by rw[←hW1];simp
 have OW:Below W1.heap.size W1 W0:=by rw[←hW0];exact ((aJ _ W1).alloc (aB _) _).alloc (by simp) _
 have F0:Ft o c l n 0 0 0 w W0:=by
  obtain ⟨x1,x2,x3⟩:=kF w (.cells #[.slice o l.length c] 31) (.cells #[.int .u64 0] 89) (.cells #[.int .i64 0] 3);rw[hW1] at x1 x2 x3;refine ⟨dL OW x1,dL OW x2,dL OW x3,?_,?_,dN b1 OW⟩
  ·rw[←hW0,←hs1]
   exact dM (aG _ _)
  ·rw[←hW0,←hs1]
   have:=aG (W1.alloc (.cells #[.int .i64 0] 3)) (.cells #[.int .u64 (n:Int)] 89);rw[aR] at this;exact this
 have Hr:Hid (FI o c l n w 0 W0):=aA ⟨F0,cK _,rfl⟩;have wO:Hid (W0.heap.size=w.heap.size+5):=aA (by rw[←hW0];simp[hs1]);have xY:=aA hW1;have HW0:=aA hW0;clear F0 OW b1 HVAL hW1 hW0;refine (bG (n:=5)).1 ?_;refine callsIn_of_wp_marks func114 rfl trivial ?_ rfl;simp only[ntmps114,aL,bO,List.length_nil,Nat.reduceAdd,Nat.reduceSub,Array.replicate_succ,Array.replicate_zero,List.push_toArray,List.append_toArray,cB,cC];refine bN.2 ?_;go_wp2_with fail;rw[xY.out];refine HV.out.mono ?_;rintro e w1 ⟨rfl,rfl⟩;clear HV;go_wp2_with fail;refine (Oq _ _).mono ?_;rintro e w' ⟨rfl,rfl⟩;go_wp2_with fail;rw[HW0.out];refine bN.1 (gJ (F:=Fence.wide) (n:=5) rfl (by omega) (gf:=139) (lb:=#[.pointer (some ⟨w.heap.size+1+1+1+1,0,none⟩)]) rfl trivial (enters_of func139 (by kernel_rfl) rfl)
  (EW n (w.heap.size+1+1+1+1) XB) (fun _=>rfl) .ret (FI o c l n w) (FX o c l n w) (fun j a' W=>FA o c l n w j a'∧FI o c l n w j W)
  ?i1 ?i2 ?i3 ?i4 ?i5 Hr.out ?assign ?body ?done ?stop)
 case i1=>rintro j W X ⟨h1,h2⟩ hk;exact ⟨h1.kept (by have:=wO.out;omega) hk,h2⟩
 case i2=>rintro W X ⟨⟨k,h1⟩,h2⟩ hk;exact ⟨⟨k,h1.kept (by have:=wO.out;omega) hk⟩,h2⟩
 case i3=>rintro j a W X ⟨h0,h1,h2⟩ hk;exact ⟨h0,h1.kept (by have:=wO.out;omega) hk,h2⟩
 case i4=>rintro j W h4;exact h4.1.reads
 case i5=>rintro W ⟨⟨k,h⟩,_⟩;exact h.reads
 case assign =>
  intro l1 j W C hk hI hC;obtain ⟨x,hx⟩:∃x,(form n).getD j 0=x:=⟨_,rfl⟩;simp only[xQ];rw[hx];have HX:=aA hx;clear hx;gi_wp2;exact hC _ _ (KeepsFrom.refl _ _) ⟨by unfold FA;rw[HX.out],hI⟩
 case body =>
  rintro l1 j a' W hk ⟨ha,fs,IJ,Vw⟩;unfold FA at ha;subst ha;obtain ⟨y,hy⟩:∃y,(form n).getD j 0=y:=⟨_,rfl⟩;rw[hy];obtain ⟨c0,c1,c2,c3,f1,f2,f3⟩:=fs.facts;have HK:=aA hk;have HY:=aA hy;have HT:=aA Vw;have HS:=aA fs;have HB:=aA (GY.out.below fs.below);have hl9:=HLEN.out;clear hk hy Vw fs;have j0:(0:Int)≤(j:Int):=by omega
  by_cases hj:j=l.length
  ·have t1:(j:Int)=(l.length:Int):=by omega
   have HE:Hid (FX o c l n w ((W.setCell ⟨w.heap.size+1,0,none⟩ (.int .u64 0)).setCell ⟨w.heap.size+1+1,0,none⟩ (.int .i64 0))):=aA ⟨⟨j,HS.out.put⟩,Em HK.out hj⟩;have Ip:Hid (KeepsFrom W0.heap.size W ((W.setCell ⟨w.heap.size+1,0,none⟩ (.int .u64 0)).setCell ⟨w.heap.size+1+1,0,none⟩ (.int .i64 0))):=aA (((KeepsOthers.setCell _ _ _).trans (KeepsOthers.setCell _ _ _)).from _);clear hj HS HB;gi_wp2;exact ⟨rfl,Ip.out,HE.out⟩
  ·have Ie:j<l.length:=by omega
   have t1:¬ (j:Int)=(l.length:Int):=by omega
   have t2:(j:Int)<(l.length:Int):=by omega
   obtain ⟨b,off,rfl,hcell⟩:=HB.out j Ie;obtain ⟨x,hx⟩:∃x,l.getD j 0=x:=⟨_,rfl⟩;rw[hx] at hcell;have HX:=aA hx;clear hx;by_cases hxy:x=y
   ·subst hxy
    have HE:Hid (∀z:Int,z=((j+1:Nat):Int)→FI (some ⟨b,off,none⟩) c l n w (j+1) (W.setCell ⟨w.heap.size+1+1+1,0,none⟩ (.int .i64 z))):=aA (fun z hz=>⟨HS.out.next (j+1) z hz,by omega,Uj HK.out Ie (by rw[HX.out,HY.out]) HT.out⟩);have hw:IntKind.i64.wrap ((j:Int)+1)=(j:Int)+1:=by rw[bL];omega
    clear HS HB hj;gi_wp2;exact ⟨(KeepsOthers.setCell _ _ _).from _,HE.out _ (by omega)⟩
   ·have hxy2:¬ (x:Int)=(y:Int):=by omega
    have hne:((x:Int) != (y:Int))=true:=by simpa using hxy2
    have Wp:((j:Int) == (l.length:Int))=false:=by simpa using t1
    have HE:Hid (FX (some ⟨b,off,none⟩) c l n w ((W.setCell ⟨w.heap.size+1,0,none⟩ (.int .u64 0)).setCell ⟨w.heap.size+1+1,0,none⟩ (.int .i64 0))):=aA ⟨⟨j,HS.out.put⟩,yw HK.out Ie (by rw[HX.out,HY.out];exact hxy)⟩;have Ip:Hid (KeepsFrom W0.heap.size W ((W.setCell ⟨w.heap.size+1,0,none⟩ (.int .u64 0)).setCell ⟨w.heap.size+1+1,0,none⟩ (.int .i64 0))):=aA (((KeepsOthers.setCell _ _ _).trans (KeepsOthers.setCell _ _ _)).from _);clear hj HS HB;gi_wp2;exact ⟨rfl,Ip.out,HE.out⟩
 case done =>
  rintro D W hD ⟨fs,IJ,Vw⟩ iF;have hr:rd pP l=some (n,(form n).length):=by rw[HRD.out,aZ (Ur rfl Vw)]
  obtain ⟨L,hL⟩:∃L,(form n).length=L:=⟨_,rfl⟩;rw[hL] at fs hr;obtain ⟨c0,c1,c2,c3,f1,f2,f3⟩:=fs.facts;have HS:=aA fs;have HR:=aA hr;have UM:Hid (w.heap.size+5≤D):=aA (by have:=wO.out;omega);clear fs IJ Vw hr hL hD;go_wp2_with fail;refine wp_region_noPanic ?_;refine (bN (n:=5)).1 ?_;refine iN (S:=fun X=>X.cell? ⟨w.heap.size+1+1+1,0,none⟩=some (.int .i64 (L:Int))) (Z:=[]) (by kernel_rfl) ?_;refine eG (fun _=>trivial) [] 0 (?_) (by kernel_rfl) rfl (by kernel_rfl) (fun _ _ _ h=>h) c3 (by kernel_rfl) ?_ ?_;rotate_left
  ·intro wz hSw;first|(go_simp;done)|(go_simp;with_reducible rfl)
  try simp only[aQ]
  refine eG (fun _=>trivial) [] 1 (.int .i64 (L:Int)) (by kernel_rfl) rfl (by kernel_rfl) (fun _ _ _ h=>h) c3 (by kernel_rfl) ?_ ?_
  ·intro wz hSw;first|(go_simp;done)|(go_simp;with_reducible rfl)
  try simp only[aQ]
  refine gF (fun _=>trivial) 2 (by kernel_rfl) rfl (fun K hK=>?_);go_simp;refine hK.out _ _ (fun _=>by simp[go_sem, *]) ?_;clear hK K;try simp only[aQ]
  refine gF (fun _=>trivial) 3 (by kernel_rfl) rfl (fun K hK=>?_);go_simp;refine hK.out _ _ (fun _=>by simp[go_sem, *]) ?_;clear hK K;try simp only[aQ]
  refine jW (by kernel_rfl) ?_ _;refine NoPanic.normal ?_;go_wp2_with fail;have yM:(((W.setCell ⟨w.heap.size+1,0,none⟩ (.int .u64 (n:Int))).setCell ⟨w.heap.size+1+1,0,none⟩ (.int .i64 (L:Int))).drew).heap[D]?=some (.deferred (some [])):=(((KeepsOthers.setCell W ⟨w.heap.size+1,0,none⟩ (.int .u64 (n:Int))).trans (KeepsOthers.setCell _ ⟨w.heap.size+1+1,0,none⟩ (.int .i64 (L:Int)))).same D _ iF rfl);have qH:=((HS.out.put (x2:=(n:Int)) (y2:=(L:Int))).drew).kept (B:=w.heap.size) (aB _) (Kept.putObj (.deferred none) (by have:=UM.out;omega) yM rfl);refine ⟨by simp,.inl ⟨_,_,rfl,run_takeDeferred yM,?_⟩⟩;have hv:fsV (rd pP l)=.tuple #[.int .u64 (n:Int),.int .i64 (L:Int)]:=by rw[HR.out];rfl
  generalize ((((W.setCell ⟨w.heap.size+1,0,none⟩ (.int .u64 (n:Int))).setCell ⟨w.heap.size+1+1,0,none⟩ (.int .i64 (L:Int))).drew).putObj D (.deferred none))=Y at qH ⊢;obtain ⟨_,d1,d2,_,_,_,_⟩:=qH.facts;have xW:=aA qH.below;clear qH yM iF c0 c1 c2 c3 f1 f2 f3;refine ⟨.tuple #[.int .u64 (n:Int),.int .i64 (L:Int)],?_,by rw[hv],xW.out⟩;clear hv;simp[results,results114,go_sem, *]
 case stop =>
  rintro D W hD ⟨⟨k,fs⟩,wG⟩ iF;have hr:rd pP l=none:=by rw[HRD.out,wG];rfl
  have HR:=aA hr;have HS:=aA fs;have UM:Hid (w.heap.size+5≤D):=aA (by have:=wO.out;omega);clear fs hr wG hD;refine bN.2 ?_;go_wp2_with fail;have qH:=HS.out.kept (B:=w.heap.size) (aB _) (Kept.putObj (.deferred none) (by have:=UM.out;omega) iF rfl);refine ⟨by simp,.inl ⟨_,_,rfl,run_takeDeferred iF,?_⟩⟩;have hv:fsV (rd pP l)=.tuple #[.int .u64 0,.int .i64 0]:=by rw[HR.out];rfl
  generalize W.putObj D (.deferred none)=Y at qH ⊢;obtain ⟨_,d1,d2,_,_,_,_⟩:=qH.facts;have xW:=aA qH.below;clear qH iF;refine ⟨.tuple #[.int .u64 0,.int .i64 0],?_,by rw[hv],xW.out⟩;clear hv;simp[results,results114,go_sem, *]
end Pk
namespace Pk
open Fx (gX Sound dU eK dF eA rI mU)
open Go Go.RowKit
structure Sok (o:Option Addr)(c:Nat)(l:List Nat):Prop where
 le:l.length≤c
 up:c≤9223372036854775807
 nil:o=none→c=0
 spot:∀a,o=some a→a.spot=none
structure PR (o:Option Addr)(c:Nat)(l:List Nat)(p dR:Nat)(lost:Bool)(W:World):Prop where
 row:W.heap[p]?=some (.cells #[.bool true,.bool lost,.slice o l.length c,.int .i64 (dR:Int)] 144 (0,0))
 bs:Bs W o l
 ok:Sok o c l
theorem PR.below {o:Option Addr}{c:Nat}{l:List Nat}{p dR:Nat}{lost:Bool}{W X:World}(h:PR o c l p dR lost W)(hb:Below W.heap.size W X):PR o c l p dR lost X:=⟨dL hb h.row,h.bs.below hb,h.ok⟩
theorem PR.facts {o:Option Addr}{c:Nat}{l:List Nat}{p dR:Nat}{lost:Bool}{W:World}(h:PR o c l p dR lost W) :
  W.cell? ⟨p,0,none⟩=some (.bool true)∧W.cell? ⟨p,1,none⟩=some (.bool lost)∧W.cell? ⟨p,2,none⟩=some (.slice o l.length c)∧W.cell? ⟨p,3,none⟩=some (.int .i64 (dR:Int))∧W.frozen? ⟨p,1,none⟩=false∧W.frozen? ⟨p,3,none⟩=false :=
 ⟨by rw[aD _ _ _ _ _ _ h.row];rfl,by rw[aD _ _ _ _ _ _ h.row];rfl,by rw[aD _ _ _ _ _ _ h.row];rfl,by rw[aD _ _ _ _ _ _ h.row];rfl,dJ h.row,dJ h.row⟩
theorem PR.lt {o:Option Addr}{c:Nat}{l:List Nat}{p dR:Nat}{lost:Bool}{W:World}(h:PR o c l p dR lost W):p<W.heap.size:=(aC.1 h.row).1
theorem PR.apart {o:Option Addr}{c:Nat}{l:List Nat}{p dR:Nat}{lost:Bool}{W:World}(h:PR o c l p dR lost W):∀b off,o=some ⟨b,off,none⟩→0<l.length→b≠p:=by
 rintro b off e hm rfl;obtain ⟨b',off',e',hc⟩:=h.bs 0 hm;rw[e] at e'
 cases e'
 rw[aD _ _ _ _ _ _ h.row] at hc;obtain h0|h0|h0|h0|h0:off+0=0∨off+0=1∨off+0=2∨off+0=3∨4≤off+0:=by omega
 ·rw[h0] at hc
  simp at hc
 ·rw[h0] at hc
  simp at hc
 ·rw[h0] at hc
  simp at hc
 ·rw[h0] at hc
  simp at hc
 ·rw[Array.getElem?_eq_none (by simpa using h0)] at hc
  cases hc
theorem PR.goto {o:Option Addr}{c:Nat}{l:List Nat}{p dR:Nat}{lost:Bool}{W:World}(h:PR o c l p dR lost W)(a:Nat)(z:Int)(hz:z=(a:Int)):PR o c l p a lost (W.setCell ⟨p,3,none⟩ (.int .i64 z)):=by
 subst hz;exact ⟨aM _ _ 3 _ _ (.int .i64 (a:Int)) h.row,h.bs.set _ h.apart,h.ok⟩
theorem PR.PX {o:Option Addr}{c:Nat}{l:List Nat}{p dR:Nat}{lost:Bool}{W:World}(h:PR o c l p dR lost W):PR o c l p dR true (W.setCell ⟨p,1,none⟩ (.bool true)) :=
 ⟨aM _ _ 1 _ _ (.bool true) h.row,h.bs.set _ h.apart,h.ok⟩
theorem PR.grown {o:Option Addr}{c:Nat}{l:List Nat}{p dR:Nat}{lost:Bool}{W X:World}{row:Option Nat}(h:PR o c l p dR lost W)(hg:W.grownBy X row)(hp:some p≠row)(hr:∀b off,o=some ⟨b,off,none⟩→0<l.length→some b≠row):PR o c l p dR lost X :=
 ⟨by rw[hg.block p h.lt hp];exact h.row,h.bs.grown hg hr,h.ok⟩
theorem WG (o:Option Addr)(c:Nat)(l:List Nat)(p dR:Nat)(lost:Bool)(w:World)(h:PR o c l p dR lost w) :
  Calls prog 76 #[.pointer (some ⟨p,0,none⟩)] w fun e w'=>e=.returned undef∧PR o c l p dR true w'∧w.grownBy w' (some p):=by
 obtain ⟨c0,c1,c2,c3,f1,f3⟩:=h.facts;have HF:=aA (fV p true lost w c0 c1)
 cases lost with
 | true =>
  have HH:=aA h;clear h;go_enter func76,ntmps76;go_wp2_with fail;refine HF.out.mono ?_;rintro e w1 ⟨rfl,rfl⟩;simp only[fl,if_true];go_wp2_with fail
  go_end0
  exact ⟨rfl,HH.out,cG _ _⟩
 | false =>
  have HH:=aA h.PX;clear h;go_enter func76,ntmps76;go_wp2_with fail;refine HF.out.mono ?_;rintro e w1 ⟨rfl,rfl⟩;simp only[fl,if_true,bD,if_false];go_wp2_with fail
  go_end0
  exact ⟨rfl,HH.out,eC _ _ _ _⟩
def Lx (lost:Bool)(l:List Nat)(dR:Nat):Nat:=if lost=true then 0 else l.length-dR
theorem KB (o:Option Addr)(c:Nat)(l:List Nat)(p dR:Nat)(lost:Bool)(w:World)(k:fW l dR)(h:PR o c l p dR lost w) :
  Calls prog 84 #[.pointer (some ⟨p,0,none⟩)] w fun e w'=>e=.returned (.int .i64 ((Lx lost l dR:Nat):Int))∧Below w.heap.size w w':=by
 obtain ⟨c0,c1,c2,c3,_,_⟩:=h.facts;have HF:=aA (fV p true lost w c0 c1);have HR:=aA h;have k1:=k.len;have k2:=k.at';clear h k
 cases lost with
 | true =>
  go_enter func84,ntmps84;go_wp2_with fail;refine HF.out.mono ?_;rintro e w1 ⟨rfl,rfl⟩;simp only[fl,if_true];go_wp2_with fail;go_ret;exact ⟨rfl,aJ _ _⟩
 | false =>
  have hlf:((Lx false l dR:Nat):Int)=(l.length:Int)-(dR:Int):=by unfold Lx;simp;omega
  rw[hlf];have Zb:Hid (IntKind.i64.wrap ((l.length:Int)-(dR:Int))=(l.length:Int)-(dR:Int)):=aA (by rw[bL];omega);clear hlf;go_enter func84,ntmps84;go_wp2_with fail;refine HF.out.mono ?_;rintro e w1 ⟨rfl,rfl⟩;simp only[fl,if_true,bD,if_false];clear HF c0 c1 c2 c3;go_wp2_with fail;rename_i K3 hK3;refine (bN (n:=5)).1 (eA (S:=fun X=>Below w.heap.size w X) (Z:=[]) (by kernel_rfl) (by kernel_rfl) dU (fun d _ _ _ _ h=>by cases d <;> exact h) (eM _ _ 1) (fun hG rA hw0=>?_));refine dF [] 0 (?_) hG rfl (by kernel_rfl) hw0 (by kernel_rfl) ?_ ?_;rotate_left
  ·intro wz hSw;first|(go_simp;done)|(go_simp;with_reducible rfl)
  intro qZ kS;clear hw0 rA;try simp only[aQ]
  refine dF [] 1 (?_) hG rfl (by kernel_rfl) kS (by kernel_rfl) ?_ ?_;rotate_left
  ·intro wz hSw;first|(go_simp;done)|(go_simp;with_reducible rfl)
  intro qY hw2;clear kS qZ;try simp only[aQ]
  refine dF [] 2 (?_) hG rfl (by kernel_rfl) hw2 (by kernel_rfl) ?_ ?_;rotate_left
  ·intro wz hSw;first|(go_simp;done)|(go_simp;with_reducible rfl)
  intro qX hw3;clear hw2 qY;try simp only[aQ]
  refine dF [] 3 (?_) hG rfl (by kernel_rfl) hw3 (by kernel_rfl) ?_ ?_;rotate_left
  ·intro wz hSw;first|(go_simp;done)|(go_simp;with_reducible rfl)
  intro qW hw4;clear hw3 qX;try simp only[aQ]
  refine dF [] 4 (.slice o l.length c) hG rfl (by kernel_rfl) hw4 (by kernel_rfl) ?_ ?_
  ·intro wz hSw;obtain ⟨c0,c1,c2,c3,_,_⟩:=(HR.out.below hSw).facts;(first|(go_simp;done)|(go_simp;with_reducible rfl))
  intro qV lB;clear hw4 qW;try simp only[aQ]
  refine dF [] 5 (?_) hG rfl (by kernel_rfl) lB (by kernel_rfl) ?_ ?_;rotate_left
  ·intro wz hSw;first|(go_simp;done)|(go_simp;with_reducible rfl)
  intro qU kA;clear lB qV;try simp only[aQ]
  refine dF [] 6 (?_) hG rfl (by kernel_rfl) kA (by kernel_rfl) ?_ ?_;rotate_left
  ·intro wz hSw;first|(go_simp;done)|(go_simp;with_reducible rfl)
  intro qC kP;clear kA qU;try simp only[aQ]
  refine dF [] 7 (?_) hG rfl (by kernel_rfl) kP (by kernel_rfl) ?_ ?_;rotate_left
  ·intro wz hSw;first|(go_simp;done)|(go_simp;with_reducible rfl)
  intro sF kH;clear kP qC;try simp only[aQ]
  refine dF [] 8 (?_) hG rfl (by kernel_rfl) kH (by kernel_rfl) ?_ ?_;rotate_left
  ·intro wz hSw;first|(go_simp;done)|(go_simp;with_reducible rfl)
  intro sD lI;clear kH sF;try simp only[aQ]
  refine dF [] 9 (.int .i64 (dR:Int)) hG rfl (by kernel_rfl) lI (by kernel_rfl) ?_ ?_
  ·intro wz hSw;obtain ⟨c0,c1,c2,c3,_,_⟩:=(HR.out.below hSw).facts;(first|(go_simp;done)|(go_simp;with_reducible rfl))
  intro jG gH;clear lI sD;try simp only[aQ]
  refine dF [] 10 (.int .i64 ((l.length:Int)-(dR:Int))) hG rfl (by kernel_rfl) gH (by kernel_rfl) ?_ ?_
  ·intro wz hSw;have ee:=Zb.out;(first|(go_simp;done)|(go_simp;rw[ee])|(go_simp;with_reducible rfl))
  intro kL gQ;clear gH jG;try simp only[aQ]
  refine dF [] 11 (?_) hG rfl (by kernel_rfl) gQ (by kernel_rfl) ?_ ?_;rotate_left
  ·intro wz hSw;first|(go_simp;done)|(go_simp;with_reducible rfl)
  intro lH iG;clear gQ kL;try simp only[aQ]
  refine eK (by kernel_rfl) (?_) _;refine hK3 _ _ ?_;have HB:=aA iG;clear hK3 hG iG;go_wp2_with fail;go_ret;exact ⟨rfl,HB.out⟩
theorem sL {n:Nat}{P:Program}{ops:Array Oper}{Q:Exit→Act→World→Prop}{md:Region.Mode}{S:World→Prop}{Z:List Nat}(D:List Nat)(i:Nat)(f:FuncId)(args:Array Value)(v:Value)(s:Sound P ops Q S){oi:Oper}{fuel:Nat}{listed:Array Bool}{a:Act}{w:World}(hi:ops[i]?=some oi)
  (hk:mU md ops Z listed i D=true) (hS:S w) (hw:Region.wanted oi (yielded ops a.tmps)=true) (hv:∀w,(execOp a.eval oi).run P w=.ok (.enter f args) w)
  (hc:∀w,S w→Calls P f args w fun e w'=>e=.returned v∧Below w.heap.size w w')
  (h:∀w3,S w3→gX n P md ops Q S Z fuel (listed.setIfInBounds i true) (a.put oi.dst v) w3):gX n P md ops Q S Z (fuel+1) listed a w :=
 rI D i v s hi hk hS (Or.inl ⟨hw,fun w hS=>Or.inr ⟨f,args,hv w,hc w hS⟩⟩) h
theorem FE {o:Oper}{a:Act}{W:World}(x y:Operand)(ho:o.op=.slice 31 x (some y) none none)(oa:Option Addr)(n c l:Nat)(i:Int)(hi:i=(l:Int))(hx:a.eval x=.slice oa n c)(hy:a.eval y=.int .i64 i)
  (hl:l≤n) (hnc:n≤c) (hn:oa=none→c=0) (hs:0<c→∀a,oa=some a→a.spot=none) :
  (execOp a.eval o).run prog W=.ok (.value (.slice (iO oa c l) (n-l) (c-l))) W:=by
 subst hi;have Am:prog.underlying 31=some (.slice (prog.elem 31)):=by simp[Program.elem,bJ]
 have h1:=LX W oa n c l n hl hnc hn hs;have h2:=run_slice_l W 31 oa n c Am .i64 (l:Int) (by omega) (by omega);have h3:=run_slice_lh W 31 oa n c Am .i64 .i64 (l:Int) (n:Int) (by omega) (by omega) (by omega);have h4:(Instr.slice 31 (.slice oa n c) (some (.int .i64 (l:Int))) none none).run prog W=.ok (.slice (iO oa c l) (n-l) (c-l)) W:=by
  rw[h2,←h1,h3];simp
 unfold execOp;simp only[ho,hx,hy,Option.map_some,Option.map_none,Sem.run_bind,run_sliceAt_slice W 31 _ _ _ _ Am,h4,Result.andThen_ok,Sem.run_pure]
end Pk
end Go.Proofs.YtbbhmhihpdmoiaaGreat
