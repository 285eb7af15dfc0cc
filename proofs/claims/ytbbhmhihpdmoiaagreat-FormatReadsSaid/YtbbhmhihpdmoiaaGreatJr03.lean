import Derived.Test.YtbbhmhihpdmoiaaGreatJr02
set_option linter.unusedVariables false
set_option linter.unusedSimpArgs false
set_option maxRecDepth 100000
set_option maxHeartbeats 32000000
namespace Go.Proofs.YtbbhmhihpdmoiaaGreat
namespace Pk
open Fx (eU fF dO fA)
open Go Go.RowKit
def yV (most:Nat):Nat→Nat→List Nat→Option (Nat×Nat)
 | _,_,[]=>none
 | k,n,c :: s=>if k=9∧1 < c then none else if 128≤c then yV most (k + 1) (n + c % 128 * 128 ^ k) s else if (0 < k∧c=0)∨most < n + c % 128 * 128 ^ k then none else some (n + c % 128 * 128 ^ k,k + 1)
def rd (most:Nat) (s:List Nat):Option (Nat×Nat):=yV most 0 0 s
def qU (r:Option (Nat×Nat)):Nat:=match r with | some (n,_)=>n | none=>0
def XJ (r:Option (Nat×Nat)) (eH:Nat):Nat:=match r with | some (_,j)=>eH + j | none=>eH
def XI (r:Option (Nat×Nat)):Bool:=r.isNone
structure ZR (o:Option Addr) (c:Nat) (l:List Nat) (p eH:Nat) (lost:Bool) (W:World):Prop where
 row:W.heap[p]?=some (.cells #[.slice o l.length c,.int .i64 (eH:Int),.bool lost] 106 (0,0))
 bs:Bs W o l
theorem ZR.below {o:Option Addr} {c:Nat} {l:List Nat} {p eH:Nat} {lost:Bool} {W X:World} (h:ZR o c l p eH lost W) (hb:Below W.heap.size W X):ZR o c l p eH lost X:=⟨dV hb h.row,h.bs.below hb⟩
theorem ZR.facts {o:Option Addr} {c:Nat} {l:List Nat} {p eH:Nat} {lost:Bool} {W:World} (h:ZR o c l p eH lost W) :
  W.cell? ⟨p,0,none⟩=some (.slice o l.length c)∧W.cell? ⟨p,1,none⟩=some (.int .i64 (eH:Int))∧W.cell? ⟨p,2,none⟩=some (.bool lost)∧W.frozen? ⟨p,1,none⟩=false∧W.frozen? ⟨p,2,none⟩=false :=
 ⟨by rw [aF _ _ _ _ _ _ h.row];rfl,by rw [aF _ _ _ _ _ _ h.row];rfl,by rw [aF _ _ _ _ _ _ h.row];rfl,dU h.row,dU h.row⟩
theorem ZR.lt {o:Option Addr} {c:Nat} {l:List Nat} {p eH:Nat} {lost:Bool} {W:World} (h:ZR o c l p eH lost W):p < W.heap.size:=(aC.1 h.row).1
theorem ZR.apart {o:Option Addr} {c:Nat} {l:List Nat} {p eH:Nat} {lost:Bool} {W:World} (h:ZR o c l p eH lost W):∀ b off,o=some ⟨b,off,none⟩→0 < l.length→b≠p:=by
 rintro b off e hm rfl
 obtain ⟨b',off',e',hc⟩:=h.bs 0 hm
 rw [e] at e'
 cases e'
 rw [aF _ _ _ _ _ _ h.row] at hc
 obtain h0 | h0 | h0 | h0:off + 0=0∨off + 0=1∨off + 0=2∨3≤off + 0:=by omega
 ·rw [h0] at hc
  simp at hc
 ·rw [h0] at hc
  simp at hc
 ·rw [h0] at hc
  simp at hc
 ·rw [Array.getElem?_eq_none (by simpa using h0)] at hc
  cases hc
theorem ZR.Aa {o:Option Addr} {c:Nat} {l:List Nat} {p eH:Nat} {lost:Bool} {W:World} (h:ZR o c l p eH lost W) (a:Nat) (z:Int) (hz:z=(a:Int)):ZR o c l p a lost (W.setCell ⟨p,1,none⟩ (.int .i64 z)):=by
 subst hz
 exact ⟨aK _ _ 1 _ _ (.int .i64 (a:Int)) h.row,h.bs.set _ h.apart⟩
theorem ZR.Qk {o:Option Addr} {c:Nat} {l:List Nat} {p eH:Nat} {lost:Bool} {W:World} (h:ZR o c l p eH lost W) (a:Nat):ZR o c l p a lost (W.setCell ⟨p,1,none⟩ (.int .i64 (a:Int))) :=
 ⟨aK _ _ 1 _ _ (.int .i64 (a:Int)) h.row,h.bs.set _ h.apart⟩
theorem ZR.nU {o:Option Addr} {c:Nat} {l:List Nat} {p eH:Nat} {lost:Bool} {W:World} (h:ZR o c l p eH lost W) (b:Bool):ZR o c l p eH b (W.setCell ⟨p,2,none⟩ (.bool b)) :=
 ⟨aK _ _ 2 _ _ (.bool b) h.row,h.bs.set _ h.apart⟩
def Eh (o:Option Addr) (c:Nat) (l:List Nat) (p eH:Nat) (r:Option (Nat×Nat)) (w:World) (e:Ending) (w':World):Prop :=
 e=.returned (.int .u64 ((qU r:Nat):Int))∧ZR o c l p (XJ r eH) (XI r) w'∧w.grownBy w' (some p)
theorem VO {P:Program} {o:Oper} {a:Act} {w:World} (t:TypeId) (x y:Operand) (ho:o.op=.indexAddr t x y) (b off n c k:Nat) (z:Int) (hz:z=(k:Int)) (e:TypeId) (hx:a.eval x=.slice (some ⟨b,off,none⟩) n c) (hy:a.eval y=.int .i64 z) (hk:k < n) (hu:P.underlying t=some (.slice e)) (hc:∀ w,(Go.sizeOf e).run P w=.ok 1 w) :
  (execOp a.eval o).run P w=.ok (.value (.pointer (some ⟨b,off + k,none⟩))) w:=by
 subst hz
 unfold execOp
 simp only [ho,hx,hy]
 have h2:(k:Int) < (n:Int):=by omega
 have h3:(0:Int)≤(k:Int):=by omega
 go_simp
 try rw [hc]
theorem UD (o:Option Addr) (c:Nat) (l:List Nat) (p eH most:Nat) (w:World) (h:ZR o c l p eH true w) :
  Calls Tryz.prog 86 #[.pointer (some ⟨p,0,none⟩),.int .u64 (most:Int)] w fun e w'=>e=.returned (.int .u64 0)∧w=w':=by
 obtain ⟨c0,c1,c2,_,_⟩:=h.facts
 go_enter Tryz.func86,Tryz.ntmps86
 go_wp2_with fail
 go_ret
 exact ⟨rfl,rfl⟩
theorem p9:(128:Nat) ^ 9=9223372036854775808:=by decide
theorem EU {k:Nat} (h:k≤9):(128:Nat) ^ k≤9223372036854775808:=by rw [←p9];exact Nat.pow_le_pow_right (by omega) h
theorem Hz (o:Option Addr) (c:Nat) (l:List Nat) (p eH most:Nat) (r:Option (Nat×Nat)) (w:World) (hr:Hid (rd most (l.drop eH)=r)) (hby:Hid (By l)) (hm:Hid (most < 18446744073709551616)) (hlen:Hid (l.length≤1000000000)) (hat:Hid (eH≤l.length)) (h:ZR o c l p eH false w) :
  Calls Tryz.prog 86 #[.pointer (some ⟨p,0,none⟩),.int .u64 (most:Int)] w (Eh o c l p eH r w):=by
 obtain ⟨c0,c1,c2,_,_⟩:=h.facts
 have HZ0:=aA h
 clear h
 go_enter Tryz.func86,Tryz.ntmps86
 go_wp2_with fail
 clear c0 c1 c2
 go_loopg [5,6,7] 9 (fun g s5 s6 s7 wr=>∃ (k n:Nat) (s:List Nat),g=9 - k∧s7=.int .i64 (k:Int)∧s5=.int .u64 (n:Int)∧s6=.int .u64 ((128 ^ k:Nat):Int)∧k≤9∧n < 128 ^ k∧l.drop (eH + k)=s∧yV most k n s=r∧ZR o c l p eH false wr∧w.grownBy wr (some p))
 case atStart=>exact ⟨0,0,_,rfl,rfl,rfl,rfl,by omega,by simp,rfl,hr.out,HZ0.out,cB _ _⟩
 case round =>
  clear HZ0
  obtain ⟨k,n,s,hg,rfl,rfl,rfl,hk,hn,hs,hrd,hz,hgw⟩:=hrel
  subst hg
  have HZ:=aA hz
  have tC:=aA hgw
  have HS:=aA hs
  have Ug:=aA hrd
  have TI:=aA hn
  clear hz hgw hs hrd hn
  have k10:(k:Int) < 10:=by omega
  have k0:(0:Int)≤(k:Int):=by omega
  have Yu:=hlen.out
  by_cases hin:eH + k < l.length
  ·have hin2:((eH + k:Nat):Int) < (l.length:Int):=by omega
   have ha1:(eH:Int) + (k:Int) < 1000000000:=by omega
   have ha0:(0:Int)≤(eH:Int):=by omega
   have Vs:Hid (IntKind.i64.wrap ((eH:Int) + (k:Int))=(eH:Int) + (k:Int)):=aA (by rw [aZ];omega)
   obtain ⟨b,off,eo,_⟩:=HZ.out.bs _ hin
   obtain ⟨x,hx⟩:∃ x,l.getD (eH + k) 0=x:=⟨_,rfl⟩
   have hx256:=hby.out.get (eH + k)
   rw [hx] at hx256
   have hsx:s=x :: l.drop (eH + (k + 1)):=by
    have e:l[eH + k]=x:=by rw [←hx];simp [List.getD,hin]
    rw [←HS.out,List.drop_eq_getElem_cons hin,e]
    rfl
   have hcx:Hid (∀ W,ZR o c l p eH false W→W.cell? ⟨b,off + (eH + k),none⟩=some (.int .u8 (x:Int))):=aA (fun W hW=>by obtain ⟨b',off',e,h⟩:=hW.bs _ hin;rw [eo] at e;cases e;rw [←hx];exact h)
   have qC:=Ug.out
   rw [hsx,yV] at qC
   have qC:=aA qC
   obtain ⟨wo,hwo⟩:∃ wo:Nat,128 ^ k=wo:=⟨_,rfl⟩
   have hwl:wo≤9223372036854775808:=by rw [←hwo];exact EU hk
   rw [hwo] at qC TI
   have hn1:=TI.out
   have HWO:=aA hwo
   obtain ⟨P,hP⟩:∃ P:Nat,x % 128 * wo=P:=⟨_,rfl⟩
   obtain ⟨n2,hn2⟩:∃ n2:Nat,n + P=n2:=⟨_,rfl⟩
   rw [hP,hn2] at qC
   obtain ⟨wo2,hwo2⟩:∃ z:Int,IntKind.u64.wrap ((wo:Int) * 128)=z:=⟨_,rfl⟩
   have eo':=eo
   subst eo
   clear hx hsx HS Ug
   have x0:(0:Int)≤(x:Int):=by omega
   have x1:(x:Int) < 256:=by omega
   have HX256:=aA hx256
   rw [hwo]
   clear hwo Yu hx256 eo'
   go_wp2_with fail
   rename_i K6 Zo
   refine (bG (n:=5)).1 (fA (S:=fun X=>Below wr.heap.size wr X) (Z:=[]) (by kernel_rfl) (by kernel_rfl) eU (fun d _ _ _ _ h=>by cases d <;> exact h) (fG _ _ 1) (fun hG qR hw0=>?_))
   refine dO [] 0 (?_) hG rfl (by kernel_rfl) hw0 (by kernel_rfl) ?_ ?_
   rotate_left
   ·intro wz hSw;(first | (go_simp;done) | (go_simp;with_reducible rfl))
   intro qQ hw1
   clear hw0 qR
   try simp only [aQ]
   refine dO [] 1 (?_) hG rfl (by kernel_rfl) hw1 (by kernel_rfl) ?_ ?_
   rotate_left
   ·intro wz hSw;(first | (go_simp;done) | (go_simp;with_reducible rfl))
   intro qP hw2
   clear hw1 qQ
   try simp only [aQ]
   refine dO [] 2 (?_) hG rfl (by kernel_rfl) hw2 (by kernel_rfl) ?_ ?_
   rotate_left
   ·intro wz hSw;(first | (go_simp;done) | (go_simp;with_reducible rfl))
   intro qO hw3
   clear hw2 qP
   try simp only [aQ]
   refine dO [] 3 (?_) hG rfl (by kernel_rfl) hw3 (by kernel_rfl) ?_ ?_
   rotate_left
   ·intro wz hSw;(first | (go_simp;done) | (go_simp;with_reducible rfl))
   intro qN hw4
   clear hw3 qO
   try simp only [aQ]
   refine dO [] 4 (?_) hG rfl (by kernel_rfl) hw4 (by kernel_rfl) ?_ ?_
   rotate_left
   ·intro wz hSw;(first | (go_simp;done) | (go_simp;with_reducible rfl))
   intro qM lK
   clear hw4 qN
   try simp only [aQ]
   refine dO [] 5 (?_) hG rfl (by kernel_rfl) lK (by kernel_rfl) ?_ ?_
   rotate_left
   ·intro wz hSw;(first | (go_simp;done) | (go_simp;with_reducible rfl))
   intro qL kP
   clear lK qM
   try simp only [aQ]
   refine dO [] 6 (.int .i64 (eH:Int)) hG rfl (by kernel_rfl) kP (by kernel_rfl) ?_ ?_
   ·intro wz hSw;obtain ⟨c0,c1,c2,_,_⟩:=(HZ.out.below hSw).facts;(first | (go_simp;done) | (go_simp;with_reducible rfl))
   intro pQ hw7
   clear kP qL
   try simp only [aQ]
   refine dO [] 7 (?_) hG rfl (by kernel_rfl) hw7 (by kernel_rfl) ?_ ?_
   rotate_left
   ·intro wz hSw;(first | (go_simp;done) | (go_simp;with_reducible rfl))
   intro rA hw8
   clear hw7 pQ
   try simp only [aQ]
   refine dO [] 8 (.int .i64 ((eH:Int) + (k:Int))) hG rfl (by kernel_rfl) hw8 (by kernel_rfl) ?_ ?_
   ·intro wz hSw;have ee:=Vs.out;(first | (go_simp;done) | (go_simp;rw [ee]) | (go_simp;with_reducible rfl))
   intro qZ mH
   clear hw8 rA
   try simp only [aQ]
   refine dO [] 9 (?_) hG rfl (by kernel_rfl) mH (by kernel_rfl) ?_ ?_
   rotate_left
   ·intro wz hSw;(first | (go_simp;done) | (go_simp;with_reducible rfl))
   intro jM iF
   clear mH qZ
   try simp only [aQ]
   refine dO [] 10 (?_) hG rfl (by kernel_rfl) iF (by kernel_rfl) ?_ ?_
   rotate_left
   ·intro wz hSw;(first | (go_simp;done) | (go_simp;with_reducible rfl))
   intro kW iN
   clear iF jM
   try simp only [aQ]
   refine dO [] 11 (?_) hG rfl (by kernel_rfl) iN (by kernel_rfl) ?_ ?_
   rotate_left
   ·intro wz hSw;(first | (go_simp;done) | (go_simp;with_reducible rfl))
   intro mD jG
   clear iN kW
   try simp only [aQ]
   refine dO [] 12 (.slice (some ⟨b,off,none⟩) l.length c) hG rfl (by kernel_rfl) jG (by kernel_rfl) ?_ ?_
   ·intro wz hSw;obtain ⟨c0,c1,c2,_,_⟩:=(HZ.out.below hSw).facts;(first | (go_simp;done) | (go_simp;with_reducible rfl))
   intro nC jR
   clear jG mD
   try simp only [aQ]
   refine dO [] 13 (?_) hG rfl (by kernel_rfl) jR (by kernel_rfl) ?_ ?_
   rotate_left
   ·intro wz hSw;(first | (go_simp;done) | (go_simp;with_reducible rfl))
   intro nT jN
   clear jR nC
   try simp only [aQ]
   refine dO [] 14 (.bool true) hG rfl (by kernel_rfl) jN (by kernel_rfl) ?_ ?_
   ·intro wz hSw;(first | (go_simp;done) | (go_simp;exact hin2) | (go_simp;omega))
   intro oP kK
   clear jN nT
   try simp only [aQ]
   refine dO [] 15 (?_) hG rfl (by kernel_rfl) kK (by kernel_rfl) ?_ ?_
   rotate_left
   ·intro wz hSw;(first | (go_simp;done) | (go_simp;with_reducible rfl))
   intro xA hw16
   clear kK oP
   try simp only [aQ]
   refine fF (by kernel_rfl) (?_) _
   refine Zo _ _ ?_
   have HZ1:=aA (HZ.out.below hw16)
   have Fv:=aA (tC.out.trans (below_grown hw16 (some p)))
   clear Zo hG HZ tC hw16
   have HZ:=HZ1
   have tC:=Fv
   clear HZ1 Fv
   go_wp2_with fail
   rename_i K8 hK8
   refine (bG (n:=5)).1 (fA (S:=fun X=>Below xA.heap.size xA X) (Z:=[]) (by kernel_rfl) (by kernel_rfl) eU (fun d _ _ _ _ h=>by cases d <;> exact h) (fG _ _ 1) (fun hG qR hw0=>?_))
   refine dO [] 0 (?_) hG rfl (by kernel_rfl) hw0 (by kernel_rfl) ?_ ?_
   rotate_left
   ·intro wz hSw;(first | (go_simp;done) | (go_simp;with_reducible rfl))
   intro qQ hw1
   clear hw0 qR
   try simp only [aQ]
   refine dO [] 1 (?_) hG rfl (by kernel_rfl) hw1 (by kernel_rfl) ?_ ?_
   rotate_left
   ·intro wz hSw;(first | (go_simp;done) | (go_simp;with_reducible rfl))
   intro qP hw2
   clear hw1 qQ
   try simp only [aQ]
   refine dO [] 2 (?_) hG rfl (by kernel_rfl) hw2 (by kernel_rfl) ?_ ?_
   rotate_left
   ·intro wz hSw;(first | (go_simp;done) | (go_simp;with_reducible rfl))
   intro qO hw3
   clear hw2 qP
   try simp only [aQ]
   refine dO [] 3 (.slice (some ⟨b,off,none⟩) l.length c) hG rfl (by kernel_rfl) hw3 (by kernel_rfl) ?_ ?_
   ·intro wz hSw;obtain ⟨c0,c1,c2,_,_⟩:=(HZ.out.below hSw).facts;(first | (go_simp;done) | (go_simp;with_reducible rfl))
   intro qN hw4
   clear hw3 qO
   try simp only [aQ]
   refine dO [] 4 (?_) hG rfl (by kernel_rfl) hw4 (by kernel_rfl) ?_ ?_
   rotate_left
   ·intro wz hSw;(first | (go_simp;done) | (go_simp;with_reducible rfl))
   intro qM lK
   clear hw4 qN
   try simp only [aQ]
   refine dO [] 5 (?_) hG rfl (by kernel_rfl) lK (by kernel_rfl) ?_ ?_
   rotate_left
   ·intro wz hSw;(first | (go_simp;done) | (go_simp;with_reducible rfl))
   intro qL kP
   clear lK qM
   try simp only [aQ]
   refine dO [] 6 (?_) hG rfl (by kernel_rfl) kP (by kernel_rfl) ?_ ?_
   rotate_left
   ·intro wz hSw;(first | (go_simp;done) | (go_simp;with_reducible rfl))
   intro pQ hw7
   clear kP qL
   try simp only [aQ]
   refine dO [] 7 (.int .i64 (eH:Int)) hG rfl (by kernel_rfl) hw7 (by kernel_rfl) ?_ ?_
   ·intro wz hSw;obtain ⟨c0,c1,c2,_,_⟩:=(HZ.out.below hSw).facts;(first | (go_simp;done) | (go_simp;with_reducible rfl))
   intro rA hw8
   clear hw7 pQ
   try simp only [aQ]
   refine dO [] 8 (?_) hG rfl (by kernel_rfl) hw8 (by kernel_rfl) ?_ ?_
   rotate_left
   ·intro wz hSw;(first | (go_simp;done) | (go_simp;with_reducible rfl))
   intro qZ mH
   clear hw8 rA
   try simp only [aQ]
   refine dO [] 9 (.int .i64 ((eH:Int) + (k:Int))) hG rfl (by kernel_rfl) mH (by kernel_rfl) ?_ ?_
   ·intro wz hSw;have ee:=Vs.out;(first | (go_simp;done) | (go_simp;rw [ee]) | (go_simp;with_reducible rfl))
   intro jM iF
   clear mH qZ
   try simp only [aQ]
   refine dO [] 10 (.pointer (some ⟨b,off + (eH + k),none⟩)) hG rfl (by kernel_rfl) iF (by kernel_rfl) ?_ ?_
   ·intro wz hSw;exact VO 31 (.tmp 34) (.tmp 40) (by kernel_rfl) b off l.length c (eH + k) ((eH:Int) + (k:Int)) (by omega) 5 (by kernel_rfl) (by kernel_rfl) hin bS (fun _=>by kernel_rfl)
   intro kW iN
   clear iF jM
   try simp only [aQ]
   refine dO [] 11 (.int .u8 (x:Int)) hG rfl (by kernel_rfl) iN (by kernel_rfl) ?_ ?_
   ·intro wz hSw;have hcc:=hcx.out wz (HZ.out.below hSw);(first | (go_simp;done) | (go_simp;with_reducible rfl))
   intro mD jG
   clear iN kW
   try simp only [aQ]
   refine dO [] 12 (.int .u64 (x:Int)) hG rfl (by kernel_rfl) jG (by kernel_rfl) ?_ ?_
   ·intro wz hSw;have hw:IntKind.u64.wrap (x:Int)=(x:Int):=(by rw [aU];omega);(first | (go_simp;done) | (go_simp;rw [hw]))
   intro nC jR
   clear jG mD
   try simp only [aQ]
   refine dO [] 13 (?_) hG rfl (by kernel_rfl) jR (by kernel_rfl) ?_ ?_
   rotate_left
   ·intro wz hSw;(first | (go_simp;done) | (go_simp;with_reducible rfl))
   intro nT jN
   clear jR nC
   try simp only [aQ]
   refine fF (by kernel_rfl) (?_) _
   refine hK8 _ _ ?_
   have HZ1:=aA (HZ.out.below jN)
   have Fv:=aA (tC.out.trans (below_grown jN (some p)))
   clear hK8 hG HZ tC hcx jN
   have HZ:=HZ1
   have tC:=Fv
   clear HZ1 Fv
   by_cases hbig:k=9∧1 < x
   ·obtain ⟨rfl,hx1⟩:=hbig
    have HR:Hid (r=none):=aA (by have:=qC.out;rw [aT ⟨rfl,hx1⟩] at this;exact this.symm)
    have d1:(1:Int) < (x:Int):=by omega
    clear qC
    obtain ⟨c0,c1,c2,f1,f2⟩:=HZ.out.facts
    have HE:=aA (HZ.out.nU true)
    have uG:=aA (tC.out.trans (fO _ p 2 (.bool true)))
    clear HZ tC
    go_wp2_with fail
    go_ret
    exact ⟨by rw [HR.out];rfl,by rw [HR.out];exact HE.out,uG.out⟩
   ·have hPl:P≤9223372036854775808∧n + P < 18446744073709551616:=by
     rcases Nat.lt_or_ge k 9 with h9 | h9
     ·have h1:x % 128 * wo≤127 * wo:=Nat.mul_le_mul_right _ (by omega)
      have h2:wo * 128≤9223372036854775808:=by
       have:=EU (show k + 1≤9 by omega)
       rw [bM,HWO.out] at this
       exact this
      omega
     ·have hk9:k=9:=by omega
      have hx1:x≤1:=by
       rcases Nat.lt_or_ge 1 x with h | h
       ·exact absurd ⟨hk9,h⟩ hbig
       ·exact h
      have h1:x % 128 * wo≤1 * wo:=Nat.mul_le_mul_right _ (by omega)
      omega
    have e1:IntKind.u64.wrap ((x:Int) % 128 * (wo:Int))=(P:Int):=by
     have : ((x:Int) % 128 * (wo:Int))=(P:Int):=by rw [←hP];push_cast;rfl
     rw [this,aU]
     omega
    have e2:IntKind.u64.wrap ((n:Int) + (P:Int))=(n2:Int):=by rw [aU];omega
    have d9:(k:Int)=9→¬ (1:Int) < (x:Int):=fun h1 h2=>hbig ⟨by omega,by omega⟩
    have HD9:=aA d9
    have qV:=aA hPl
    have HHP:=aA hP
    have BK:=aA hn2
    have HHB:=aA hbig
    clear hPl hP hn2 d9 hwl hn1
    rcases (show (k=9∧x≤1)∨k≠9 by omega) with ⟨rfl,hx1⟩ | hk9
    ·skip
     have t9:¬ (1:Int) < (x:Int):=by omega
     have h128:¬ 128≤x:=by omega
     have Vx:¬ (128:Int)≤(x:Int):=by omega
     have BI:=qC.out
     rw [aX HHB.out,aX h128] at BI
     have BI:=aA BI
     clear qC
     by_cases hz0:0 < 9∧x=0
     ·obtain ⟨hk0,rfl⟩:=hz0
      have HR:Hid (r=none):=aA (by have:=BI.out;rw [aT (Or.inl ⟨hk0,rfl⟩)] at this;exact this.symm)
      clear BI
      obtain ⟨c0,c1,c2,f1,f2⟩:=HZ.out.facts
      have HE:=aA (HZ.out.nU true)
      have uG:=aA (tC.out.trans (fO _ p 2 (.bool true)))
      clear HZ tC
      go_wp2_with fail
      go_ret
      exact ⟨by rw [HR.out];rfl,by rw [HR.out];exact HE.out,uG.out⟩
     ·by_cases FR:most < n2
      ·have HR:Hid (r=none):=aA (by have:=BI.out;rw [aT (Or.inr FR)] at this;exact this.symm)
       have tm:(most:Int) < (n2:Int):=by omega
       have tmd:decide ((most:Int) < (n2:Int))=true:=aV tm
       have tme:decide (most < n2)=true:=aV FR
       clear BI
       have tz:((x:Int) == 0)=false:=by simp;omega
       have tzb:¬ (x:Int)=0:=by omega
       obtain ⟨c0,c1,c2,f1,f2⟩:=HZ.out.facts
       have HE:=aA (HZ.out.nU true)
       have uG:=aA (tC.out.trans (fO _ p 2 (.bool true)))
       clear HZ tC
       go_wp2_with fail
       go_ret
       exact ⟨by rw [HR.out];rfl,by rw [HR.out];exact HE.out,uG.out⟩
      ·have HR:Hid (r=some (n2,9 + 1)):=aA (by have:=BI.out;rw [aX (by omega)] at this;exact this.symm)
       have tm:¬ (most:Int) < (n2:Int):=by omega
       have tmd:decide ((most:Int) < (n2:Int))=false:=aN tm
       have tme:decide (most < n2)=false:=aN FR
       clear BI
       have tz:((x:Int) == 0)=false:=by simp;omega
       have tzb:¬ (x:Int)=0:=by omega
       obtain ⟨c0,c1,c2,f1,f2⟩:=HZ.out.facts
       have HE:=aA (HZ.out.Aa (eH + (9 + 1)) ((eH:Int) + 9 + 1) (by omega))
       have uG:=aA (tC.out.trans (fO _ p 1 (.int .i64 ((eH:Int) + 9 + 1))))
       clear HZ tC
       go_wp2_with fail
       go_ret
       exact ⟨by rw [HR.out];rfl,by rw [HR.out];exact HE.out,uG.out⟩
    ·skip
     have t9:((k:Int) == 9)=false:=by simp;omega
     have t9b:¬ (k:Int)=9:=by omega
     by_cases h128:128≤x
     ·have Vx:(128:Int)≤(x:Int):=by omega
      have Me:Hid (yV most (k + 1) n2 (l.drop (eH + (k + 1)))=r):=aA (by have:=qC.out;rw [aX HHB.out,aT h128] at this;exact this)
      have Vr:Hid (n2 < 128 ^ (k + 1)):=aA (by have h1:=BK.out;have h2:=HHP.out;have h3:=TI.out;rw [bM,HWO.out];have h4:x % 128 * wo≤127 * wo:=Nat.mul_le_mul_right _ (by omega);omega)
      have HW2:Hid (wo2=((128 ^ (k + 1):Nat):Int)):=aA (by have h1:=EU (show k + 1≤9 by omega);rw [←hwo2,bM,HWO.out,aU];rw [bM,HWO.out] at h1;push_cast;omega)
      clear qC
      go_wp2_with fail
      go_roundg (9 - (k + 1))
      case measure=>omega
      case rel=>exact ⟨k + 1,n2,_,rfl,by go_num,rfl,by rw [HW2.out],by omega,Vr.out,rfl,Me.out,HZ.out,tC.out⟩
     ·have Vx:¬ (128:Int)≤(x:Int):=by omega
      have BI:=qC.out
      rw [aX HHB.out,aX h128] at BI
      have BI:=aA BI
      clear qC
      by_cases hz0:0 < k∧x=0
      ·obtain ⟨hk0,rfl⟩:=hz0
       have HR:Hid (r=none):=aA (by have:=BI.out;rw [aT (Or.inl ⟨hk0,rfl⟩)] at this;exact this.symm)
       have tk:(0:Int) < (k:Int):=by omega
       clear BI
       obtain ⟨c0,c1,c2,f1,f2⟩:=HZ.out.facts
       have HE:=aA (HZ.out.nU true)
       have uG:=aA (tC.out.trans (fO _ p 2 (.bool true)))
       clear HZ tC
       go_wp2_with fail
       go_ret
       exact ⟨by rw [HR.out];rfl,by rw [HR.out];exact HE.out,uG.out⟩
      ·by_cases FR:most < n2
       ·have HR:Hid (r=none):=aA (by have:=BI.out;rw [aT (Or.inr FR)] at this;exact this.symm)
        have tm:(most:Int) < (n2:Int):=by omega
        have tmd:decide ((most:Int) < (n2:Int))=true:=aV tm
        have tme:decide (most < n2)=true:=aV FR
        clear BI
        by_cases hk0:0 < k
        ·have tk:(0:Int) < (k:Int):=by omega
         have tz:((x:Int) == 0)=false:=by simp;omega
         have tzb:¬ (x:Int)=0:=by omega
         obtain ⟨c0,c1,c2,f1,f2⟩:=HZ.out.facts
         have HE:=aA (HZ.out.nU true)
         have uG:=aA (tC.out.trans (fO _ p 2 (.bool true)))
         clear HZ tC
         go_wp2_with fail
         go_ret
         exact ⟨by rw [HR.out];rfl,by rw [HR.out];exact HE.out,uG.out⟩
        ·have tk:¬ (0:Int) < (k:Int):=by omega
         obtain ⟨c0,c1,c2,f1,f2⟩:=HZ.out.facts
         have HE:=aA (HZ.out.nU true)
         have uG:=aA (tC.out.trans (fO _ p 2 (.bool true)))
         clear HZ tC
         go_wp2_with fail
         go_ret
         exact ⟨by rw [HR.out];rfl,by rw [HR.out];exact HE.out,uG.out⟩
       ·have HR:Hid (r=some (n2,k + 1)):=aA (by have:=BI.out;rw [aX (by omega)] at this;exact this.symm)
        have tm:¬ (most:Int) < (n2:Int):=by omega
        have tmd:decide ((most:Int) < (n2:Int))=false:=aN tm
        have tme:decide (most < n2)=false:=aN FR
        clear BI
        by_cases hk0:0 < k
        ·have tk:(0:Int) < (k:Int):=by omega
         have tz:((x:Int) == 0)=false:=by simp;omega
         have tzb:¬ (x:Int)=0:=by omega
         obtain ⟨c0,c1,c2,f1,f2⟩:=HZ.out.facts
         have HE:=aA (HZ.out.Aa (eH + (k + 1)) ((eH:Int) + (k:Int) + 1) (by omega))
         have uG:=aA (tC.out.trans (fO _ p 1 (.int .i64 ((eH:Int) + (k:Int) + 1))))
         clear HZ tC
         go_wp2_with fail
         go_ret
         exact ⟨by rw [HR.out];rfl,by rw [HR.out];exact HE.out,uG.out⟩
        ·have tk:¬ (0:Int) < (k:Int):=by omega
         obtain ⟨c0,c1,c2,f1,f2⟩:=HZ.out.facts
         have HE:=aA (HZ.out.Aa (eH + (k + 1)) ((eH:Int) + (k:Int) + 1) (by omega))
         have uG:=aA (tC.out.trans (fO _ p 1 (.int .i64 ((eH:Int) + (k:Int) + 1))))
         clear HZ tC
         go_wp2_with fail
         go_ret
         exact ⟨by rw [HR.out];rfl,by rw [HR.out];exact HE.out,uG.out⟩
  ·have hin2:¬ (eH:Int) + (k:Int) < (l.length:Int):=by omega
   have hdz:eH≤1000000000:=by have:=hat.out;omega
   have ha1:(eH:Int) + (k:Int)≤2000000000:=by omega
   have ha0:(0:Int)≤(eH:Int):=by omega
   have Vs:Hid (IntKind.i64.wrap ((eH:Int) + (k:Int))=(eH:Int) + (k:Int)):=aA (by rw [aZ];omega)
   have HR:Hid (r=none):=aA (by
    have h1:=HS.out
    rw [List.drop_eq_nil_of_le (by omega)] at h1
    have h2:=Ug.out
    rw [←h1] at h2
    exact h2.symm)
   clear HS Ug TI
   go_wp2_with fail
   rename_i K6 Zo
   refine (bG (n:=5)).1 (fA (S:=fun X=>Below wr.heap.size wr X) (Z:=[]) (by kernel_rfl) (by kernel_rfl) eU (fun d _ _ _ _ h=>by cases d <;> exact h) (fG _ _ 1) (fun hG qR hw0=>?_))
   refine dO [] 0 (?_) hG rfl (by kernel_rfl) hw0 (by kernel_rfl) ?_ ?_
   rotate_left
   ·intro wz hSw;(first | (go_simp;done) | (go_simp;with_reducible rfl))
   intro qQ hw1
   clear hw0 qR
   try simp only [aQ]
   refine dO [] 1 (?_) hG rfl (by kernel_rfl) hw1 (by kernel_rfl) ?_ ?_
   rotate_left
   ·intro wz hSw;(first | (go_simp;done) | (go_simp;with_reducible rfl))
   intro qP hw2
   clear hw1 qQ
   try simp only [aQ]
   refine dO [] 2 (?_) hG rfl (by kernel_rfl) hw2 (by kernel_rfl) ?_ ?_
   rotate_left
   ·intro wz hSw;(first | (go_simp;done) | (go_simp;with_reducible rfl))
   intro qO hw3
   clear hw2 qP
   try simp only [aQ]
   refine dO [] 3 (?_) hG rfl (by kernel_rfl) hw3 (by kernel_rfl) ?_ ?_
   rotate_left
   ·intro wz hSw;(first | (go_simp;done) | (go_simp;with_reducible rfl))
   intro qN hw4
   clear hw3 qO
   try simp only [aQ]
   refine dO [] 4 (?_) hG rfl (by kernel_rfl) hw4 (by kernel_rfl) ?_ ?_
   rotate_left
   ·intro wz hSw;(first | (go_simp;done) | (go_simp;with_reducible rfl))
   intro qM lK
   clear hw4 qN
   try simp only [aQ]
   refine dO [] 5 (?_) hG rfl (by kernel_rfl) lK (by kernel_rfl) ?_ ?_
   rotate_left
   ·intro wz hSw;(first | (go_simp;done) | (go_simp;with_reducible rfl))
   intro qL kP
   clear lK qM
   try simp only [aQ]
   refine dO [] 6 (.int .i64 (eH:Int)) hG rfl (by kernel_rfl) kP (by kernel_rfl) ?_ ?_
   ·intro wz hSw;obtain ⟨c0,c1,c2,_,_⟩:=(HZ.out.below hSw).facts;(first | (go_simp;done) | (go_simp;with_reducible rfl))
   intro pQ hw7
   clear kP qL
   try simp only [aQ]
   refine dO [] 7 (?_) hG rfl (by kernel_rfl) hw7 (by kernel_rfl) ?_ ?_
   rotate_left
   ·intro wz hSw;(first | (go_simp;done) | (go_simp;with_reducible rfl))
   intro rA hw8
   clear hw7 pQ
   try simp only [aQ]
   refine dO [] 8 (.int .i64 ((eH:Int) + (k:Int))) hG rfl (by kernel_rfl) hw8 (by kernel_rfl) ?_ ?_
   ·intro wz hSw;have ee:=Vs.out;(first | (go_simp;done) | (go_simp;rw [ee]) | (go_simp;with_reducible rfl))
   intro qZ mH
   clear hw8 rA
   try simp only [aQ]
   refine dO [] 9 (?_) hG rfl (by kernel_rfl) mH (by kernel_rfl) ?_ ?_
   rotate_left
   ·intro wz hSw;(first | (go_simp;done) | (go_simp;with_reducible rfl))
   intro jM iF
   clear mH qZ
   try simp only [aQ]
   refine dO [] 10 (?_) hG rfl (by kernel_rfl) iF (by kernel_rfl) ?_ ?_
   rotate_left
   ·intro wz hSw;(first | (go_simp;done) | (go_simp;with_reducible rfl))
   intro kW iN
   clear iF jM
   try simp only [aQ]
   refine dO [] 11 (?_) hG rfl (by kernel_rfl) iN (by kernel_rfl) ?_ ?_
   rotate_left
   ·intro wz hSw;(first | (go_simp;done) | (go_simp;with_reducible rfl))
   intro mD jG
   clear iN kW
   try simp only [aQ]
   refine dO [] 12 (.slice o l.length c) hG rfl (by kernel_rfl) jG (by kernel_rfl) ?_ ?_
   ·intro wz hSw;obtain ⟨c0,c1,c2,_,_⟩:=(HZ.out.below hSw).facts;(first | (go_simp;done) | (go_simp;with_reducible rfl))
   intro nC jR
   clear jG mD
   try simp only [aQ]
   refine dO [] 13 (?_) hG rfl (by kernel_rfl) jR (by kernel_rfl) ?_ ?_
   rotate_left
   ·intro wz hSw;(first | (go_simp;done) | (go_simp;with_reducible rfl))
   intro nT jN
   clear jR nC
   try simp only [aQ]
   refine dO [] 14 (.bool false) hG rfl (by kernel_rfl) jN (by kernel_rfl) ?_ ?_
   ·intro wz hSw;(first | (go_simp;done) | (go_simp;exact hin2) | (go_simp;omega))
   intro oP kK
   clear jN nT
   try simp only [aQ]
   refine dO [] 15 (?_) hG rfl (by kernel_rfl) kK (by kernel_rfl) ?_ ?_
   rotate_left
   ·intro wz hSw;(first | (go_simp;done) | (go_simp;with_reducible rfl))
   intro xA hw16
   clear kK oP
   try simp only [aQ]
   refine fF (by kernel_rfl) (?_) _
   refine Zo _ _ ?_
   have HZ1:=aA (HZ.out.below hw16)
   have Fv:=aA (tC.out.trans (below_grown hw16 (some p)))
   clear Zo hG HZ tC hw16
   have HZ:=HZ1
   have tC:=Fv
   clear HZ1 Fv
   obtain ⟨c0,c1,c2,f1,f2⟩:=HZ.out.facts
   have HE:=aA (HZ.out.nU true)
   have uG:=aA (tC.out.trans (fO _ p 2 (.bool true)))
   clear HZ tC
   go_wp2_with fail
   go_ret
   exact ⟨by rw [HR.out];rfl,by rw [HR.out];exact HE.out,uG.out⟩
end Pk
end Go.Proofs.YtbbhmhihpdmoiaaGreat
