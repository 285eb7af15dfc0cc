import Derived.Test.YtbbhmhihpdmoiaaGreatJr03
set_option linter.unusedVariables false
set_option linter.unusedSimpArgs false
set_option maxRecDepth 100000
set_option maxHeartbeats 32000000
namespace Go.Proofs.YtbbhmhihpdmoiaaGreat
namespace Pk
open Go Go.RowKit
theorem ZY {most:Nat}:∀ {s:List Nat} {k n a j:Nat},yV most k n s=some (a,j)→a≤most∧k < j∧j≤k + s.length
 | [],_,_,_,_,h=>by simp [yV] at h
 | c :: s,k,n,a,j,h=>by
  rw [yV] at h
  split at h
  ·cases h
  ·split at h
   ·have:=ZY h
    simp
    omega
   ·split at h
    ·cases h
    ·cases h
     simp
     omega
theorem tJ {most:Nat} {s:List Nat} {a j:Nat} (h:rd most s=some (a,j)):a≤most∧0 < j∧j≤s.length:=by
 have:=ZY h
 omega
def rq (lost:Bool) (most:Nat) (s:List Nat):Option (Nat×Nat):=if lost=true then none else rd most s
def rz (lost:Bool) (most:Int) (s:List Nat):Option (Nat×Nat):=if lost=true∨most < 0 then none else rd most.toNat s
theorem IU {lost:Bool} {most:Nat} {s:List Nat}:qU (rq lost most s)≤most:=by
 unfold rq
 split
 ·exact dF _
 ·cases h:rd most s with
  | none=>exact dF _
  | some r=>obtain ⟨a,j⟩:=r;exact (tJ h).1
structure iA (l:List Nat) (eH:Nat):Prop where
 by':By l
 len:l.length≤1000000000
 at':eH≤l.length
theorem CV (o:Option Addr) (c:Nat) (l:List Nat) (p eH most:Nat) (lost:Bool) (w:World) (k:iA l eH) (hm:most < 18446744073709551616) (h:ZR o c l p eH lost w) :
  Calls Tryz.prog 86 #[.pointer (some ⟨p,0,none⟩),.int .u64 (most:Int)] w (Eh o c l p eH (rq lost most (l.drop eH)) w):=by
 cases lost with
 | true =>
  refine (UD o c l p eH most w h).mono ?_
  rintro e w' ⟨rfl,rfl⟩
  exact ⟨rfl,h,cB _ _⟩
 | false=>exact Hz o c l p eH most _ w (aA rfl) (aA k.by') (aA hm) (aA k.len) (aA k.at') h
def GM (o:Option Addr) (c:Nat) (l:List Nat) (p eH:Nat) (r:Option (Nat×Nat)) (v:Value) (w:World) (e:Ending) (w':World):Prop :=
 e=.returned v∧ZR o c l p (XJ r eH) (XI r) w'∧w.grownBy w' (some p)
theorem yI (o:Option Addr) (c:Nat) (l:List Nat) (p eH:Nat) (lost:Bool) (w:World) (k:iA l eH) (h:ZR o c l p eH lost w) :
  Calls Tryz.prog 88 #[.pointer (some ⟨p,0,none⟩)] w (GM o c l p eH (rq lost 18446744073709551615 (l.drop eH)) (.int .u64 ((qU (rq lost 18446744073709551615 (l.drop eH)):Nat):Int)) w):=by
 have HU:=aA (CV o c l p eH 18446744073709551615 lost w k (by omega) h)
 clear k h
 generalize rq lost 18446744073709551615 (l.drop eH)=r at *
 obtain ⟨a,ha⟩:∃ a,qU r=a:=⟨_,rfl⟩
 have HA:=aA ha
 rw [ha]
 clear ha
 go_enter Tryz.func88,Tryz.ntmps88
 go_wp2_with fail
 refine HU.out.mono ?_
 rintro e w1 ⟨rfl,hz,hg⟩
 rw [HA.out]
 have HZ:=aA hz
 have HG:=aA hg
 clear hz hg HU
 go_wp2_with fail
 go_ret
 exact ⟨rfl,HZ.out,HG.out⟩
def BP (n:Nat):Int:=if n % 2=0 then ((n / 2:Nat):Int) else -((n / 2:Nat):Int) - 1
theorem EJ (n:Nat) (hn:n < 18446744073709551616) (w:World) :
  Calls Tryz.prog 113 #[.int .u64 (n:Int)] w fun e w'=>e=.returned (.int .i64 (BP n))∧w=w':=by
 obtain ⟨m,hm⟩:∃ m,n / 2=m:=⟨_,rfl⟩
 have e1:((n:Int) / 2)=(m:Int):=by omega
 have m0:(0:Int)≤(m:Int):=by omega
 have m1:(m:Int)≤9223372036854775807:=by omega
 have HM:=aA hm
 by_cases h:n % 2=0
 ·have hu:BP n=(m:Int):=by unfold BP;rw [aT h,hm]
  have t1:(n:Int) % 2=0:=by omega
  rw [hu]
  clear hm hn h hu
  go_enter Tryz.func113,Tryz.ntmps113
  go_wp2_with fail
  go_ret
  exact ⟨rfl,rfl⟩
 ·have hu:BP n=-(m:Int) - 1:=by unfold BP;rw [aX h,hm]
  have t1:((n:Int) % 2 == 0)=false:=by simp;omega
  have t2:¬ (n:Int) % 2=0:=by omega
  rw [hu]
  clear hm hn h hu
  go_enter Tryz.func113,Tryz.ntmps113
  go_wp2_with fail
  go_ret
  exact ⟨rfl,rfl⟩
theorem TT (o:Option Addr) (c:Nat) (l:List Nat) (p eH:Nat) (lost:Bool) (w:World) (k:iA l eH) (h:ZR o c l p eH lost w) :
  Calls Tryz.prog 87 #[.pointer (some ⟨p,0,none⟩)] w (GM o c l p eH (rq lost 18446744073709551615 (l.drop eH)) (.int .i64 (BP (qU (rq lost 18446744073709551615 (l.drop eH))))) w):=by
 have HU:=aA (yI o c l p eH lost w k h)
 have hle:qU (rq lost 18446744073709551615 (l.drop eH))≤18446744073709551615:=IU
 clear k h
 generalize rq lost 18446744073709551615 (l.drop eH)=r at *
 have HN:=aA (fun w=>EJ (qU r) (by omega) w)
 clear hle
 obtain ⟨a,ha⟩:∃ a,qU r=a:=⟨_,rfl⟩
 have HA:=aA ha
 rw [ha] at HU HN ⊢
 clear ha
 go_enter Tryz.func87,Tryz.ntmps87
 go_wp2_with fail
 refine HU.out.mono ?_
 rintro e w1 ⟨rfl,hz,hg⟩
 have HZ:=aA hz
 have HG:=aA hg
 clear hz hg HU
 go_wp2_with fail
 refine (HN.out _).mono ?_
 rintro e w2 ⟨rfl,rfl⟩
 go_wp2_with fail
 go_ret
 exact ⟨rfl,HZ.out,HG.out⟩
theorem GZ (o:Option Addr) (c:Nat) (l:List Nat) (p eH:Nat) (most:Int) (lost:Bool) (w:World) (k:iA l eH) (h1:most≤9223372036854775807) (h:ZR o c l p eH lost w) :
  Calls Tryz.prog 46 #[.pointer (some ⟨p,0,none⟩),.int .i64 most] w (GM o c l p eH (rz lost most (l.drop eH)) (.int .i64 ((qU (rz lost most (l.drop eH)):Nat):Int)) w):=by
 by_cases h0:most < 0
 ·have hr:rz lost most (l.drop eH)=none:=aT (Or.inr h0)
  rw [hr]
  obtain ⟨c0,c1,c2,f1,f2⟩:=h.facts
  have HZ:=aA (h.nU true)
  have HG:=aA (fO w p 2 (.bool true))
  clear h k hr
  go_enter Tryz.func46,Tryz.ntmps46
  go_wp2_with fail
  go_ret
  exact ⟨rfl,HZ.out,HG.out⟩
 ·obtain ⟨N,hN⟩:∃ N:Nat,most=(N:Int):=⟨most.toNat,by omega⟩
  subst hN
  have hr:rz lost (N:Int) (l.drop eH)=rq lost N (l.drop eH):=by
   have hn:¬ (N:Int) < 0:=by omega
   unfold rz rq
   cases lost
   ·rw [aX (by simp [hn]),aX (by simp)];rfl
   ·rw [aT (by simp),aT (by simp)]
  rw [hr]
  have HU:=aA (CV o c l p eH N lost w k (by omega) h)
  have hle:qU (rq lost N (l.drop eH))≤N:=IU
  have hw:IntKind.u64.wrap (N:Int)=(N:Int):=by rw [aU];omega
  clear k h hr
  generalize rq lost N (l.drop eH)=r at *
  obtain ⟨a,ha⟩:∃ a,qU r=a:=⟨_,rfl⟩
  have HA:=aA ha
  rw [ha] at hle ⊢
  have hw2:IntKind.i64.wrap (a:Int)=(a:Int):=by rw [aZ];omega
  have HW2:=aA hw2
  have n0:(0:Int)≤(N:Int):=by omega
  clear ha hle hw2
  go_enter Tryz.func46,Tryz.ntmps46
  go_wp2_with fail
  refine HU.out.mono ?_
  rintro e w1 ⟨rfl,hz,hg⟩
  rw [HA.out]
  have HZ:=aA hz
  have HG:=aA hg
  have hw3:=HW2.out
  clear hz hg HU hw h1
  go_wp2_with fail
  go_ret
  exact ⟨rfl,HZ.out,HG.out⟩
end Pk
namespace Pk
open Fx (eU fF kG dO fA)
open Go Go.RowKit
def pY (lost:Bool) (n eH:Nat):Int:=if lost=true∨eH < n then 50 else 0
theorem XY (o:Option Addr) (c:Nat) (l:List Nat) (p eH:Nat) (lost:Bool) (w:World) (k:iA l eH) (h:ZR o c l p eH lost w) :
  Calls Tryz.prog 49 #[.pointer (some ⟨p,0,none⟩)] w fun e w'=>e=.returned (.int .i64 (pY lost l.length eH))∧Below w.heap.size w w':=by
 have HZ:=aA h
 clear h
 cases lost with
 | true =>
  have e1:pY true l.length eH=50:=rfl
  rw [e1]
  clear k e1
  go_enter Tryz.func49,Tryz.ntmps49
  go_wp2_with fail
  rename_i K1 hK1
  refine (bG (n:=5)).1 (fA (S:=fun X=>Below w.heap.size w X) (Z:=[]) (by kernel_rfl) (by kernel_rfl) eU (fun d _ _ _ _ h=>by cases d <;> exact h) (fG _ _ 1) (fun hG qR hw0=>?_))
  refine dO [] 0 (?_) hG rfl (by kernel_rfl) hw0 (by kernel_rfl) ?_ ?_
  rotate_left
  ·intro wz hSw;(first | (go_simp;done) | (go_simp;with_reducible rfl))
  intro qQ hw1
  clear hw0 qR
  try simp only [aQ]
  refine dO [] 1 (?_) hG rfl (by kernel_rfl) hw1 (by kernel_rfl) ?_ ?_
  rotate_left
  ·intro wz hSw;(first | (go_simp;done) | (go_simp;with_reducible rfl))
  intro qP hw2
  clear hw1 qQ
  try simp only [aQ]
  refine dO [] 2 (?_) hG rfl (by kernel_rfl) hw2 (by kernel_rfl) ?_ ?_
  rotate_left
  ·intro wz hSw;(first | (go_simp;done) | (go_simp;with_reducible rfl))
  intro qO hw3
  clear hw2 qP
  try simp only [aQ]
  refine dO [] 3 (.bool true) hG rfl (by kernel_rfl) hw3 (by kernel_rfl) ?_ ?_
  ·intro wz hSw;obtain ⟨c0,c1,c2,_,_⟩:=(HZ.out.below hSw).facts;(first | (go_simp;done) | (go_simp;with_reducible rfl))
  intro qN hw4
  clear hw3 qO
  try simp only [aQ]
  refine dO [] 4 (?_) hG rfl (by kernel_rfl) hw4 (by kernel_rfl) ?_ ?_
  rotate_left
  ·intro wz hSw;(first | (go_simp;done) | (go_simp;with_reducible rfl))
  intro qM lK
  clear hw4 qN
  try simp only [aQ]
  refine kG [] 5 hG rfl (by kernel_rfl) lK (by kernel_rfl) ?_
  intro qL kP
  clear lK qM
  try simp only [aQ]
  refine kG [] 6 hG rfl (by kernel_rfl) kP (by kernel_rfl) ?_
  intro pQ hw7
  clear kP qL
  try simp only [aQ]
  refine kG [] 7 hG rfl (by kernel_rfl) hw7 (by kernel_rfl) ?_
  intro rA hw8
  clear hw7 pQ
  try simp only [aQ]
  refine kG [] 8 hG rfl (by kernel_rfl) hw8 (by kernel_rfl) ?_
  intro qZ mH
  clear hw8 rA
  try simp only [aQ]
  refine kG [] 9 hG rfl (by kernel_rfl) mH (by kernel_rfl) ?_
  intro jM iF
  clear mH qZ
  try simp only [aQ]
  refine kG [] 10 hG rfl (by kernel_rfl) iF (by kernel_rfl) ?_
  intro kW iN
  clear iF jM
  try simp only [aQ]
  refine kG [] 11 hG rfl (by kernel_rfl) iN (by kernel_rfl) ?_
  intro mD jG
  clear iN kW
  try simp only [aQ]
  refine kG [] 12 hG rfl (by kernel_rfl) jG (by kernel_rfl) ?_
  intro nC jR
  clear jG mD
  try simp only [aQ]
  refine kG [] 13 hG rfl (by kernel_rfl) jR (by kernel_rfl) ?_
  intro nT jN
  clear jR nC
  try simp only [aQ]
  refine kG [] 14 hG rfl (by kernel_rfl) jN (by kernel_rfl) ?_
  intro oP kK
  clear jN nT
  try simp only [aQ]
  refine dO [] 15 (?_) hG rfl (by kernel_rfl) kK (by kernel_rfl) ?_ ?_
  rotate_left
  ·intro wz hSw;(first | (go_simp;done) | (go_simp;with_reducible rfl))
  intro xA hw16
  clear kK oP
  try simp only [aQ]
  refine fF (by kernel_rfl) (?_) _
  refine hK1 _ _ ?_
  have HB:=aA hw16
  clear hK1 hG hw16
  go_wp2_with fail
  go_ret
  exact ⟨rfl,HB.out⟩
 | false =>
  by_cases hl:eH < l.length
  ·have hless:(eH:Int) < (l.length:Int):=by omega
   have e1:pY false l.length eH=50:=aT (Or.inr hl)
   rw [e1]
   clear k e1
   go_enter Tryz.func49,Tryz.ntmps49
   go_wp2_with fail
   rename_i K1 hK1
   refine (bG (n:=5)).1 (fA (S:=fun X=>Below w.heap.size w X) (Z:=[]) (by kernel_rfl) (by kernel_rfl) eU (fun d _ _ _ _ h=>by cases d <;> exact h) (fG _ _ 1) (fun hG qR hw0=>?_))
   refine dO [] 0 (?_) hG rfl (by kernel_rfl) hw0 (by kernel_rfl) ?_ ?_
   rotate_left
   ·intro wz hSw;(first | (go_simp;done) | (go_simp;with_reducible rfl))
   intro qQ hw1
   clear hw0 qR
   try simp only [aQ]
   refine dO [] 1 (?_) hG rfl (by kernel_rfl) hw1 (by kernel_rfl) ?_ ?_
   rotate_left
   ·intro wz hSw;(first | (go_simp;done) | (go_simp;with_reducible rfl))
   intro qP hw2
   clear hw1 qQ
   try simp only [aQ]
   refine dO [] 2 (?_) hG rfl (by kernel_rfl) hw2 (by kernel_rfl) ?_ ?_
   rotate_left
   ·intro wz hSw;(first | (go_simp;done) | (go_simp;with_reducible rfl))
   intro qO hw3
   clear hw2 qP
   try simp only [aQ]
   refine dO [] 3 (.bool false) hG rfl (by kernel_rfl) hw3 (by kernel_rfl) ?_ ?_
   ·intro wz hSw;obtain ⟨c0,c1,c2,_,_⟩:=(HZ.out.below hSw).facts;(first | (go_simp;done) | (go_simp;with_reducible rfl))
   intro qN hw4
   clear hw3 qO
   try simp only [aQ]
   refine dO [] 4 (?_) hG rfl (by kernel_rfl) hw4 (by kernel_rfl) ?_ ?_
   rotate_left
   ·intro wz hSw;(first | (go_simp;done) | (go_simp;with_reducible rfl))
   intro qM lK
   clear hw4 qN
   try simp only [aQ]
   refine dO [] 5 (?_) hG rfl (by kernel_rfl) lK (by kernel_rfl) ?_ ?_
   rotate_left
   ·intro wz hSw;(first | (go_simp;done) | (go_simp;with_reducible rfl))
   intro qL kP
   clear lK qM
   try simp only [aQ]
   refine dO [] 6 (?_) hG rfl (by kernel_rfl) kP (by kernel_rfl) ?_ ?_
   rotate_left
   ·intro wz hSw;(first | (go_simp;done) | (go_simp;with_reducible rfl))
   intro pQ hw7
   clear kP qL
   try simp only [aQ]
   refine dO [] 7 (?_) hG rfl (by kernel_rfl) hw7 (by kernel_rfl) ?_ ?_
   rotate_left
   ·intro wz hSw;(first | (go_simp;done) | (go_simp;with_reducible rfl))
   intro rA hw8
   clear hw7 pQ
   try simp only [aQ]
   refine dO [] 8 (.int .i64 (eH:Int)) hG rfl (by kernel_rfl) hw8 (by kernel_rfl) ?_ ?_
   ·intro wz hSw;obtain ⟨c0,c1,c2,_,_⟩:=(HZ.out.below hSw).facts;(first | (go_simp;done) | (go_simp;with_reducible rfl))
   intro qZ mH
   clear hw8 rA
   try simp only [aQ]
   refine dO [] 9 (?_) hG rfl (by kernel_rfl) mH (by kernel_rfl) ?_ ?_
   rotate_left
   ·intro wz hSw;(first | (go_simp;done) | (go_simp;with_reducible rfl))
   intro jM iF
   clear mH qZ
   try simp only [aQ]
   refine dO [] 10 (?_) hG rfl (by kernel_rfl) iF (by kernel_rfl) ?_ ?_
   rotate_left
   ·intro wz hSw;(first | (go_simp;done) | (go_simp;with_reducible rfl))
   intro kW iN
   clear iF jM
   try simp only [aQ]
   refine dO [] 11 (?_) hG rfl (by kernel_rfl) iN (by kernel_rfl) ?_ ?_
   rotate_left
   ·intro wz hSw;(first | (go_simp;done) | (go_simp;with_reducible rfl))
   intro mD jG
   clear iN kW
   try simp only [aQ]
   refine dO [] 12 (.slice o l.length c) hG rfl (by kernel_rfl) jG (by kernel_rfl) ?_ ?_
   ·intro wz hSw;obtain ⟨c0,c1,c2,_,_⟩:=(HZ.out.below hSw).facts;(first | (go_simp;done) | (go_simp;with_reducible rfl))
   intro nC jR
   clear jG mD
   try simp only [aQ]
   refine dO [] 13 (?_) hG rfl (by kernel_rfl) jR (by kernel_rfl) ?_ ?_
   rotate_left
   ·intro wz hSw;(first | (go_simp;done) | (go_simp;with_reducible rfl))
   intro nT jN
   clear jR nC
   try simp only [aQ]
   refine dO [] 14 (.bool true) hG rfl (by kernel_rfl) jN (by kernel_rfl) ?_ ?_
   ·intro wz hSw;(first | (go_simp;done) | (go_simp;exact hless) | (go_simp;omega))
   intro oP kK
   clear jN nT
   try simp only [aQ]
   refine dO [] 15 (?_) hG rfl (by kernel_rfl) kK (by kernel_rfl) ?_ ?_
   rotate_left
   ·intro wz hSw;(first | (go_simp;done) | (go_simp;with_reducible rfl))
   intro xA hw16
   clear kK oP
   try simp only [aQ]
   refine fF (by kernel_rfl) (?_) _
   refine hK1 _ _ ?_
   have HB:=aA hw16
   clear hK1 hG hw16
   go_wp2_with fail
   go_ret
   exact ⟨rfl,HB.out⟩
  ·have hless:¬ (eH:Int) < (l.length:Int):=by omega
   have e1:pY false l.length eH=0:=aX (fun h=>h.elim (fun h=>by cases h) hl)
   rw [e1]
   clear k e1
   go_enter Tryz.func49,Tryz.ntmps49
   go_wp2_with fail
   rename_i K1 hK1
   refine (bG (n:=5)).1 (fA (S:=fun X=>Below w.heap.size w X) (Z:=[]) (by kernel_rfl) (by kernel_rfl) eU (fun d _ _ _ _ h=>by cases d <;> exact h) (fG _ _ 1) (fun hG qR hw0=>?_))
   refine dO [] 0 (?_) hG rfl (by kernel_rfl) hw0 (by kernel_rfl) ?_ ?_
   rotate_left
   ·intro wz hSw;(first | (go_simp;done) | (go_simp;with_reducible rfl))
   intro qQ hw1
   clear hw0 qR
   try simp only [aQ]
   refine dO [] 1 (?_) hG rfl (by kernel_rfl) hw1 (by kernel_rfl) ?_ ?_
   rotate_left
   ·intro wz hSw;(first | (go_simp;done) | (go_simp;with_reducible rfl))
   intro qP hw2
   clear hw1 qQ
   try simp only [aQ]
   refine dO [] 2 (?_) hG rfl (by kernel_rfl) hw2 (by kernel_rfl) ?_ ?_
   rotate_left
   ·intro wz hSw;(first | (go_simp;done) | (go_simp;with_reducible rfl))
   intro qO hw3
   clear hw2 qP
   try simp only [aQ]
   refine dO [] 3 (.bool false) hG rfl (by kernel_rfl) hw3 (by kernel_rfl) ?_ ?_
   ·intro wz hSw;obtain ⟨c0,c1,c2,_,_⟩:=(HZ.out.below hSw).facts;(first | (go_simp;done) | (go_simp;with_reducible rfl))
   intro qN hw4
   clear hw3 qO
   try simp only [aQ]
   refine dO [] 4 (?_) hG rfl (by kernel_rfl) hw4 (by kernel_rfl) ?_ ?_
   rotate_left
   ·intro wz hSw;(first | (go_simp;done) | (go_simp;with_reducible rfl))
   intro qM lK
   clear hw4 qN
   try simp only [aQ]
   refine dO [] 5 (?_) hG rfl (by kernel_rfl) lK (by kernel_rfl) ?_ ?_
   rotate_left
   ·intro wz hSw;(first | (go_simp;done) | (go_simp;with_reducible rfl))
   intro qL kP
   clear lK qM
   try simp only [aQ]
   refine dO [] 6 (?_) hG rfl (by kernel_rfl) kP (by kernel_rfl) ?_ ?_
   rotate_left
   ·intro wz hSw;(first | (go_simp;done) | (go_simp;with_reducible rfl))
   intro pQ hw7
   clear kP qL
   try simp only [aQ]
   refine dO [] 7 (?_) hG rfl (by kernel_rfl) hw7 (by kernel_rfl) ?_ ?_
   rotate_left
   ·intro wz hSw;(first | (go_simp;done) | (go_simp;with_reducible rfl))
   intro rA hw8
   clear hw7 pQ
   try simp only [aQ]
   refine dO [] 8 (.int .i64 (eH:Int)) hG rfl (by kernel_rfl) hw8 (by kernel_rfl) ?_ ?_
   ·intro wz hSw;obtain ⟨c0,c1,c2,_,_⟩:=(HZ.out.below hSw).facts;(first | (go_simp;done) | (go_simp;with_reducible rfl))
   intro qZ mH
   clear hw8 rA
   try simp only [aQ]
   refine dO [] 9 (?_) hG rfl (by kernel_rfl) mH (by kernel_rfl) ?_ ?_
   rotate_left
   ·intro wz hSw;(first | (go_simp;done) | (go_simp;with_reducible rfl))
   intro jM iF
   clear mH qZ
   try simp only [aQ]
   refine dO [] 10 (?_) hG rfl (by kernel_rfl) iF (by kernel_rfl) ?_ ?_
   rotate_left
   ·intro wz hSw;(first | (go_simp;done) | (go_simp;with_reducible rfl))
   intro kW iN
   clear iF jM
   try simp only [aQ]
   refine dO [] 11 (?_) hG rfl (by kernel_rfl) iN (by kernel_rfl) ?_ ?_
   rotate_left
   ·intro wz hSw;(first | (go_simp;done) | (go_simp;with_reducible rfl))
   intro mD jG
   clear iN kW
   try simp only [aQ]
   refine dO [] 12 (.slice o l.length c) hG rfl (by kernel_rfl) jG (by kernel_rfl) ?_ ?_
   ·intro wz hSw;obtain ⟨c0,c1,c2,_,_⟩:=(HZ.out.below hSw).facts;(first | (go_simp;done) | (go_simp;with_reducible rfl))
   intro nC jR
   clear jG mD
   try simp only [aQ]
   refine dO [] 13 (?_) hG rfl (by kernel_rfl) jR (by kernel_rfl) ?_ ?_
   rotate_left
   ·intro wz hSw;(first | (go_simp;done) | (go_simp;with_reducible rfl))
   intro nT jN
   clear jR nC
   try simp only [aQ]
   refine dO [] 14 (.bool false) hG rfl (by kernel_rfl) jN (by kernel_rfl) ?_ ?_
   ·intro wz hSw;(first | (go_simp;done) | (go_simp;exact hless) | (go_simp;omega))
   intro oP kK
   clear jN nT
   try simp only [aQ]
   refine dO [] 15 (?_) hG rfl (by kernel_rfl) kK (by kernel_rfl) ?_ ?_
   rotate_left
   ·intro wz hSw;(first | (go_simp;done) | (go_simp;with_reducible rfl))
   intro xA hw16
   clear kK oP
   try simp only [aQ]
   refine fF (by kernel_rfl) (?_) _
   refine hK1 _ _ ?_
   have HB:=aA hw16
   clear hK1 hG hw16
   go_wp2_with fail
   go_ret
   exact ⟨rfl,HB.out⟩
end Pk
namespace Pk
open Go Go.RowKit
def iK (o:Option Addr) (c l:Nat):Option Addr:=o.map fun a=>if c=l then a else ⟨a.block,a.off + l,none⟩
theorem Bs.cut {W:World} {o:Option Addr} {m:List Nat} {c l h:Nat} (hb:Bs W o m) (hl:l≤h) (hh:h≤m.length) (hc:m.length≤c):Bs W (iK o c l) ((m.drop l).take (h - l)):=fun j hj=>by
 have hj1:j < h - l:=by simp at hj;omega
 obtain ⟨b,off,e,hcell⟩:=hb (l + j) (by omega)
 subst e
 refine ⟨b,off + l,?_,?_⟩
 ·unfold iK
  simp only [Option.map_some]
  rw [aX (by omega)]
 ·rw [show off + l + j=off + (l + j) by omega,hcell]
  congr 3
  simp [List.getD,List.getElem?_take,List.getElem?_drop,hj1]
theorem PP (W:World) (o:Option Addr) (n c l h:Nat) (hl:l≤h) (hh:h≤c) (ho:o=none→c=0) (hs:0 < c→∀ a,o=some a→a.spot=none) :
  (Instr.slice 31 (.slice o n c) (some (.int .i64 (l:Int))) (some (.int .i64 (h:Int))) none).run Tryz.prog W=.ok (.slice (iK o c l) (h - l) (c - l)) W:=by
 have ht:Tryz.prog.underlying 31=some (.slice 5):=bS
 have hz:∀ w,(Go.sizeOf 5).run Tryz.prog w=.ok 1 w:=fun _=>by kernel_rfl
 have ht':Tryz.prog.underlying 31=some (.slice (Tryz.prog.elem 31)):=by simp [Program.elem,ht]
 have he:Tryz.prog.elem 31=5:=by simp [Program.elem,ht]
 rw [run_slice_lh W 31 _ _ _ ht' .i64 .i64 _ _ (by omega) (by omega) (by omega),he,hz]
 cases o with
 | none =>
  obtain rfl:=ho rfl
  obtain rfl:h=0:=by omega
  obtain rfl:l=0:=by omega
  simp [Result.andThen,sliced,iK]
 | some a =>
  obtain ⟨b,off,spot⟩:=a
  by_cases hcl:c=l
  ·subst hcl
   simp [Result.andThen,sliced,Addr.add,iK]
  ·obtain rfl:spot=none:=hs (by omega) _ rfl
   by_cases h0:l=0
   ·subst h0
    simp [Result.andThen,sliced,Addr.add,iK,hcl]
   ·simp [Result.andThen,sliced,Addr.add,iK,hcl,h0]
def txR (lost:Bool) (most:Int) (l:List Nat) (eH:Nat):Option (List Nat×Nat) :=
 match rz lost most (l.drop eH) with
 | none=>none
 | some (n,j)=>if n≤l.length - (eH + j) then some ((l.drop (eH + j)).take n,j + n) else none
theorem Nf {k:Nat} (h:k≤8):(2:Nat) ^ (64 - 7 * k)=128 * 2 ^ (64 - 7 * (k + 1)):=Iq k (by omega)
theorem JF:∀ (f m most k a:Nat) (t:List Nat),m < 128 ^ f→m < 2 ^ (64 - 7 * k)→k≤9→(k=0∨m≠0)→a + m * 128 ^ k≤most→yV most k a (form m ++ t)=some (a + m * 128 ^ k,k + (form m).length)
 | 0,m,most,k,a,t,hf,hm,hk,h0,hle=>by
  have hm0:m=0:=by simpa using hf
  subst hm0
  have hk0 : k = 0 := by rcases h0 with h | h; · exact h
                         ·exact absurd rfl h
  subst hk0
  rw [lT (by omega)]
  simp [yV]
  simpa using hle
 | f + 1,m,most,k,a,t,hf,hm,hk,h0,hle=>by
  by_cases h128:m < 128
  ·rw [lT h128]
   have h9:¬ (k=9∧1 < m):=by
    rintro ⟨rfl,h1⟩
    simp at hm
    omega
   have hmod:m % 128=m:=Nat.mod_eq_of_lt h128
   simp only [bT,bX,yV]
   rw [aX h9,aX (by omega),aX (by rw [hmod];rintro (⟨h1,h2⟩ | h1) <;> omega),hmod]
   simp
  ·have hk8:k≤8:=by
    rcases Nat.lt_or_ge k 9 with h | h
    ·omega
    ·have e:k=9:=by omega
     subst e
     simp at hm
     omega
   have Cb:m < 18446744073709551616:=by
    have h1:(2:Nat) ^ (64 - 7 * k)≤2 ^ 64:=Nat.pow_le_pow_right (by omega) (by omega)
    have h2:(2:Nat) ^ 64=18446744073709551616:=by decide
    omega
   rw [vM h128 Cb]
   have hc:(128 + m % 128) % 128=m % 128:=by omega
   have hsum:a + m % 128 * 128 ^ k + m / 128 * 128 ^ (k + 1)=a + m * 128 ^ k:=by
    rw [bM]
    have e:m=m % 128 + 128 * (m / 128):=by omega
    have : m * 128 ^ k=(m % 128 + 128 * (m / 128)) * 128 ^ k:=by rw [←e]
    rw [this,Nat.add_mul,Nat.add_assoc]
    congr 2
    rw [bN (128 ^ k) 128,←Nat.mul_assoc,bN (m / 128) 128]
   simp only [bT,yV]
   rw [aX (by omega),aT (by omega),hc,JF f (m / 128) most (k + 1) _ t (by rw [bM] at hf;omega) (by rw [Nf hk8] at hm;exact Nat.div_lt_of_lt_mul hm) (by omega) (Or.inr (by omega)) (by rw [hsum];exact hle),hsum]
   simp
   omega
theorem xP (n most:Nat) (t:List Nat) (hn:n < 18446744073709551616) (hm:n≤most):rd most (form n ++ t)=some (n,(form n).length):=by
 have h1:(128:Nat) ^ 10=1180591620717411303424:=by decide
 have h2:(2:Nat) ^ (64 - 7 * 0)=18446744073709551616:=by decide
 have:=JF 10 n most 0 0 t (by rw [h1];omega) (by rw [h2];exact hn) (by omega) (Or.inl rfl) (by simpa using hm)
 unfold rd
 rw [this]
 simp
theorem PU:∀ {s:List Nat} {most k a v j:Nat},By s→k≤9→yV most k a s=some (v,j)→∃ m,v=a + m * 128 ^ k∧s.take (j - k)=form m∧m < 2 ^ (64 - 7 * k)∧(k=0∨m≠0)∧k < j
 | [],_,_,_,_,_,_,_,h=>by simp [yV] at h
 | c :: s,most,k,a,v,j,hb,hk,h=>by
  have hc:c < 256:=hb c (by simp)
  rw [yV] at h
  split at h
  ·cases h
  ·rename_i h9
   split at h
   ·rename_i h128
    have hk8:k≤8:=by omega
    obtain ⟨m,hv,ht,hm,h0,hlt⟩:=PU (fun x hx=>hb x (by simp [hx])) (by omega) h
    have hm0 : m ≠ 0 := by rcases h0 with h | h; · omega
                           ·exact h
    have hm1:c % 128 + 128 * m < 2 ^ (64 - 7 * k):=by rw [Nf hk8];omega
    refine ⟨c % 128 + 128 * m,?_,?_,hm1,Or.inr (by omega),by omega⟩
    ·rw [hv,bM,Nat.add_mul,Nat.add_assoc]
     congr 2
     rw [bN (128 ^ k) 128,←Nat.mul_assoc,bN m 128]
    ·have Cb:c % 128 + 128 * m < 18446744073709551616:=by
      have h1:(2:Nat) ^ (64 - 7 * k)≤2 ^ 64:=Nat.pow_le_pow_right (by omega) (by omega)
      have h2:(2:Nat) ^ 64=18446744073709551616:=by decide
      omega
     rw [vM (by omega) Cb,show j - k=(j - (k + 1)) + 1 by omega,List.take_succ_cons,ht]
     congr 1
     ·omega
     ·congr 1
      omega
   ·rename_i h128
    split at h
    ·cases h
    ·rename_i hz
     cases h
     refine ⟨c,by rw [Nat.mod_eq_of_lt (by omega)],?_,?_,by omega,by omega⟩
     ·rw [show k + 1 - k=1 by omega,lT (by omega)]
      simp
     ·rcases Nat.lt_or_ge k 9 with h | h
      ·have : (2:Nat) ^ 8≤2 ^ (64 - 7 * k):=Nat.pow_le_pow_right (by omega) (by omega)
       omega
      ·have e:k=9:=by omega
       subst e
       simp
       omega
theorem MW {s:List Nat} {most n j:Nat} (hb:By s) (h:rd most s=some (n,j)):s.take j=form n∧n < 18446744073709551616∧j=(form n).length:=by
 obtain ⟨m,hv,ht,hm,_,hj⟩:=PU hb (by omega) h
 have e:n=m:=by simpa using hv
 subst e
 have h2:(2:Nat) ^ (64 - 7 * 0)=18446744073709551616:=by decide
 have hl:=(tJ h).2.2
 have ht':s.take j=form n:=by simpa using ht
 refine ⟨ht',by rw [h2] at hm;exact hm,?_⟩
 rw [←ht',bZ]
 omega
theorem YH {z:Int} (h0:-9223372036854775808≤z) (h1:z≤9223372036854775807):BP (fold z)=z:=by
 unfold BP fold
 split <;> split <;> omega
theorem Cs {n:Nat} (h:n < 18446744073709551616):fold (BP n)=n:=by
 unfold BP fold
 split <;> split <;> omega
def encI (x:Int):Value:=.int .i64 x
def pG (W:World) (B:Nat) (v:Value) (l:List Int):Prop:=W.ownsRow B 2 1 v l.length (l.map encI)
theorem pG.below {w W:World} {B:Nat} {v:Value} {l:List Int} (h:Below w.heap.size w W) (s:pG w B v l):pG W B v l:=by
 obtain ⟨h1,h2⟩:=s
 refine ⟨h1,?_⟩
 rcases h2 with h2 | ⟨g,cap,cur,e,hb,hg,h3⟩
 ·exact Or.inl h2
 ·exact Or.inr ⟨g,cap,cur,e,hb,dV h hg,h3⟩
theorem pG.alloc {w:World} {B:Nat} {v:Value} {l:List Int} (s:pG w B v l) (o:Obj):pG (w.alloc o) B v l:=by
 obtain ⟨h1,h2⟩:=s
 refine ⟨h1,?_⟩
 rcases h2 with h2 | ⟨g,cap,cur,e,hb,hg,h3⟩
 ·exact Or.inl h2
 ·exact Or.inr ⟨g,cap,cur,e,hb,dW hg,h3⟩
theorem pG.blk {w:World} {B:Nat} {v:Value} {l:List Int} (s:pG w B v l):∀ k,v.ownBlock=some k→B≤k:=by
 intro k hk
 obtain ⟨h1,h2⟩:=s
 rcases h2 with ⟨rfl,_⟩ | ⟨g,cap,cur,rfl,hb,_⟩
 ·cases hk
 ·cases hk
  exact hb
theorem pG.apart {W:World} {B p:Nat} {v:Value} {l:List Int} {cs:Array Value} {t:TypeId} {fr:Nat×Nat} (s:pG W B v l) (h:W.heap[p]?=some (.cells cs t fr)) (ht:t≠2):∀ k,v.ownBlock=some k→k≠p:=by
 intro k hk e
 subst e
 obtain ⟨h1,h2⟩:=s
 rcases h2 with ⟨rfl,_⟩ | ⟨g,cap,cur,rfl,hb,hg,_⟩
 ·cases hk
 ·cases hk
  rw [h] at hg
  injection hg with hg
  injection hg with _ hg
  exact ht hg
theorem pG.grown {W X:World} {B:Nat} {v:Value} {l:List Int} {row:Option Nat} (s:pG W B v l) (hg:W.grownBy X row) (hr:∀ k,v.ownBlock=some k→some k≠row):pG X B v l:=by
 obtain ⟨h1,h2⟩:=s
 refine ⟨h1,?_⟩
 rcases h2 with h2 | ⟨g,cap,cur,rfl,hb,hgg,h3⟩
 ·exact Or.inl h2
 ·exact Or.inr ⟨g,cap,cur,rfl,hb,by rw [hg.block g (aC.1 hgg).1 (hr g rfl)];exact hgg,h3⟩
theorem ZR.grown {o:Option Addr} {c:Nat} {l:List Nat} {p eH:Nat} {lost:Bool} {W X:World} {row:Option Nat} (h:ZR o c l p eH lost W) (hg:W.grownBy X row) (hp:some p≠row) (hr:∀ b off,o=some ⟨b,off,none⟩→0 < l.length→some b≠row):ZR o c l p eH lost X :=
 ⟨by rw [hg.block p h.lt hp];exact h.row,h.bs.grown hg hr⟩
def nW:Nat:=18446744073709551615
end Pk
end Go.Proofs.YtbbhmhihpdmoiaaGreat
