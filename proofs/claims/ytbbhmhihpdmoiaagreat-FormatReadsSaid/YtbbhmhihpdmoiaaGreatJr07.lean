import Derived.Test.YtbbhmhihpdmoiaaGreatJr06
set_option linter.unusedVariables false
set_option linter.unusedSimpArgs false
set_option maxRecDepth 100000
set_option maxHeartbeats 32000000
namespace Go.Proofs.YtbbhmhihpdmoiaaGreat
namespace Pk
open Fx (eU fF dO fA)
open Go Go.RowKit
def LF (lost:Bool) (may:Nat→Nat→Bool) (l:List Nat) (eH:Nat):Option (Nat×Nat) :=
 if lost=true then none else match rd nW (l.drop eH) with
  | none=>none
  | some (n,j)=>if may n (l.length - (eH + j))=true then some (n,j) else none
def vP (o:Option Addr) (c:Nat) (l:List Nat) (p eH:Nat) (r:Option (Nat×Nat)) (w:World) (e:Ending) (w':World):Prop :=
 e=.returned (.int .u64 ((qU r:Nat):Int))∧PR o c l p (XJ r eH) (XI r) w'∧w.grownBy w' (some p)
theorem yN (o:Option Addr) (c:Nat) (l:List Nat) (p eH:Nat) (lost:Bool) (w:World) (k:iA l eH) (h:PR o c l p eH lost w) :
  Calls Tryz.prog 114 #[.slice (iK o c eH) (l.length - eH) (c - eH)] w fun e w'=>e=.returned (Vf (rd nW (l.drop eH)))∧Below w.heap.size w w':=by
 have k1:=k.at'
 have k2:=h.ok.le
 have k3:=h.ok.up
 have hb:=h.bs.cut (l:=eH) (h:=l.length) (c:=c) k1 (aB _) k2
 have e:(l.drop eH).take (l.length - eH)=l.drop eH:=bO (by simp)
 rw [e] at hb
 have:=VL (iK o c eH) (c - eH) (l.drop eH) w (k.by'.drop eH) (by have:=k.len;simp;omega) ⟨by simp;omega,by omega,fun hn=>?_⟩ hb
 ·rw [dD] at this
  exact this
 ·cases o with
  | none=>have:=h.ok.nil rfl;omega
  | some a=>cases hn
theorem Px (o:Option Addr) (c:Nat) (l:List Nat) (p eH:Nat) (lost:Bool) (w:World) (k:iA l eH) (h:PR o c l p eH lost w) (may:Nat→Nat→Bool)
  (mc:Hid (∀ (n left:Nat) (W:World),Below w.heap.size w W→n < 18446744073709551616→left≤1000000000→Calls Tryz.prog 137 #[.int .u64 (n:Int),.int .i64 (left:Int)] W fun e w'=>e=.returned (.bool (may n left))∧W=w')) :
  Calls Tryz.prog 89 #[.pointer (some ⟨p,0,none⟩),.func (.func 137) #[] #[]] w (vP o c l p eH (LF lost may l eH) w):=by
 obtain ⟨c0,c1,c2,c3,_,_⟩:=h.facts
 have HF:=aA (gU p true lost w c0 c1)
 have HR:=aA h
 have HKK:=aA k
 have jY:=aA h.ok
 have k1:=k.len
 have k2:=k.at'
 clear h k
 cases lost with
 | true =>
  have HE:Hid (vP o c l p eH (LF true may l eH) w (.returned (.int .u64 0)) w):=aA ⟨rfl,HR.out,cB _ _⟩
  clear HR
  go_enter Tryz.func89,Tryz.ntmps89
  go_wp2_with fail
  refine HF.out.mono ?_
  rintro e w1 ⟨rfl,rfl⟩
  simp only [fl,if_true]
  go_wp2_with fail
  go_ret
  exact HE.out
 | false =>
  have hfc:∀ W:World,Below w.heap.size w W→Calls Tryz.prog 114 #[.slice (iK o c eH) (l.length - eH) (c - eH)] W fun e w'=>e=.returned (Vf (rd nW (l.drop eH)))∧Below W.heap.size W w':=fun W hb=>yN o c l p eH false W HKK.out (HR.out.below hb)
  cases hr:rd nW (l.drop eH) with
  | none =>
   have HRR:Hid (LF false may l eH=none):=aA (by unfold LF;simp [hr])
   rw [HRR.out]
   have Fw:Hid (∀ W:World,Below w.heap.size w W→Calls Tryz.prog 114 #[.slice (iK o c eH) (l.length - eH) (c - eH)] W fun e w'=>e=.returned (.tuple #[.int .u64 0,.int .i64 0])∧Below W.heap.size W w'):=aA (by rw [hr] at hfc;exact hfc)
   clear hfc hr
   go_enter Tryz.func89,Tryz.ntmps89
   go_wp2_with fail
   refine HF.out.mono ?_
   rintro e w1 ⟨rfl,rfl⟩
   simp only [fl,if_true,bE,if_false]
   clear HF c0 c1 c2 c3
   go_wp2_with fail
   rename_i K3 hK3
   refine (bG (n:=5)).1 (fA (S:=fun X=>Below w.heap.size w X) (Z:=[]) (by kernel_rfl) (by kernel_rfl) eU (fun d _ _ _ _ h=>by cases d <;> exact h) (fG _ _ 1) (fun hG qR hw0=>?_))
   refine dO [] 0 (?_) hG rfl (by kernel_rfl) hw0 (by kernel_rfl) ?_ ?_
   rotate_left
   ·intro wz hSw;(first | (go_simp;done) | (go_simp;with_reducible rfl))
   intro qQ hw1
   clear hw0 qR
   try simp only [aQ]
   refine dO [] 1 (?_) hG rfl (by kernel_rfl) hw1 (by kernel_rfl) ?_ ?_
   rotate_left
   ·intro wz hSw;(first | (go_simp;done) | (go_simp;with_reducible rfl))
   intro qP hw2
   clear hw1 qQ
   try simp only [aQ]
   refine dO [] 2 (?_) hG rfl (by kernel_rfl) hw2 (by kernel_rfl) ?_ ?_
   rotate_left
   ·intro wz hSw;(first | (go_simp;done) | (go_simp;with_reducible rfl))
   intro qO hw3
   clear hw2 qP
   try simp only [aQ]
   refine dO [] 3 (?_) hG rfl (by kernel_rfl) hw3 (by kernel_rfl) ?_ ?_
   rotate_left
   ·intro wz hSw;(first | (go_simp;done) | (go_simp;with_reducible rfl))
   intro qN hw4
   clear hw3 qO
   try simp only [aQ]
   refine dO [] 4 (.slice o l.length c) hG rfl (by kernel_rfl) hw4 (by kernel_rfl) ?_ ?_
   ·intro wz hSw;obtain ⟨c0,c1,c2,c3,_,_⟩:=(HR.out.below hSw).facts;(first | (go_simp;done) | (go_simp;with_reducible rfl))
   intro qM lK
   clear hw4 qN
   try simp only [aQ]
   refine dO [] 5 (?_) hG rfl (by kernel_rfl) lK (by kernel_rfl) ?_ ?_
   rotate_left
   ·intro wz hSw;(first | (go_simp;done) | (go_simp;with_reducible rfl))
   intro qL kP
   clear lK qM
   try simp only [aQ]
   refine dO [] 6 (?_) hG rfl (by kernel_rfl) kP (by kernel_rfl) ?_ ?_
   rotate_left
   ·intro wz hSw;(first | (go_simp;done) | (go_simp;with_reducible rfl))
   intro pQ hw7
   clear kP qL
   try simp only [aQ]
   refine dO [] 7 (?_) hG rfl (by kernel_rfl) hw7 (by kernel_rfl) ?_ ?_
   rotate_left
   ·intro wz hSw;(first | (go_simp;done) | (go_simp;with_reducible rfl))
   intro rA hw8
   clear hw7 pQ
   try simp only [aQ]
   refine dO [] 8 (.int .i64 (eH:Int)) hG rfl (by kernel_rfl) hw8 (by kernel_rfl) ?_ ?_
   ·intro wz hSw;obtain ⟨c0,c1,c2,c3,_,_⟩:=(HR.out.below hSw).facts;(first | (go_simp;done) | (go_simp;with_reducible rfl))
   intro qZ mH
   clear hw8 rA
   try simp only [aQ]
   refine dO [] 9 (.slice (iK o c eH) (l.length - eH) (c - eH)) hG rfl (by kernel_rfl) mH (by kernel_rfl) ?_ ?_
   ·intro wz hSw;exact rW (.tmp 15) (.tmp 19) (by kernel_rfl) o l.length c eH (eH:Int) rfl (by kernel_rfl) (by kernel_rfl) k2 jY.out.le jY.out.nil (fun _=>jY.out.spot)
   intro jM iF
   clear mH qZ
   try simp only [aQ]
   refine nO [] 10 114 #[.slice (iK o c eH) (l.length - eH) (c - eH)] (.tuple #[.int .u64 0,.int .i64 0]) hG rfl (by kernel_rfl) iF (by kernel_rfl) ?_ Fw.out ?_
   ·intro wz;(first | (go_simp;done) | (go_simp;with_reducible rfl))
   intro kW iN
   clear iF jM
   try simp only [aQ]
   refine dO [] 11 (?_) hG rfl (by kernel_rfl) iN (by kernel_rfl) ?_ ?_
   rotate_left
   ·intro wz hSw;(first | (go_simp;done) | (go_simp;with_reducible rfl))
   intro mD jG
   clear iN kW
   try simp only [aQ]
   refine dO [] 12 (?_) hG rfl (by kernel_rfl) jG (by kernel_rfl) ?_ ?_
   rotate_left
   ·intro wz hSw;(first | (go_simp;done) | (go_simp;with_reducible rfl))
   intro nC jR
   clear jG mD
   try simp only [aQ]
   refine dO [] 13 (?_) hG rfl (by kernel_rfl) jR (by kernel_rfl) ?_ ?_
   rotate_left
   ·intro wz hSw;(first | (go_simp;done) | (go_simp;with_reducible rfl))
   intro nT jN
   clear jR nC
   try simp only [aQ]
   refine dO [] 14 (?_) hG rfl (by kernel_rfl) jN (by kernel_rfl) ?_ ?_
   rotate_left
   ·intro wz hSw;(first | (go_simp;done) | (go_simp;with_reducible rfl))
   intro oP kK
   clear jN nT
   try simp only [aQ]
   refine dO [] 15 (?_) hG rfl (by kernel_rfl) kK (by kernel_rfl) ?_ ?_
   rotate_left
   ·intro wz hSw;(first | (go_simp;done) | (go_simp;with_reducible rfl))
   intro xA hw16
   clear kK oP
   try simp only [aQ]
   refine fF (by kernel_rfl) (?_) _
   refine hK3 _ _ ?_
   have HR1:=aA (HR.out.below hw16)
   have HB1:=aA hw16
   clear hK3 hG HR Fw hw16
   obtain ⟨c0,c1,c2,c3,f1,f3⟩:=HR1.out.facts
   have HE:=aA HR1.out.DD
   have uG:=aA ((below_grown HB1.out (some p)).trans (fO _ p 1 (.bool true)))
   clear HR1 HB1
   go_wp2_with fail
   go_ret
   exact ⟨rfl,HE.out,uG.out⟩
  | some r =>
   obtain ⟨n,j⟩:=r
   have hle:=tJ hr
   have zL:n < 18446744073709551616:=by have:=hle.1;unfold nW at this;omega
   have hj0:0 < j:=hle.2.1
   have hjl:eH + j≤l.length:=by have:=hle.2.2;simp at this;omega
   have Fw:Hid (∀ W:World,Below w.heap.size w W→Calls Tryz.prog 114 #[.slice (iK o c eH) (l.length - eH) (c - eH)] W fun e w'=>e=.returned (.tuple #[.int .u64 (n:Int),.int .i64 (j:Int)])∧Below W.heap.size W w'):=aA (by rw [hr] at hfc;exact hfc)
   obtain ⟨left,hleft⟩:∃ left,l.length - (eH + j)=left:=⟨_,rfl⟩
   have hsub:IntKind.i64.wrap (((l.length - eH:Nat):Int) - (j:Int))=(left:Int):=by rw [aZ];omega
   have zM:left≤1000000000:=by omega
   have hrr:LF false may l eH=if may n left=true then some (n,j) else none:=by unfold LF;simp [hr,hleft]
   have MC:=aA (fun W hb=>mc.out n left W hb zL zM)
   obtain ⟨mb,hmb⟩:∃ mb,may n left=mb:=⟨_,rfl⟩
   rw [hmb] at MC hrr
   rw [hrr]
   obtain ⟨R,hR⟩:∃ R,(if mb=true then some (n,j) else none)=R:=⟨_,rfl⟩
   rw [hR]
   have HRE:=aA hR
   clear hR
   have j1:¬ (j:Int)=0:=by omega
   have Ua:Hid (IntKind.i64.wrap ((eH:Int) + (j:Int))=(eH:Int) + (j:Int)):=aA (by rw [aZ];omega)
   have Ub:=aA hsub
   have HN:=aA zL
   have HJ:=aA hjl
   clear hfc hr hle hleft zM hrr hmb mc zL hjl hsub
   go_enter Tryz.func89,Tryz.ntmps89
   go_wp2_with fail
   refine HF.out.mono ?_
   rintro e w1 ⟨rfl,rfl⟩
   simp only [fl,if_true,bE,if_false]
   clear HF c0 c1 c2 c3
   go_wp2_with fail
   rename_i K3 hK3
   refine (bG (n:=5)).1 (fA (S:=fun X=>Below w.heap.size w X) (Z:=[]) (by kernel_rfl) (by kernel_rfl) eU (fun d _ _ _ _ h=>by cases d <;> exact h) (fG _ _ 1) (fun hG qR hw0=>?_))
   refine dO [] 0 (?_) hG rfl (by kernel_rfl) hw0 (by kernel_rfl) ?_ ?_
   rotate_left
   ·intro wz hSw;(first | (go_simp;done) | (go_simp;with_reducible rfl))
   intro qQ hw1
   clear hw0 qR
   try simp only [aQ]
   refine dO [] 1 (?_) hG rfl (by kernel_rfl) hw1 (by kernel_rfl) ?_ ?_
   rotate_left
   ·intro wz hSw;(first | (go_simp;done) | (go_simp;with_reducible rfl))
   intro qP hw2
   clear hw1 qQ
   try simp only [aQ]
   refine dO [] 2 (?_) hG rfl (by kernel_rfl) hw2 (by kernel_rfl) ?_ ?_
   rotate_left
   ·intro wz hSw;(first | (go_simp;done) | (go_simp;with_reducible rfl))
   intro qO hw3
   clear hw2 qP
   try simp only [aQ]
   refine dO [] 3 (?_) hG rfl (by kernel_rfl) hw3 (by kernel_rfl) ?_ ?_
   rotate_left
   ·intro wz hSw;(first | (go_simp;done) | (go_simp;with_reducible rfl))
   intro qN hw4
   clear hw3 qO
   try simp only [aQ]
   refine dO [] 4 (.slice o l.length c) hG rfl (by kernel_rfl) hw4 (by kernel_rfl) ?_ ?_
   ·intro wz hSw;obtain ⟨c0,c1,c2,c3,_,_⟩:=(HR.out.below hSw).facts;(first | (go_simp;done) | (go_simp;with_reducible rfl))
   intro qM lK
   clear hw4 qN
   try simp only [aQ]
   refine dO [] 5 (?_) hG rfl (by kernel_rfl) lK (by kernel_rfl) ?_ ?_
   rotate_left
   ·intro wz hSw;(first | (go_simp;done) | (go_simp;with_reducible rfl))
   intro qL kP
   clear lK qM
   try simp only [aQ]
   refine dO [] 6 (?_) hG rfl (by kernel_rfl) kP (by kernel_rfl) ?_ ?_
   rotate_left
   ·intro wz hSw;(first | (go_simp;done) | (go_simp;with_reducible rfl))
   intro pQ hw7
   clear kP qL
   try simp only [aQ]
   refine dO [] 7 (?_) hG rfl (by kernel_rfl) hw7 (by kernel_rfl) ?_ ?_
   rotate_left
   ·intro wz hSw;(first | (go_simp;done) | (go_simp;with_reducible rfl))
   intro rA hw8
   clear hw7 pQ
   try simp only [aQ]
   refine dO [] 8 (.int .i64 (eH:Int)) hG rfl (by kernel_rfl) hw8 (by kernel_rfl) ?_ ?_
   ·intro wz hSw;obtain ⟨c0,c1,c2,c3,_,_⟩:=(HR.out.below hSw).facts;(first | (go_simp;done) | (go_simp;with_reducible rfl))
   intro qZ mH
   clear hw8 rA
   try simp only [aQ]
   refine dO [] 9 (.slice (iK o c eH) (l.length - eH) (c - eH)) hG rfl (by kernel_rfl) mH (by kernel_rfl) ?_ ?_
   ·intro wz hSw;exact rW (.tmp 15) (.tmp 19) (by kernel_rfl) o l.length c eH (eH:Int) rfl (by kernel_rfl) (by kernel_rfl) k2 jY.out.le jY.out.nil (fun _=>jY.out.spot)
   intro jM iF
   clear mH qZ
   try simp only [aQ]
   refine nO [] 10 114 #[.slice (iK o c eH) (l.length - eH) (c - eH)] (.tuple #[.int .u64 (n:Int),.int .i64 (j:Int)]) hG rfl (by kernel_rfl) iF (by kernel_rfl) ?_ Fw.out ?_
   ·intro wz;(first | (go_simp;done) | (go_simp;with_reducible rfl))
   intro kW iN
   clear iF jM
   try simp only [aQ]
   refine dO [] 11 (?_) hG rfl (by kernel_rfl) iN (by kernel_rfl) ?_ ?_
   rotate_left
   ·intro wz hSw;(first | (go_simp;done) | (go_simp;with_reducible rfl))
   intro mD jG
   clear iN kW
   try simp only [aQ]
   refine dO [] 12 (?_) hG rfl (by kernel_rfl) jG (by kernel_rfl) ?_ ?_
   rotate_left
   ·intro wz hSw;(first | (go_simp;done) | (go_simp;with_reducible rfl))
   intro nC jR
   clear jG mD
   try simp only [aQ]
   refine dO [] 13 (?_) hG rfl (by kernel_rfl) jR (by kernel_rfl) ?_ ?_
   rotate_left
   ·intro wz hSw;(first | (go_simp;done) | (go_simp;with_reducible rfl))
   intro nT jN
   clear jR nC
   try simp only [aQ]
   refine dO [] 14 (?_) hG rfl (by kernel_rfl) jN (by kernel_rfl) ?_ ?_
   rotate_left
   ·intro wz hSw;(first | (go_simp;done) | (go_simp;with_reducible rfl))
   intro oP kK
   clear jN nT
   try simp only [aQ]
   refine dO [] 15 (?_) hG rfl (by kernel_rfl) kK (by kernel_rfl) ?_ ?_
   rotate_left
   ·intro wz hSw;(first | (go_simp;done) | (go_simp;with_reducible rfl))
   intro xA hw16
   clear kK oP
   try simp only [aQ]
   refine fF (by kernel_rfl) (?_) _
   refine hK3 _ _ ?_
   have HR1:=aA (HR.out.below hw16)
   have HB1:=aA hw16
   clear hK3 hG HR Fw hw16
   have HL:=aA (sN o c l p eH false _ HKK.out HR1.out)
   go_wp2_with fail
   refine HL.out.mono ?_
   rintro e w2 ⟨rfl,hb2⟩
   have hlf:GR false l eH=l.length - eH:=rfl
   rw [hlf]
   have hsub:=Ub.out
   have HR2:=aA (HR1.out.below hb2)
   have HB2:=aA (dY HB1.out hb2)
   clear hb2 hlf HR1 HB1 HL
   go_wp2_with fail
   refine (MC.out _ HB2.out).mono ?_
   rintro e w3 ⟨rfl,rfl⟩
   obtain ⟨c0,c1,c2,c3,f1,f3⟩:=HR2.out.facts
   clear MC
   cases mb with
   | true =>
    have HE:=aA (HR2.out.goto (eH + j) ((eH:Int) + (j:Int)) (by omega))
    have uG:=aA ((below_grown HB2.out (some p)).trans (fO _ p 3 (.int .i64 ((eH:Int) + (j:Int)))))
    have hsum:=Ua.out
    clear HR2 HB2
    go_wp2_with fail
    go_ret
    rw [←HRE.out]
    exact ⟨rfl,HE.out,uG.out⟩
   | false =>
    have HE:=aA HR2.out.DD
    have uG:=aA ((below_grown HB2.out (some p)).trans (fO _ p 1 (.bool true)))
    clear HR2 HB2
    go_wp2_with fail
    go_ret
    rw [←HRE.out]
    exact ⟨rfl,HE.out,uG.out⟩
theorem Py (o:Option Addr) (c:Nat) (l:List Nat) (p eH:Nat) (lost:Bool) (w:World) (k:iA l eH) (h:PR o c l p eH lost w) (q:Nat) (may:Nat→Nat→Bool)
  (mc:Hid (∀ (n left:Nat) (W:World),Below w.heap.size w W→n < 18446744073709551616→left≤1000000000→Calls Tryz.prog 90 #[.int .u64 (n:Int),.int .i64 (left:Int),.pointer (some ⟨q,0,none⟩)] W fun e w'=>e=.returned (.bool (may n left))∧W=w')) :
  Calls Tryz.prog 89 #[.pointer (some ⟨p,0,none⟩),.func (.func 90) #[] #[.pointer (some ⟨q,0,none⟩)]] w (vP o c l p eH (LF lost may l eH) w):=by
 obtain ⟨c0,c1,c2,c3,_,_⟩:=h.facts
 have HF:=aA (gU p true lost w c0 c1)
 have HR:=aA h
 have HKK:=aA k
 have jY:=aA h.ok
 have k1:=k.len
 have k2:=k.at'
 clear h k
 cases lost with
 | true =>
  have HE:Hid (vP o c l p eH (LF true may l eH) w (.returned (.int .u64 0)) w):=aA ⟨rfl,HR.out,cB _ _⟩
  clear HR
  go_enter Tryz.func89,Tryz.ntmps89
  go_wp2_with fail
  refine HF.out.mono ?_
  rintro e w1 ⟨rfl,rfl⟩
  simp only [fl,if_true]
  go_wp2_with fail
  go_ret
  exact HE.out
 | false =>
  have hfc:∀ W:World,Below w.heap.size w W→Calls Tryz.prog 114 #[.slice (iK o c eH) (l.length - eH) (c - eH)] W fun e w'=>e=.returned (Vf (rd nW (l.drop eH)))∧Below W.heap.size W w':=fun W hb=>yN o c l p eH false W HKK.out (HR.out.below hb)
  cases hr:rd nW (l.drop eH) with
  | none =>
   have HRR:Hid (LF false may l eH=none):=aA (by unfold LF;simp [hr])
   rw [HRR.out]
   have Fw:Hid (∀ W:World,Below w.heap.size w W→Calls Tryz.prog 114 #[.slice (iK o c eH) (l.length - eH) (c - eH)] W fun e w'=>e=.returned (.tuple #[.int .u64 0,.int .i64 0])∧Below W.heap.size W w'):=aA (by rw [hr] at hfc;exact hfc)
   clear hfc hr
   go_enter Tryz.func89,Tryz.ntmps89
   go_wp2_with fail
   refine HF.out.mono ?_
   rintro e w1 ⟨rfl,rfl⟩
   simp only [fl,if_true,bE,if_false]
   clear HF c0 c1 c2 c3
   go_wp2_with fail
   rename_i K3 hK3
   refine (bG (n:=5)).1 (fA (S:=fun X=>Below w.heap.size w X) (Z:=[]) (by kernel_rfl) (by kernel_rfl) eU (fun d _ _ _ _ h=>by cases d <;> exact h) (fG _ _ 1) (fun hG qR hw0=>?_))
   refine dO [] 0 (?_) hG rfl (by kernel_rfl) hw0 (by kernel_rfl) ?_ ?_
   rotate_left
   ·intro wz hSw;(first | (go_simp;done) | (go_simp;with_reducible rfl))
   intro qQ hw1
   clear hw0 qR
   try simp only [aQ]
   refine dO [] 1 (?_) hG rfl (by kernel_rfl) hw1 (by kernel_rfl) ?_ ?_
   rotate_left
   ·intro wz hSw;(first | (go_simp;done) | (go_simp;with_reducible rfl))
   intro qP hw2
   clear hw1 qQ
   try simp only [aQ]
   refine dO [] 2 (?_) hG rfl (by kernel_rfl) hw2 (by kernel_rfl) ?_ ?_
   rotate_left
   ·intro wz hSw;(first | (go_simp;done) | (go_simp;with_reducible rfl))
   intro qO hw3
   clear hw2 qP
   try simp only [aQ]
   refine dO [] 3 (?_) hG rfl (by kernel_rfl) hw3 (by kernel_rfl) ?_ ?_
   rotate_left
   ·intro wz hSw;(first | (go_simp;done) | (go_simp;with_reducible rfl))
   intro qN hw4
   clear hw3 qO
   try simp only [aQ]
   refine dO [] 4 (.slice o l.length c) hG rfl (by kernel_rfl) hw4 (by kernel_rfl) ?_ ?_
   ·intro wz hSw;obtain ⟨c0,c1,c2,c3,_,_⟩:=(HR.out.below hSw).facts;(first | (go_simp;done) | (go_simp;with_reducible rfl))
   intro qM lK
   clear hw4 qN
   try simp only [aQ]
   refine dO [] 5 (?_) hG rfl (by kernel_rfl) lK (by kernel_rfl) ?_ ?_
   rotate_left
   ·intro wz hSw;(first | (go_simp;done) | (go_simp;with_reducible rfl))
   intro qL kP
   clear lK qM
   try simp only [aQ]
   refine dO [] 6 (?_) hG rfl (by kernel_rfl) kP (by kernel_rfl) ?_ ?_
   rotate_left
   ·intro wz hSw;(first | (go_simp;done) | (go_simp;with_reducible rfl))
   intro pQ hw7
   clear kP qL
   try simp only [aQ]
   refine dO [] 7 (?_) hG rfl (by kernel_rfl) hw7 (by kernel_rfl) ?_ ?_
   rotate_left
   ·intro wz hSw;(first | (go_simp;done) | (go_simp;with_reducible rfl))
   intro rA hw8
   clear hw7 pQ
   try simp only [aQ]
   refine dO [] 8 (.int .i64 (eH:Int)) hG rfl (by kernel_rfl) hw8 (by kernel_rfl) ?_ ?_
   ·intro wz hSw;obtain ⟨c0,c1,c2,c3,_,_⟩:=(HR.out.below hSw).facts;(first | (go_simp;done) | (go_simp;with_reducible rfl))
   intro qZ mH
   clear hw8 rA
   try simp only [aQ]
   refine dO [] 9 (.slice (iK o c eH) (l.length - eH) (c - eH)) hG rfl (by kernel_rfl) mH (by kernel_rfl) ?_ ?_
   ·intro wz hSw;exact rW (.tmp 15) (.tmp 19) (by kernel_rfl) o l.length c eH (eH:Int) rfl (by kernel_rfl) (by kernel_rfl) k2 jY.out.le jY.out.nil (fun _=>jY.out.spot)
   intro jM iF
   clear mH qZ
   try simp only [aQ]
   refine nO [] 10 114 #[.slice (iK o c eH) (l.length - eH) (c - eH)] (.tuple #[.int .u64 0,.int .i64 0]) hG rfl (by kernel_rfl) iF (by kernel_rfl) ?_ Fw.out ?_
   ·intro wz;(first | (go_simp;done) | (go_simp;with_reducible rfl))
   intro kW iN
   clear iF jM
   try simp only [aQ]
   refine dO [] 11 (?_) hG rfl (by kernel_rfl) iN (by kernel_rfl) ?_ ?_
   rotate_left
   ·intro wz hSw;(first | (go_simp;done) | (go_simp;with_reducible rfl))
   intro mD jG
   clear iN kW
   try simp only [aQ]
   refine dO [] 12 (?_) hG rfl (by kernel_rfl) jG (by kernel_rfl) ?_ ?_
   rotate_left
   ·intro wz hSw;(first | (go_simp;done) | (go_simp;with_reducible rfl))
   intro nC jR
   clear jG mD
   try simp only [aQ]
   refine dO [] 13 (?_) hG rfl (by kernel_rfl) jR (by kernel_rfl) ?_ ?_
   rotate_left
   ·intro wz hSw;(first | (go_simp;done) | (go_simp;with_reducible rfl))
   intro nT jN
   clear jR nC
   try simp only [aQ]
   refine dO [] 14 (?_) hG rfl (by kernel_rfl) jN (by kernel_rfl) ?_ ?_
   rotate_left
   ·intro wz hSw;(first | (go_simp;done) | (go_simp;with_reducible rfl))
   intro oP kK
   clear jN nT
   try simp only [aQ]
   refine dO [] 15 (?_) hG rfl (by kernel_rfl) kK (by kernel_rfl) ?_ ?_
   rotate_left
   ·intro wz hSw;(first | (go_simp;done) | (go_simp;with_reducible rfl))
   intro xA hw16
   clear kK oP
   try simp only [aQ]
   refine fF (by kernel_rfl) (?_) _
   refine hK3 _ _ ?_
   have HR1:=aA (HR.out.below hw16)
   have HB1:=aA hw16
   clear hK3 hG HR Fw hw16
   obtain ⟨c0,c1,c2,c3,f1,f3⟩:=HR1.out.facts
   have HE:=aA HR1.out.DD
   have uG:=aA ((below_grown HB1.out (some p)).trans (fO _ p 1 (.bool true)))
   clear HR1 HB1
   go_wp2_with fail
   go_ret
   exact ⟨rfl,HE.out,uG.out⟩
  | some r =>
   obtain ⟨n,j⟩:=r
   have hle:=tJ hr
   have zL:n < 18446744073709551616:=by have:=hle.1;unfold nW at this;omega
   have hj0:0 < j:=hle.2.1
   have hjl:eH + j≤l.length:=by have:=hle.2.2;simp at this;omega
   have Fw:Hid (∀ W:World,Below w.heap.size w W→Calls Tryz.prog 114 #[.slice (iK o c eH) (l.length - eH) (c - eH)] W fun e w'=>e=.returned (.tuple #[.int .u64 (n:Int),.int .i64 (j:Int)])∧Below W.heap.size W w'):=aA (by rw [hr] at hfc;exact hfc)
   obtain ⟨left,hleft⟩:∃ left,l.length - (eH + j)=left:=⟨_,rfl⟩
   have hsub:IntKind.i64.wrap (((l.length - eH:Nat):Int) - (j:Int))=(left:Int):=by rw [aZ];omega
   have zM:left≤1000000000:=by omega
   have hrr:LF false may l eH=if may n left=true then some (n,j) else none:=by unfold LF;simp [hr,hleft]
   have MC:=aA (fun W hb=>mc.out n left W hb zL zM)
   obtain ⟨mb,hmb⟩:∃ mb,may n left=mb:=⟨_,rfl⟩
   rw [hmb] at MC hrr
   rw [hrr]
   obtain ⟨R,hR⟩:∃ R,(if mb=true then some (n,j) else none)=R:=⟨_,rfl⟩
   rw [hR]
   have HRE:=aA hR
   clear hR
   have j1:¬ (j:Int)=0:=by omega
   have Ua:Hid (IntKind.i64.wrap ((eH:Int) + (j:Int))=(eH:Int) + (j:Int)):=aA (by rw [aZ];omega)
   have Ub:=aA hsub
   have HN:=aA zL
   have HJ:=aA hjl
   clear hfc hr hle hleft zM hrr hmb mc zL hjl hsub
   go_enter Tryz.func89,Tryz.ntmps89
   go_wp2_with fail
   refine HF.out.mono ?_
   rintro e w1 ⟨rfl,rfl⟩
   simp only [fl,if_true,bE,if_false]
   clear HF c0 c1 c2 c3
   go_wp2_with fail
   rename_i K3 hK3
   refine (bG (n:=5)).1 (fA (S:=fun X=>Below w.heap.size w X) (Z:=[]) (by kernel_rfl) (by kernel_rfl) eU (fun d _ _ _ _ h=>by cases d <;> exact h) (fG _ _ 1) (fun hG qR hw0=>?_))
   refine dO [] 0 (?_) hG rfl (by kernel_rfl) hw0 (by kernel_rfl) ?_ ?_
   rotate_left
   ·intro wz hSw;(first | (go_simp;done) | (go_simp;with_reducible rfl))
   intro qQ hw1
   clear hw0 qR
   try simp only [aQ]
   refine dO [] 1 (?_) hG rfl (by kernel_rfl) hw1 (by kernel_rfl) ?_ ?_
   rotate_left
   ·intro wz hSw;(first | (go_simp;done) | (go_simp;with_reducible rfl))
   intro qP hw2
   clear hw1 qQ
   try simp only [aQ]
   refine dO [] 2 (?_) hG rfl (by kernel_rfl) hw2 (by kernel_rfl) ?_ ?_
   rotate_left
   ·intro wz hSw;(first | (go_simp;done) | (go_simp;with_reducible rfl))
   intro qO hw3
   clear hw2 qP
   try simp only [aQ]
   refine dO [] 3 (?_) hG rfl (by kernel_rfl) hw3 (by kernel_rfl) ?_ ?_
   rotate_left
   ·intro wz hSw;(first | (go_simp;done) | (go_simp;with_reducible rfl))
   intro qN hw4
   clear hw3 qO
   try simp only [aQ]
   refine dO [] 4 (.slice o l.length c) hG rfl (by kernel_rfl) hw4 (by kernel_rfl) ?_ ?_
   ·intro wz hSw;obtain ⟨c0,c1,c2,c3,_,_⟩:=(HR.out.below hSw).facts;(first | (go_simp;done) | (go_simp;with_reducible rfl))
   intro qM lK
   clear hw4 qN
   try simp only [aQ]
   refine dO [] 5 (?_) hG rfl (by kernel_rfl) lK (by kernel_rfl) ?_ ?_
   rotate_left
   ·intro wz hSw;(first | (go_simp;done) | (go_simp;with_reducible rfl))
   intro qL kP
   clear lK qM
   try simp only [aQ]
   refine dO [] 6 (?_) hG rfl (by kernel_rfl) kP (by kernel_rfl) ?_ ?_
   rotate_left
   ·intro wz hSw;(first | (go_simp;done) | (go_simp;with_reducible rfl))
   intro pQ hw7
   clear kP qL
   try simp only [aQ]
   refine dO [] 7 (?_) hG rfl (by kernel_rfl) hw7 (by kernel_rfl) ?_ ?_
   rotate_left
   ·intro wz hSw;(first | (go_simp;done) | (go_simp;with_reducible rfl))
   intro rA hw8
   clear hw7 pQ
   try simp only [aQ]
   refine dO [] 8 (.int .i64 (eH:Int)) hG rfl (by kernel_rfl) hw8 (by kernel_rfl) ?_ ?_
   ·intro wz hSw;obtain ⟨c0,c1,c2,c3,_,_⟩:=(HR.out.below hSw).facts;(first | (go_simp;done) | (go_simp;with_reducible rfl))
   intro qZ mH
   clear hw8 rA
   try simp only [aQ]
   refine dO [] 9 (.slice (iK o c eH) (l.length - eH) (c - eH)) hG rfl (by kernel_rfl) mH (by kernel_rfl) ?_ ?_
   ·intro wz hSw;exact rW (.tmp 15) (.tmp 19) (by kernel_rfl) o l.length c eH (eH:Int) rfl (by kernel_rfl) (by kernel_rfl) k2 jY.out.le jY.out.nil (fun _=>jY.out.spot)
   intro jM iF
   clear mH qZ
   try simp only [aQ]
   refine nO [] 10 114 #[.slice (iK o c eH) (l.length - eH) (c - eH)] (.tuple #[.int .u64 (n:Int),.int .i64 (j:Int)]) hG rfl (by kernel_rfl) iF (by kernel_rfl) ?_ Fw.out ?_
   ·intro wz;(first | (go_simp;done) | (go_simp;with_reducible rfl))
   intro kW iN
   clear iF jM
   try simp only [aQ]
   refine dO [] 11 (?_) hG rfl (by kernel_rfl) iN (by kernel_rfl) ?_ ?_
   rotate_left
   ·intro wz hSw;(first | (go_simp;done) | (go_simp;with_reducible rfl))
   intro mD jG
   clear iN kW
   try simp only [aQ]
   refine dO [] 12 (?_) hG rfl (by kernel_rfl) jG (by kernel_rfl) ?_ ?_
   rotate_left
   ·intro wz hSw;(first | (go_simp;done) | (go_simp;with_reducible rfl))
   intro nC jR
   clear jG mD
   try simp only [aQ]
   refine dO [] 13 (?_) hG rfl (by kernel_rfl) jR (by kernel_rfl) ?_ ?_
   rotate_left
   ·intro wz hSw;(first | (go_simp;done) | (go_simp;with_reducible rfl))
   intro nT jN
   clear jR nC
   try simp only [aQ]
   refine dO [] 14 (?_) hG rfl (by kernel_rfl) jN (by kernel_rfl) ?_ ?_
   rotate_left
   ·intro wz hSw;(first | (go_simp;done) | (go_simp;with_reducible rfl))
   intro oP kK
   clear jN nT
   try simp only [aQ]
   refine dO [] 15 (?_) hG rfl (by kernel_rfl) kK (by kernel_rfl) ?_ ?_
   rotate_left
   ·intro wz hSw;(first | (go_simp;done) | (go_simp;with_reducible rfl))
   intro xA hw16
   clear kK oP
   try simp only [aQ]
   refine fF (by kernel_rfl) (?_) _
   refine hK3 _ _ ?_
   have HR1:=aA (HR.out.below hw16)
   have HB1:=aA hw16
   clear hK3 hG HR Fw hw16
   have HL:=aA (sN o c l p eH false _ HKK.out HR1.out)
   go_wp2_with fail
   refine HL.out.mono ?_
   rintro e w2 ⟨rfl,hb2⟩
   have hlf:GR false l eH=l.length - eH:=rfl
   rw [hlf]
   have hsub:=Ub.out
   have HR2:=aA (HR1.out.below hb2)
   have HB2:=aA (dY HB1.out hb2)
   clear hb2 hlf HR1 HB1 HL
   go_wp2_with fail
   refine (MC.out _ HB2.out).mono ?_
   rintro e w3 ⟨rfl,rfl⟩
   obtain ⟨c0,c1,c2,c3,f1,f3⟩:=HR2.out.facts
   clear MC
   cases mb with
   | true =>
    have HE:=aA (HR2.out.goto (eH + j) ((eH:Int) + (j:Int)) (by omega))
    have uG:=aA ((below_grown HB2.out (some p)).trans (fO _ p 3 (.int .i64 ((eH:Int) + (j:Int)))))
    have hsum:=Ua.out
    clear HR2 HB2
    go_wp2_with fail
    go_ret
    rw [←HRE.out]
    exact ⟨rfl,HE.out,uG.out⟩
   | false =>
    have HE:=aA HR2.out.DD
    have uG:=aA ((below_grown HB2.out (some p)).trans (fO _ p 1 (.bool true)))
    clear HR2 HB2
    go_wp2_with fail
    go_ret
    rw [←HRE.out]
    exact ⟨rfl,HE.out,uG.out⟩
end Pk
end Go.Proofs.YtbbhmhihpdmoiaaGreat
