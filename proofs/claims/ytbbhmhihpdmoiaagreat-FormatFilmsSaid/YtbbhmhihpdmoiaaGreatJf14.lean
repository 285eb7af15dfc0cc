import Derived.Test.YtbbhmhihpdmoiaaGreatJf13
set_option linter.unusedVariables false
set_option linter.unusedSimpArgs false
set_option maxRecDepth 100000
set_option maxHeartbeats 32000000
namespace Go.Proofs.YtbbhmhihpdmoiaaGreat
open Go.Proofs.Tryz
namespace Pk
open Fx (dU eK dF eA)
open Go Go.RowKit
def VL (lost:Bool)(may:Nat→Nat→Bool)(l:List Nat)(dR:Nat):Option (Nat×Nat) :=
 if lost=true then none else match rd pP (l.drop dR) with
  | none=>none
  | some (n,j)=>if may n (l.length-(dR+j))=true then some (n,j) else none
def rP (o:Option Addr)(c:Nat)(l:List Nat)(p dR:Nat)(r:Option (Nat×Nat))(w:World)(e:Ending)(w':World):Prop :=
 e=.returned (.int .u64 ((pR r:Nat):Int))∧PR o c l p (YU r dR) (YT r) w'∧w.grownBy w' (some p)
theorem VM (o:Option Addr)(c:Nat)(l:List Nat)(p dR:Nat)(lost:Bool)(w:World)(k:fW l dR)(h:PR o c l p dR lost w) :
  Calls prog 114 #[.slice (iO o c dR) (l.length-dR) (c-dR)] w fun e w'=>e=.returned (fsV (rd pP (l.drop dR)))∧Below w.heap.size w w':=by
 have k1:=k.at';have k2:=h.ok.le;have k3:=h.ok.up;have hb:=h.bs.cut (l:=dR) (h:=l.length) (c:=c) k1 (aB _) k2;have e:(l.drop dR).take (l.length-dR)=l.drop dR:=bB (by simp);rw[e] at hb;have:=Fs (iO o c dR) (c-dR) (l.drop dR) w (k.by'.drop dR) (by have:=k.len;simp;omega) ⟨by simp;omega,by omega,fun hn=>?_⟩ hb
 ·rw[cQ] at this
  exact this
 ·cases o with
  | none=>have:=h.ok.nil rfl;omega
  | some a=>cases hn
theorem VN (o:Option Addr)(c:Nat)(l:List Nat)(p dR:Nat)(lost:Bool)(w:World)(k:fW l dR)(h:PR o c l p dR lost w)(fid:FuncId)(cap:Array Value)(may:Nat→Nat→Bool)(hcf:∀args W,(callFunc fid args).run prog W=.ok (.enter fid args) W)
  (mc:Hid (∀ (n left:Nat) (W:World),Below w.heap.size w W→n<18446744073709551616→left≤1000000000→Calls prog fid (#[.int .u64 (n:Int),.int .i64 (left:Int)]++cap) W fun e w'=>e=.returned (.bool (may n left))∧W=w')) :
  Calls prog 89 #[.pointer (some ⟨p,0,none⟩),.func (.func fid) #[] cap] w (rP o c l p dR (VL lost may l dR) w):=by
 obtain ⟨c0,c1,c2,c3,_,_⟩:=h.facts;have HF:=aA (fV p true lost w c0 c1);have HR:=aA h;have HKK:=aA k;have kC:=aA h.ok;have k1:=k.len;have k2:=k.at';clear h k
 cases lost with
 | true =>
  have HE:Hid (rP o c l p dR (VL true may l dR) w (.returned (.int .u64 0)) w):=aA ⟨rfl,HR.out,cG _ _⟩;clear HR;go_enter func89,ntmps89;go_wp2_with fail;refine HF.out.mono ?_;rintro e w1 ⟨rfl,rfl⟩;simp only[fl,if_true];go_wp2_with fail;go_ret;exact HE.out
 | false =>
  have hfc:∀W:World,Below w.heap.size w W→Calls prog 114 #[.slice (iO o c dR) (l.length-dR) (c-dR)] W fun e w'=>e=.returned (fsV (rd pP (l.drop dR)))∧Below W.heap.size W w':=fun W hb=>VM o c l p dR false W HKK.out (HR.out.below hb)
  cases hr:rd pP (l.drop dR) with
  | none =>
   have yU:Hid (VL false may l dR=none):=aA (by unfold VL;simp[hr]);rw[yU.out];have HFC:Hid (∀W:World,Below w.heap.size w W→Calls prog 114 #[.slice (iO o c dR) (l.length-dR) (c-dR)] W fun e w'=>e=.returned (.tuple #[.int .u64 0,.int .i64 0])∧Below W.heap.size W w'):=aA (by rw[hr] at hfc;exact hfc);clear hfc hr;go_enter func89,ntmps89;go_wp2_with fail;refine HF.out.mono ?_;rintro e w1 ⟨rfl,rfl⟩;simp only[fl,if_true,bD,if_false];clear HF c0 c1 c2 c3;go_wp2_with fail;rename_i K3 hK3;refine (bN (n:=5)).1 (eA (S:=fun X=>Below w.heap.size w X) (Z:=[]) (by kernel_rfl) (by kernel_rfl) dU (fun d _ _ _ _ h=>by cases d <;> exact h) (eM _ _ 1) (fun hG rA hw0=>?_));refine dF [] 0 (?_) hG rfl (by kernel_rfl) hw0 (by kernel_rfl) ?_ ?_;rotate_left
   ·intro wz hSw;first|(go_simp;done)|(go_simp;with_reducible rfl)
   intro qZ kS;clear hw0 rA;try simp only[aQ]
   refine dF [] 1 (?_) hG rfl (by kernel_rfl) kS (by kernel_rfl) ?_ ?_;rotate_left
   ·intro wz hSw;first|(go_simp;done)|(go_simp;with_reducible rfl)
   intro qY hw2;clear kS qZ;try simp only[aQ]
   refine dF [] 2 (?_) hG rfl (by kernel_rfl) hw2 (by kernel_rfl) ?_ ?_;rotate_left
   ·intro wz hSw;first|(go_simp;done)|(go_simp;with_reducible rfl)
   intro qX hw3;clear hw2 qY;try simp only[aQ]
   refine dF [] 3 (?_) hG rfl (by kernel_rfl) hw3 (by kernel_rfl) ?_ ?_;rotate_left
   ·intro wz hSw;first|(go_simp;done)|(go_simp;with_reducible rfl)
   intro qW hw4;clear hw3 qX;try simp only[aQ]
   refine dF [] 4 (.slice o l.length c) hG rfl (by kernel_rfl) hw4 (by kernel_rfl) ?_ ?_
   ·intro wz hSw;obtain ⟨c0,c1,c2,c3,_,_⟩:=(HR.out.below hSw).facts;(first|(go_simp;done)|(go_simp;with_reducible rfl))
   intro qV lB;clear hw4 qW;try simp only[aQ]
   refine dF [] 5 (?_) hG rfl (by kernel_rfl) lB (by kernel_rfl) ?_ ?_;rotate_left
   ·intro wz hSw;first|(go_simp;done)|(go_simp;with_reducible rfl)
   intro qU kA;clear lB qV;try simp only[aQ]
   refine dF [] 6 (?_) hG rfl (by kernel_rfl) kA (by kernel_rfl) ?_ ?_;rotate_left
   ·intro wz hSw;first|(go_simp;done)|(go_simp;with_reducible rfl)
   intro qC kP;clear kA qU;try simp only[aQ]
   refine dF [] 7 (?_) hG rfl (by kernel_rfl) kP (by kernel_rfl) ?_ ?_;rotate_left
   ·intro wz hSw;first|(go_simp;done)|(go_simp;with_reducible rfl)
   intro sF kH;clear kP qC;try simp only[aQ]
   refine dF [] 8 (.int .i64 (dR:Int)) hG rfl (by kernel_rfl) kH (by kernel_rfl) ?_ ?_
   ·intro wz hSw;obtain ⟨c0,c1,c2,c3,_,_⟩:=(HR.out.below hSw).facts;(first|(go_simp;done)|(go_simp;with_reducible rfl))
   intro sD lI;clear kH sF;try simp only[aQ]
   refine dF [] 9 (.slice (iO o c dR) (l.length-dR) (c-dR)) hG rfl (by kernel_rfl) lI (by kernel_rfl) ?_ ?_
   ·intro wz hSw;exact FE (.tmp 15) (.tmp 19) (by kernel_rfl) o l.length c dR (dR:Int) rfl (by kernel_rfl) (by kernel_rfl) k2 kC.out.le kC.out.nil (fun _=>kC.out.spot)
   intro jG gH;clear lI sD;try simp only[aQ]
   refine sL [] 10 114 #[.slice (iO o c dR) (l.length-dR) (c-dR)] (.tuple #[.int .u64 0,.int .i64 0]) hG rfl (by kernel_rfl) gH (by kernel_rfl) ?_ HFC.out ?_
   ·intro wz;(first|(go_simp;done)|(go_simp;with_reducible rfl))
   intro kL gQ;clear gH jG;try simp only[aQ]
   refine dF [] 11 (?_) hG rfl (by kernel_rfl) gQ (by kernel_rfl) ?_ ?_;rotate_left
   ·intro wz hSw;first|(go_simp;done)|(go_simp;with_reducible rfl)
   intro lH iG;clear gQ kL;try simp only[aQ]
   refine dF [] 12 (?_) hG rfl (by kernel_rfl) iG (by kernel_rfl) ?_ ?_;rotate_left
   ·intro wz hSw;first|(go_simp;done)|(go_simp;with_reducible rfl)
   intro mS iW;clear iG lH;try simp only[aQ]
   refine dF [] 13 (?_) hG rfl (by kernel_rfl) iW (by kernel_rfl) ?_ ?_;rotate_left
   ·intro wz hSw;first|(go_simp;done)|(go_simp;with_reducible rfl)
   intro nH iZ;clear iW mS;try simp only[aQ]
   refine dF [] 14 (?_) hG rfl (by kernel_rfl) iZ (by kernel_rfl) ?_ ?_;rotate_left
   ·intro wz hSw;first|(go_simp;done)|(go_simp;with_reducible rfl)
   intro oB jM;clear iZ nH;try simp only[aQ]
   refine dF [] 15 (?_) hG rfl (by kernel_rfl) jM (by kernel_rfl) ?_ ?_;rotate_left
   ·intro wz hSw;first|(go_simp;done)|(go_simp;with_reducible rfl)
   intro sG jB;clear jM oB;try simp only[aQ]
   refine eK (by kernel_rfl) (?_) _;refine hK3 _ _ ?_;have qQ:=aA (HR.out.below jB);have jK:=aA jB;clear hK3 hG HR HFC jB;obtain ⟨c0,c1,c2,c3,f1,f3⟩:=qQ.out.facts;have HE:=aA qQ.out.PX;have vK:=aA ((below_grown jK.out (some p)).trans (eC _ p 1 (.bool true)));clear qQ jK;go_wp2_with fail;go_ret;exact ⟨rfl,HE.out,vK.out⟩
  | some r =>
   obtain ⟨n,j⟩:=r;have hle:=tI hr;have XB:n<18446744073709551616:=by have:=hle.1;unfold pP at this;omega
   have hj0:0<j:=hle.2.1;have IJ:dR+j≤l.length:=by have:=hle.2.2;simp at this;omega
   have HFC:Hid (∀W:World,Below w.heap.size w W→Calls prog 114 #[.slice (iO o c dR) (l.length-dR) (c-dR)] W fun e w'=>e=.returned (.tuple #[.int .u64 (n:Int),.int .i64 (j:Int)])∧Below W.heap.size W w'):=aA (by rw[hr] at hfc;exact hfc);obtain ⟨left,iq⟩:∃left,l.length-(dR+j)=left:=⟨_,rfl⟩;have hsub:IntKind.i64.wrap (((l.length-dR:Nat):Int)-(j:Int))=(left:Int):=by rw[bL];omega
   have Nc:left≤1000000000:=by omega
   have wF:VL false may l dR=if may n left=true then some (n,j) else none:=by unfold VL;simp[hr,iq]
   have MC:=aA (fun W hb=>mc.out n left W hb XB Nc);obtain ⟨mb,hmb⟩:∃mb,may n left=mb:=⟨_,rfl⟩;rw[hmb] at MC wF;rw[wF];obtain ⟨R,hR⟩:∃R,(if mb=true then some (n,j) else none)=R:=⟨_,rfl⟩;rw[hR];have HRE:=aA hR;clear hR;have j1:¬ (j:Int)=0:=by omega
   have Qw:Hid (IntKind.i64.wrap ((dR:Int)+(j:Int))=(dR:Int)+(j:Int)):=aA (by rw[bL];omega);have HSUB:=aA hsub;clear hfc hr hle iq Nc wF hmb mc XB IJ hsub;go_enter func89,ntmps89;go_wp2_with fail;refine HF.out.mono ?_;rintro e w1 ⟨rfl,rfl⟩;simp only[fl,if_true,bD,if_false];clear HF c0 c1 c2 c3;go_wp2_with fail;rename_i K3 hK3;refine (bN (n:=5)).1 (eA (S:=fun X=>Below w.heap.size w X) (Z:=[]) (by kernel_rfl) (by kernel_rfl) dU (fun d _ _ _ _ h=>by cases d <;> exact h) (eM _ _ 1) (fun hG rA hw0=>?_));refine dF [] 0 (?_) hG rfl (by kernel_rfl) hw0 (by kernel_rfl) ?_ ?_;rotate_left
   ·intro wz hSw;first|(go_simp;done)|(go_simp;with_reducible rfl)
   intro qZ kS;clear hw0 rA;try simp only[aQ]
   refine dF [] 1 (?_) hG rfl (by kernel_rfl) kS (by kernel_rfl) ?_ ?_;rotate_left
   ·intro wz hSw;first|(go_simp;done)|(go_simp;with_reducible rfl)
   intro qY hw2;clear kS qZ;try simp only[aQ]
   refine dF [] 2 (?_) hG rfl (by kernel_rfl) hw2 (by kernel_rfl) ?_ ?_;rotate_left
   ·intro wz hSw;first|(go_simp;done)|(go_simp;with_reducible rfl)
   intro qX hw3;clear hw2 qY;try simp only[aQ]
   refine dF [] 3 (?_) hG rfl (by kernel_rfl) hw3 (by kernel_rfl) ?_ ?_;rotate_left
   ·intro wz hSw;first|(go_simp;done)|(go_simp;with_reducible rfl)
   intro qW hw4;clear hw3 qX;try simp only[aQ]
   refine dF [] 4 (.slice o l.length c) hG rfl (by kernel_rfl) hw4 (by kernel_rfl) ?_ ?_
   ·intro wz hSw;obtain ⟨c0,c1,c2,c3,_,_⟩:=(HR.out.below hSw).facts;(first|(go_simp;done)|(go_simp;with_reducible rfl))
   intro qV lB;clear hw4 qW;try simp only[aQ]
   refine dF [] 5 (?_) hG rfl (by kernel_rfl) lB (by kernel_rfl) ?_ ?_;rotate_left
   ·intro wz hSw;first|(go_simp;done)|(go_simp;with_reducible rfl)
   intro qU kA;clear lB qV;try simp only[aQ]
   refine dF [] 6 (?_) hG rfl (by kernel_rfl) kA (by kernel_rfl) ?_ ?_;rotate_left
   ·intro wz hSw;first|(go_simp;done)|(go_simp;with_reducible rfl)
   intro qC kP;clear kA qU;try simp only[aQ]
   refine dF [] 7 (?_) hG rfl (by kernel_rfl) kP (by kernel_rfl) ?_ ?_;rotate_left
   ·intro wz hSw;first|(go_simp;done)|(go_simp;with_reducible rfl)
   intro sF kH;clear kP qC;try simp only[aQ]
   refine dF [] 8 (.int .i64 (dR:Int)) hG rfl (by kernel_rfl) kH (by kernel_rfl) ?_ ?_
   ·intro wz hSw;obtain ⟨c0,c1,c2,c3,_,_⟩:=(HR.out.below hSw).facts;(first|(go_simp;done)|(go_simp;with_reducible rfl))
   intro sD lI;clear kH sF;try simp only[aQ]
   refine dF [] 9 (.slice (iO o c dR) (l.length-dR) (c-dR)) hG rfl (by kernel_rfl) lI (by kernel_rfl) ?_ ?_
   ·intro wz hSw;exact FE (.tmp 15) (.tmp 19) (by kernel_rfl) o l.length c dR (dR:Int) rfl (by kernel_rfl) (by kernel_rfl) k2 kC.out.le kC.out.nil (fun _=>kC.out.spot)
   intro jG gH;clear lI sD;try simp only[aQ]
   refine sL [] 10 114 #[.slice (iO o c dR) (l.length-dR) (c-dR)] (.tuple #[.int .u64 (n:Int),.int .i64 (j:Int)]) hG rfl (by kernel_rfl) gH (by kernel_rfl) ?_ HFC.out ?_
   ·intro wz;(first|(go_simp;done)|(go_simp;with_reducible rfl))
   intro kL gQ;clear gH jG;try simp only[aQ]
   refine dF [] 11 (?_) hG rfl (by kernel_rfl) gQ (by kernel_rfl) ?_ ?_;rotate_left
   ·intro wz hSw;first|(go_simp;done)|(go_simp;with_reducible rfl)
   intro lH iG;clear gQ kL;try simp only[aQ]
   refine dF [] 12 (?_) hG rfl (by kernel_rfl) iG (by kernel_rfl) ?_ ?_;rotate_left
   ·intro wz hSw;first|(go_simp;done)|(go_simp;with_reducible rfl)
   intro mS iW;clear iG lH;try simp only[aQ]
   refine dF [] 13 (?_) hG rfl (by kernel_rfl) iW (by kernel_rfl) ?_ ?_;rotate_left
   ·intro wz hSw;first|(go_simp;done)|(go_simp;with_reducible rfl)
   intro nH iZ;clear iW mS;try simp only[aQ]
   refine dF [] 14 (?_) hG rfl (by kernel_rfl) iZ (by kernel_rfl) ?_ ?_;rotate_left
   ·intro wz hSw;first|(go_simp;done)|(go_simp;with_reducible rfl)
   intro oB jM;clear iZ nH;try simp only[aQ]
   refine dF [] 15 (?_) hG rfl (by kernel_rfl) jM (by kernel_rfl) ?_ ?_;rotate_left
   ·intro wz hSw;first|(go_simp;done)|(go_simp;with_reducible rfl)
   intro sG jB;clear jM oB;try simp only[aQ]
   refine eK (by kernel_rfl) (?_) _;refine hK3 _ _ ?_;have qQ:=aA (HR.out.below jB);have jK:=aA jB;clear hK3 hG HR HFC jB;have HL:=aA (KB o c l p dR false _ HKK.out qQ.out);go_wp2_with fail;refine HL.out.mono ?_;rintro e w2 ⟨rfl,hb2⟩;have hlf:Lx false l dR=l.length-dR:=rfl;rw[hlf];have hsub:=HSUB.out;have iP:=aA (qQ.out.below hb2);have mI:=aA (dN jK.out hb2);clear hb2 hlf qQ jK HL;go_wp2_with fail;refine (MC.out _ mI.out).mono ?_;rintro e w3 ⟨rfl,rfl⟩;obtain ⟨c0,c1,c2,c3,f1,f3⟩:=iP.out.facts;clear MC
   cases mb with
   | true =>
    have HE:=aA (iP.out.goto (dR+j) ((dR:Int)+(j:Int)) (by omega));have vK:=aA ((below_grown mI.out (some p)).trans (eC _ p 3 (.int .i64 ((dR:Int)+(j:Int)))));have WZ:=Qw.out;clear iP mI;go_wp2_with fail;go_ret;rw[←HRE.out];exact ⟨rfl,HE.out,vK.out⟩
   | false =>
    have HE:=aA iP.out.PX;have vK:=aA ((below_grown mI.out (some p)).trans (eC _ p 1 (.bool true)));clear iP mI;go_wp2_with fail;go_ret;rw[←HRE.out];exact ⟨rfl,HE.out,vK.out⟩
theorem uz (o:Option Addr)(c:Nat)(l:List Nat)(p dR:Nat)(lost:Bool)(w:World)(k:fW l dR)(h:PR o c l p dR lost w)(may:Nat→Nat→Bool)
  (mc:Hid (∀ (n left:Nat) (W:World),Below w.heap.size w W→n<18446744073709551616→left≤1000000000→Calls prog 137 #[.int .u64 (n:Int),.int .i64 (left:Int)] W fun e w'=>e=.returned (.bool (may n left))∧W=w')) :
  Calls prog 89 #[.pointer (some ⟨p,0,none⟩),.func (.func 137) #[] #[]] w (rP o c l p dR (VL lost may l dR) w) :=
 VN o c l p dR lost w k h 137 #[] may (fun _ _=>by go_simp) mc
theorem vk (o:Option Addr)(c:Nat)(l:List Nat)(p dR:Nat)(lost:Bool)(w:World)(k:fW l dR)(h:PR o c l p dR lost w)(q:Nat)(may:Nat→Nat→Bool)
  (mc:Hid (∀ (n left:Nat) (W:World),Below w.heap.size w W→n<18446744073709551616→left≤1000000000→Calls prog 90 #[.int .u64 (n:Int),.int .i64 (left:Int),.pointer (some ⟨q,0,none⟩)] W fun e w'=>e=.returned (.bool (may n left))∧W=w')) :
  Calls prog 89 #[.pointer (some ⟨p,0,none⟩),.func (.func 90) #[] #[.pointer (some ⟨q,0,none⟩)]] w (rP o c l p dR (VL lost may l dR) w) :=
 VN o c l p dR lost w k h 90 #[.pointer (some ⟨q,0,none⟩)] may (fun _ _=>by go_simp) mc
theorem vg (o:Option Addr)(c:Nat)(l:List Nat)(p dR:Nat)(lost:Bool)(w:World)(k:fW l dR)(h:PR o c l p dR lost w)(q:Nat)(may:Nat→Nat→Bool)
  (mc:Hid (∀ (n left:Nat) (W:World),Below w.heap.size w W→n<18446744073709551616→left≤1000000000→Calls prog 95 #[.int .u64 (n:Int),.int .i64 (left:Int),.pointer (some ⟨q,0,none⟩)] W fun e w'=>e=.returned (.bool (may n left))∧W=w')) :
  Calls prog 89 #[.pointer (some ⟨p,0,none⟩),.func (.func 95) #[] #[.pointer (some ⟨q,0,none⟩)]] w (rP o c l p dR (VL lost may l dR) w) :=
 VN o c l p dR lost w k h 95 #[.pointer (some ⟨q,0,none⟩)] may (fun _ _=>by go_simp) mc
end Pk
namespace Pk
open Go Go.RowKit
def PNum (o:Option Addr)(c:Nat)(l:List Nat)(p dR:Nat)(r:Option (Nat×Nat))(v:Value)(w:World)(e:Ending)(w':World):Prop :=
 e=.returned v∧PR o c l p (YU r dR) (YT r) w'∧w.grownBy w' (some p)
theorem ask_u (n left:Nat)(w:World):Calls prog 137 #[.int .u64 (n:Int),.int .i64 (left:Int)] w fun e w'=>e=.returned (.bool true)∧w=w':=by
 go_enter func137,ntmps137;go_wp2_with fail;go_ret;exact ⟨rfl,rfl⟩
theorem tk_u (lost:Bool)(l:List Nat)(dR:Nat):VL lost (fun _ _=>true) l dR=rq lost 18446744073709551615 (l.drop dR):=by
 unfold VL rq
 cases lost
 ·show (match rd pP (l.drop dR) with|none=>none|some (n,j)=>if true=true then some (n,j) else none)=rd pP (l.drop dR)
  cases rd pP (l.drop dR) with
  | none=>rfl
  | some r=>rfl
 ·rfl
theorem DN (o:Option Addr)(c:Nat)(l:List Nat)(p dR:Nat)(lost:Bool)(w:World)(k:fW l dR)(h:PR o c l p dR lost w) :
  Calls prog 111 #[.pointer (some ⟨p,0,none⟩)] w (PNum o c l p dR (rq lost 18446744073709551615 (l.drop dR)) (.int .u64 ((pR (rq lost 18446744073709551615 (l.drop dR)):Nat):Int)) w):=by
 have HU:=uz o c l p dR lost w k h (fun _ _=>true) (aA (fun n left W _ _ _=>ask_u n left W));rw[tk_u] at HU;have HU:=aA HU;clear k h;generalize rq lost 18446744073709551615 (l.drop dR)=r at *;obtain ⟨a,ha⟩:∃a,pR r=a:=⟨_,rfl⟩;have HA:=aA ha;rw[ha];clear ha;go_enter func111,ntmps111;go_wp2_with fail;refine HU.out.mono ?_;rintro e w1 ⟨rfl,hz,hg⟩;rw[HA.out];have HZ:=aA hz;have HG:=aA hg;clear hz hg HU;go_wp2_with fail;go_ret;exact ⟨rfl,HZ.out,HG.out⟩
theorem VT (n:Nat)(hn:n<18446744073709551616)(w:World) :
  Calls prog 110 #[.int .u64 (n:Int)] w fun e w'=>e=.returned (.int .i64 (GI n))∧w=w':=by
 obtain ⟨m,hm⟩:∃m,n/2=m:=⟨_,rfl⟩;have e1:((n:Int)/2)=(m:Int):=by omega
 have m0:(0:Int)≤(m:Int):=by omega
 have m1:(m:Int)≤9223372036854775807:=by omega
 have hw:IntKind.i64.wrap (m:Int)=(m:Int):=by rw[bL];omega
 by_cases h:n%2=0
 ·have hu:GI n=(m:Int):=by unfold GI;rw[aZ h,hm]
  have t1:¬ (n:Int)%2=1:=by omega
  rw[hu];clear hm hn h hu;go_enter func110,ntmps110;go_wp2_with fail;go_ret;exact ⟨rfl,rfl⟩
 ·have hu:GI n=-(m:Int)-1:=by unfold GI;rw[bF h,hm]
  have t1:(n:Int)%2=1:=by omega
  have kS:IntKind.i64.wrap (-(m:Int))=-(m:Int):=by rw[bL];omega
  have hw2:IntKind.i64.wrap (-(m:Int)-1)=-(m:Int)-1:=by rw[bL];omega
  rw[hu];clear hm hn h hu;go_enter func110,ntmps110;go_wp2_with fail;go_ret;exact ⟨rfl,rfl⟩
theorem Ek (o:Option Addr)(c:Nat)(l:List Nat)(p dR:Nat)(lost:Bool)(w:World)(k:fW l dR)(h:PR o c l p dR lost w) :
  Calls prog 80 #[.pointer (some ⟨p,0,none⟩)] w (PNum o c l p dR (rq lost 18446744073709551615 (l.drop dR)) (.int .i64 (GI (pR (rq lost 18446744073709551615 (l.drop dR))))) w):=by
 have HU:=aA (DN o c l p dR lost w k h);have hle:pR (rq lost 18446744073709551615 (l.drop dR))≤18446744073709551615:=QD;clear k h;generalize rq lost 18446744073709551615 (l.drop dR)=r at *;have HN:=aA (fun w=>VT (pR r) (by omega) w);clear hle;obtain ⟨a,ha⟩:∃a,pR r=a:=⟨_,rfl⟩;rw[ha] at HU HN ⊢;clear ha;go_enter func80,ntmps80;go_wp2_with fail;refine HU.out.mono ?_;rintro e w1 ⟨rfl,hz,hg⟩;have HZ:=aA hz;have HG:=aA hg;clear hz hg HU;go_wp2_with fail;refine (HN.out _).mono ?_;rintro e w2 ⟨rfl,rfl⟩;go_wp2_with fail;go_ret;exact ⟨rfl,HZ.out,HG.out⟩
def OQ (most:Int)(n:Nat):Bool:=decide (0≤most∧(n:Int)≤most)
theorem CN (most:Int)(n:Nat)(w:World)(hn:n<18446744073709551616)(h1:most≤9223372036854775807) :
  Calls prog 91 #[.int .u64 (n:Int),.int .i64 most] w fun e w'=>e=.returned (.bool (OQ most n))∧w=w':=by
 by_cases h0:0≤most
 ·have hw:IntKind.u64.wrap most=most:=by rw[aV];omega
  by_cases hle:(n:Int)≤most
  ·rw[show OQ most n=true from bA ⟨h0,hle⟩]
   go_enter func91,ntmps91;go_wp2_with fail;go_ret;exact ⟨rfl,rfl⟩
  ·rw[show OQ most n=false from aN (by omega)]
   have d1:decide ((n:Int)≤most)=false:=aN hle;go_enter func91,ntmps91;go_wp2_with fail;go_ret;exact ⟨rfl,rfl⟩
 ·rw[show OQ most n=false from aN (by omega)]
  have d0:decide (0≤most)=false:=aN h0;go_enter func91,ntmps91;go_wp2_with fail;go_ret;exact ⟨rfl,rfl⟩
theorem ask_s (most:Int)(q n left:Nat)(w:World)(hn:n<18446744073709551616)(h1:most≤9223372036854775807)(hc:w.cell? ⟨q,0,none⟩=some (.int .i64 most)) :
  Calls prog 90 #[.int .u64 (n:Int),.int .i64 (left:Int),.pointer (some ⟨q,0,none⟩)] w fun e w'=>e=.returned (.bool (OQ most n))∧w=w':=by
 have HU:=aA (CN most n w hn h1);clear hn h1;generalize OQ most n=b at *;go_enter func90,ntmps90;go_wp2_with fail;refine HU.out.mono ?_;rintro e w1 ⟨rfl,rfl⟩;go_wp2_with fail;go_ret;exact ⟨rfl,rfl⟩
theorem tk_s (lost:Bool)(most:Int)(l:List Nat)(dR:Nat)(h1:most≤9223372036854775807):VL lost (fun n _=>OQ most n) l dR=rz lost most (l.drop dR):=by
 unfold VL rz
 cases lost
 ·by_cases h0:most<0
  ·rw[bF (by simp),aZ (Or.inr h0)]
   have hu:∀n,OQ most n=false:=fun n=>aN (by omega)
   cases rd pP (l.drop dR) with
   | none=>rfl
   | some r=>simp[hu]
  ·rw[bF (by simp),bF (by simp;omega),wY _ (show most.toNat≤pP by unfold pP;omega)]
   cases rd pP (l.drop dR) with
   | none=>rfl
   | some r =>
    obtain ⟨n,j⟩:=r;dsimp only;by_cases hle:n≤most.toNat
    ·rw[aZ hle,aZ (show OQ most n=true from bA (by omega))]
    ·rw[bF hle,bF (by rw[show OQ most n=false from aN (by omega)];simp)]
 ·rw[aZ rfl,aZ (Or.inl rfl)]
theorem ZA {lost:Bool}{most:Int}{s:List Nat}:pR (rz lost most s)≤most.toNat:=by
 unfold rz
 split
 ·exact cK _
 ·cases h:rd most.toNat s with
  | none=>exact cK _
  | some r=>obtain ⟨a,j⟩:=r;exact (tI h).1
theorem nJ (o:Option Addr)(c:Nat)(l:List Nat)(p dR:Nat)(most:Int)(lost:Bool)(w:World)(k:fW l dR)(h1:most≤9223372036854775807)(h:PR o c l p dR lost w) :
  Calls prog 50 #[.pointer (some ⟨p,0,none⟩),.int .i64 most] w (PNum o c l p dR (rz lost most (l.drop dR)) (.int .i64 ((pR (rz lost most (l.drop dR)):Nat):Int)) w):=by
 obtain ⟨W1,hW1⟩:∃W1,w.alloc (.cells #[.int .i64 most] 3)=W1:=⟨_,rfl⟩;have hb:Below w.heap.size w W1:=by rw[←hW1];exact (aJ _ w).alloc (aB _) _
 have hq:W1.cell? ⟨w.heap.size,0,none⟩=some (.int .i64 most):=by rw[←hW1,aD _ _ _ _ _ _ (aG _ _)];rfl
 have HU:=vk o c l p dR lost W1 k (h.below hb) w.heap.size (fun n _=>OQ most n) (aA (fun n left W hB hn _=>ask_s most w.heap.size n left W hn h1 (dE hB hq)));rw[tk_s lost most l dR h1] at HU;have HU:=aA HU;have hle:pR (rz lost most (l.drop dR))≤most.toNat:=ZA;have HB:=aA hb;have xY:=aA hW1;clear k h hb hW1 hq;generalize rz lost most (l.drop dR)=r at *;obtain ⟨a,ha⟩:∃a,pR r=a:=⟨_,rfl⟩;have HA:=aA ha;rw[ha] at hle ⊢;have hw2:IntKind.i64.wrap (a:Int)=(a:Int):=by rw[bL];omega
 clear ha hle h1;go_enter func50,ntmps50;go_wp2_with fail;rw[xY.out];refine HU.out.mono ?_;rintro e w1 ⟨rfl,hz,hg⟩;rw[HA.out];have HZ:=aA hz;have HG:=aA ((below_grown HB.out (some p)).trans hg);clear hz hg HU HB;go_wp2_with fail;go_ret;exact ⟨rfl,HZ.out,HG.out⟩
theorem QN (o:Option Addr)(c:Nat)(l:List Nat)(p dR:Nat)(lost:Bool)(w:World)(k:fW l dR)(h:PR o c l p dR lost w) :
  Calls prog 44 #[.pointer (some ⟨p,0,none⟩)] w fun e w'=>e=.returned (.int .i64 (pB lost l.length dR))∧Below w.heap.size w w':=by
 have HL:=aA (KB o c l p dR lost w k h);have HH:=aA h;have k2:=k.at';have HV:Hid (pB lost l.length dR=if 0<Lx lost l dR then 50 else fl true lost):=aA (by
  unfold pB Lx fl
  cases lost
  ·simp
   split <;> split <;> first|rfl|omega
  ·simp)
 rw[HV.out];clear h k HV;by_cases g:0<Lx lost l dR
 ·rw[aZ g]
  have g2:(0:Int)<((Lx lost l dR:Nat):Int):=by omega
  generalize Lx lost l dR=z at *;go_enter func44,ntmps44;go_wp2_with fail;refine HL.out.mono ?_;rintro e w1 ⟨rfl,hb⟩;have HB:=aA hb;clear hb HL;go_wp2_with fail;go_ret;exact ⟨rfl,HB.out⟩
 ·rw[bF g]
  have g2:¬ (0:Int)<((Lx lost l dR:Nat):Int):=by omega
  generalize Lx lost l dR=z at *;generalize OT:fl true lost=y at *;have Hq:=aA OT;clear OT;go_enter func44,ntmps44;go_wp2_with fail;refine HL.out.mono ?_;rintro e w1 ⟨rfl,hb⟩;obtain ⟨c0,c1,_,_,_,_⟩:=(HH.out.below hb).facts;have HF:=fV p true lost w1 c0 c1;rw[Hq.out] at HF;have HF:=aA HF;have HB:=aA hb;clear hb HL c0 c1;go_wp2_with fail;refine HF.out.mono ?_;rintro e w2 ⟨rfl,rfl⟩;go_wp2_with fail;go_ret;exact ⟨rfl,HB.out⟩
theorem WU (o:Option Addr)(c:Nat)(l:List Nat)(w:World)(hc:o=none→c=0)(hlen:l.length≤1000000000)(hb:Bs w o l) :
  Calls prog 73 #[.slice o l.length c] w fun e w'=>∃p o2 c2,e=.returned (.pointer (some ⟨p,0,none⟩))∧PR o2 c2 l p 0 false w'∧w.heap.size≤p∧(∀b off,o2=some ⟨b,off,none⟩→w.heap.size≤b)∧Below w.heap.size w w':=by
 have HC:=aA (rO o c l w hc hlen hb);clear hc hlen hb;go_enter func73,ntmps73;go_wp2_with fail;refine HC.out.mono ?_;rintro e w1 ⟨⟨v,rfl,ho⟩,hb⟩;obtain ⟨o2,c2,rfl,mJ,hle,hup,wH,hblk⟩:=ho.open;have kC:Hid (Sok o2 c2 l∧(∀b off,o2=some ⟨b,off,none⟩→w.heap.size≤b)):=aA ⟨⟨hle,hup,wH,fun a ha=>by obtain ⟨g,rfl,_⟩:=hblk a ha;rfl⟩,fun b off hx=>by obtain ⟨g,e,h1,_⟩:=hblk _ hx;cases e;exact h1⟩;have HB:=aA hb;have GY:=aA mJ;clear hb mJ hle hup wH hblk ho HC;go_wp2_with fail;go_ret;refine ⟨w1.heap.size,o2,c2,rfl,⟨aG _ _,GY.out.below ((aJ _ _).alloc (aB _) _),kC.out.1⟩,HB.out.size,kC.out.2,HB.out.alloc HB.out.size _⟩
end Pk
namespace Pk
open Fx (dU eK gD dF eA fN)
open Go Go.RowKit
theorem VB (o:Option Addr)(c:Nat)(l:List Nat)(p dR:Nat)(most:Int)(lost:Bool)(w:World)(k:fW l dR)(h1:most≤9223372036854775807)(hq:l.length≤c∧(o=none→c=0))(hsp:0<c→∀a,o=some a→a.spot=none)(h:ZR o c l p dR lost w) :
  Calls prog 58 #[.pointer (some ⟨p,0,none⟩),.int .i64 most] w (Xz o c l p dR (CO lost most l dR) w):=by
 obtain ⟨c0,c1,c2,_,_⟩:=h.facts;have HS:=aA (yV o c l p dR most lost w k h1 h);have k1:=k.len;obtain ⟨r,hr⟩:∃r,rz lost most (l.drop dR)=r:=⟨_,rfl⟩;have HRZ:=aA hr;rw[hr] at HS;clear h hr h1
 cases r with
 | none =>
  have HR:Hid (CO lost most l dR=none):=aA (by unfold CO;rw[HRZ.out]);clear HRZ k k1;go_enter func58,ntmps58;go_wp2_with fail;refine HS.out.mono ?_;rintro e w1 ⟨rfl,hz,hg⟩;have HZ:Hid (ZR o c l p dR true w1):=aA hz;have HG:=aA hg;clear hz hg HS c0 c1 c2;go_wp2_with fail;rename_i K3 hK3;refine (bN (n:=5)).1 (eA (S:=fun X=>Below w1.heap.size w1 X) (Z:=[]) (by kernel_rfl) (by kernel_rfl) dU (fun d _ _ _ _ h=>by cases d <;> exact h) (eM _ _ 1) (fun hG rA hw0=>?_));refine dF [] 0 (?_) hG rfl (by kernel_rfl) hw0 (by kernel_rfl) ?_ ?_;rotate_left
  ·intro wz hSw;first|(go_simp;done)|(go_simp;with_reducible rfl)
  intro qZ kS;clear hw0 rA;try simp only[aQ]
  refine dF [] 1 (?_) hG rfl (by kernel_rfl) kS (by kernel_rfl) ?_ ?_;rotate_left
  ·intro wz hSw;first|(go_simp;done)|(go_simp;with_reducible rfl)
  intro qY hw2;clear kS qZ;try simp only[aQ]
  refine dF [] 2 (?_) hG rfl (by kernel_rfl) hw2 (by kernel_rfl) ?_ ?_;rotate_left
  ·intro wz hSw;first|(go_simp;done)|(go_simp;with_reducible rfl)
  intro qX hw3;clear hw2 qY;try simp only[aQ]
  refine dF [] 3 (.bool true) hG rfl (by kernel_rfl) hw3 (by kernel_rfl) ?_ ?_
  ·intro wz hSw;obtain ⟨c0,c1,c2,_,_⟩:=(HZ.out.below hSw).facts;(first|(go_simp;done)|(go_simp;with_reducible rfl))
  intro qW hw4;clear hw3 qX;try simp only[aQ]
  refine dF [] 4 (?_) hG rfl (by kernel_rfl) hw4 (by kernel_rfl) ?_ ?_;rotate_left
  ·intro wz hSw;first|(go_simp;done)|(go_simp;with_reducible rfl)
  intro qV lB;clear hw4 qW;try simp only[aQ]
  refine gD [] 5 hG rfl (by kernel_rfl) lB (by kernel_rfl) ?_;intro qU kA;clear lB qV;try simp only[aQ]
  refine gD [] 6 hG rfl (by kernel_rfl) kA (by kernel_rfl) ?_;intro qC kP;clear kA qU;try simp only[aQ]
  refine gD [] 7 hG rfl (by kernel_rfl) kP (by kernel_rfl) ?_;intro sF kH;clear kP qC;try simp only[aQ]
  refine gD [] 8 hG rfl (by kernel_rfl) kH (by kernel_rfl) ?_;intro sD lI;clear kH sF;try simp only[aQ]
  refine gD [] 9 hG rfl (by kernel_rfl) lI (by kernel_rfl) ?_;intro jG gH;clear lI sD;try simp only[aQ]
  refine gD [] 10 hG rfl (by kernel_rfl) gH (by kernel_rfl) ?_;intro kL gQ;clear gH jG;try simp only[aQ]
  refine gD [] 11 hG rfl (by kernel_rfl) gQ (by kernel_rfl) ?_;intro lH iG;clear gQ kL;try simp only[aQ]
  refine gD [] 12 hG rfl (by kernel_rfl) iG (by kernel_rfl) ?_;intro mS iW;clear iG lH;try simp only[aQ]
  refine gD [] 13 hG rfl (by kernel_rfl) iW (by kernel_rfl) ?_;intro nH iZ;clear iW mS;try simp only[aQ]
  refine gD [] 14 hG rfl (by kernel_rfl) iZ (by kernel_rfl) ?_;intro oB jM;clear iZ nH;try simp only[aQ]
  refine gD [] 15 hG rfl (by kernel_rfl) jM (by kernel_rfl) ?_;intro sG jB;clear jM oB;try simp only[aQ]
  refine gD [] 16 hG rfl (by kernel_rfl) jB (by kernel_rfl) ?_;intro VH EI;clear jB sG;try simp only[aQ]
  refine dF [] 17 (?_) hG rfl (by kernel_rfl) EI (by kernel_rfl) ?_ ?_;rotate_left
  ·intro wz hSw;first|(go_simp;done)|(go_simp;with_reducible rfl)
  intro Dj xM;clear EI VH;try simp only[aQ]
  refine eK (by kernel_rfl) (?_) _;refine hK3 _ _ ?_;have wS:=aA (HZ.out.below xM);have GF:=aA (HG.out.trans (below_grown xM (some p)));clear hK3 hG HZ HG xM;have HZ:=wS;have HG:=GF;clear wS GF;obtain ⟨c0,c1,c2,f1,f2⟩:=HZ.out.facts;have HE:=aA ((HZ.out.Ko dR).rC true);have vK:=aA ((HG.out.trans (eC _ p 1 (.int .i64 (dR:Int)))).trans (eC _ p 2 (.bool true)));clear HZ HG;go_wp2_with fail;go_ret;exact ⟨⟨_,rfl,by rw[HR.out];exact bV _ _ _ _⟩,by rw[HR.out];exact HE.out,vK.out⟩
 | some r =>
  obtain ⟨n,j⟩:=r;have hj:j≤l.length-dR:=by
   have h:=HRZ.out;unfold rz at h
   split at h
   ·cases h
   ·have:=(tI h).2.2
    simp at this;omega
  have k2:=k.at';obtain ⟨iQ,ha1⟩:∃iQ,dR+j=iQ:=⟨_,rfl⟩;have BN:iQ≤l.length:=by omega
  have Cv:=aA ha1;have Zb:Hid (IntKind.i64.wrap ((l.length:Int)-(iQ:Int))=(l.length:Int)-(iQ:Int)):=aA (by rw[bL];omega);by_cases hn:n≤l.length-iQ
  ·obtain ⟨mm,Wa⟩:∃mm,(l.drop iQ).take n=mm:=⟨_,rfl⟩
   have jH:mm.length=iQ+n-iQ:=by rw[←Wa];simp;omega
   have HR:Hid (CO lost most l dR=some (mm,j+n)):=aA (by unfold CO;rw[HRZ.out];simp only[Cv.out,Wa];rw[aZ hn]);have CG:=aA jH;have HMM:=aA Wa;have HN:=aA hn;have HAL:=aA BN;have Mu:¬ (l.length:Int)-(iQ:Int)<(n:Int):=by omega
   have hs2:(iQ:Int)+(n:Int)≤1000000000:=by omega
   have n0:(0:Int)≤(n:Int):=by omega
   have at10:(0:Int)≤(iQ:Int):=by omega
   have Qw:Hid (IntKind.i64.wrap ((iQ:Int)+(n:Int))=(iQ:Int)+(n:Int)):=aA (by rw[bL];omega);have hspot:=hsp;clear HRZ k k1 k2 hj ha1 jH Wa hn BN;go_enter func58,ntmps58;go_wp2_with fail;refine HS.out.mono ?_;rintro e w1 ⟨rfl,hz,hg⟩;have HZ:Hid (ZR o c l p iQ false w1):=aA (by have h:ZR o c l p (dR+j) false w1:=hz;rw[Cv.out] at h;exact h);have HG:=aA hg;have hv:pR (some (n,j))=n:=rfl;rw[hv];clear hz hg HS c0 c1 c2 hv;go_wp2_with fail;rename_i K3 hK3;refine (bN (n:=5)).1 (eA (S:=fun X=>Below w1.heap.size w1 X) (Z:=[]) (by kernel_rfl) (by kernel_rfl) dU (fun d _ _ _ _ h=>by cases d <;> exact h) (eM _ _ 1) (fun hG rA hw0=>?_));refine dF [] 0 (?_) hG rfl (by kernel_rfl) hw0 (by kernel_rfl) ?_ ?_;rotate_left
   ·intro wz hSw;first|(go_simp;done)|(go_simp;with_reducible rfl)
   intro qZ kS;clear hw0 rA;try simp only[aQ]
   refine dF [] 1 (?_) hG rfl (by kernel_rfl) kS (by kernel_rfl) ?_ ?_;rotate_left
   ·intro wz hSw;first|(go_simp;done)|(go_simp;with_reducible rfl)
   intro qY hw2;clear kS qZ;try simp only[aQ]
   refine dF [] 2 (?_) hG rfl (by kernel_rfl) hw2 (by kernel_rfl) ?_ ?_;rotate_left
   ·intro wz hSw;first|(go_simp;done)|(go_simp;with_reducible rfl)
   intro qX hw3;clear hw2 qY;try simp only[aQ]
   refine dF [] 3 (.bool false) hG rfl (by kernel_rfl) hw3 (by kernel_rfl) ?_ ?_
   ·intro wz hSw;obtain ⟨c0,c1,c2,_,_⟩:=(HZ.out.below hSw).facts;(first|(go_simp;done)|(go_simp;with_reducible rfl))
   intro qW hw4;clear hw3 qX;try simp only[aQ]
   refine dF [] 4 (?_) hG rfl (by kernel_rfl) hw4 (by kernel_rfl) ?_ ?_;rotate_left
   ·intro wz hSw;first|(go_simp;done)|(go_simp;with_reducible rfl)
   intro qV lB;clear hw4 qW;try simp only[aQ]
   refine dF [] 5 (?_) hG rfl (by kernel_rfl) lB (by kernel_rfl) ?_ ?_;rotate_left
   ·intro wz hSw;first|(go_simp;done)|(go_simp;with_reducible rfl)
   intro qU kA;clear lB qV;try simp only[aQ]
   refine dF [] 6 (?_) hG rfl (by kernel_rfl) kA (by kernel_rfl) ?_ ?_;rotate_left
   ·intro wz hSw;first|(go_simp;done)|(go_simp;with_reducible rfl)
   intro qC kP;clear kA qU;try simp only[aQ]
   refine dF [] 7 (?_) hG rfl (by kernel_rfl) kP (by kernel_rfl) ?_ ?_;rotate_left
   ·intro wz hSw;first|(go_simp;done)|(go_simp;with_reducible rfl)
   intro sF kH;clear kP qC;try simp only[aQ]
   refine dF [] 8 (?_) hG rfl (by kernel_rfl) kH (by kernel_rfl) ?_ ?_;rotate_left
   ·intro wz hSw;first|(go_simp;done)|(go_simp;with_reducible rfl)
   intro sD lI;clear kH sF;try simp only[aQ]
   refine dF [] 9 (.slice o l.length c) hG rfl (by kernel_rfl) lI (by kernel_rfl) ?_ ?_
   ·intro wz hSw;obtain ⟨c0,c1,c2,_,_⟩:=(HZ.out.below hSw).facts;(first|(go_simp;done)|(go_simp;with_reducible rfl))
   intro jG gH;clear lI sD;try simp only[aQ]
   refine dF [] 10 (?_) hG rfl (by kernel_rfl) gH (by kernel_rfl) ?_ ?_;rotate_left
   ·intro wz hSw;first|(go_simp;done)|(go_simp;with_reducible rfl)
   intro kL gQ;clear gH jG;try simp only[aQ]
   refine dF [] 11 (?_) hG rfl (by kernel_rfl) gQ (by kernel_rfl) ?_ ?_;rotate_left
   ·intro wz hSw;first|(go_simp;done)|(go_simp;with_reducible rfl)
   intro lH iG;clear gQ kL;try simp only[aQ]
   refine dF [] 12 (?_) hG rfl (by kernel_rfl) iG (by kernel_rfl) ?_ ?_;rotate_left
   ·intro wz hSw;first|(go_simp;done)|(go_simp;with_reducible rfl)
   intro mS iW;clear iG lH;try simp only[aQ]
   refine dF [] 13 (?_) hG rfl (by kernel_rfl) iW (by kernel_rfl) ?_ ?_;rotate_left
   ·intro wz hSw;first|(go_simp;done)|(go_simp;with_reducible rfl)
   intro nH iZ;clear iW mS;try simp only[aQ]
   refine dF [] 14 (.int .i64 (iQ:Int)) hG rfl (by kernel_rfl) iZ (by kernel_rfl) ?_ ?_
   ·intro wz hSw;obtain ⟨c0,c1,c2,_,_⟩:=(HZ.out.below hSw).facts;(first|(go_simp;done)|(go_simp;with_reducible rfl))
   intro oB jM;clear iZ nH;try simp only[aQ]
   refine dF [] 15 (.int .i64 ((l.length:Int)-(iQ:Int))) hG rfl (by kernel_rfl) jM (by kernel_rfl) ?_ ?_
   ·intro wz hSw;have ee:=Zb.out;(first|(go_simp;done)|(go_simp;rw[ee])|(go_simp;with_reducible rfl))
   intro sG jB;clear jM oB;try simp only[aQ]
   refine dF [] 16 (.bool false) hG rfl (by kernel_rfl) jB (by kernel_rfl) ?_ ?_
   ·intro wz hSw;(first|(go_simp;done)|(go_simp;exact Mu)|(go_simp;omega))
   intro VH EI;clear jB sG;try simp only[aQ]
   refine dF [] 17 (?_) hG rfl (by kernel_rfl) EI (by kernel_rfl) ?_ ?_;rotate_left
   ·intro wz hSw;first|(go_simp;done)|(go_simp;with_reducible rfl)
   intro Dj xM;clear EI VH;try simp only[aQ]
   refine eK (by kernel_rfl) (?_) _;refine hK3 _ _ ?_;have wS:=aA (HZ.out.below xM);have GF:=aA (HG.out.trans (below_grown xM (some p)));clear hK3 hG HZ HG xM;have HZ:=wS;have HG:=GF;clear wS GF;go_wp2_with fail;rename_i K8 hK8;refine (bN (n:=5)).1 (eA (S:=fun X=>Below Dj.heap.size Dj X) (Z:=[]) (by kernel_rfl) (by kernel_rfl) dU (fun d _ _ _ _ h=>by cases d <;> exact h) (eM _ _ 1) (fun hG rA hw0=>?_));refine dF [] 0 (?_) hG rfl (by kernel_rfl) hw0 (by kernel_rfl) ?_ ?_;rotate_left
   ·intro wz hSw;first|(go_simp;done)|(go_simp;with_reducible rfl)
   intro qZ kS;clear hw0 rA;try simp only[aQ]
   refine dF [] 1 (?_) hG rfl (by kernel_rfl) kS (by kernel_rfl) ?_ ?_;rotate_left
   ·intro wz hSw;first|(go_simp;done)|(go_simp;with_reducible rfl)
   intro qY hw2;clear kS qZ;try simp only[aQ]
   refine dF [] 2 (?_) hG rfl (by kernel_rfl) hw2 (by kernel_rfl) ?_ ?_;rotate_left
   ·intro wz hSw;first|(go_simp;done)|(go_simp;with_reducible rfl)
   intro qX hw3;clear hw2 qY;try simp only[aQ]
   refine dF [] 3 (?_) hG rfl (by kernel_rfl) hw3 (by kernel_rfl) ?_ ?_;rotate_left
   ·intro wz hSw;first|(go_simp;done)|(go_simp;with_reducible rfl)
   intro qW hw4;clear hw3 qX;try simp only[aQ]
   refine dF [] 4 (.slice o l.length c) hG rfl (by kernel_rfl) hw4 (by kernel_rfl) ?_ ?_
   ·intro wz hSw;obtain ⟨c0,c1,c2,_,_⟩:=(HZ.out.below hSw).facts;(first|(go_simp;done)|(go_simp;with_reducible rfl))
   intro qV lB;clear hw4 qW;try simp only[aQ]
   refine dF [] 5 (?_) hG rfl (by kernel_rfl) lB (by kernel_rfl) ?_ ?_;rotate_left
   ·intro wz hSw;first|(go_simp;done)|(go_simp;with_reducible rfl)
   intro qU kA;clear lB qV;try simp only[aQ]
   refine dF [] 6 (?_) hG rfl (by kernel_rfl) kA (by kernel_rfl) ?_ ?_;rotate_left
   ·intro wz hSw;first|(go_simp;done)|(go_simp;with_reducible rfl)
   intro qC kP;clear kA qU;try simp only[aQ]
   refine dF [] 7 (?_) hG rfl (by kernel_rfl) kP (by kernel_rfl) ?_ ?_;rotate_left
   ·intro wz hSw;first|(go_simp;done)|(go_simp;with_reducible rfl)
   intro sF kH;clear kP qC;try simp only[aQ]
   refine dF [] 8 (.int .i64 (iQ:Int)) hG rfl (by kernel_rfl) kH (by kernel_rfl) ?_ ?_
   ·intro wz hSw;obtain ⟨c0,c1,c2,_,_⟩:=(HZ.out.below hSw).facts;(first|(go_simp;done)|(go_simp;with_reducible rfl))
   intro sD lI;clear kH sF;try simp only[aQ]
   refine dF [] 9 (?_) hG rfl (by kernel_rfl) lI (by kernel_rfl) ?_ ?_;rotate_left
   ·intro wz hSw;first|(go_simp;done)|(go_simp;with_reducible rfl)
   intro jG gH;clear lI sD;try simp only[aQ]
   refine dF [] 10 (?_) hG rfl (by kernel_rfl) gH (by kernel_rfl) ?_ ?_;rotate_left
   ·intro wz hSw;first|(go_simp;done)|(go_simp;with_reducible rfl)
   intro kL gQ;clear gH jG;try simp only[aQ]
   refine dF [] 11 (?_) hG rfl (by kernel_rfl) gQ (by kernel_rfl) ?_ ?_;rotate_left
   ·intro wz hSw;first|(go_simp;done)|(go_simp;with_reducible rfl)
   intro lH iG;clear gQ kL;try simp only[aQ]
   refine dF [] 12 (.int .i64 (iQ:Int)) hG rfl (by kernel_rfl) iG (by kernel_rfl) ?_ ?_
   ·intro wz hSw;obtain ⟨c0,c1,c2,_,_⟩:=(HZ.out.below hSw).facts;(first|(go_simp;done)|(go_simp;with_reducible rfl))
   intro mS iW;clear iG lH;try simp only[aQ]
   refine dF [] 13 (?_) hG rfl (by kernel_rfl) iW (by kernel_rfl) ?_ ?_;rotate_left
   ·intro wz hSw;first|(go_simp;done)|(go_simp;with_reducible rfl)
   intro nH iZ;clear iW mS;try simp only[aQ]
   refine dF [] 14 (.int .i64 ((iQ:Int)+(n:Int))) hG rfl (by kernel_rfl) iZ (by kernel_rfl) ?_ ?_
   ·intro wz hSw;have ee:=Qw.out;(first|(go_simp;done)|(go_simp;rw[ee])|(go_simp;with_reducible rfl))
   intro oB jM;clear iZ nH;try simp only[aQ]
   refine dF [] 15 (.slice (iO o c iQ) mm.length (c-iQ)) hG rfl (by kernel_rfl) jM (by kernel_rfl) ?_ ?_
   ·intro wz hSw;rw[CG.out];exact TI (.tmp 44) (.tmp 48) (.tmp 54) (by kernel_rfl) o l.length c iQ (iQ+n) (iQ:Int) ((iQ:Int)+(n:Int)) rfl (by omega) (by kernel_rfl) (by kernel_rfl) (by kernel_rfl) (by omega) (by have h1:=HN.out;have h2:=hq.1;have h3:=HAL.out;omega) hq.2 hspot
   intro sG jB;clear jM oB;try simp only[aQ]
   refine fN 16 (by kernel_rfl) rfl (fun K hK=>?_);rw[aZ (by kernel_rfl)];refine Jg (.tmp 40) (.tmp 55) (by kernel_rfl) w.heap.size (.slice none 0 0) [] (by kernel_rfl) (bV _ _ _ _) (iO o c iQ) mm (c-iQ) (by kernel_rfl) ?_ (by have h:=(HZ.out.below jB).bs.cut (l:=iQ) (h:=iQ+n) (c:=c) (by omega) (by have h1:=HN.out;have h3:=HAL.out;omega) hq.1;rw[show iQ+n-iQ=n by omega,HMM.out] at h;exact h) (by have:=CG.out;simp;omega) (by have h1:=HG.out.size;have h2:=jB.size;omega) ?_
   ·intro h;unfold iO at h;cases o with
    | none=>have:=hq.2 rfl;omega
    | some a=>cases h
   intro v2 w2 sA hg2;have hb2:Below sG.heap.size sG w2:=⟨hg2.os,hg2.tape,hg2.output,hg2.size,fun k hk=>hg2.block k hk (by intro h;cases h)⟩;have IH:=dU _ _ jB hb2;refine hK.out _ _ (fun _=>IH) (fun w3 hb3=>?_);have hS3:=dU _ _ IH hb3;have HO3:=aA (sA.below hb3);clear hK K sA hg2 hb2 IH hb3 jB;try simp only[aQ]
   refine fN 17 (by kernel_rfl) rfl (fun K hK=>?_);go_simp;refine hK.out _ _ (fun _=>hS3) (fun w4 hb4=>?_);have hS4:=dU _ _ hS3 hb4;have HO:=aA (HO3.out.below hb4);clear hK K hb4 HO3 hS3;try simp only[aQ]
   refine eK (by kernel_rfl) (?_) _;refine hK8 _ _ ?_;have wS:=aA (HZ.out.below hS4);have GF:=aA (HG.out.trans (below_grown hS4 (some p)));clear hK8 hG HZ HG hS4;have HZ:=wS;have HG:=GF;clear wS GF;obtain ⟨c0,c1,c2,f1,f2⟩:=HZ.out.facts;have HE:=aA (HZ.out.ZH (dR+(j+n)) ((iQ:Int)+(n:Int)) (by have:=Cv.out;omega));have vK:=aA (HG.out.trans (eC _ p 1 (.int .i64 ((iQ:Int)+(n:Int)))));have HOE:=aA (HO.out.grown (eC _ p 1 (.int .i64 ((iQ:Int)+(n:Int)))) (fun k hk h=>HO.out.apart HZ.out.row (by decide) k hk (bK h)));clear HZ HG HO;go_wp2_with fail;go_ret;exact ⟨⟨_,rfl,by rw[HR.out];exact HOE.out⟩,by rw[HR.out];exact HE.out,vK.out⟩
  ·have HR:Hid (CO lost most l dR=none):=aA (by unfold CO;rw[HRZ.out];simp only[Cv.out];rw[bF hn])
   have Mu:(l.length:Int)-(iQ:Int)<(n:Int):=by omega
   clear HRZ k k1 k2 hj ha1 hn BN;go_enter func58,ntmps58;go_wp2_with fail;refine HS.out.mono ?_;rintro e w1 ⟨rfl,hz,hg⟩;have HZ:Hid (ZR o c l p iQ false w1):=aA (by have h:ZR o c l p (dR+j) false w1:=hz;rw[Cv.out] at h;exact h);have HG:=aA hg;have hv:pR (some (n,j))=n:=rfl;rw[hv];clear hz hg HS c0 c1 c2 hv;go_wp2_with fail;rename_i K3 hK3;refine (bN (n:=5)).1 (eA (S:=fun X=>Below w1.heap.size w1 X) (Z:=[]) (by kernel_rfl) (by kernel_rfl) dU (fun d _ _ _ _ h=>by cases d <;> exact h) (eM _ _ 1) (fun hG rA hw0=>?_));refine dF [] 0 (?_) hG rfl (by kernel_rfl) hw0 (by kernel_rfl) ?_ ?_;rotate_left
   ·intro wz hSw;first|(go_simp;done)|(go_simp;with_reducible rfl)
   intro qZ kS;clear hw0 rA;try simp only[aQ]
   refine dF [] 1 (?_) hG rfl (by kernel_rfl) kS (by kernel_rfl) ?_ ?_;rotate_left
   ·intro wz hSw;first|(go_simp;done)|(go_simp;with_reducible rfl)
   intro qY hw2;clear kS qZ;try simp only[aQ]
   refine dF [] 2 (?_) hG rfl (by kernel_rfl) hw2 (by kernel_rfl) ?_ ?_;rotate_left
   ·intro wz hSw;first|(go_simp;done)|(go_simp;with_reducible rfl)
   intro qX hw3;clear hw2 qY;try simp only[aQ]
   refine dF [] 3 (.bool false) hG rfl (by kernel_rfl) hw3 (by kernel_rfl) ?_ ?_
   ·intro wz hSw;obtain ⟨c0,c1,c2,_,_⟩:=(HZ.out.below hSw).facts;(first|(go_simp;done)|(go_simp;with_reducible rfl))
   intro qW hw4;clear hw3 qX;try simp only[aQ]
   refine dF [] 4 (?_) hG rfl (by kernel_rfl) hw4 (by kernel_rfl) ?_ ?_;rotate_left
   ·intro wz hSw;first|(go_simp;done)|(go_simp;with_reducible rfl)
   intro qV lB;clear hw4 qW;try simp only[aQ]
   refine dF [] 5 (?_) hG rfl (by kernel_rfl) lB (by kernel_rfl) ?_ ?_;rotate_left
   ·intro wz hSw;first|(go_simp;done)|(go_simp;with_reducible rfl)
   intro qU kA;clear lB qV;try simp only[aQ]
   refine dF [] 6 (?_) hG rfl (by kernel_rfl) kA (by kernel_rfl) ?_ ?_;rotate_left
   ·intro wz hSw;first|(go_simp;done)|(go_simp;with_reducible rfl)
   intro qC kP;clear kA qU;try simp only[aQ]
   refine dF [] 7 (?_) hG rfl (by kernel_rfl) kP (by kernel_rfl) ?_ ?_;rotate_left
   ·intro wz hSw;first|(go_simp;done)|(go_simp;with_reducible rfl)
   intro sF kH;clear kP qC;try simp only[aQ]
   refine dF [] 8 (?_) hG rfl (by kernel_rfl) kH (by kernel_rfl) ?_ ?_;rotate_left
   ·intro wz hSw;first|(go_simp;done)|(go_simp;with_reducible rfl)
   intro sD lI;clear kH sF;try simp only[aQ]
   refine dF [] 9 (.slice o l.length c) hG rfl (by kernel_rfl) lI (by kernel_rfl) ?_ ?_
   ·intro wz hSw;obtain ⟨c0,c1,c2,_,_⟩:=(HZ.out.below hSw).facts;(first|(go_simp;done)|(go_simp;with_reducible rfl))
   intro jG gH;clear lI sD;try simp only[aQ]
   refine dF [] 10 (?_) hG rfl (by kernel_rfl) gH (by kernel_rfl) ?_ ?_;rotate_left
   ·intro wz hSw;first|(go_simp;done)|(go_simp;with_reducible rfl)
   intro kL gQ;clear gH jG;try simp only[aQ]
   refine dF [] 11 (?_) hG rfl (by kernel_rfl) gQ (by kernel_rfl) ?_ ?_;rotate_left
   ·intro wz hSw;first|(go_simp;done)|(go_simp;with_reducible rfl)
   intro lH iG;clear gQ kL;try simp only[aQ]
   refine dF [] 12 (?_) hG rfl (by kernel_rfl) iG (by kernel_rfl) ?_ ?_;rotate_left
   ·intro wz hSw;first|(go_simp;done)|(go_simp;with_reducible rfl)
   intro mS iW;clear iG lH;try simp only[aQ]
   refine dF [] 13 (?_) hG rfl (by kernel_rfl) iW (by kernel_rfl) ?_ ?_;rotate_left
   ·intro wz hSw;first|(go_simp;done)|(go_simp;with_reducible rfl)
   intro nH iZ;clear iW mS;try simp only[aQ]
   refine dF [] 14 (.int .i64 (iQ:Int)) hG rfl (by kernel_rfl) iZ (by kernel_rfl) ?_ ?_
   ·intro wz hSw;obtain ⟨c0,c1,c2,_,_⟩:=(HZ.out.below hSw).facts;(first|(go_simp;done)|(go_simp;with_reducible rfl))
   intro oB jM;clear iZ nH;try simp only[aQ]
   refine dF [] 15 (.int .i64 ((l.length:Int)-(iQ:Int))) hG rfl (by kernel_rfl) jM (by kernel_rfl) ?_ ?_
   ·intro wz hSw;have ee:=Zb.out;(first|(go_simp;done)|(go_simp;rw[ee])|(go_simp;with_reducible rfl))
   intro sG jB;clear jM oB;try simp only[aQ]
   refine dF [] 16 (.bool true) hG rfl (by kernel_rfl) jB (by kernel_rfl) ?_ ?_
   ·intro wz hSw;(first|(go_simp;done)|(go_simp;exact Mu)|(go_simp;omega))
   intro VH EI;clear jB sG;try simp only[aQ]
   refine dF [] 17 (?_) hG rfl (by kernel_rfl) EI (by kernel_rfl) ?_ ?_;rotate_left
   ·intro wz hSw;first|(go_simp;done)|(go_simp;with_reducible rfl)
   intro Dj xM;clear EI VH;try simp only[aQ]
   refine eK (by kernel_rfl) (?_) _;refine hK3 _ _ ?_;have wS:=aA (HZ.out.below xM);have GF:=aA (HG.out.trans (below_grown xM (some p)));clear hK3 hG HZ HG xM;have HZ:=wS;have HG:=GF;clear wS GF;obtain ⟨c0,c1,c2,f1,f2⟩:=HZ.out.facts;have HE:=aA ((HZ.out.Ko dR).rC true);have vK:=aA ((HG.out.trans (eC _ p 1 (.int .i64 (dR:Int)))).trans (eC _ p 2 (.bool true)));clear HZ HG;go_wp2_with fail;go_ret;exact ⟨⟨_,rfl,by rw[HR.out];exact bV _ _ _ _⟩,by rw[HR.out];exact HE.out,vK.out⟩
end Pk
namespace Pk
open Fx (dU eK dF eA fN)
open Go Go.RowKit
def Lp (most:Int)(n left:Nat):Bool:=OQ most n && OQ (left:Int) n
theorem ask_t (most:Int)(q n left:Nat)(w:World)(hn:n<18446744073709551616)(h1:most≤9223372036854775807)(hl:left≤1000000000)(hc:w.cell? ⟨q,0,none⟩=some (.int .i64 most)) :
  Calls prog 95 #[.int .u64 (n:Int),.int .i64 (left:Int),.pointer (some ⟨q,0,none⟩)] w fun e w'=>e=.returned (.bool (Lp most n left))∧w=w':=by
 have HU:=aA (CN most n w hn h1);have HU2:=aA (CN (left:Int) n w hn (by omega));clear hn h1;unfold Lp;generalize OQ most n=b at *;generalize OQ (left:Int) n=d at *
 cases b with
 | true =>
  go_enter func95,ntmps95;go_wp2_with fail;refine HU.out.mono ?_;rintro e w1 ⟨rfl,rfl⟩;go_wp2_with fail;refine HU2.out.mono ?_;rintro e w1 ⟨rfl,rfl⟩;go_wp2_with fail;go_ret;exact ⟨rfl,rfl⟩
 | false =>
  go_enter func95,ntmps95;go_wp2_with fail;refine HU.out.mono ?_;rintro e w1 ⟨rfl,rfl⟩;go_wp2_with fail;go_ret;exact ⟨rfl,rfl⟩
theorem tk_t (lost:Bool)(most:Int)(l:List Nat)(dR:Nat)(h1:most≤9223372036854775807):VL lost (Lp most) l dR=match rz lost most (l.drop dR) with
  | none=>none
  | some (n,j)=>if n≤l.length-(dR+j) then some (n,j) else none:=by
 rw[←tk_s lost most l dR h1];unfold VL
 cases lost
 ·rw[bF (by simp),bF (by simp)]
  cases rd pP (l.drop dR) with
  | none=>rfl
  | some r =>
   obtain ⟨n,j⟩:=r;dsimp only;have e:OQ ((l.length-(dR+j):Nat):Int) n=decide (n≤l.length-(dR+j)):=by
    unfold OQ
    congr 1
    apply propext
    constructor
    ·rintro ⟨_,h⟩;omega
    ·intro h;omega
   unfold Lp;rw[e];by_cases hu:OQ most n=true
   ·simp[hu]
   ·simp[hu]
 ·rfl
def PTxt (o:Option Addr)(c:Nat)(l:List Nat)(p dR:Nat)(r:Option (List Nat×Nat))(w:World)(e:Ending)(w':World):Prop :=
 (∃v,e=.returned v∧Own w' w.heap.size v ((r.map (·.1)).getD []))∧PR o c l p (txA r dR) r.isNone w'∧w.grownBy w' (some p)
theorem WH (o:Option Addr)(c:Nat)(l:List Nat)(p dR:Nat)(most:Int)(lost:Bool)(w:World)(k:fW l dR)(h1:most≤9223372036854775807)(h:PR o c l p dR lost w) :
  Calls prog 57 #[.pointer (some ⟨p,0,none⟩),.int .i64 most] w (PTxt o c l p dR (CO lost most l dR) w):=by
 obtain ⟨W1,hW1⟩:∃W1,w.alloc (.cells #[.int .i64 most] 3)=W1:=⟨_,rfl⟩;have hb:Below w.heap.size w W1:=by rw[←hW1];exact (aJ _ w).alloc (aB _) _
 have hq:W1.cell? ⟨w.heap.size,0,none⟩=some (.int .i64 most):=by rw[←hW1,aD _ _ _ _ _ _ (aG _ _)];rfl
 have hu:=vg o c l p dR lost W1 k (h.below hb) w.heap.size (Lp most) (aA (fun n left W hB hn hl=>ask_t most w.heap.size n left W hn h1 hl (dE hB hq)));rw[tk_t lost most l dR h1] at hu;have HB:=aA hb;have xY:=aA hW1;have kC:=aA h.ok;have k1:=k.len;have k2:=k.at';have hrz:pR (rz lost most (l.drop dR))≤most.toNat:=ZA;have hdr:∀n j,rz lost most (l.drop dR)=some (n,j)→dR+j≤l.length:=fun n j hr=>by
  unfold rz at hr
  split at hr
  ·cases hr
  ·have:=(tI hr).2.2
   simp at this;omega
 have HL:=aA k.len;have HDR:=aA hdr;have UW:Hid (CO lost most l dR=match rz lost most (l.drop dR) with|none=>none|some (n,j)=>if n≤l.length-(dR+j) then some ((l.drop (dR+j)).take n,j+n) else none):=aA rfl;have HU:=aA hu;obtain ⟨rt,hrt⟩:∃rt,CO lost most l dR=rt:=⟨_,rfl⟩;rw[hrt] at UW ⊢;clear k h hb hW1 hq hu hdr hrt;have bad:∀ (hn:rt=none) (HN:Hid (Calls prog 89 #[.pointer (some ⟨p,0,none⟩),.func (.func 95) #[] #[.pointer (some ⟨w.heap.size,0,none⟩)]] W1 (rP o c l p dR none W1))),
   Calls prog 57 #[.pointer (some ⟨p,0,none⟩),.int .i64 most] w (PTxt o c l p dR rt w):=by
  intro hn HN;subst hn;clear HU UW HDR hrz;go_enter func57,ntmps57;go_wp2_with fail;rw[xY.out];refine HN.out.mono ?_;rintro e w1 ⟨rfl,hz,hg⟩;have HZ:=aA hz;have HG:=aA ((below_grown HB.out (some p)).trans hg);clear hz hg HN HB;simp only[pR];go_wp2_with fail;go_ret;exact ⟨⟨_,rfl,bV _ _ _ _⟩,HZ.out,HG.out⟩
 cases hr:rz lost most (l.drop dR) with
 | none =>
  rw[hr] at HU UW;exact bad UW.out HU
 | some r =>
  obtain ⟨n,j⟩:=r;rw[hr] at HU UW hrz;have BN:=HDR.out n j hr;by_cases hn:n≤l.length-(dR+j)
  ·have hu:=HU.out
   have htx:=UW.out;simp only[aZ hn] at hu htx;have HU2:=aA hu;have Yk:=aA htx;clear HU UW HDR bad hu htx hr;obtain ⟨iQ,ha1⟩:∃iQ,dR+j=iQ:=⟨_,rfl⟩;rw[ha1] at hn BN Yk;obtain ⟨mm,Wa⟩:∃mm,(l.drop iQ).take n=mm:=⟨_,rfl⟩;have jH:mm.length=iQ+n-iQ:=by rw[←Wa];simp;omega
   rw[Wa] at Yk;have hw2:IntKind.i64.wrap (n:Int)=(n:Int):=by rw[bL];omega
   have CG:=aA jH;have HMM:=aA Wa;have AG:=aA hn;have HAL:=aA BN;have Cv:=aA ha1;have hrt:=Yk.out;subst hrt;have hwz:=hw2;clear Wa ha1 hrz Yk k1 k2;by_cases wH:n=0
   ·subst wH
    have hmm0:Hid (mm=[]):=aA (List.length_eq_zero_iff.1 (by have:=CG.out;omega));clear jH hn BN hw2 hwz;go_enter func57,ntmps57;go_wp2_with fail;rw[xY.out];refine HU2.out.mono ?_;rintro e w1 ⟨rfl,hz,hg⟩;have HZ:=aA hz;have HG:=aA ((below_grown HB.out (some p)).trans hg);clear hz hg HU2 HB;simp only[pR];go_wp2_with fail;go_ret;exact ⟨⟨_,rfl,by simp only[Option.map_some,Option.getD_some];rw[hmm0.out];exact bV _ _ _ _⟩,HZ.out,HG.out⟩
   ·have n1:¬ (n:Int)=0:=by omega
    have Qw:Hid (IntKind.i64.wrap ((iQ:Int)+(n:Int))=(iQ:Int)+(n:Int)):=aA (by have:=HL.out;rw[bL];omega);clear jH hn BN hw2;go_enter func57,ntmps57;go_wp2_with fail;rw[xY.out];refine HU2.out.mono ?_;rintro e w1 ⟨rfl,hz,hg⟩;have HZ:Hid (PR o c l p iQ false w1):=aA (by have h:PR o c l p (dR+j) false w1:=hz;rw[Cv.out] at h;exact h);obtain ⟨c0,c1,c2,c3,f1,f3⟩:=HZ.out.facts;have HG:=aA ((below_grown HB.out (some p)).trans hg);have WZ:=Qw.out;clear hz hg HU2 HB;simp only[pR];obtain ⟨W3,hW3⟩:∃W3,w1.setCell ⟨p,3,none⟩ (.int .i64 ((iQ:Int)+(n:Int)))=W3:=⟨_,rfl⟩;have hR3:=HZ.out.goto (iQ+n) ((iQ:Int)+(n:Int)) (by omega);have hG3:=HG.out.trans (eC _ p 3 (.int .i64 ((iQ:Int)+(n:Int))));rw[hW3] at hR3 hG3;have HR:=aA hR3;have HGX:=aA hG3;have HW3:=aA hW3;clear HG HZ hR3 hG3 hW3;have HG:=HGX;clear HGX;have UH:Hid (w.heap.size≤W3.heap.size):=aA HG.out.size;have Ro:Hid (∀X:World,Below W3.heap.size W3 X→Calls prog 96 #[.slice (iO o c iQ) mm.length (c-iQ)] X fun e w'=>(∃v,e=.returned v∧Own w' X.heap.size v mm)∧Below X.heap.size X w'):=aA (fun X hb=>rO (iO o c iQ) (c-iQ) mm X (fun hn=>by
      cases o with
      | none=>have:=kC.out.nil rfl;omega
      | some a=>cases hn) (by have:=CG.out;have:=HL.out;have:=AG.out;omega) (by
      have h:=(HR.out.below hb).bs.cut (l:=iQ) (h:=iQ+n) (c:=c) (by omega) (by have h1:=AG.out;have h3:=HAL.out;omega) kC.out.le;rw[show iQ+n-iQ=n by omega,HMM.out] at h;exact h))
    go_wp2_with fail;rw[HW3.out];clear c0 c1 c2 c3 f1 f3 HW3;rename_i K3 hK3;refine (bN (n:=5)).1 (eA (S:=fun X=>Below W3.heap.size W3 X) (Z:=[]) (by kernel_rfl) (by kernel_rfl) dU (fun d _ _ _ _ h=>by cases d <;> exact h) (eM _ _ 1) (fun hG rA hw0=>?_));refine dF [] 0 (?_) hG rfl (by kernel_rfl) hw0 (by kernel_rfl) ?_ ?_;rotate_left
    ·intro wz hSw;first|(go_simp;done)|(go_simp;with_reducible rfl)
    intro qZ kS;clear hw0 rA;try simp only[aQ]
    refine dF [] 1 (?_) hG rfl (by kernel_rfl) kS (by kernel_rfl) ?_ ?_;rotate_left
    ·intro wz hSw;first|(go_simp;done)|(go_simp;with_reducible rfl)
    intro qY hw2;clear kS qZ;try simp only[aQ]
    refine dF [] 2 (?_) hG rfl (by kernel_rfl) hw2 (by kernel_rfl) ?_ ?_;rotate_left
    ·intro wz hSw;first|(go_simp;done)|(go_simp;with_reducible rfl)
    intro qX hw3;clear hw2 qY;try simp only[aQ]
    refine dF [] 3 (?_) hG rfl (by kernel_rfl) hw3 (by kernel_rfl) ?_ ?_;rotate_left
    ·intro wz hSw;first|(go_simp;done)|(go_simp;with_reducible rfl)
    intro qW hw4;clear hw3 qX;try simp only[aQ]
    refine dF [] 4 (.slice o l.length c) hG rfl (by kernel_rfl) hw4 (by kernel_rfl) ?_ ?_
    ·intro wz hSw;obtain ⟨c0,c1,c2,c3,_,_⟩:=(HR.out.below hSw).facts;(first|(go_simp;done)|(go_simp;with_reducible rfl))
    intro qV lB;clear hw4 qW;try simp only[aQ]
    refine dF [] 5 (?_) hG rfl (by kernel_rfl) lB (by kernel_rfl) ?_ ?_;rotate_left
    ·intro wz hSw;first|(go_simp;done)|(go_simp;with_reducible rfl)
    intro qU kA;clear lB qV;try simp only[aQ]
    refine dF [] 6 (?_) hG rfl (by kernel_rfl) kA (by kernel_rfl) ?_ ?_;rotate_left
    ·intro wz hSw;first|(go_simp;done)|(go_simp;with_reducible rfl)
    intro qC kP;clear kA qU;try simp only[aQ]
    refine dF [] 7 (?_) hG rfl (by kernel_rfl) kP (by kernel_rfl) ?_ ?_;rotate_left
    ·intro wz hSw;first|(go_simp;done)|(go_simp;with_reducible rfl)
    intro sF kH;clear kP qC;try simp only[aQ]
    refine dF [] 8 (?_) hG rfl (by kernel_rfl) kH (by kernel_rfl) ?_ ?_;rotate_left
    ·intro wz hSw;first|(go_simp;done)|(go_simp;with_reducible rfl)
    intro sD lI;clear kH sF;try simp only[aQ]
    refine dF [] 9 (.int .i64 ((iQ+n:Nat):Int)) hG rfl (by kernel_rfl) lI (by kernel_rfl) ?_ ?_
    ·intro wz hSw;obtain ⟨c0,c1,c2,c3,_,_⟩:=(HR.out.below hSw).facts;(first|(go_simp;done)|(go_simp;with_reducible rfl))
    intro jG gH;clear lI sD;try simp only[aQ]
    refine dF [] 10 (.slice (iO o c iQ) mm.length (c-iQ)) hG rfl (by kernel_rfl) gH (by kernel_rfl) ?_ ?_
    ·intro wz hSw;rw[CG.out];exact TI (.tmp 29) (.tmp 30) (.tmp 34) (by kernel_rfl) o l.length c iQ (iQ+n) (iQ:Int) ((iQ+n:Nat):Int) rfl rfl (by kernel_rfl) (by kernel_rfl) (by kernel_rfl) (by omega) (by have h1:=AG.out;have h2:=kC.out.le;have h3:=HAL.out;omega) kC.out.nil (fun _=>kC.out.spot)
    intro kL gQ;clear gH jG;try simp only[aQ]
    refine fN 11 (by kernel_rfl) rfl (fun K hK=>?_);go_simp;refine ⟨trivial,bG.2 ((Ro.out _ gQ).mono ?_)⟩;rintro e wm ⟨⟨v,rfl,hov⟩,GQ⟩;dsimp only;have IH:=dU _ _ gQ GQ;have hov1:=hov.mono (bH UH.out gQ.size);refine hK.out _ _ (fun _=>IH) (fun w3 hb3=>?_);have hS3:=dU _ _ IH hb3;have HO3:=aA (hov1.below hb3);clear hK K hov hov1 GQ IH hb3 gQ;try simp only[aQ]
    refine fN 12 (by kernel_rfl) rfl (fun K hK=>?_);go_simp;refine hK.out _ _ (fun _=>hS3) (fun w4 hb4=>?_);have hS4:=dU _ _ hS3 hb4;have HO:=aA (HO3.out.below hb4);clear hK K hb4 HO3 hS3;try simp only[aQ]
    refine eK (by kernel_rfl) (?_) _;refine hK3 _ _ ?_;have HRE:=aA (HR.out.below hS4);have vK:=aA (HG.out.trans (below_grown hS4 (some p)));clear hK3 hG HR HG hS4;go_wp2_with fail;go_ret;exact ⟨⟨_,rfl,HO.out⟩,by have h:=HRE.out;rw[show iQ+n=dR+(j+n) by have:=Cv.out;omega] at h;exact h,vK.out⟩
  ·have hu:=HU.out
   have htx:=UW.out;simp only[bF hn] at hu htx;exact bad htx (aA hu)
end Pk
namespace Pk
open Go Go.RowKit
end Pk
namespace Pk
open Go Go.RowKit Go.ChangeShapes Go.WideShapes
structure Qp where
 kind:Int
 u:Int
 i:Int
 n:Int
 most:Int
 is:Bool
 bo:Option Addr
 bl:List Nat
 bc:Nat
structure Ye (W:World)(b j:Nat)(x:Qp):Prop where
 c0:W.cell? ⟨b,j,none⟩=some (.int .i64 x.kind)
 c1:W.cell? ⟨b,j+1,none⟩=some (.int .u64 x.u)
 c2:W.cell? ⟨b,j+2,none⟩=some (.int .i64 x.i)
 c3:W.cell? ⟨b,j+3,none⟩=some (.int .i64 x.n)
 c4:W.cell? ⟨b,j+4,none⟩=some (.int .i64 x.most)
 c5:W.cell? ⟨b,j+5,none⟩=some (.bool x.is)
 c6:W.cell? ⟨b,j+6,none⟩=some (.slice x.bo x.bl.length x.bc)
 bs:Bs W x.bo x.bl
structure OpWf (x:Qp):Prop where
 kind:-9223372036854775808≤x.kind∧x.kind≤9223372036854775807
 u:0≤x.u∧x.u<18446744073709551616
 i:-9223372036854775808≤x.i∧x.i≤9223372036854775807
 n:-9223372036854775808≤x.n∧x.n≤9223372036854775807
 most:-9223372036854775808≤x.most∧x.most≤9223372036854775807
 by':By x.bl
 len:x.bl.length≤x.bc∧x.bc≤9223372036854775807
 none':x.bo=none→x.bc=0
 spot:0<x.bc→∀a,x.bo=some a→a.spot=none
def Qo (W:World)(o:Option Addr)(xs:List Qp):Prop:=∀k x,xs[k]?=some x→∃b off,o=some ⟨b,off,none⟩∧Ye W b (off+k*7) x∧OpWf x
theorem Ye.below {w W:World}{b j:Nat}{x:Qp}(hb:Below w.heap.size w W)(h:Ye w b j x):Ye W b j x :=
 ⟨dE hb h.c0,dE hb h.c1,dE hb h.c2,dE hb h.c3,dE hb h.c4,dE hb h.c5,dE hb h.c6,h.bs.below hb⟩
theorem Qo.below {w W:World}{o:Option Addr}{xs:List Qp}(hb:Below w.heap.size w W)(h:Qo w o xs):Qo W o xs:=fun k x hk=>by
 obtain ⟨b,off,e,ha,hw⟩:=h k x hk;exact ⟨b,off,e,ha.below hb,hw⟩
theorem laidOut:laidOutB prog=true:=by kernel_rfl
section
variable {H:Type} {enc:TypeId×Value→H} {w:World} {base:Nat} {held:Bool}
theorem Jk:∀ (zs:List Int),(∀n∈zs,(Lit.int .u8 n).wf=true)→∃l:List Nat,zs=l.map (fun x:Nat=>(x:Int))∧By l
 | [],_=>⟨[],rfl,by intro c hc;cases hc⟩
 | z::zs,h=>by
  have hz:=h z (by simp);have hz2:0≤z∧z<256:=by
   simp[Lit.wf,IntKind.min,IntKind.max,IntKind.signed,IntKind.bits] at hz;omega
  obtain ⟨l,rfl,hl⟩:=Jk zs fun n hn=>h n (by simp[hn])
  refine ⟨z.toNat::l,by simp;omega,fun c hc=>?_⟩
  rcases List.mem_cons.1 hc with rfl|hc
  ·omega
  ·exact hl c hc
theorem XU {fuel:Nat}{v:Value}{x:DataW H×List MemPlace}(h:DataW.trod enc prog w base (fun _=>true) held fuel 31 [v]=some x) :
  ∃ (o:Option Addr) (l:List Nat) (c:Nat),v=.slice o l.length c∧Bs w o l∧By l∧(l.length≤c∧c≤9223372036854775807)∧(o=none→c=0)∧(0<c→∀a,o=some a→a.spot=none):=by
 rcases open_ints bJ dB (by kernel_rfl) h with ⟨hcs,hx⟩|⟨a,len,cap,zs,hcs,_,hl,hm,hz,hx,hcell,hwz⟩
 ·simp at hcs
  subst hcs;exact ⟨none,[],0,rfl,fun j hj=>absurd hj (by simp),(by intro c hc;cases hc),by simp,fun _=>rfl,fun h=>absurd h (by omega)⟩
 ·simp at hcs
  subst hcs;simp only[if_true] at hz;obtain ⟨m,rfl,hby⟩:=Jk zs hwz;rw[aT] at hz;have hlen:(m.take len).length=len:=by simp;omega
  obtain ⟨ab,ao,spot⟩:=a;have hsp:0<cap→spot=none:=fun h=>by simpa[Addr.add] using World.cell?_spot (hcell 0 (by rw[aT];omega))
  refine ⟨some ⟨ab,ao,spot⟩,m.take len,cap,by rw[hlen],fun j hj=>?_,hby.take _,⟨by rw[hlen];exact hl,by unfold maxLen at hm;omega⟩,fun h=>(by cases h),fun h a e=>(by cases e;exact hsp h)⟩;rw[hlen] at hj;obtain rfl:=hsp (by omega);have hcj:=hcell j (by rw[aT];omega);rw[Addr.add_lit] at hcj;refine ⟨ab,ao,rfl,hcj.trans ?_⟩;have e1:(m.map (fun x:Nat=>(x:Int))).getD j 0=((m[j]'(by omega):Nat):Int):=by simp[List.getD,aF (show j<m.length by omega)]
  have e2:(m.take len).getD j 0=m[j]'(by omega):=by simp[List.getD,hj,aF (show j<m.length by omega)]
  rw[e1,e2]
theorem QW {r:Reach}{b0:Nat}{v:Value}{d:DataW H}{ps:List MemPlace}
  (hv:Value.okWide prog w r b0 31 v) (h:DataW.Trod enc prog w base (fun _=>true) held 31 v d ps) :
  ∃ (l:List Nat) (o:Option Addr) (c:Nat),v=.slice o l.length c∧By l∧(l.length≤c∧c≤9223372036854775807)∧(o=none→c=0)∧(0<c→∀a,o=some a→a.spot=none)∧Bs w o l:=by
 obtain ⟨a1,len,cap,rfl⟩:=okWide_slice bJ hv;obtain ⟨fuel,hf⟩:=h;obtain ⟨o,l,c,e,h1,h2,h3,h4,h5⟩:=XU (v:=.slice a1 len cap) hf;exact ⟨l,o,c,e,h2,h3,h4,h5,h1⟩
end
end Pk
namespace Pk
open Go Go.RowKit
def n16 (n:Int):Nat:=(n%65536).toNat
theorem zy (n:Int):n16 n≤65535:=by unfold n16;omega
def opB (x:Qp):List Nat :=
 if x.kind=0 then form x.u.toNat else if x.kind=1 then form (fold x.i) else if x.kind=2 then form (n16 x.n) else if x.kind=3 then [if x.is=true then 1 else 0] else if x.kind=4 then form x.bl.length++x.bl else []
structure OpS (x:Qp):Prop where
 wf:OpWf x
 len:x.bl.length≤300
theorem Uz {x:Qp}(h:OpS x):(opB x).length≤311:=by
 have hl:=h.len;unfold opB
 split
 ·have:=(gP x.u.toNat).2;omega
 ·split
  ·have:=(gP (fold x.i)).2;omega
  ·split
   ·have:=(gP (n16 x.n)).2;omega
   ·split
    ·simp
    ·split
     ·have:=(gP x.bl.length).2;simp;omega
     ·simp
theorem zf {x:Qp}(h:OpS x):By (opB x):=by
 have hw:=h.wf;have hl:=h.len;unfold opB
 split
 ·exact gY (by have:=hw.u;omega)
 ·split
  ·exact gY (sN hw.i.1 hw.i.2)
  ·split
   ·exact gY (by have:=zy x.n;omega)
   ·split
    ·intro c hc
     simp at hc;subst hc
     split <;> omega
    ·split
     ·exact (gY (by omega)).append hw.by'
     ·intro c hc;cases hc
theorem uE:∀ {xs:List Qp},(∀x∈xs,OpS x)→(xs.flatMap opB).length≤311*xs.length
 | [],_=>by simp
 | x::xs,h=>by
  have h1:=Uz (h x (by simp));have h2:=uE (xs:=xs) (fun y hy=>h y (by simp[hy]));simp only[List.flatMap_cons,aI,bO];omega
theorem BP:∀ {xs:List Qp},(∀x∈xs,OpS x)→By (xs.flatMap opB)
 | [],_=>by intro c hc;cases hc
 | x::xs,h=>by
  rw[List.flatMap_cons];exact (zf (h x (by simp))).append (BP (fun y hy=>h y (by simp[hy])))
theorem Turn.below {p:Nat}{v v':Value}{l:List Nat}{lost:Bool}{w W X:World}(t:Turn p v v' W X)(hb:Below w.heap.size w W)(hp:w.heap.size≤p)(hw:PW w.heap.size p v l lost W):Below w.heap.size w X :=
 ⟨t.os.trans hb.os,t.tape.trans hb.tape,t.output.trans hb.output,bH hb.size t.size,fun k hk=>(t.block k (aP hk hb.size) (by omega) (fun h=>by have:=hw.own.blk k h;omega)).trans (hb.block k hk)⟩
theorem PW.mono {B C p:Nat}{v:Value}{l:List Nat}{lost:Bool}{W:World}(hB:B≤C)(h:PW C p v l lost W):PW B p v l lost W:=⟨h.row,h.own.mono hB⟩
end Pk
end Go.Proofs.YtbbhmhihpdmoiaaGreat
