import Derived.Test.YtbbhmhihpdmoiaaGreatJf11
set_option linter.unusedVariables false
set_option linter.unusedSimpArgs false
set_option maxRecDepth 100000
set_option maxHeartbeats 32000000
namespace Go.Proofs.YtbbhmhihpdmoiaaGreat
open Go.Proofs.Tryz
namespace Pk
open Fx (Kept jW iN gF eG gJ)
open Go Go.RowKit Go.Shelf
attribute [local go_sem] Oper.semAt_some
structure WS (B b p:Nat)(v:Value)(m:List Nat)(X:World):Prop where
 box:X.heap[b]?=some (.cells #[.pointer (some ⟨p,0,none⟩)] 75 (0,0))
 row:X.heap[p]?=some (.cells #[.bool true,.bool false,v] 120 (0,0))
 own:Own X B v m
theorem WS.below {B b p:Nat}{v:Value}{m:List Nat}{X Y:World}(s:WS B b p v m X)(h:Below X.heap.size X Y):WS B b p v m Y:=⟨dL h s.box,dL h s.row,s.own.below h⟩
theorem WS.alloc {B b p:Nat}{v:Value}{m:List Nat}{X:World}(s:WS B b p v m X)(o:Obj):WS B b p v m (X.alloc o):=⟨dM s.box,dM s.row,s.own.alloc o⟩
theorem WS.facts {B b p:Nat}{v:Value}{m:List Nat}{X:World}(s:WS B b p v m X):X.cell? ⟨b,0,none⟩=some (.pointer (some ⟨p,0,none⟩))∧X.cell? ⟨p,2,none⟩=some v :=
 ⟨by rw[aD _ _ _ _ _ _ s.box];rfl,by rw[aD _ _ _ _ _ _ s.row];rfl⟩
structure WT (B b p:Nat)(v v':Value)(m:List Nat)(W X:World):Prop where
 box:X.heap[b]?=some (.cells #[.pointer (some ⟨p,0,none⟩)] 75 (0,0))
 row:X.heap[p]?=some (.cells #[.bool true,.bool false,v] 120 (0,0))
 own:Own X B v' m
 turn:Turn p v v' W X
 keeps:KeepsOthers W X
theorem WT.facts {B b p:Nat}{v v2:Value}{m:List Nat}{W X:World}(s:WT B b p v v2 m W X):X.cell? ⟨b,0,none⟩=some (.pointer (some ⟨p,0,none⟩))∧X.cell? ⟨p,2,none⟩=some v :=
 ⟨by rw[aD _ _ _ _ _ _ s.box];rfl,by rw[aD _ _ _ _ _ _ s.row];rfl⟩
theorem WT.free {B b p:Nat}{v v':Value}{m:List Nat}{W X:World}(s:WT B b p v v' m W X):X.frozen? ⟨p,2,none⟩=false:=dJ s.row
theorem jV {W X:World}(h:Below W.heap.size W X):KeepsOthers W X :=
 ⟨h.size,fun k o hk _=>by rw[h.block k (aC.1 hk).1];exact hk⟩
theorem RH {W X:World}{v:Value}{B:Nat}{m:List Nat}(ho:Own W B v m)(h:W.grownBy X v.ownBlock):KeepsOthers W X :=
 ⟨h.size,fun k o hk hc=>by
  rw[h.block k (aC.1 hk).1 (fun e=>?_)]
  ·exact hk
  ·obtain ⟨_,h2⟩:=ho
   rcases h2 with ⟨rfl,_⟩|⟨g,cap,cur,rfl,hb,hg,_⟩
   ·cases e
   ·cases e
    rw[hg] at hk
    cases hk
    cases hc⟩
theorem WS.step {B b p:Nat}{v v':Value}{m m':List Nat}{W X Y:World}(s:WS B b p v m X)(hb:Below W.heap.size W X)(ho:Own Y B v' m')(hg:X.grownBy Y v.ownBlock)(hn:∀k,v'.ownBlock=some k→v.ownBlock=some k∨X.heap.size≤k):WT B b p v v' m' W Y :=
 ⟨(hg.block b (aC.1 s.box).1 (fun e=>s.own.apart s.box (by decide) b e.symm rfl)).trans s.box,(hg.block p (aC.1 s.row).1 (fun e=>s.own.apart s.row (by decide) p e.symm rfl)).trans s.row,ho,
  (Turn.of_below hb).trans (Turn.iL hg hn),(jV hb).trans (RH s.own hg)⟩
theorem WT.below {B b p:Nat}{v v':Value}{m:List Nat}{W X Y:World}(s:WT B b p v v' m W X)(h:Below X.heap.size X Y):WT B b p v v' m W Y :=
 ⟨dL h s.box,dL h s.row,s.own.below h,s.turn.trans (Turn.of_below h),s.keeps.trans (jV h)⟩
structure WD (B b p:Nat)(v v':Value)(m:List Nat)(W X:World):Prop where
 ws:WS B b p v' m X
 turn:Turn p v v' W X
 keeps:KeepsOthers W X
theorem WT.put {B b p:Nat}{v v':Value}{m:List Nat}{W X Y:World}(s:WT B b p v v' m W X)(h:Below (X.setCell ⟨p,2,none⟩ v').heap.size (X.setCell ⟨p,2,none⟩ v') Y):WD B b p v v' m W Y:=by
 have hne:b≠p:=by
  rintro rfl;have h1:=s.box;rw[s.row] at h1
  cases h1
 have a1:=aM _ _ 2 _ _ v' s.row;have a0:(X.setCell ⟨p,2,none⟩ v').heap[b]?=some (.cells #[.pointer (some ⟨p,0,none⟩)] 75 (0,0)):=by rw[aK _ _ _ _ hne];exact s.box
 have ao:Own (X.setCell ⟨p,2,none⟩ v') B v' m:=s.own.grown (eC _ _ _ _) (fun k hk e=>s.own.apart s.row (by decide) k hk (bK e));exact ⟨(WS.below ⟨a0,a1,ao⟩ h),(s.turn.trans (Turn.set p 2 v' v' X)).trans (Turn.of_below h),(s.keeps.trans (KeepsOthers.setCell _ _ _)).trans (jV h)⟩
def UI (B p n:Nat)(v0:Value)(l:List Nat)(w:World)(k:Nat)(W:World):Prop :=
 ∃v,WS B w.heap.size p v (l++(form n).take k) W∧Turn p v0 v w W∧W.heap[w.heap.size+1]?=some (.cells #[.int .u64 (n:Int)] 89 (0,0))
theorem Turn.kept {p B:Nat}{v v':Value}{w W X:World}(s:Turn p v v' w W)(hB:w.heap.size≤B)(k:Kept B W X):Turn p v v' w X :=
 ⟨k.os.trans s.os,k.tape.trans s.tape,k.output.trans s.output,bH s.size k.size,fun i hi hp hv=>by
  have h:=s.block i hi hp hv;rw[←h];have nT:i<W.heap.size:=aP hi s.size;rw[Array.getElem?_eq_getElem nT];exact k.block i _ (Array.getElem?_eq_getElem nT) (.inl (by omega)),s.own⟩
theorem Own.kept {B C:Nat}{v:Value}{m:List Nat}{W X:World}(s:Own W C v m)(k:Kept B W X):Own X C v m:=by
 obtain ⟨h1,h2⟩:=s;refine ⟨h1,?_⟩
 rcases h2 with h2|⟨g,cap,cur,e,hb,hg,h3⟩
 ·exact .inl h2
 ·exact .inr ⟨g,cap,cur,e,hb,k.cells hg,h3⟩
theorem UI.kept {B p n k C:Nat}{v0:Value}{l:List Nat}{w W X:World}(hC:w.heap.size≤C)(s:UI B p n v0 l w k W)(hk:Kept C W X):UI B p n v0 l w k X:=by
 obtain ⟨v,ws,t,c⟩:=s;exact ⟨v,⟨hk.cells ws.box,hk.cells ws.row,ws.own.kept hk⟩,t.kept hC hk,hk.cells c⟩
theorem UI.reads {B p n k:Nat}{v0:Value}{l:List Nat}{w W:World}(s:UI B p n v0 l w k W):Hv n (w.heap.size+1) W:=by
 obtain ⟨v,ws,t,c⟩:=s;unfold Hv;rw[aD _ _ _ _ _ _ c];rfl
def UA (p n:Nat)(w:World)(k:Nat)(a:Act):Prop :=
 a={ tmps:=#[.pointer (some ⟨p,0,none⟩),.int .u64 (n:Int),.pointer (some ⟨w.heap.size,0,none⟩),undef,.int .u8 (((form n).getD k 0:Nat):Int),.pointer (some ⟨p,0,none⟩),.int .i64 0,.bool false,.int .u64 (n:Int),
  .func (.func 139) #[] #[.pointer (some ⟨w.heap.size+1,0,none⟩)],.int .u8 (((form n).getD k 0:Nat):Int),undef,undef,undef,undef,undef,undef,undef,undef,undef,undef,undef,undef],defers:=[] }
theorem CP {m:List Nat}{k:Nat}(h:k<m.length):m.take (k+1)=m.take k++[m.getD k 0]:=by
 rw[bX];simp[h,List.getD]
def rU (B p:Nat)(v:Value)(l:List Nat)(lost:Bool)(w:World)(e:Ending)(w':World):Prop:=e=.returned undef∧∃v',PW B p v' l lost w'∧Turn p v v' w w'
theorem Kp (B p n:Nat)(v0:Value)(l:List Nat)(w:World)(hB:B≤w.heap.size)(hn:n<18446744073709551616)(hlen:l.length≤100000000)(hw:PW B p v0 l false w) :
  Calls prog 93 #[.pointer (some ⟨p,0,none⟩),.int .u64 (n:Int)] w (rU B p v0 (l++form n) false w):=by
 have hp:p<w.heap.size:=(aC.1 hw.row).1;obtain ⟨W0,hW0⟩:∃W0,(w.alloc (.cells #[.pointer (some ⟨p,0,none⟩)] 75)).alloc (.cells #[.int .u64 (n:Int)] 89)=W0:=⟨_,rfl⟩;have d0:(w.alloc (.cells #[.pointer (some ⟨p,0,none⟩)] 75)).cell? ⟨p,0,none⟩=some (.bool true):=by rw[aD _ _ _ _ _ _ (dM hw.row)];rfl
 have d1:(w.alloc (.cells #[.pointer (some ⟨p,0,none⟩)] 75)).cell? ⟨p,1,none⟩=some (.bool false):=by rw[aD _ _ _ _ _ _ (dM hw.row)];rfl
 have HF:=aA (kD p true false _ d0 d1);have Fo:Below w.heap.size w W0:=by rw[←hW0];exact ((aJ _ w).alloc (aB _) _).alloc (by simp) _
 have hs0:W0.heap.size=w.heap.size+2:=by rw[←hW0];simp
 have U0:UI B p n v0 l w 0 W0:=⟨v0,⟨by rw[←hW0];exact dM (aG _ _),dL Fo hw.row,by rw[List.take_zero,List.append_nil];exact hw.own.below Fo⟩,Turn.of_below Fo,by
  rw[←hW0];have:=aG (w.alloc (.cells #[.pointer (some ⟨p,0,none⟩)] 75)) (.cells #[.int .u64 (n:Int)] 89);rw[aR] at this;exact this⟩
 have wO:=aA hs0;have HU0:=aA U0;have HLEN0:=aA hlen;clear hw d0 d1 Fo hs0 U0 hlen;refine (bG (n:=5)).1 ?_;refine callsIn_of_wp_marks func93 rfl trivial ?_ rfl;simp only[ntmps93,aL,bO,List.length_nil,Nat.reduceAdd,Nat.reduceSub,Array.replicate_succ,Array.replicate_zero,List.push_toArray,List.append_toArray,cB,cC];refine bN.2 ?_;go_wp2_with fail;refine HF.out.mono ?_;rintro e w1 ⟨rfl,rfl⟩;simp only[fl,if_true,bD,if_false];clear HF;go_wp2_with fail;refine (Oq _ _).mono ?_;rintro e w' ⟨rfl,rfl⟩;go_wp2_with fail
 (try rw[hW0])
 clear hW0;refine bN.1 (gJ (F:=Fence.wide) (n:=5) rfl (by omega) (gf:=139) (lb:=#[.pointer (some ⟨w.heap.size+1,0,none⟩)]) rfl trivial (enters_of func139 (by kernel_rfl) rfl)
  (EW n (w.heap.size+1) hn) (fun _=>rfl) .ret (UI B p n v0 l w) (fun _=>False) (fun j a' W=>UA p n w j a'∧UI B p n v0 l w j W)
  ?i1 ?i2 ?i3 ?i4 ?i5 HU0.out ?assign ?body ?done ?stop)
 case i1=>rintro j W X h hk;exact UI.kept (by have:=wO.out;omega) h hk
 case i2=>rintro W X h;exact h.elim
 case i3=>rintro j a W X ⟨h0,h4⟩ hk;exact ⟨h0,UI.kept (by have:=wO.out;omega) h4 hk⟩
 case i4=>rintro j W h4;exact UI.reads h4
 case i5=>rintro W h;exact h.elim
 case assign =>
  intro l1 j W C hk hI hC;obtain ⟨x,hx⟩:∃x,(form n).getD j 0=x:=⟨_,rfl⟩;simp only[xQ];rw[hx];have HX:=aA hx;clear hx;gi_wp2;exact hC _ _ (KeepsFrom.refl _ _) ⟨by unfold UA;rw[HX.out],hI⟩
 case body =>
  rintro l1 j a' W hk ⟨ha,v,ws,ht,hc⟩;unfold UA at ha;subst ha;have hx:(form n).getD j 0<256:=(gY hn).get j;have HTK:=aA (CP hk);have oh:Hid (((form n).take j).length≤11):=aA (by have:=(gP n).2;simp;omega);generalize (form n).getD j 0=x at *;obtain ⟨m,hm⟩:∃m,l++(form n).take j=m:=⟨_,rfl⟩;have HLEN:Hid (m.length≤100000011):=aA (by rw[←hm];have:=oh.out;have:=HLEN0.out;simp at *;omega);have HM:=aA hm;rw[hm] at ws;obtain ⟨o1,mV,rfl,_,_,_,_,_⟩:=ws.own.open;have HS:=aA ws;have HT:=aA ht;have HCB:=aA hc;have GY:Hid (B≤W.heap.size):=aA (by have:=ht.size;omega);clear ws ht hc hm oh;gi_wp2;refine iN (S:=fun X=>X.cell? ⟨w.heap.size,0,none⟩=some (.pointer (some ⟨p,0,none⟩))∧X.cell? ⟨p,2,none⟩=some (.slice o1 m.length mV)) (Z:=[12]) (by kernel_rfl) ?_;have SD:=aA (WS.below HS.out (eM _ W 1));refine eG (fun _=>trivial) [12] 0 (.pointer (some ⟨p,0,none⟩)) (by kernel_rfl) rfl (by kernel_rfl) (fun _ _ _ h=>h) SD.out.facts (by kernel_rfl) ?_ ?_
  ·intro wz hSw;obtain ⟨cb,cp⟩:=hSw;(first|(go_simp;done)|(go_simp;with_reducible rfl))
  try simp only[aQ]
  refine eG (fun _=>trivial) [12] 1 (.pointer (some ⟨p,0,none⟩)) (by kernel_rfl) rfl (by kernel_rfl) (fun _ _ _ h=>h) SD.out.facts (by kernel_rfl) ?_ ?_
  ·intro wz hSw;obtain ⟨cb,cp⟩:=hSw;(first|(go_simp;done)|(go_simp;with_reducible rfl))
  try simp only[aQ]
  refine eG (fun _=>trivial) [12] 2 (?_) (by kernel_rfl) rfl (by kernel_rfl) (fun _ _ _ h=>h) SD.out.facts (by kernel_rfl) ?_ ?_;rotate_left
  ·intro wz hSw;first|(go_simp;done)|(go_simp;with_reducible rfl)
  try simp only[aQ]
  refine eG (fun _=>trivial) [12] 3 (?_) (by kernel_rfl) rfl (by kernel_rfl) (fun _ _ _ h=>h) SD.out.facts (by kernel_rfl) ?_ ?_;rotate_left
  ·intro wz hSw;first|(go_simp;done)|(go_simp;with_reducible rfl)
  try simp only[aQ]
  refine eG (fun _=>trivial) [12] 4 (?_) (by kernel_rfl) rfl (by kernel_rfl) (fun _ _ _ h=>h) SD.out.facts (by kernel_rfl) ?_ ?_;rotate_left
  ·intro wz hSw;first|(go_simp;done)|(go_simp;with_reducible rfl)
  try simp only[aQ]
  refine eG (fun _=>trivial) [12] 5 (.slice o1 m.length mV) (by kernel_rfl) rfl (by kernel_rfl) (fun _ _ _ h=>h) SD.out.facts (by kernel_rfl) ?_ ?_
  ·intro wz hSw;obtain ⟨cb,cp⟩:=hSw;(first|(go_simp;done)|(go_simp;with_reducible rfl))
  try simp only[aQ]
  refine eG (fun _=>trivial) [12] 6 (?_) (by kernel_rfl) rfl (by kernel_rfl) (fun _ _ _ h=>h) SD.out.facts (by kernel_rfl) ?_ ?_;rotate_left
  ·intro wz hSw;first|(go_simp;done)|(go_simp;with_reducible rfl)
  try simp only[aQ]
  refine gF (fun _=>trivial) 7 (by kernel_rfl) rfl (fun K hK=>?_);go_simp;have SA:=aA (SD.out.alloc (.cells #[.int .u8 (x:Int)] 5));have NB:=aA (Ae (W.drewN 1) [x] #[.int .u8 (x:Int)] rfl (0,0));have jK:=aA ((eM W.heap.size W 1).alloc (aB _) (.cells #[.int .u8 (x:Int)] 5));refine hK.out _ _ (fun _=>SA.out.facts) ?_;clear hK K;try simp only[aQ]
  refine gF (fun _=>trivial) 8 (by kernel_rfl) rfl (fun K hK=>?_);rw[aZ (by kernel_rfl)];refine Di (fun _=>trivial) (.tmp 16) (.tmp 18) rfl B (.slice o1 m.length mV) m rfl SA.out.own (some ⟨W.heap.size,0,none⟩) [x] 1 rfl (fun h=>by cases h) NB.out (by have:=HLEN.out;simp;omega) (bH GY.out jK.out.size) ?_;intro v2 w2 sA hg2 nS;have S2:=aA (SA.out.step jK.out sA hg2 nS);clear sA hg2 nS SA SD NB jK;refine hK.out _ _ (fun _=>S2.out.facts) ?_;clear hK K;try simp only[aQ]
  obtain ⟨q,hq⟩:∃q,m++[x]=q:=⟨_,rfl⟩;rw[hq] at S2;have HQ:=aA hq;clear hq;obtain ⟨o2,cap2,rfl,_,_,_,_,_⟩:=S2.out.own.open;have f2:=S2.out.free;have c2:=S2.out.facts.2;refine eG (fun _=>trivial) [10,11,12] 9 (?_) (by kernel_rfl) rfl (by kernel_rfl) (fun _ _ _ h=>h) S2.out.facts (by kernel_rfl) ?_ ?_;rotate_left
  ·intro wz hSw;first|(go_simp;done)|(go_simp;with_reducible rfl)
  try simp only[aQ]
  refine eG (fun _=>trivial) [11,12] 10 (?_) (by kernel_rfl) rfl (by kernel_rfl) (fun _ _ _ h=>h) S2.out.facts (by kernel_rfl) ?_ ?_;rotate_left
  ·intro wz hSw;first|(go_simp;done)|(go_simp;with_reducible rfl)
  try simp only[aQ]
  refine eG (fun _=>trivial) [12] 11 (?_) (by kernel_rfl) rfl (by kernel_rfl) (fun _ _ _ h=>h) S2.out.facts (by kernel_rfl) ?_ ?_;rotate_left
  ·intro wz hSw;first|(go_simp;done)|(go_simp;with_reducible rfl)
  try simp only[aQ]
  refine gF (fun _=>trivial) 12 (by kernel_rfl) rfl (fun K hK=>?_);go_simp;refine hK.out _ _ (fun h=>by cases h) ?_;clear hK K;try simp only[aQ]
  refine jW (by kernel_rfl) ?_ _;have S4:=aA (S2.out.put (aJ _ _));clear f2 c2 S2;refine ⟨S4.out.keeps.from _,_,?_,HT.out.trans S4.out.turn,?_⟩
  ·have e:q=l++(form n).take (j+1):=by rw[←HQ.out,←HM.out,bM,←HTK.out]
   rw[←e];exact S4.out.ws
  ·rw[S4.out.turn.block _ (by have:=(aC.1 HCB.out).1;omega) (by omega) (fun e=>HS.out.own.apart HCB.out (by decide) _ e rfl)]
   exact HCB.out
 case done =>
  rintro D W hD ⟨v,ws,ht,hc⟩ iF;rw[List.take_length] at ws;have HE:Hid (rU B p v0 (l++form n) false w (.returned undef) (W.putObj D (.deferred none))):=aA (by
   have hk:Kept w.heap.size W (W.putObj D (.deferred none)):=Kept.putObj _ (by have:=wO.out;omega) iF rfl;exact ⟨rfl,v,⟨hk.cells ws.row,ws.own.kept hk⟩,ht.kept (aB _) hk⟩)
  clear ws ht hc;go_wp2_with fail;refine ⟨by simp,.inl ⟨_,_,rfl,run_takeDeferred iF,?_⟩⟩;exact ⟨_,results_none rfl _ _ _,HE.out⟩
 case stop =>
  rintro D W hD h iF;exact h.elim
end Pk
namespace Pk
open Go Go.RowKit
theorem PW.cells {B p:Nat}{v:Value}{l:List Nat}{lost:Bool}{W:World}(h:PW B p v l lost W):W.cell? ⟨p,0,none⟩=some (.bool true)∧W.cell? ⟨p,1,none⟩=some (.bool lost)∧W.cell? ⟨p,2,none⟩=some v∧W.frozen? ⟨p,1,none⟩=false∧W.frozen? ⟨p,2,none⟩=false :=
 ⟨by rw[aD _ _ _ _ _ _ h.row];rfl,by rw[aD _ _ _ _ _ _ h.row];rfl,by rw[aD _ _ _ _ _ _ h.row];rfl,dJ h.row,dJ h.row⟩
theorem PW.below {B p:Nat}{v:Value}{l:List Nat}{lost:Bool}{W X:World}(h:PW B p v l lost W)(hb:Below W.heap.size W X):PW B p v l lost X:=⟨dL hb h.row,h.own.below hb⟩
theorem PW.PX {B p:Nat}{v:Value}{l:List Nat}{lost:Bool}{W:World}(h:PW B p v l lost W):PW B p v l true (W.setCell ⟨p,1,none⟩ (.bool true)) :=
 ⟨aM _ _ 1 _ _ (.bool true) h.row,h.own.grown (eC _ _ _ _) (fun k hk e=>h.own.apart h.row (by decide) k hk (bK e))⟩
theorem PW.lt {B p:Nat}{v:Value}{l:List Nat}{lost:Bool}{W:World}(h:PW B p v l lost W):p<W.heap.size:=(aC.1 h.row).1
theorem Eh (B p n:Nat)(v:Value)(l:List Nat)(w:World)(hw:PW B p v l true w) :
  Calls prog 93 #[.pointer (some ⟨p,0,none⟩),.int .u64 (n:Int)] w (rU B p v l true w):=by
 have hb:Below w.heap.size w (w.alloc (.cells #[.pointer (some ⟨p,0,none⟩)] 75)):=(aJ _ w).alloc (aB _) _;obtain ⟨d0,d1,_⟩:=(hw.below hb).cells;have HF:=aA (kD p true true _ d0 d1);have HE:Hid (rU B p v l true w (.returned undef) (w.alloc (.cells #[.pointer (some ⟨p,0,none⟩)] 75))):=aA ⟨rfl,v,hw.below hb,Turn.of_below hb⟩;clear hw hb d0 d1;refine (bG (n:=5)).1 ?_;refine callsIn_of_wp_marks func93 rfl trivial ?_ rfl;simp only[ntmps93,aL,bO,List.length_nil,Nat.reduceAdd,Nat.reduceSub,Array.replicate_succ,Array.replicate_zero,List.push_toArray,List.append_toArray,cB,cC];refine bN.2 ?_;go_wp2_with fail;refine HF.out.mono ?_;rintro e w1 ⟨rfl,rfl⟩;simp only[fl,if_true];clear HF;go_wp2_with fail;exact ⟨_,results_none rfl _ _ _,HE.out⟩
theorem rD (B p n:Nat)(v:Value)(l:List Nat)(lost:Bool)(w:World)(hB:B≤w.heap.size)(hn:n<18446744073709551616)(hlen:l.length≤100000000)(hw:PW B p v l lost w) :
  Calls prog 93 #[.pointer (some ⟨p,0,none⟩),.int .u64 (n:Int)] w (rU B p v (lS l (form n) lost true) (qE lost true) w):=by
 cases lost with
 | true=>exact Eh B p n v l w hw
 | false=>exact Kp B p n v l w hB hn hlen hw
theorem LM (z:Int)(w:World)(h0:-9223372036854775808≤z)(h1:z≤9223372036854775807) :
  Calls prog 132 #[.int .i64 z] w fun e w'=>e=.returned (.int .u64 ((fold z:Nat):Int))∧w=w':=by
 by_cases h:0≤z
 ·have e:((fold z:Nat):Int)=2*z:=by unfold fold;rw[aZ h];omega
  rw[e];have h2:¬ z<0:=by omega
  go_enter func132,ntmps132;go_wp2_with fail;go_ret;refine ⟨congrArg _ ?_,rfl⟩;show Value.int .u64 _=_
  congr 1
  (try simp only[aV])
  (try omega)
 ·have e:((fold z:Nat):Int)=2*(-(z+1))+1:=by unfold fold;rw[bF h];omega
  rw[e];have h2:z<0:=by omega
  go_enter func132,ntmps132;go_wp2_with fail;go_ret;refine ⟨congrArg _ ?_,rfl⟩;show Value.int .u64 _=_
  congr 1
  (try simp only[aV])
  (try omega)
theorem Kt (B p:Nat)(z:Int)(v:Value)(l:List Nat)(lost:Bool)(w:World)(hB:B≤w.heap.size)(h0:-9223372036854775808≤z)(h1:z≤9223372036854775807)(hlen:l.length≤100000000)(hw:PW B p v l lost w) :
  Calls prog 103 #[.pointer (some ⟨p,0,none⟩),.int .i64 z] w (rU B p v (lS l (form (fold z)) lost true) (qE lost true) w):=by
 have HF:=aA (fun w=>LM z w h0 h1);have HP:=aA (rD B p (fold z) v l lost w hB (sN h0 h1) hlen hw);clear hw h0 h1 hlen;generalize fold z=n at *;go_enter func103,ntmps103;go_wp2_with fail;refine (HF.out _).mono ?_;rintro e w0 ⟨rfl,rfl⟩;go_wp2_with fail;refine HP.out.mono ?_;rintro e w2 ⟨rfl,hz⟩;have HE:=aA hz;clear hz HP;go_wp2_with fail;exact aO (results_none rfl _ _ _) rfl ⟨rfl,HE.out⟩
theorem DK (B p:Nat)(n most:Int)(v:Value)(l:List Nat)(lost:Bool)(w:World)(hB:B≤w.heap.size)(h0:-9223372036854775808≤n)(h1:n≤9223372036854775807)(hlen:l.length≤100000000)(hw:PW B p v l lost w) :
  Calls prog 52 #[.pointer (some ⟨p,0,none⟩),.int .i64 n,.int .i64 most] w (rU B p v (lS l (form n.toNat) lost (qF n most)) (qE lost (qF n most)) w):=by
 obtain ⟨c0,c1,_,f1,_⟩:=hw.cells;have HF:=aA (kD p true lost w c0 c1);obtain ⟨N,hN⟩:∃N:Nat,IntKind.u64.wrap n=(N:Int):=⟨(n%18446744073709551616).toNat,by rw[aV];omega⟩;have zW:N<18446744073709551616:=by rw[aV] at hN;omega
 have Sj:0≤n→N=n.toNat:=fun h=>by rw[aV] at hN;omega
 cases lost with
 | true =>
  have HP:=aA (rD B p N v l true w hB zW hlen hw);have e1:lS l (form n.toNat) true (qF n most)=l:=by unfold lS;simp
  have e2:qE true (qF n most)=true:=rfl;have e3:lS l (form N) true true=l:=by unfold lS;simp
  have e4:qE true true=true:=rfl;rw[e1,e2];rw[e3,e4] at HP;clear hw zW Sj e1 e2 e3 e4;go_enter func52,ntmps52;go_wp2_with fail;refine HF.out.mono ?_;rintro e w0 ⟨rfl,rfl⟩;simp only[fl,if_true];go_wp2_with fail;refine HP.out.mono ?_;rintro e w2 ⟨rfl,hz⟩;have HE:=aA hz;clear hz HP;go_wp2_with fail;exact aO (results_none rfl _ _ _) rfl ⟨rfl,HE.out⟩
 | false =>
  by_cases g:0≤n∧n≤most
  ·have hm:qF n most=true:=bA g
   have HP:=aA (rD B p N v l false w hB zW hlen hw);rw[hm,←Sj g.1];obtain ⟨g0,g1⟩:=g;have d0:¬ n<0:=by omega
   have d1:¬ most<n:=by omega
   clear hw zW Sj hm;go_enter func52,ntmps52;go_wp2_with fail;refine HF.out.mono ?_;rintro e w0 ⟨rfl,rfl⟩;simp only[fl,if_true,bD,if_false];go_wp2_with fail;refine HP.out.mono ?_;rintro e w2 ⟨rfl,hz⟩;have HE:=aA hz;clear hz HP;go_wp2_with fail;exact aO (results_none rfl _ _ _) rfl ⟨rfl,HE.out⟩
  ·have hm:qF n most=false:=aN g
   have hs:=hw.PX;have HP:=aA (rD B p N v l true _ (by simpa using hB) zW hlen hs);have e3:lS l (form N) true true=l:=by unfold lS;simp
   have e4:qE true true=true:=rfl;have e5:lS l (form n.toNat) false false=l:=by unfold lS;simp
   have e6:qE false false=true:=rfl;rw[hm,e5,e6];rw[e3,e4] at HP;have HT:=aA (Turn.set p 1 v (.bool true) w);clear hw zW Sj hm hs e3 e4 e5 e6;by_cases g0:n<0
   ·clear g
    go_enter func52,ntmps52;go_wp2_with fail;refine HF.out.mono ?_;rintro e w0 ⟨rfl,rfl⟩;simp only[fl,if_true,bD,if_false];go_wp2_with fail;refine HP.out.mono ?_;rintro e w2 ⟨rfl,v2,h2,t2⟩;have HE:Hid (∃v',PW B p v' l true w2∧Turn p v v' w w2):=aA ⟨v2,h2,HT.out.trans t2⟩;clear h2 t2 HP HT;go_wp2_with fail;exact aO (results_none rfl _ _ _) rfl ⟨rfl,HE.out⟩
   ·have d1:most<n:=by omega
    clear g;go_enter func52,ntmps52;go_wp2_with fail;refine HF.out.mono ?_;rintro e w0 ⟨rfl,rfl⟩;simp only[fl,if_true,bD,if_false];go_wp2_with fail;refine HP.out.mono ?_;rintro e w2 ⟨rfl,v2,h2,t2⟩;have HE:Hid (∃v',PW B p v' l true w2∧Turn p v v' w w2):=aA ⟨v2,h2,HT.out.trans t2⟩;clear h2 t2 HP HT;go_wp2_with fail;exact aO (results_none rfl _ _ _) rfl ⟨rfl,HE.out⟩
theorem KC (w:World):Own (w.alloc (.cells #[] 5)) w.heap.size (.slice (some ⟨w.heap.size,0,none⟩) 0 0) [] :=
 ⟨rfl,.inr ⟨w.heap.size,0,#[],rfl,aB _,aG _ _,aB _,by unfold maxLen;omega,rfl,rfl⟩⟩
theorem rO (o:Option Addr)(c:Nat)(m:List Nat)(w:World)(hc:o=none→c=0)(hlen:m.length≤1000000000)(hb:Bs w o m) :
  Calls prog 96 #[.slice o m.length c] w fun e w'=>(∃v,e=.returned v∧Own w' w.heap.size v m)∧Below w.heap.size w w':=by
 cases o with
 | none =>
  obtain rfl:=wA hb;obtain rfl:=hc rfl;clear hb hc;have ee:∀w,(binOp .eql 31 (.slice none 0 0) (.slice none 0 0)).run prog w=.ok (.bool true) w:=fun w=>pS w 31 5 none 0 0 bJ
  simp only[List.length_nil];go_enter func96,ntmps96;go_wp2_with fail;go_ret;exact ⟨⟨_,rfl,bV _ _ _ _⟩,aJ _ _⟩
 | some a =>
  have HB:=aA hb;have HL:=aA hlen;clear hb hc hlen;have ee:∀w,(binOp .eql 31 (.slice (some a) m.length c) (.slice none 0 0)).run prog w=.ok (.bool false) w:=fun w=>pS w 31 5 (some a) m.length c bJ
  go_enter func96,ntmps96;have HO:=aA (KC w);have mI:=aA (HB.out.below ((aJ _ w).alloc (aB _) (.cells #[] 5)));have HN:=aA ((aJ w.heap.size w).alloc (aB _) (.cells #[] 5));go_wp2_with (at_builtin;refine XZ rfl (.tmp 5) (.tmp 6) rfl w.heap.size _ [] rfl HO.out (some a) m c rfl (fun h=>by cases h) mI.out (by have:=HL.out;simp;omega) (by simp) ?_;intro v1 w1 Ap hg1 _)
  have HE:Hid (Own w1 w.heap.size v1 m∧Below w.heap.size w w1):=aA ⟨Ap,HN.out.grown hg1 (by simp) (fun k hk=>by cases hk;exact aB _)⟩;clear Ap hg1 HO HB mI HN HL;go_ret;exact ⟨⟨v1,rfl,HE.out.1⟩,HE.out.2⟩
def Ib (p:Nat)(l:List Nat)(lost:Bool)(w:World)(e:Ending)(w':World):Prop :=
 (∃v,e=.returned (.tuple #[v,.int .i64 (fl true lost)])∧Own w' w.heap.size v (if lost then [] else l))∧Below w.heap.size w w'
theorem WK (B p:Nat)(v:Value)(l:List Nat)(lost:Bool)(w:World)(hlen:l.length≤100000000)(hw:PW B p v l lost w) :
  Calls prog 64 #[.pointer (some ⟨p,0,none⟩)] w (Ib p l lost w):=by
 obtain ⟨c0,c1,c2,_,_⟩:=hw.cells;have HF:=aA (kD p true lost w c0 c1)
 cases lost with
 | true =>
  clear hw;go_enter func64,ntmps64;go_wp2_with fail;refine HF.out.mono ?_;rintro e w0 ⟨rfl,rfl⟩;simp only[fl,if_true];go_wp2_with fail;exact aO (results_tmp2 rfl _ _ _) rfl ⟨⟨_,rfl,bV _ _ _ _⟩,aJ _ _⟩
 | false =>
  obtain ⟨o,cap,rfl,mJ,_,_,wH,_⟩:=hw.own.open;have HC:=aA (rO o cap l w wH (by omega) mJ);clear hw mJ wH;go_enter func64,ntmps64;go_wp2_with fail;refine HF.out.mono ?_;rintro e w0 ⟨rfl,rfl⟩;simp only[fl,if_true,bD,if_false];go_wp2_with fail;refine HC.out.mono ?_;rintro e w1 ⟨⟨v1,rfl,ho⟩,hb⟩;have HE:Hid (Own w1 w.heap.size v1 l∧Below w.heap.size w w1):=aA ⟨ho,hb⟩;clear ho hb HC;go_wp2_with fail;exact aO (results_tmp2 rfl _ _ _) rfl ⟨⟨v1,rfl,HE.out.1⟩,HE.out.2⟩
theorem Bs.turn {W X:World}{o:Option Addr}{m:List Nat}{p:Nat}{v v':Value}(hb:Bs W o m)(t:Turn p v v' W X)(h:∀b off,o=some ⟨b,off,none⟩→0<m.length→b≠p∧v.ownBlock≠some b):Bs X o m:=fun i hi=>by
 obtain ⟨b,off,e,hc⟩:=hb i hi;refine ⟨b,off,e,?_⟩;obtain ⟨h1,h2⟩:=h b off e (by omega);rw[cZ (t.block b (block_lt_of_cell hc) h1 h2)];exact hc
theorem Lq (m:List Nat)(most:Int):((m.length:Int)).toNat=m.length:=by omega
theorem Ei (B p:Nat)(o:Option Addr)(c:Nat)(m:List Nat)(most:Int)(v:Value)(l:List Nat)(lost:Bool)(w:World)(hB:B≤w.heap.size)(hlen:l.length≤90000000)(hm:m.length≤1000000)(hc:o=none→c=0)(hb:Bs w o m)
  (hap:∀b off,o=some ⟨b,off,none⟩→0<m.length→b≠p∧v.ownBlock≠some b∧b<w.heap.size) (hw:PW B p v l lost w) :
  Calls prog 53 #[.pointer (some ⟨p,0,none⟩),.slice o m.length c,.int .i64 most] w (rU B p v (lS l (form m.length++m) lost (qF (m.length:Int) most)) (qE lost (qF (m.length:Int) most)) w):=by
 have hs:=DK B p (m.length:Int) most v l lost w hB (by omega) (by omega) (by omega) hw;rw[Lq m most] at hs;have HS:=aA hs;obtain ⟨may,Wb⟩:∃b,qF (m.length:Int) most=b:=⟨_,rfl⟩;rw[Wb] at HS ⊢;have Hq:=aA (gP m.length).2;clear hs hw Wb;have zK:=aA hb;have HAP:=aA hap;have HC:=aA hc;have HM:=aA hm;have HLEN:=aA hlen;clear hb hap hc hm hlen;by_cases g:lost=true∨may=false
 ·have hx:qE lost may=true:=by unfold qE;rcases g with rfl|rfl <;> simp
  have hx2:∀q,lS l q lost may=l:=fun q=>by unfold lS;rcases g with rfl|rfl <;> simp
  rw[hx,hx2] at HS ⊢;clear hx hx2 g;go_enter func53,ntmps53;go_wp2_with fail;refine HS.out.mono ?_;rintro e w1 ⟨rfl,v1,h1,t1⟩;obtain ⟨c0,c1,c2,_,f2⟩:=h1.cells;have HF:=aA (kD p true _ w1 c0 c1);have T1:=aA t1;have HE:=aA h1;clear h1 t1 HS;go_wp2_with fail;refine HF.out.mono ?_;rintro e w0 ⟨rfl,rfl⟩;simp only[fl,if_true];go_wp2_with fail
  go_end0
  exact ⟨rfl,v1,HE.out,T1.out⟩
 ·obtain rfl:lost=false:=by cases lost <;> simp_all
  obtain rfl:may=true:=by cases may <;> simp_all
  have hx:qE false true=false:=rfl;have hx2:∀q,lS l q false true=l++q:=fun q=>rfl
  rw[hx,hx2] at HS ⊢;clear hx hx2 g;have Hn:Hid ((l++form m.length).length≤90000011):=aA (by have:=HLEN.out;have:=Hq.out;simp;omega);obtain ⟨q,hq⟩:∃q,l++form m.length=q:=⟨_,rfl⟩;have HQ:Hid (l++(form m.length++m)=q++m):=aA (by rw[←hq,bM]);rw[HQ.out];rw[hq] at HS Hn;clear hq HQ;obtain ⟨r,hr⟩:∃r,q++m=r:=⟨_,rfl⟩;have HR:=aA hr;rw[hr];clear hr;go_enter func53,ntmps53;go_wp2_with fail;refine HS.out.mono ?_;rintro e w1 ⟨rfl,v1,h1,t1⟩;obtain ⟨c0,c1,c2,_,f2⟩:=h1.cells;have HF:=aA (kD p true _ w1 c0 c1);have T1:=aA t1;have jK:=aA (zK.out.turn t1 (fun b off e h=>⟨(HAP.out b off e h).1,(HAP.out b off e h).2.1⟩));have GY:Hid (B≤w1.heap.size):=aA (bH hB t1.size);have HE:=aA h1;clear h1 t1 HS;obtain ⟨o1,mV,rfl,_,_,_,_,_⟩:=HE.out.own.open;go_wp2_with fail;refine HF.out.mono ?_;rintro e w0 ⟨rfl,rfl⟩;simp only[fl,if_true,bD,if_false];go_wp2_with (at_builtin;refine XZ rfl (.tmp 19) (.tmp 20) rfl B (.slice o1 q.length mV) q rfl HE.out.own o m c rfl HC.out jK.out (by have:=Hn.out;have:=HM.out;omega) GY.out ?_;intro v2 w2 sA hg2 nS;rw[HR.out] at sA;obtain ⟨o2,cap2,rfl,_,_,_,_,_⟩:=sA.open;have R2:w2.heap[p]?=some (.cells #[.bool true,.bool false,.slice o1 q.length mV] 120 (0,0)):=(hg2.block p HE.out.lt (fun e=>HE.out.own.apart HE.out.row (by decide) p e.symm rfl)).trans HE.out.row;have d2:w2.cell? ⟨p,2,none⟩=some (.slice o1 q.length mV):=(aD _ _ _ _ _ _ R2).trans rfl;have e2:w2.frozen? ⟨p,2,none⟩=false:=dJ R2;have T2:=aA (Turn.iL (p:=p) hg2 nS);have Io:=aA sA;have iP:=aA R2;clear sA hg2 nS R2)
  have R3:=aM _ _ 2 _ _ (.slice o2 r.length cap2) iP.out;have O3:Own (w2.setCell ⟨p,2,none⟩ (.slice o2 r.length cap2)) B (.slice o2 r.length cap2) r:=Io.out.grown (eC _ _ _ _) (fun k hk e=>Io.out.apart iP.out (by decide) k hk (bK e))
  go_end0
  exact ⟨rfl,_,⟨R3,O3⟩,(T1.out.trans T2.out).trans (Turn.set p 2 _ _ w2)⟩
theorem Cz (B p:Nat)(m:List Nat)(most:Int)(l:List Nat)(lost may:Bool)(o:Option Addr)(c:Nat)(w:World)(hB:B≤w.heap.size)(Wb:decide ((m.length:Int)≤most)=may)(hc:o=none→c=0)(hb:Bs w o m)(hm:m.length≤100000000)(hlen:l.length≤100000000)(hw:ZW B p l lost w) :
  Calls prog 54 #[.pointer (some ⟨p,0,none⟩),.slice o m.length c,.int .i64 most] w (uN B p (lS l (form m.length++m) lost may) (qE lost may) w):=by
 have HW:=aA hw;have HC:=aA hc;have GY:=aA hb;have HLM:=aA hm;obtain ⟨n,hn⟩:∃n,m.length=n:=⟨_,rfl⟩;have HN:=aA hn;have HL:=aA (gP n).2;rw[hn] at Wb hm;have n0:(0:Int)≤(n:Int):=by omega
 have n1:(n:Int)≤100000000:=by omega
 have HFN:=aA (fun w=>mQ n (by omega) w);rw[hn];clear hw hc hb hn hm;go_enter func54,ntmps54;go_wp2_with fail
 ((with_reducible refine (HFN.out _).mono ?_))
 rintro e w1 ⟨⟨v,rfl,ho⟩,hb1⟩;have Ta:=aA ho;have jK:=aA hb1;clear ho hb1;go_wp2_with (at_builtin;refine FV rfl (.tmp 10) (.tmp 11) rfl w.heap.size v (form n) rfl Ta.out o m c (by rw[HN.out];rfl) HC.out (GY.out.below jK.out) (by have:=HL.out;have:=HLM.out;omega) jK.out.size ?_;intro v2 w2 sA hg2;obtain ⟨q,hq⟩:∃q,form n++m=q:=⟨_,rfl⟩;rw[hq] at sA;have HQ:=aA hq;obtain ⟨o2,cap2,rfl,IM,_,_,nS,_⟩:=sA.open;have Rp:=aA IM;have wT:=aA nS;have OM:=aA hg2;clear sA hg2 hq IM nS)
 have HG:Hid (w.grownBy w2 none):=aA ⟨OM.out.os.trans jK.out.os,OM.out.tape.trans jK.out.tape,OM.out.output.trans jK.out.output,bH jK.out.size OM.out.size,fun k hk _=>(OM.out.block k (aP hk jK.out.size) (fun e=>by have:=Ta.out.blk k e.symm;omega)).trans (jK.out.block k hk)⟩;have BO:Below w.heap.size w w2:=⟨HG.out.os,HG.out.tape,HG.out.output,HG.out.size,fun k hk=>HG.out.block k hk (by simp)⟩;have HP:=aA (wU B p l q lost may o2 cap2 w2 (by have:=BO.size;omega) wT.out Rp.out (by have h1:=HL.out;have h2:=HLM.out;have h3:=HN.out;have h4:=HQ.out;rw[←h4,aI];omega) (HW.out.below BO));have HGG:=aA (below_grown BO (some p));clear BO HG;refine HP.out.mono ?_;rintro e w3 ⟨rfl,hz,hg⟩;rw[←HQ.out] at hz;rw[←HN.out] at hz;have HE:Hid (uN B p (lS l (form m.length++m) lost may) (qE lost may) w (.returned undef) w3):=aA ⟨rfl,hz,HGG.out.trans hg⟩;rw[HN.out] at HE;clear hz hg HP;go_wp2_with fail;exact aO (results_none rfl _ _ _) rfl HE.out
end Pk
namespace Pk
open Fx (dU eK dF eA)
open Go Go.RowKit
def DF (most:Nat):Nat→Nat→List Nat→Option (Nat×Nat)
 | _,_,[]=>none
 | k,n,c::s=>if k=9∧1<c then none else if 128≤c then DF most (k+1) (n+c%128*128^k) s else if (0<k∧c=0)∨most<n+c%128*128^k then none else some (n+c%128*128^k,k+1)
def rd (most:Nat)(s:List Nat):Option (Nat×Nat):=DF most 0 0 s
def pR (r:Option (Nat×Nat)):Nat:=match r with|some (n,_)=>n|none=>0
def YU (r:Option (Nat×Nat))(dR:Nat):Nat:=match r with|some (_,j)=>dR+j|none=>dR
def YT (r:Option (Nat×Nat)):Bool:=r.isNone
structure ZR (o:Option Addr)(c:Nat)(l:List Nat)(p dR:Nat)(lost:Bool)(W:World):Prop where
 row:W.heap[p]?=some (.cells #[.slice o l.length c,.int .i64 (dR:Int),.bool lost] 106 (0,0))
 bs:Bs W o l
theorem ZR.below {o:Option Addr}{c:Nat}{l:List Nat}{p dR:Nat}{lost:Bool}{W X:World}(h:ZR o c l p dR lost W)(hb:Below W.heap.size W X):ZR o c l p dR lost X:=⟨dL hb h.row,h.bs.below hb⟩
theorem ZR.facts {o:Option Addr}{c:Nat}{l:List Nat}{p dR:Nat}{lost:Bool}{W:World}(h:ZR o c l p dR lost W) :
  W.cell? ⟨p,0,none⟩=some (.slice o l.length c)∧W.cell? ⟨p,1,none⟩=some (.int .i64 (dR:Int))∧W.cell? ⟨p,2,none⟩=some (.bool lost)∧W.frozen? ⟨p,1,none⟩=false∧W.frozen? ⟨p,2,none⟩=false :=
 ⟨by rw[aD _ _ _ _ _ _ h.row];rfl,by rw[aD _ _ _ _ _ _ h.row];rfl,by rw[aD _ _ _ _ _ _ h.row];rfl,dJ h.row,dJ h.row⟩
theorem ZR.lt {o:Option Addr}{c:Nat}{l:List Nat}{p dR:Nat}{lost:Bool}{W:World}(h:ZR o c l p dR lost W):p<W.heap.size:=(aC.1 h.row).1
theorem ZR.apart {o:Option Addr}{c:Nat}{l:List Nat}{p dR:Nat}{lost:Bool}{W:World}(h:ZR o c l p dR lost W):∀b off,o=some ⟨b,off,none⟩→0<l.length→b≠p:=by
 rintro b off e hm rfl;obtain ⟨b',off',e',hc⟩:=h.bs 0 hm;rw[e] at e'
 cases e'
 rw[aD _ _ _ _ _ _ h.row] at hc;obtain h0|h0|h0|h0:off+0=0∨off+0=1∨off+0=2∨3≤off+0:=by omega
 ·rw[h0] at hc
  simp at hc
 ·rw[h0] at hc
  simp at hc
 ·rw[h0] at hc
  simp at hc
 ·rw[Array.getElem?_eq_none (by simpa using h0)] at hc
  cases hc
theorem ZR.ZH {o:Option Addr}{c:Nat}{l:List Nat}{p dR:Nat}{lost:Bool}{W:World}(h:ZR o c l p dR lost W)(a:Nat)(z:Int)(hz:z=(a:Int)):ZR o c l p a lost (W.setCell ⟨p,1,none⟩ (.int .i64 z)):=by
 subst hz;exact ⟨aM _ _ 1 _ _ (.int .i64 (a:Int)) h.row,h.bs.set _ h.apart⟩
theorem ZR.Ko {o:Option Addr}{c:Nat}{l:List Nat}{p dR:Nat}{lost:Bool}{W:World}(h:ZR o c l p dR lost W)(a:Nat):ZR o c l p a lost (W.setCell ⟨p,1,none⟩ (.int .i64 (a:Int))) :=
 ⟨aM _ _ 1 _ _ (.int .i64 (a:Int)) h.row,h.bs.set _ h.apart⟩
theorem ZR.rC {o:Option Addr}{c:Nat}{l:List Nat}{p dR:Nat}{lost:Bool}{W:World}(h:ZR o c l p dR lost W)(b:Bool):ZR o c l p dR b (W.setCell ⟨p,2,none⟩ (.bool b)) :=
 ⟨aM _ _ 2 _ _ (.bool b) h.row,h.bs.set _ h.apart⟩
def Qk (o:Option Addr)(c:Nat)(l:List Nat)(p dR:Nat)(r:Option (Nat×Nat))(w:World)(e:Ending)(w':World):Prop :=
 e=.returned (.int .u64 ((pR r:Nat):Int))∧ZR o c l p (YU r dR) (YT r) w'∧w.grownBy w' (some p)
theorem Gc {P:Program}{o:Oper}{a:Act}{w:World}(t:TypeId)(x y:Operand)(ho:o.op=.indexAddr t x y)(b off n c k:Nat)(z:Int)(hz:z=(k:Int))(e:TypeId)(hx:a.eval x=.slice (some ⟨b,off,none⟩) n c)(hy:a.eval y=.int .i64 z)(hk:k<n)(hu:P.underlying t=some (.slice e))(hc:∀w,(Go.sizeOf e).run P w=.ok 1 w) :
  (execOp a.eval o).run P w=.ok (.value (.pointer (some ⟨b,off+k,none⟩))) w:=by
 subst hz;unfold execOp;simp only[ho,hx,hy];have h2:(k:Int)<(n:Int):=by omega
 have h3:(0:Int)≤(k:Int):=by omega
 go_simp;try rw[hc]
theorem Dn (o:Option Addr)(c:Nat)(l:List Nat)(p dR most:Nat)(w:World)(h:ZR o c l p dR true w) :
  Calls prog 86 #[.pointer (some ⟨p,0,none⟩),.int .u64 (most:Int)] w fun e w'=>e=.returned (.int .u64 0)∧w=w':=by
 obtain ⟨c0,c1,c2,_,_⟩:=h.facts;go_enter func86,ntmps86;go_wp2_with fail;go_ret;exact ⟨rfl,rfl⟩
theorem p9:(128:Nat)^9=9223372036854775808:=by decide
theorem MF {k:Nat}(h:k≤9):(128:Nat)^k≤9223372036854775808:=by rw[←p9];exact Nat.pow_le_pow_right (by omega) h
theorem Uc (o:Option Addr)(c:Nat)(l:List Nat)(p dR most:Nat)(r:Option (Nat×Nat))(w:World)(hr:Hid (rd most (l.drop dR)=r))(hby:Hid (By l))(hm:Hid (most<18446744073709551616))(hlen:Hid (l.length≤1000000000))(hat:Hid (dR≤l.length))(h:ZR o c l p dR false w) :
  Calls prog 86 #[.pointer (some ⟨p,0,none⟩),.int .u64 (most:Int)] w (Qk o c l p dR r w):=by
 obtain ⟨c0,c1,c2,_,_⟩:=h.facts;have GR:=aA h;clear h;go_enter func86,ntmps86;go_wp2_with fail;clear c0 c1 c2;go_loopg[5,6,7] 9 (fun g s5 s6 s7 wr=>∃ (k n:Nat) (s:List Nat),g=9-k∧s7=.int .i64 (k:Int)∧s5=.int .u64 (n:Int)∧s6=.int .u64 ((128^k:Nat):Int)∧k≤9∧n<128^k∧l.drop (dR+k)=s∧DF most k n s=r∧ZR o c l p dR false wr∧w.grownBy wr (some p))
 case atStart=>exact ⟨0,0,_,rfl,rfl,rfl,rfl,by omega,by simp,rfl,hr.out,GR.out,cG _ _⟩
 case round =>
  clear GR;obtain ⟨k,n,s,hg,rfl,rfl,rfl,hk,hn,hs,Sb,hz,hgw⟩:=hrel;subst hg;have HZ:=aA hz;have vG:=aA hgw;have HS:=aA hs;have HRD:=aA Sb;have AG:=aA hn;clear hz hgw hs Sb hn;have k10:(k:Int)<10:=by omega
  have k0:(0:Int)≤(k:Int):=by omega
  have hlen2:=hlen.out;by_cases sB:dR+k<l.length
  ·have hin2:((dR+k:Nat):Int)<(l.length:Int):=by omega
   have ha1:(dR:Int)+(k:Int)<1000000000:=by omega
   have ha0:(0:Int)≤(dR:Int):=by omega
   have Zb:Hid (IntKind.i64.wrap ((dR:Int)+(k:Int))=(dR:Int)+(k:Int)):=aA (by rw[bL];omega);obtain ⟨b,off,eo,_⟩:=HZ.out.bs _ sB;obtain ⟨x,hx⟩:∃x,l.getD (dR+k) 0=x:=⟨_,rfl⟩;have RX:=hby.out.get (dR+k);rw[hx] at RX;have Ao:s=x::l.drop (dR+(k+1)):=by
    have e:l[dR+k]=x:=by rw[←hx];simp[List.getD,sB]
    rw[←HS.out,List.drop_eq_getElem_cons sB,e];rfl
   have hcx:Hid (∀W,ZR o c l p dR false W→W.cell? ⟨b,off+(dR+k),none⟩=some (.int .u8 (x:Int))):=aA (fun W hW=>by obtain ⟨b',off',e,h⟩:=hW.bs _ sB;rw[eo] at e;cases e;rw[←hx];exact h);have oN:=HRD.out;rw[Ao,DF] at oN;have oN:=aA oN;obtain ⟨wo,Me⟩:∃wo:Nat,128^k=wo:=⟨_,rfl⟩;have hwl:wo≤9223372036854775808:=by rw[←Me];exact MF hk
   rw[Me] at oN AG;have oF:=AG.out;have HWO:=aA Me;obtain ⟨P,hP⟩:∃P:Nat,x%128*wo=P:=⟨_,rfl⟩;obtain ⟨n2,nS⟩:∃n2:Nat,n+P=n2:=⟨_,rfl⟩;rw[hP,nS] at oN;obtain ⟨wo2,hwo2⟩:∃z:Int,IntKind.u64.wrap ((wo:Int)*128)=z:=⟨_,rfl⟩;have eo':=eo;subst eo;clear hx Ao HS HRD;have x0:(0:Int)≤(x:Int):=by omega
   have x1:(x:Int)<256:=by omega
   rw[Me];clear Me hlen2 RX eo';go_wp2_with fail;rename_i K6 hK6;refine (bN (n:=5)).1 (eA (S:=fun X=>Below wr.heap.size wr X) (Z:=[]) (by kernel_rfl) (by kernel_rfl) dU (fun d _ _ _ _ h=>by cases d <;> exact h) (eM _ _ 1) (fun hG rA hw0=>?_));refine dF [] 0 (?_) hG rfl (by kernel_rfl) hw0 (by kernel_rfl) ?_ ?_;rotate_left
   ·intro wz hSw;first|(go_simp;done)|(go_simp;with_reducible rfl)
   intro qZ kS;clear hw0 rA;try simp only[aQ]
   refine dF [] 1 (?_) hG rfl (by kernel_rfl) kS (by kernel_rfl) ?_ ?_;rotate_left
   ·intro wz hSw;first|(go_simp;done)|(go_simp;with_reducible rfl)
   intro qY hw2;clear kS qZ;try simp only[aQ]
   refine dF [] 2 (?_) hG rfl (by kernel_rfl) hw2 (by kernel_rfl) ?_ ?_;rotate_left
   ·intro wz hSw;first|(go_simp;done)|(go_simp;with_reducible rfl)
   intro qX hw3;clear hw2 qY;try simp only[aQ]
   refine dF [] 3 (?_) hG rfl (by kernel_rfl) hw3 (by kernel_rfl) ?_ ?_;rotate_left
   ·intro wz hSw;first|(go_simp;done)|(go_simp;with_reducible rfl)
   intro qW hw4;clear hw3 qX;try simp only[aQ]
   refine dF [] 4 (?_) hG rfl (by kernel_rfl) hw4 (by kernel_rfl) ?_ ?_;rotate_left
   ·intro wz hSw;first|(go_simp;done)|(go_simp;with_reducible rfl)
   intro qV lB;clear hw4 qW;try simp only[aQ]
   refine dF [] 5 (?_) hG rfl (by kernel_rfl) lB (by kernel_rfl) ?_ ?_;rotate_left
   ·intro wz hSw;first|(go_simp;done)|(go_simp;with_reducible rfl)
   intro qU kA;clear lB qV;try simp only[aQ]
   refine dF [] 6 (.int .i64 (dR:Int)) hG rfl (by kernel_rfl) kA (by kernel_rfl) ?_ ?_
   ·intro wz hSw;obtain ⟨c0,c1,c2,_,_⟩:=(HZ.out.below hSw).facts;(first|(go_simp;done)|(go_simp;with_reducible rfl))
   intro qC kP;clear kA qU;try simp only[aQ]
   refine dF [] 7 (?_) hG rfl (by kernel_rfl) kP (by kernel_rfl) ?_ ?_;rotate_left
   ·intro wz hSw;first|(go_simp;done)|(go_simp;with_reducible rfl)
   intro sF kH;clear kP qC;try simp only[aQ]
   refine dF [] 8 (.int .i64 ((dR:Int)+(k:Int))) hG rfl (by kernel_rfl) kH (by kernel_rfl) ?_ ?_
   ·intro wz hSw;have ee:=Zb.out;(first|(go_simp;done)|(go_simp;rw[ee])|(go_simp;with_reducible rfl))
   intro sD lI;clear kH sF;try simp only[aQ]
   refine dF [] 9 (?_) hG rfl (by kernel_rfl) lI (by kernel_rfl) ?_ ?_;rotate_left
   ·intro wz hSw;first|(go_simp;done)|(go_simp;with_reducible rfl)
   intro jG gH;clear lI sD;try simp only[aQ]
   refine dF [] 10 (?_) hG rfl (by kernel_rfl) gH (by kernel_rfl) ?_ ?_;rotate_left
   ·intro wz hSw;first|(go_simp;done)|(go_simp;with_reducible rfl)
   intro kL gQ;clear gH jG;try simp only[aQ]
   refine dF [] 11 (?_) hG rfl (by kernel_rfl) gQ (by kernel_rfl) ?_ ?_;rotate_left
   ·intro wz hSw;first|(go_simp;done)|(go_simp;with_reducible rfl)
   intro lH iG;clear gQ kL;try simp only[aQ]
   refine dF [] 12 (.slice (some ⟨b,off,none⟩) l.length c) hG rfl (by kernel_rfl) iG (by kernel_rfl) ?_ ?_
   ·intro wz hSw;obtain ⟨c0,c1,c2,_,_⟩:=(HZ.out.below hSw).facts;(first|(go_simp;done)|(go_simp;with_reducible rfl))
   intro mS iW;clear iG lH;try simp only[aQ]
   refine dF [] 13 (?_) hG rfl (by kernel_rfl) iW (by kernel_rfl) ?_ ?_;rotate_left
   ·intro wz hSw;first|(go_simp;done)|(go_simp;with_reducible rfl)
   intro nH iZ;clear iW mS;try simp only[aQ]
   refine dF [] 14 (.bool true) hG rfl (by kernel_rfl) iZ (by kernel_rfl) ?_ ?_
   ·intro wz hSw;(first|(go_simp;done)|(go_simp;exact hin2)|(go_simp;omega))
   intro oB jM;clear iZ nH;try simp only[aQ]
   refine dF [] 15 (?_) hG rfl (by kernel_rfl) jM (by kernel_rfl) ?_ ?_;rotate_left
   ·intro wz hSw;first|(go_simp;done)|(go_simp;with_reducible rfl)
   intro sG jB;clear jM oB;try simp only[aQ]
   refine eK (by kernel_rfl) (?_) _;refine hK6 _ _ ?_;have wS:=aA (HZ.out.below jB);have GF:=aA (vG.out.trans (below_grown jB (some p)));clear hK6 hG HZ vG jB;have HZ:=wS;have vG:=GF;clear wS GF;go_wp2_with fail;rename_i K8 hK8;refine (bN (n:=5)).1 (eA (S:=fun X=>Below sG.heap.size sG X) (Z:=[]) (by kernel_rfl) (by kernel_rfl) dU (fun d _ _ _ _ h=>by cases d <;> exact h) (eM _ _ 1) (fun hG rA hw0=>?_));refine dF [] 0 (?_) hG rfl (by kernel_rfl) hw0 (by kernel_rfl) ?_ ?_;rotate_left
   ·intro wz hSw;first|(go_simp;done)|(go_simp;with_reducible rfl)
   intro qZ kS;clear hw0 rA;try simp only[aQ]
   refine dF [] 1 (?_) hG rfl (by kernel_rfl) kS (by kernel_rfl) ?_ ?_;rotate_left
   ·intro wz hSw;first|(go_simp;done)|(go_simp;with_reducible rfl)
   intro qY hw2;clear kS qZ;try simp only[aQ]
   refine dF [] 2 (?_) hG rfl (by kernel_rfl) hw2 (by kernel_rfl) ?_ ?_;rotate_left
   ·intro wz hSw;first|(go_simp;done)|(go_simp;with_reducible rfl)
   intro qX hw3;clear hw2 qY;try simp only[aQ]
   refine dF [] 3 (.slice (some ⟨b,off,none⟩) l.length c) hG rfl (by kernel_rfl) hw3 (by kernel_rfl) ?_ ?_
   ·intro wz hSw;obtain ⟨c0,c1,c2,_,_⟩:=(HZ.out.below hSw).facts;(first|(go_simp;done)|(go_simp;with_reducible rfl))
   intro qW hw4;clear hw3 qX;try simp only[aQ]
   refine dF [] 4 (?_) hG rfl (by kernel_rfl) hw4 (by kernel_rfl) ?_ ?_;rotate_left
   ·intro wz hSw;first|(go_simp;done)|(go_simp;with_reducible rfl)
   intro qV lB;clear hw4 qW;try simp only[aQ]
   refine dF [] 5 (?_) hG rfl (by kernel_rfl) lB (by kernel_rfl) ?_ ?_;rotate_left
   ·intro wz hSw;first|(go_simp;done)|(go_simp;with_reducible rfl)
   intro qU kA;clear lB qV;try simp only[aQ]
   refine dF [] 6 (?_) hG rfl (by kernel_rfl) kA (by kernel_rfl) ?_ ?_;rotate_left
   ·intro wz hSw;first|(go_simp;done)|(go_simp;with_reducible rfl)
   intro qC kP;clear kA qU;try simp only[aQ]
   refine dF [] 7 (.int .i64 (dR:Int)) hG rfl (by kernel_rfl) kP (by kernel_rfl) ?_ ?_
   ·intro wz hSw;obtain ⟨c0,c1,c2,_,_⟩:=(HZ.out.below hSw).facts;(first|(go_simp;done)|(go_simp;with_reducible rfl))
   intro sF kH;clear kP qC;try simp only[aQ]
   refine dF [] 8 (?_) hG rfl (by kernel_rfl) kH (by kernel_rfl) ?_ ?_;rotate_left
   ·intro wz hSw;first|(go_simp;done)|(go_simp;with_reducible rfl)
   intro sD lI;clear kH sF;try simp only[aQ]
   refine dF [] 9 (.int .i64 ((dR:Int)+(k:Int))) hG rfl (by kernel_rfl) lI (by kernel_rfl) ?_ ?_
   ·intro wz hSw;have ee:=Zb.out;(first|(go_simp;done)|(go_simp;rw[ee])|(go_simp;with_reducible rfl))
   intro jG gH;clear lI sD;try simp only[aQ]
   refine dF [] 10 (.pointer (some ⟨b,off+(dR+k),none⟩)) hG rfl (by kernel_rfl) gH (by kernel_rfl) ?_ ?_
   ·intro wz hSw;exact Gc 31 (.tmp 34) (.tmp 40) (by kernel_rfl) b off l.length c (dR+k) ((dR:Int)+(k:Int)) (by omega) 5 (by kernel_rfl) (by kernel_rfl) sB bJ (fun _=>by kernel_rfl)
   intro kL gQ;clear gH jG;try simp only[aQ]
   refine dF [] 11 (.int .u8 (x:Int)) hG rfl (by kernel_rfl) gQ (by kernel_rfl) ?_ ?_
   ·intro wz hSw;have hcc:=hcx.out wz (HZ.out.below hSw);(first|(go_simp;done)|(go_simp;with_reducible rfl))
   intro lH iG;clear gQ kL;try simp only[aQ]
   refine dF [] 12 (.int .u64 (x:Int)) hG rfl (by kernel_rfl) iG (by kernel_rfl) ?_ ?_
   ·intro wz hSw;have hw:IntKind.u64.wrap (x:Int)=(x:Int):=(by rw[aV];omega);(first|(go_simp;done)|(go_simp;rw[hw]))
   intro mS iW;clear iG lH;try simp only[aQ]
   refine dF [] 13 (?_) hG rfl (by kernel_rfl) iW (by kernel_rfl) ?_ ?_;rotate_left
   ·intro wz hSw;first|(go_simp;done)|(go_simp;with_reducible rfl)
   intro nH iZ;clear iW mS;try simp only[aQ]
   refine eK (by kernel_rfl) (?_) _;refine hK8 _ _ ?_;have wS:=aA (HZ.out.below iZ);have GF:=aA (vG.out.trans (below_grown iZ (some p)));clear hK8 hG HZ vG hcx iZ;have HZ:=wS;have vG:=GF;clear wS GF;by_cases TA:k=9∧1<x
   ·obtain ⟨rfl,hx1⟩:=TA
    have HR:Hid (r=none):=aA (by have:=oN.out;rw[aZ ⟨rfl,hx1⟩] at this;exact this.symm);have d1:(1:Int)<(x:Int):=by omega
    clear oN;obtain ⟨c0,c1,c2,f1,f2⟩:=HZ.out.facts;have HE:=aA (HZ.out.rC true);have vK:=aA (vG.out.trans (eC _ p 2 (.bool true)));clear HZ vG;go_wp2_with fail;go_ret;exact ⟨by rw[HR.out];rfl,by rw[HR.out];exact HE.out,vK.out⟩
   ·have hPl:P≤9223372036854775808∧n+P<18446744073709551616:=by
     rcases Nat.lt_or_ge k 9 with h9|h9
     ·have h1:x%128*wo≤127*wo:=Nat.mul_le_mul_right _ (by omega)
      have h2:wo*128≤9223372036854775808:=by
       have:=MF (show k+1≤9 by omega);rw[bY,HWO.out] at this;exact this
      omega
     ·have hk9:k=9:=by omega
      have hx1:x≤1:=by
       rcases Nat.lt_or_ge 1 x with h|h
       ·exact absurd ⟨hk9,h⟩ TA
       ·exact h
      have h1:x%128*wo≤1*wo:=Nat.mul_le_mul_right _ (by omega);omega
    have e1:IntKind.u64.wrap ((x:Int)%128*(wo:Int))=(P:Int):=by
     have : ((x:Int)%128*(wo:Int))=(P:Int):=by rw[←hP];push_cast;rfl
     rw[this,aV];omega
    have e2:IntKind.u64.wrap ((n:Int)+(P:Int))=(n2:Int):=by rw[aV];omega
    have d9:(k:Int)=9→¬ (1:Int)<(x:Int):=fun h1 h2=>TA ⟨by omega,by omega⟩
    have HHP:=aA hP;have wT:=aA nS;have HHB:=aA TA;clear hPl hP nS d9 hwl oF
    rcases (show (k=9∧x≤1)∨k≠9 by omega) with ⟨rfl,hx1⟩|hk9
    ·skip
     have t9:¬ (1:Int)<(x:Int):=by omega
     have oH:¬ 128≤x:=by omega
     have t128:¬ (128:Int)≤(x:Int):=by omega
     have AE:=oN.out;rw[bF HHB.out,bF oH] at AE;have AE:=aA AE;clear oN;by_cases hz0:0<9∧x=0
     ·obtain ⟨hk0,rfl⟩:=hz0
      have HR:Hid (r=none):=aA (by have:=AE.out;rw[aZ (Or.inl ⟨hk0,rfl⟩)] at this;exact this.symm);clear AE;obtain ⟨c0,c1,c2,f1,f2⟩:=HZ.out.facts;have HE:=aA (HZ.out.rC true);have vK:=aA (vG.out.trans (eC _ p 2 (.bool true)));clear HZ vG;go_wp2_with fail;go_ret;exact ⟨by rw[HR.out];rfl,by rw[HR.out];exact HE.out,vK.out⟩
     ·by_cases GQ:most<n2
      ·have HR:Hid (r=none):=aA (by have:=AE.out;rw[aZ (Or.inr GQ)] at this;exact this.symm)
       have tm:(most:Int)<(n2:Int):=by omega
       have tmd:decide ((most:Int)<(n2:Int))=true:=bA tm;have tme:decide (most<n2)=true:=bA GQ;clear AE;have tz:((x:Int) == 0)=false:=by simp;omega
       have tzb:¬ (x:Int)=0:=by omega
       obtain ⟨c0,c1,c2,f1,f2⟩:=HZ.out.facts;have HE:=aA (HZ.out.rC true);have vK:=aA (vG.out.trans (eC _ p 2 (.bool true)));clear HZ vG;go_wp2_with fail;go_ret;exact ⟨by rw[HR.out];rfl,by rw[HR.out];exact HE.out,vK.out⟩
      ·have HR:Hid (r=some (n2,9+1)):=aA (by have:=AE.out;rw[bF (by omega)] at this;exact this.symm)
       have tm:¬ (most:Int)<(n2:Int):=by omega
       have tmd:decide ((most:Int)<(n2:Int))=false:=aN tm;have tme:decide (most<n2)=false:=aN GQ;clear AE;have tz:((x:Int) == 0)=false:=by simp;omega
       have tzb:¬ (x:Int)=0:=by omega
       obtain ⟨c0,c1,c2,f1,f2⟩:=HZ.out.facts;have HE:=aA (HZ.out.ZH (dR+(9+1)) ((dR:Int)+9+1) (by omega));have vK:=aA (vG.out.trans (eC _ p 1 (.int .i64 ((dR:Int)+9+1))));clear HZ vG;go_wp2_with fail;go_ret;exact ⟨by rw[HR.out];rfl,by rw[HR.out];exact HE.out,vK.out⟩
    ·skip
     have t9:((k:Int) == 9)=false:=by simp;omega
     have t9b:¬ (k:Int)=9:=by omega
     by_cases oH:128≤x
     ·have t128:(128:Int)≤(x:Int):=by omega
      have Ys:Hid (DF most (k+1) n2 (l.drop (dR+(k+1)))=r):=aA (by have:=oN.out;rw[bF HHB.out,aZ oH] at this;exact this);have HN3:Hid (n2<128^(k+1)):=aA (by have h1:=wT.out;have h2:=HHP.out;have h3:=AG.out;rw[bY,HWO.out];have h4:x%128*wo≤127*wo:=Nat.mul_le_mul_right _ (by omega);omega);have Ik:Hid (wo2=((128^(k+1):Nat):Int)):=aA (by have h1:=MF (show k+1≤9 by omega);rw[←hwo2,bY,HWO.out,aV];rw[bY,HWO.out] at h1;push_cast;omega);clear oN;go_wp2_with fail;go_roundg (9-(k+1))
      case measure=>omega
      case rel=>exact ⟨k+1,n2,_,rfl,by go_num,rfl,by rw[Ik.out],by omega,HN3.out,rfl,Ys.out,HZ.out,vG.out⟩
     ·have t128:¬ (128:Int)≤(x:Int):=by omega
      have AE:=oN.out;rw[bF HHB.out,bF oH] at AE;have AE:=aA AE;clear oN;by_cases hz0:0<k∧x=0
      ·obtain ⟨hk0,rfl⟩:=hz0
       have HR:Hid (r=none):=aA (by have:=AE.out;rw[aZ (Or.inl ⟨hk0,rfl⟩)] at this;exact this.symm);have tk:(0:Int)<(k:Int):=by omega
       clear AE;obtain ⟨c0,c1,c2,f1,f2⟩:=HZ.out.facts;have HE:=aA (HZ.out.rC true);have vK:=aA (vG.out.trans (eC _ p 2 (.bool true)));clear HZ vG;go_wp2_with fail;go_ret;exact ⟨by rw[HR.out];rfl,by rw[HR.out];exact HE.out,vK.out⟩
      ·by_cases GQ:most<n2
       ·have HR:Hid (r=none):=aA (by have:=AE.out;rw[aZ (Or.inr GQ)] at this;exact this.symm)
        have tm:(most:Int)<(n2:Int):=by omega
        have tmd:decide ((most:Int)<(n2:Int))=true:=bA tm;have tme:decide (most<n2)=true:=bA GQ;clear AE;by_cases hk0:0<k
        ·have tk:(0:Int)<(k:Int):=by omega
         have tz:((x:Int) == 0)=false:=by simp;omega
         have tzb:¬ (x:Int)=0:=by omega
         obtain ⟨c0,c1,c2,f1,f2⟩:=HZ.out.facts;have HE:=aA (HZ.out.rC true);have vK:=aA (vG.out.trans (eC _ p 2 (.bool true)));clear HZ vG;go_wp2_with fail;go_ret;exact ⟨by rw[HR.out];rfl,by rw[HR.out];exact HE.out,vK.out⟩
        ·have tk:¬ (0:Int)<(k:Int):=by omega
         obtain ⟨c0,c1,c2,f1,f2⟩:=HZ.out.facts;have HE:=aA (HZ.out.rC true);have vK:=aA (vG.out.trans (eC _ p 2 (.bool true)));clear HZ vG;go_wp2_with fail;go_ret;exact ⟨by rw[HR.out];rfl,by rw[HR.out];exact HE.out,vK.out⟩
       ·have HR:Hid (r=some (n2,k+1)):=aA (by have:=AE.out;rw[bF (by omega)] at this;exact this.symm)
        have tm:¬ (most:Int)<(n2:Int):=by omega
        have tmd:decide ((most:Int)<(n2:Int))=false:=aN tm;have tme:decide (most<n2)=false:=aN GQ;clear AE;by_cases hk0:0<k
        ·have tk:(0:Int)<(k:Int):=by omega
         have tz:((x:Int) == 0)=false:=by simp;omega
         have tzb:¬ (x:Int)=0:=by omega
         obtain ⟨c0,c1,c2,f1,f2⟩:=HZ.out.facts;have HE:=aA (HZ.out.ZH (dR+(k+1)) ((dR:Int)+(k:Int)+1) (by omega));have vK:=aA (vG.out.trans (eC _ p 1 (.int .i64 ((dR:Int)+(k:Int)+1))));clear HZ vG;go_wp2_with fail;go_ret;exact ⟨by rw[HR.out];rfl,by rw[HR.out];exact HE.out,vK.out⟩
        ·have tk:¬ (0:Int)<(k:Int):=by omega
         obtain ⟨c0,c1,c2,f1,f2⟩:=HZ.out.facts;have HE:=aA (HZ.out.ZH (dR+(k+1)) ((dR:Int)+(k:Int)+1) (by omega));have vK:=aA (vG.out.trans (eC _ p 1 (.int .i64 ((dR:Int)+(k:Int)+1))));clear HZ vG;go_wp2_with fail;go_ret;exact ⟨by rw[HR.out];rfl,by rw[HR.out];exact HE.out,vK.out⟩
  ·have hin2:¬ (dR:Int)+(k:Int)<(l.length:Int):=by omega
   have hdz:dR≤1000000000:=by have:=hat.out;omega
   have ha1:(dR:Int)+(k:Int)≤2000000000:=by omega
   have ha0:(0:Int)≤(dR:Int):=by omega
   have Zb:Hid (IntKind.i64.wrap ((dR:Int)+(k:Int))=(dR:Int)+(k:Int)):=aA (by rw[bL];omega);have HR:Hid (r=none):=aA (by
    have h1:=HS.out;rw[List.drop_eq_nil_of_le (by omega)] at h1;have h2:=HRD.out;rw[←h1] at h2;exact h2.symm)
   clear HS HRD AG;go_wp2_with fail;rename_i K6 hK6;refine (bN (n:=5)).1 (eA (S:=fun X=>Below wr.heap.size wr X) (Z:=[]) (by kernel_rfl) (by kernel_rfl) dU (fun d _ _ _ _ h=>by cases d <;> exact h) (eM _ _ 1) (fun hG rA hw0=>?_));refine dF [] 0 (?_) hG rfl (by kernel_rfl) hw0 (by kernel_rfl) ?_ ?_;rotate_left
   ·intro wz hSw;first|(go_simp;done)|(go_simp;with_reducible rfl)
   intro qZ kS;clear hw0 rA;try simp only[aQ]
   refine dF [] 1 (?_) hG rfl (by kernel_rfl) kS (by kernel_rfl) ?_ ?_;rotate_left
   ·intro wz hSw;first|(go_simp;done)|(go_simp;with_reducible rfl)
   intro qY hw2;clear kS qZ;try simp only[aQ]
   refine dF [] 2 (?_) hG rfl (by kernel_rfl) hw2 (by kernel_rfl) ?_ ?_;rotate_left
   ·intro wz hSw;first|(go_simp;done)|(go_simp;with_reducible rfl)
   intro qX hw3;clear hw2 qY;try simp only[aQ]
   refine dF [] 3 (?_) hG rfl (by kernel_rfl) hw3 (by kernel_rfl) ?_ ?_;rotate_left
   ·intro wz hSw;first|(go_simp;done)|(go_simp;with_reducible rfl)
   intro qW hw4;clear hw3 qX;try simp only[aQ]
   refine dF [] 4 (?_) hG rfl (by kernel_rfl) hw4 (by kernel_rfl) ?_ ?_;rotate_left
   ·intro wz hSw;first|(go_simp;done)|(go_simp;with_reducible rfl)
   intro qV lB;clear hw4 qW;try simp only[aQ]
   refine dF [] 5 (?_) hG rfl (by kernel_rfl) lB (by kernel_rfl) ?_ ?_;rotate_left
   ·intro wz hSw;first|(go_simp;done)|(go_simp;with_reducible rfl)
   intro qU kA;clear lB qV;try simp only[aQ]
   refine dF [] 6 (.int .i64 (dR:Int)) hG rfl (by kernel_rfl) kA (by kernel_rfl) ?_ ?_
   ·intro wz hSw;obtain ⟨c0,c1,c2,_,_⟩:=(HZ.out.below hSw).facts;(first|(go_simp;done)|(go_simp;with_reducible rfl))
   intro qC kP;clear kA qU;try simp only[aQ]
   refine dF [] 7 (?_) hG rfl (by kernel_rfl) kP (by kernel_rfl) ?_ ?_;rotate_left
   ·intro wz hSw;first|(go_simp;done)|(go_simp;with_reducible rfl)
   intro sF kH;clear kP qC;try simp only[aQ]
   refine dF [] 8 (.int .i64 ((dR:Int)+(k:Int))) hG rfl (by kernel_rfl) kH (by kernel_rfl) ?_ ?_
   ·intro wz hSw;have ee:=Zb.out;(first|(go_simp;done)|(go_simp;rw[ee])|(go_simp;with_reducible rfl))
   intro sD lI;clear kH sF;try simp only[aQ]
   refine dF [] 9 (?_) hG rfl (by kernel_rfl) lI (by kernel_rfl) ?_ ?_;rotate_left
   ·intro wz hSw;first|(go_simp;done)|(go_simp;with_reducible rfl)
   intro jG gH;clear lI sD;try simp only[aQ]
   refine dF [] 10 (?_) hG rfl (by kernel_rfl) gH (by kernel_rfl) ?_ ?_;rotate_left
   ·intro wz hSw;first|(go_simp;done)|(go_simp;with_reducible rfl)
   intro kL gQ;clear gH jG;try simp only[aQ]
   refine dF [] 11 (?_) hG rfl (by kernel_rfl) gQ (by kernel_rfl) ?_ ?_;rotate_left
   ·intro wz hSw;first|(go_simp;done)|(go_simp;with_reducible rfl)
   intro lH iG;clear gQ kL;try simp only[aQ]
   refine dF [] 12 (.slice o l.length c) hG rfl (by kernel_rfl) iG (by kernel_rfl) ?_ ?_
   ·intro wz hSw;obtain ⟨c0,c1,c2,_,_⟩:=(HZ.out.below hSw).facts;(first|(go_simp;done)|(go_simp;with_reducible rfl))
   intro mS iW;clear iG lH;try simp only[aQ]
   refine dF [] 13 (?_) hG rfl (by kernel_rfl) iW (by kernel_rfl) ?_ ?_;rotate_left
   ·intro wz hSw;first|(go_simp;done)|(go_simp;with_reducible rfl)
   intro nH iZ;clear iW mS;try simp only[aQ]
   refine dF [] 14 (.bool false) hG rfl (by kernel_rfl) iZ (by kernel_rfl) ?_ ?_
   ·intro wz hSw;(first|(go_simp;done)|(go_simp;exact hin2)|(go_simp;omega))
   intro oB jM;clear iZ nH;try simp only[aQ]
   refine dF [] 15 (?_) hG rfl (by kernel_rfl) jM (by kernel_rfl) ?_ ?_;rotate_left
   ·intro wz hSw;first|(go_simp;done)|(go_simp;with_reducible rfl)
   intro sG jB;clear jM oB;try simp only[aQ]
   refine eK (by kernel_rfl) (?_) _;refine hK6 _ _ ?_;have wS:=aA (HZ.out.below jB);have GF:=aA (vG.out.trans (below_grown jB (some p)));clear hK6 hG HZ vG jB;have HZ:=wS;have vG:=GF;clear wS GF;obtain ⟨c0,c1,c2,f1,f2⟩:=HZ.out.facts;have HE:=aA (HZ.out.rC true);have vK:=aA (vG.out.trans (eC _ p 2 (.bool true)));clear HZ vG;go_wp2_with fail;go_ret;exact ⟨by rw[HR.out];rfl,by rw[HR.out];exact HE.out,vK.out⟩
end Pk
namespace Pk
open Go Go.RowKit
theorem Km {most:Nat}:∀ {s:List Nat} {k n a j:Nat},DF most k n s=some (a,j)→a≤most∧k<j∧j≤k+s.length
 | [],_,_,_,_,h=>by simp[DF] at h
 | c::s,k,n,a,j,h=>by
  rw[DF] at h
  split at h
  ·cases h
  ·split at h
   ·have:=Km h
    simp;omega
   ·split at h
    ·cases h
    ·cases h
     simp;omega
theorem tI {most:Nat}{s:List Nat}{a j:Nat}(h:rd most s=some (a,j)):a≤most∧0<j∧j≤s.length:=by
 have:=Km h;omega
def rq (lost:Bool)(most:Nat)(s:List Nat):Option (Nat×Nat):=if lost=true then none else rd most s
def rz (lost:Bool)(most:Int)(s:List Nat):Option (Nat×Nat):=if lost=true∨most<0 then none else rd most.toNat s
theorem QD {lost:Bool}{most:Nat}{s:List Nat}:pR (rq lost most s)≤most:=by
 unfold rq
 split
 ·exact cK _
 ·cases h:rd most s with
  | none=>exact cK _
  | some r=>obtain ⟨a,j⟩:=r;exact (tI h).1
structure fW (l:List Nat)(dR:Nat):Prop where
 by':By l
 len:l.length≤1000000000
 at':dR≤l.length
theorem JF (o:Option Addr)(c:Nat)(l:List Nat)(p dR most:Nat)(lost:Bool)(w:World)(k:fW l dR)(hm:most<18446744073709551616)(h:ZR o c l p dR lost w) :
  Calls prog 86 #[.pointer (some ⟨p,0,none⟩),.int .u64 (most:Int)] w (Qk o c l p dR (rq lost most (l.drop dR)) w):=by
 cases lost with
 | true =>
  refine (Dn o c l p dR most w h).mono ?_;rintro e w' ⟨rfl,rfl⟩;exact ⟨rfl,h,cG _ _⟩
 | false=>exact Uc o c l p dR most _ w (aA rfl) (aA k.by') (aA hm) (aA k.len) (aA k.at') h
def OG (o:Option Addr)(c:Nat)(l:List Nat)(p dR:Nat)(r:Option (Nat×Nat))(v:Value)(w:World)(e:Ending)(w':World):Prop :=
 e=.returned v∧ZR o c l p (YU r dR) (YT r) w'∧w.grownBy w' (some p)
theorem CI (o:Option Addr)(c:Nat)(l:List Nat)(p dR:Nat)(lost:Bool)(w:World)(k:fW l dR)(h:ZR o c l p dR lost w) :
  Calls prog 88 #[.pointer (some ⟨p,0,none⟩)] w (OG o c l p dR (rq lost 18446744073709551615 (l.drop dR)) (.int .u64 ((pR (rq lost 18446744073709551615 (l.drop dR)):Nat):Int)) w):=by
 have HU:=aA (JF o c l p dR 18446744073709551615 lost w k (by omega) h);clear k h;generalize rq lost 18446744073709551615 (l.drop dR)=r at *;obtain ⟨a,ha⟩:∃a,pR r=a:=⟨_,rfl⟩;have HA:=aA ha;rw[ha];clear ha;go_enter func88,ntmps88;go_wp2_with fail;refine HU.out.mono ?_;rintro e w1 ⟨rfl,hz,hg⟩;rw[HA.out];have HZ:=aA hz;have HG:=aA hg;clear hz hg HU;go_wp2_with fail;go_ret;exact ⟨rfl,HZ.out,HG.out⟩
def GI (n:Nat):Int:=if n%2=0 then ((n/2:Nat):Int) else -((n/2:Nat):Int)-1
theorem LN (n:Nat)(hn:n<18446744073709551616)(w:World) :
  Calls prog 113 #[.int .u64 (n:Int)] w fun e w'=>e=.returned (.int .i64 (GI n))∧w=w':=by
 obtain ⟨m,hm⟩:∃m,n/2=m:=⟨_,rfl⟩;have e1:((n:Int)/2)=(m:Int):=by omega
 have m0:(0:Int)≤(m:Int):=by omega
 have m1:(m:Int)≤9223372036854775807:=by omega
 by_cases h:n%2=0
 ·have hu:GI n=(m:Int):=by unfold GI;rw[aZ h,hm]
  have t1:(n:Int)%2=0:=by omega
  rw[hu];clear hm hn h hu;go_enter func113,ntmps113;go_wp2_with fail;go_ret;exact ⟨rfl,rfl⟩
 ·have hu:GI n=-(m:Int)-1:=by unfold GI;rw[bF h,hm]
  have t1:((n:Int)%2 == 0)=false:=by simp;omega
  have t2:¬ (n:Int)%2=0:=by omega
  rw[hu];clear hm hn h hu;go_enter func113,ntmps113;go_wp2_with fail;go_ret;exact ⟨rfl,rfl⟩
theorem Db (o:Option Addr)(c:Nat)(l:List Nat)(p dR:Nat)(lost:Bool)(w:World)(k:fW l dR)(h:ZR o c l p dR lost w) :
  Calls prog 87 #[.pointer (some ⟨p,0,none⟩)] w (OG o c l p dR (rq lost 18446744073709551615 (l.drop dR)) (.int .i64 (GI (pR (rq lost 18446744073709551615 (l.drop dR))))) w):=by
 have HU:=aA (CI o c l p dR lost w k h);have hle:pR (rq lost 18446744073709551615 (l.drop dR))≤18446744073709551615:=QD;clear k h;generalize rq lost 18446744073709551615 (l.drop dR)=r at *;have HN:=aA (fun w=>LN (pR r) (by omega) w);clear hle;obtain ⟨a,ha⟩:∃a,pR r=a:=⟨_,rfl⟩;rw[ha] at HU HN ⊢;clear ha;go_enter func87,ntmps87;go_wp2_with fail;refine HU.out.mono ?_;rintro e w1 ⟨rfl,hz,hg⟩;have HZ:=aA hz;have HG:=aA hg;clear hz hg HU;go_wp2_with fail;refine (HN.out _).mono ?_;rintro e w2 ⟨rfl,rfl⟩;go_wp2_with fail;go_ret;exact ⟨rfl,HZ.out,HG.out⟩
theorem yV (o:Option Addr)(c:Nat)(l:List Nat)(p dR:Nat)(most:Int)(lost:Bool)(w:World)(k:fW l dR)(h1:most≤9223372036854775807)(h:ZR o c l p dR lost w) :
  Calls prog 46 #[.pointer (some ⟨p,0,none⟩),.int .i64 most] w (OG o c l p dR (rz lost most (l.drop dR)) (.int .i64 ((pR (rz lost most (l.drop dR)):Nat):Int)) w):=by
 by_cases h0:most<0
 ·have hr:rz lost most (l.drop dR)=none:=aZ (Or.inr h0)
  rw[hr];obtain ⟨c0,c1,c2,f1,f2⟩:=h.facts;have HZ:=aA (h.rC true);have HG:=aA (eC w p 2 (.bool true));clear h k hr;go_enter func46,ntmps46;go_wp2_with fail;go_ret;exact ⟨rfl,HZ.out,HG.out⟩
 ·obtain ⟨N,hN⟩:∃N:Nat,most=(N:Int):=⟨most.toNat,by omega⟩
  subst hN;have hr:rz lost (N:Int) (l.drop dR)=rq lost N (l.drop dR):=by
   have hn:¬ (N:Int)<0:=by omega
   unfold rz rq
   cases lost
   ·rw[bF (by simp[hn]),bF (by simp)];rfl
   ·rw[aZ (by simp),aZ (by simp)]
  rw[hr];have HU:=aA (JF o c l p dR N lost w k (by omega) h);have hle:pR (rq lost N (l.drop dR))≤N:=QD;have hw:IntKind.u64.wrap (N:Int)=(N:Int):=by rw[aV];omega
  clear k h hr;generalize rq lost N (l.drop dR)=r at *;obtain ⟨a,ha⟩:∃a,pR r=a:=⟨_,rfl⟩;have HA:=aA ha;rw[ha] at hle ⊢;have hw2:IntKind.i64.wrap (a:Int)=(a:Int):=by rw[bL];omega
  have Ik:=aA hw2;have n0:(0:Int)≤(N:Int):=by omega
  clear ha hle hw2;go_enter func46,ntmps46;go_wp2_with fail;refine HU.out.mono ?_;rintro e w1 ⟨rfl,hz,hg⟩;rw[HA.out];have HZ:=aA hz;have HG:=aA hg;have hw3:=Ik.out;clear hz hg HU hw h1;go_wp2_with fail;go_ret;exact ⟨rfl,HZ.out,HG.out⟩
end Pk
end Go.Proofs.YtbbhmhihpdmoiaaGreat
