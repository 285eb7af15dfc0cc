import Derived.Test.YtbbhmhihpdmoiaaGreatJf14
set_option linter.unusedVariables false
set_option linter.unusedSimpArgs false
set_option maxRecDepth 100000
set_option maxHeartbeats 32000000
namespace Go.Proofs.YtbbhmhihpdmoiaaGreat
open Go.Proofs.Tryz
namespace Pk
open Fx (dU eK dF eA)
open Go Go.RowKit
theorem PW.grown {B p:Nat}{v:Value}{l:List Nat}{lost:Bool}{W X:World}{row:Option Nat}(h:PW B p v l lost W)(hg:W.grownBy X row)(hp:some p≠row)(hr:∀k,v.ownBlock=some k→some k≠row):PW B p v l lost X :=
 ⟨by rw[hg.block p h.lt hp];exact h.row,h.own.grown hg hr⟩
theorem PR.turn {o:Option Addr}{c:Nat}{l:List Nat}{pr dR p:Nat}{lost:Bool}{v v':Value}{W X:World}(h:PR o c l pr dR lost W)(t:Turn p v v' W X)(hp:pr≠p)(hv:v.ownBlock≠some pr)(hb:∀b off,o=some ⟨b,off,none⟩→0<l.length→b≠p∧v.ownBlock≠some b):PR o c l pr dR lost X :=
 ⟨by rw[t.block pr h.lt hp hv];exact h.row,h.bs.turn t hb,h.ok⟩
def AW (o2:Option Addr)(n p:Nat)(l:List Nat)(B:Nat)(W:World):Prop:=∃v,PW B p v l false W∧∀b off,o2=some ⟨b,off,none⟩→0<n→v.ownBlock≠some b
theorem AW.below {o2:Option Addr}{n p B:Nat}{l:List Nat}{W X:World}(h:AW o2 n p l B W)(hb:Below W.heap.size W X):AW o2 n p l B X:=by
 obtain ⟨v,h1,h2⟩:=h;exact ⟨v,h1.below hb,h2⟩
theorem AW.read {o2:Option Addr}{c2 n p B pr dR:Nat}{l a0:List Nat}{lost:Bool}{W X:World}(h:AW o2 n p l B W)(hr:PR o2 c2 a0 pr dR lost W)(hg:W.grownBy X (some pr))(hne:pr≠p):AW o2 n p l B X:=by
 obtain ⟨v,h1,h2⟩:=h;exact ⟨v,h1.grown hg (fun e=>hne (bK e).symm) (fun k hk e=>h1.own.apart hr.row (by decide) k hk (bK e)),h2⟩
end Pk
namespace Pk
open Go Go.RowKit
def Xy (p:Nat)(w w':World):Prop:=∀v x,w.heap[p]?=some (.cells #[v,x] 81 (0,0))→∃v' x',w'.heap[p]?=some (.cells #[v',x'] 81 (0,0))∧(v'=v∨∀k,v'.ownBlock=some k→w.heap.size≤k)
theorem Xy.below {p:Nat}{w w1 w2:World}(h:Xy p w1 w2)(hb:Below w.heap.size w w1)(hp:p<w.heap.size):Xy p w w2:=fun v x hx=>by
 obtain ⟨v',x',h1,h2⟩:=h v x (dL hb hx);exact ⟨v',x',h1,h2.imp id (fun g k hk=>bH hb.size (g k hk))⟩
def Qi (B p:Nat)(l:List Nat)(lost:Bool)(w:World)(e:Ending)(w':World):Prop:=e=.returned undef∧ZW B p l lost w'∧w.grownBy w' (some p)∧Xy p w w'
theorem Own.lt {W:World}{B:Nat}{v:Value}{l:List Nat}(s:Own W B v l):∀k,v.ownBlock=some k→k<W.heap.size:=by
 intro k hk;obtain ⟨_,h2⟩:=s
 rcases h2 with ⟨rfl,_⟩|⟨g,cap,cur,rfl,hb,hg,_⟩
 ·cases hk
 ·cases hk
  exact (aC.1 hg).1
theorem Own.turn {W X:World}{B p:Nat}{u v v':Value}{l:List Nat}(s:Own W B u l)(t:Turn p v v' W X)(hp:∀k,u.ownBlock=some k→k≠p∧v.ownBlock≠some k):Own X B u l:=by
 obtain ⟨h1,h2⟩:=s;refine ⟨h1,?_⟩
 rcases h2 with h2|⟨g,cap,cur,rfl,hb,hg,h3⟩
 ·exact .inl h2
 ·obtain ⟨a,b⟩:=hp g rfl
  exact .inr ⟨g,cap,cur,rfl,hb,by rw[t.block g (aC.1 hg).1 a b];exact hg,h3⟩
structure TW (B p z:Nat)(v vz vo:Value)(l l2 m:List Nat)(lost fX:Bool)(W:World):Prop where
 pw:PW B p v l lost W
 LG:W.heap[z]?=some (.cells #[vz,.bool fX] 81 (0,0))
 VC:Own W B vz l2
 own:Own W B vo m
 d1:∀k,v.ownBlock=some k→vz.ownBlock≠some k
 d2:∀k,vo.ownBlock=some k→v.ownBlock≠some k∧vz.ownBlock≠some k
 ne:p≠z
def WI (B p z:Nat)(vo:Value)(l m:List Nat)(lost:Bool)(W:World):Prop:=∃v vz,TW B p z v vz vo l l m lost lost W
def WM (B p z:Nat)(vo:Value)(l l2 m:List Nat)(lost fX:Bool)(W:World):Prop:=∃v vz,TW B p z v vz vo l l2 m lost fX W
theorem TW.below {B p z:Nat}{v vz vo:Value}{l l2 m:List Nat}{lost fX:Bool}{W X:World}(s:TW B p z v vz vo l l2 m lost fX W)(h:Below W.heap.size W X):TW B p z v vz vo l l2 m lost fX X :=
 ⟨s.pw.below h,dL h s.LG,s.VC.below h,s.own.below h,s.d1,s.d2,s.ne⟩
theorem WI.below {B p z:Nat}{vo:Value}{l m:List Nat}{lost:Bool}{W X:World}(s:WI B p z vo l m lost W)(h:Below W.heap.size W X):WI B p z vo l m lost X:=by
 obtain ⟨v,vz,s⟩:=s;exact ⟨v,vz,s.below h⟩
theorem TW.one {B p z:Nat}{v vz vo:Value}{l l2 l3 m:List Nat}{lost fX xH:Bool}{W X:World}{e:Ending}(s:TW B p z v vz vo l l2 m lost fX W)(h:rU B p v l3 xH W e X):WM B p z vo l3 l2 m xH fX X:=by
 obtain ⟨_,v',hp,t⟩:=h;have a1:=s.VC.apart s.pw.row (by decide);have hown:=s.own;have a2:=hown.apart s.pw.row (by decide);have a3:=s.pw.own.apart s.LG (by decide);refine ⟨v',vz,hp,?_,s.VC.turn t (fun k hk=>⟨a1 k hk,fun h=>s.d1 k h hk⟩),hown.turn t (fun k hk=>⟨a2 k hk,(s.d2 k hk).1⟩),fun k hk=>?_,fun k hk=>⟨fun h=>?_,(s.d2 k hk).2⟩,s.ne⟩
 ·rw[t.block z (aC.1 s.LG).1 (Ne.symm s.ne) (fun h=>a3 z h rfl)]
  exact s.LG
 ·rcases t.own k hk with h|h
  ·exact s.d1 k h
  ·intro h2
   have:=s.VC.lt k h2;omega
 ·rcases t.own k h with h|h
  ·exact (s.d2 k hk).1 h
  ·have:=hown.lt k hk
   omega
theorem TW.two {B p z:Nat}{v vz vo:Value}{l l2 l3 m:List Nat}{lost fX xH:Bool}{W X:World}{e:Ending}(s:TW B p z v vz vo l l2 m lost fX W)(h:Qi B z l3 xH W e X):WM B p z vo l l3 m lost xH X:=by
 obtain ⟨_,⟨v1,hr,ho⟩,hg,hn⟩:=h;obtain ⟨v2,x2,hr2,hv⟩:=hn _ _ s.LG;rw[hr] at hr2;obtain rfl:v1=v2:=by
  simp at hr2;exact hr2.1
 have a1:=s.pw.own.apart s.LG (by decide);have hown:=s.own;have a2:=hown.apart s.LG (by decide);refine ⟨v,v1,s.pw.grown hg (fun e=>s.ne (bK e)) (fun k hk e=>a1 k hk (bK e)),hr,ho,hown.grown hg (fun k hk e=>a2 k hk (bK e)),fun k hk=>?_,fun k hk=>⟨(s.d2 k hk).1,?_⟩,s.ne⟩
 ·rcases hv with rfl|hv
  ·exact s.d1 k hk
  ·intro h
   have h1:=hv k h;have h2:=s.pw.own.lt k hk;omega
 ·rcases hv with rfl|hv
  ·exact (s.d2 k hk).2
  ·intro h
   have h1:=hv k h;have h2:=hown.lt k hk;omega
theorem WI.both {B p z:Nat}{vo:Value}{l l3 m:List Nat}{lost xH:Bool}{w W:World}{f g:FuncId}{xs ys:Array Value}(s:WI B p z vo l m lost W)(hb:Below w.heap.size w W)(hB:B=w.heap.size)(hp:w.heap.size≤p)(hz:w.heap.size≤z)
  (h1:∀v,PW B p v l lost W→(∀k,vo.ownBlock=some k→k≠p∧v.ownBlock≠some k)→Own W B vo m→Calls prog f xs W (rU B p v l3 xH W))
  (h2:∀X,Below w.heap.size w X→ZW B z l lost X→Calls prog g ys X (Qi B z l3 xH X)) :
  Calls prog f xs W fun e X=>e=.returned undef∧Below w.heap.size w X∧(∀q cs t fr,W.heap[q]?=some (.cells cs t fr)→t≠5→q≠p→X.heap[q]?=some (.cells cs t fr)) ∧
   Calls prog g ys X fun e Y=>e=.returned undef∧WI B p z vo l3 m xH Y∧Below w.heap.size w Y∧(∀q cs t fr,W.heap[q]?=some (.cells cs t fr)→t≠5→q≠p→q≠z→Y.heap[q]?=some (.cells cs t fr)):=by
 obtain ⟨v,vz,s⟩:=s;have hown:=s.own;have a2:=hown.apart s.pw.row (by decide);refine (h1 v s.pw (fun k hk=>⟨a2 k hk,(s.d2 k hk).1⟩) s.own).mono ?_;intro e X hX;have s2:=s.one hX;obtain ⟨he,v',hp',t⟩:=hX;have Fh:Below w.heap.size w X:=t.below hb hp (hB▸s.pw);obtain ⟨v2,vz2,s2⟩:=s2;have kx:∀q cs t fr,W.heap[q]?=some (.cells cs t fr)→t≠5→q≠p→X.heap[q]?=some (.cells cs t fr):=fun q cs ty fr hq ht Ml=>by
  rw[t.block q (aC.1 hq).1 Ml (fun h=>s.pw.own.apart hq ht q h rfl)];exact hq
 refine ⟨he,Fh,kx,(h2 X Fh ⟨vz2,s2.LG,s2.VC⟩).mono ?_⟩;intro e Y hY;have s3:=s2.two hY;obtain ⟨he,_,hg,_⟩:=hY;refine ⟨he,s3,Fh.grown hg Fh.size (fun k hk=>by cases hk;exact hz),fun q cs ty fr hq ht Ml hqz=>?_⟩;have hx:=kx q cs ty fr hq ht Ml;rw[hg.block q (aC.1 hx).1 (fun e=>hqz (bK e))];exact hx
def OA (W:World)(o:Option Addr)(n:Nat):Prop:=∀i,i<n→∃g,o=some ⟨g,0,none⟩∧(∃y:Int,W.cell? ⟨g,i,none⟩=some (.int .u8 y))∧W.frozen? ⟨g,i,none⟩=false
theorem OA.set {W:World}{g n j:Nat}(y:Int)(h:OA W (some ⟨g,0,none⟩) n):OA (W.setCell ⟨g,j,none⟩ (.int .u8 y)) (some ⟨g,0,none⟩) n:=by
 intro i hi;obtain ⟨g2,e,⟨x,hx⟩,hf⟩:=h i hi
 cases e;refine ⟨g,rfl,?_,by rw[World.frozen?_setCell];exact hf⟩;by_cases hij:i=j
 ·subst hij
  exact ⟨y,World.cell?_setCell_same' _ _ _ (by rw[hx];rfl)⟩
 ·refine ⟨x,?_⟩
  rw[World.cell?_setCell_other]
  ·exact hx
  ·intro e
   cases e;exact hij rfl
theorem TW.take {B p z:Nat}{v vz vo:Value}{l m:List Nat}{lost:Bool}{W X:World}(s:TW B p z v vz (.slice none 0 0) l l [] lost lost W)(hB:B≤W.heap.size)(hb:Below W.heap.size W X)(ho:Own X W.heap.size vo m):TW B p z v vz vo l l m lost lost X :=
 ⟨s.pw.below hb,dL hb s.LG,s.VC.below hb,ho.mono hB,s.d1,fun k hk=>⟨fun h=>by have h1:=s.pw.own.lt k h;have h2:=ho.blk k hk;omega,fun h=>by have h1:=s.VC.lt k h;have h2:=ho.blk k hk;omega⟩,s.ne⟩
theorem OA.grown {W X:World}{o:Option Addr}{n:Nat}{row:Option Nat}(h:OA W o n)(hg:W.grownBy X row)(hr:∀g,o=some ⟨g,0,none⟩→0<n→some g≠row):OA X o n:=by
 intro i hi;obtain ⟨g,e,⟨y,hy⟩,hf⟩:=h i hi;have hne:=hr g e (by omega);refine ⟨g,e,⟨y,hg.cell hy hne⟩,?_⟩;have hlt:=block_lt_of_cell hy;have hb:=hg.block g hlt hne;simp only[World.frozen?,hb] at hf ⊢;exact hf
theorem OA.below {W X:World}{o:Option Addr}{n:Nat}(h:OA W o n)(hb:Below W.heap.size W X):OA X o n:=h.grown (below_grown hb none) (fun g _ _ h=>by cases h)
theorem uB {w w1 w2:World}{g:Option Nat}(h:w.grownBy w1 g)(k:w1.grownBy w2 g):w.grownBy w2 g:=h.trans k
theorem rV.open {W:World}{B:Nat}{v:Value}{l:List Int}(s:rV W B v l):∃o cap,v=.slice o l.length cap:=by
 obtain ⟨h1,h2⟩:=s
 rcases h2 with ⟨rfl,h0⟩|⟨g,cap,cur,rfl,hb,hg,hc,hm,hs,ht⟩
 ·exact ⟨none,0,by rw[h0]⟩
 ·exact ⟨_,cap,rfl⟩
structure MS (o:Option Addr)(c:Nat)(l:List Nat)(p a:Nat)(lost:Bool)(v:Value)(zs:List Int)(w W:World):Prop where
 box:W.heap[w.heap.size]?=some (.cells #[.pointer (some ⟨p,0,none⟩)] 90 (0,0))
 res:W.heap[w.heap.size+1]?=some (.cells #[v] 196 (0,0))
 rd:PR o c l p a lost W
 own:rV W (w.heap.size+2) v zs
 grow:w.grownBy W (some p)
theorem MS.facts {o:Option Addr}{c:Nat}{l:List Nat}{p a:Nat}{lost:Bool}{v:Value}{zs:List Int}{w W:World}(s:MS o c l p a lost v zs w W) :
  W.cell? ⟨w.heap.size,0,none⟩=some (.pointer (some ⟨p,0,none⟩))∧W.cell? ⟨w.heap.size+1,0,none⟩=some v∧W.frozen? ⟨w.heap.size+1,0,none⟩=false :=
 ⟨(aD _ _ 0 _ _ _ s.box).trans rfl,(aD _ _ 0 _ _ _ s.res).trans rfl,dJ s.res⟩
theorem MS.read {o:Option Addr}{c:Nat}{l:List Nat}{p a a2:Nat}{lost fX:Bool}{v:Value}{zs:List Int}{w W X:World}(s:MS o c l p a lost v zs w W)(hp:p<w.heap.size)(hr:PR o c l p a2 fX X)(hg:W.grownBy X (some p)):MS o c l p a2 fX v zs w X:=by
 refine ⟨?_,?_,hr,s.own.grown hg (fun k hk e=>s.own.apart s.rd.row (by decide) k hk (bK e)),s.grow.trans hg⟩
 ·rw[hg.block _ (aC.1 s.box).1 (fun e=>by have:=bK e;omega)]
  exact s.box
 ·rw[hg.block _ (aC.1 s.res).1 (fun e=>by have:=bK e;omega)]
  exact s.res
theorem MS.alloc {o:Option Addr}{c:Nat}{l:List Nat}{p a:Nat}{lost:Bool}{v:Value}{zs:List Int}{w W:World}(s:MS o c l p a lost v zs w W)(ob:Obj):MS o c l p a lost v zs w (W.alloc ob) :=
 ⟨dM s.box,dM s.res,s.rd.below ((aJ _ _).alloc (aB _) _),s.own.alloc _,s.grow.trans (below_grown ((aJ _ _).alloc (aB _) _) (some p))⟩
theorem MS.app {o:Option Addr}{c:Nat}{l:List Nat}{p a:Nat}{lost:Bool}{v v':Value}{zs zs':List Int}{w W X:World}(s:MS o c l p a lost v zs w W)(hp:p<w.heap.size)(iE:∀b off,o=some ⟨b,off,none⟩→0<l.length→b<w.heap.size)(ho:rV X (w.heap.size+2) v' zs')(hg:W.grownBy X v.ownBlock) :
  X.heap[w.heap.size+1]?=some (.cells #[v] 196 (0,0))∧MS o c l p a lost v' zs' w (X.setCell ⟨w.heap.size+1,0,none⟩ v'):=by
 have hv:=s.own.blk;have hres:X.heap[w.heap.size+1]?=some (.cells #[v] 196 (0,0)):=by
  rw[hg.block _ (aC.1 s.res).1 (fun e=>by have:=hv _ e.symm;omega)];exact s.res
 have EM:X.heap[w.heap.size]?=some (.cells #[.pointer (some ⟨p,0,none⟩)] 90 (0,0)):=by
  rw[hg.block _ (aC.1 s.box).1 (fun e=>by have:=hv _ e.symm;omega)];exact s.box
 have Sb:PR o c l p a lost X:=s.rd.grown hg (fun e=>by have:=hv _ e.symm;omega) (fun b off e hm h=>by have:=hv b h.symm;have:=iE b off e hm;omega);have hgx:w.grownBy X (some p):=⟨hg.os.trans s.grow.os,hg.tape.trans s.grow.tape,hg.output.trans s.grow.output,bH s.grow.size hg.size,fun q hq Ml=>by
  rw[hg.block q (aP hq s.grow.size) (fun e=>by have:=hv q e.symm;omega)];exact s.grow.block q hq Ml⟩
 have hc:=eC X (w.heap.size+1) 0 v';refine ⟨hres,by rw[aK _ _ _ _ (by show _≠w.heap.size+1;omega)];exact EM,aM _ _ 0 _ _ v' hres,Sb.grown hc (fun e=>by have:=bK e;omega) (fun b off e hm h=>by have:=bK h;have:=iE b off e hm;omega),
  ho.grown hc (fun k hk e=>by have:=ho.blk k hk;have:=bK e;omega),?_⟩
 exact ⟨hc.os.trans hgx.os,hc.tape.trans hgx.tape,hc.output.trans hgx.output,bH hgx.size hc.size,fun q hq Ml=>by
  rw[hc.block q (aP hq hgx.size) (fun e=>by have:=bK e;omega)];exact hgx.block q hq Ml⟩
theorem MS.strike {o:Option Addr}{c:Nat}{l:List Nat}{p a:Nat}{lost:Bool}{v:Value}{zs:List Int}{w W:World}(s:MS o c l p a lost v zs w W)(hp:p<w.heap.size)(iE:∀b off,o=some ⟨b,off,none⟩→0<l.length→b<w.heap.size):MS o c l p a lost (.slice none 0 0) [] w (W.setCell ⟨w.heap.size+1,0,none⟩ (.slice none 0 0)) :=
 (s.app (v':=.slice none 0 0) (zs':=[]) hp iE (bV _ _ _ _) (cG _ _)).2
theorem rV.mono {W:World}{B C:Nat}{v:Value}{l:List Int}(hB:B≤C)(s:rV W C v l):rV W B v l:=by
 obtain ⟨h1,h2⟩:=s;refine ⟨h1,?_⟩
 rcases h2 with h2|⟨g,cap,cur,e,hb,h3⟩
 ·exact Or.inl h2
 ·exact Or.inr ⟨g,cap,cur,e,bH hB hb,h3⟩
end Pk
namespace Fx
open Go Go.RowKit
open Pk (form fold GI rd uT MD wY PT EY pP By gY gP)
abbrev pO (κ:Type):=List Nat→Nat→Option (κ×Nat)
structure Good {κ:Type}(P:pO κ)(F:κ→List Nat)(D:κ→Prop):Prop where
 put:∀k,D k→∀l a t,a≤l.length→l.drop a=F k++t→P l a=some (k,a+(F k).length)
 get:∀l a k b,By l→a≤l.length→P l a=some (k,b)→D k∧l.drop a=F k++l.drop b∧b=a+(F k).length∧b≤l.length
 bytes:∀k,D k→By (F k)
def pU (most:Nat):pO Int:=fun l a=>(rd most (l.drop a)).map fun q=>((q.1:Int),a+q.2)
def pI:pO Int:=fun l a=>(rd pP (l.drop a)).map fun q=>(GI q.1,a+q.2)
def fU (z:Int):List Nat:=form z.toNat
def fI (z:Int):List Nat:=form (fold z)
theorem KS {l:List Nat}{a j:Nat}{m:List Nat}(ha:a≤l.length)(h:(l.drop a).take j=m)(hj:j=m.length):l.drop a=m++l.drop (a+j)∧a+j≤l.length:=by
 have h1:l.drop a=(l.drop a).take j++(l.drop a).drop j:=(List.take_append_drop j _).symm;rw[h,List.drop_drop] at h1;refine ⟨h1,?_⟩;have h2:=congrArg List.length h;rw[bT,cQ] at h2;omega
theorem xP {most:Nat}(hm:most<18446744073709551616):Good (pU most) fU (fun z=>0≤z∧z≤(most:Int)) where
 put k hk l a t ha h:=by
  unfold pU fU;rw[h];unfold fU;rw[uT k.toNat most t (by omega) (by omega)];simp;omega
 get l a k b hb ha h:=by
  unfold pU at h;rw[Option.map_eq_some_iff] at h;obtain ⟨⟨n,j⟩,hr,e⟩:=h;simp only[Prod.mk.injEq] at e;obtain ⟨rfl,rfl⟩:=e;obtain ⟨h1,h2,h3⟩:=MD (fun c hc=>hb c (List.mem_of_mem_drop hc)) hr;have hle:n≤most:=by
   rw[wY _ (by unfold pP;omega)] at hr
   cases h0:rd pP (l.drop a) with
   | none=>rw[h0] at hr;simp at hr
   | some q =>
    rw[h0] at hr;simp at hr;obtain ⟨hq,e1,_⟩:=hr;rw[←e1];exact hq
  obtain ⟨h4,h5⟩:=KS ha h1 h3;refine ⟨by omega,?_,?_,h5⟩
  ·unfold fU
   simpa using h4
  ·unfold fU
   simpa using h3
 bytes k hk:=gY (by omega)
theorem sN {z:Int}(h:Num z):fold z<18446744073709551616:=by
 obtain ⟨h0,h1⟩:=h;unfold fold
 split <;> omega
theorem LO {n:Nat}(h:n<18446744073709551616):Num (GI n):=by
 unfold GI Num
 split <;> omega
theorem Oj:Good pI fI Num where
 put k hk l a t ha h:=by
  unfold pI fI;rw[h];unfold fI;rw[uT (fold k) pP t (sN hk) (by have:=sN hk;unfold pP;omega)];simp only[Option.map_some];rw[PT hk.1 hk.2]
 get l a k b hb ha h:=by
  unfold pI at h;rw[Option.map_eq_some_iff] at h;obtain ⟨⟨n,j⟩,hr,e⟩:=h;simp only[Prod.mk.injEq] at e;obtain ⟨rfl,rfl⟩:=e;obtain ⟨h1,h2,h3⟩:=MD (fun c hc=>hb c (List.mem_of_mem_drop hc)) hr;obtain ⟨h4,h5⟩:=KS ha h1 h3;refine ⟨LO h2,?_,?_,h5⟩
  ·unfold fI
   rw[EY h2];exact h4
  ·unfold fI
   rw[EY h2,h3]
 bytes k hk:=gY (sN hk)
def sJ {κ μ:Type}(P:pO κ)(Q:pO μ):pO (κ×μ):=fun l a=>match P l a with
 | none=>none
 | some (k,b)=>match Q l b with
  | none=>none
  | some (m,c)=>some ((k,m),c)
theorem BQ {l m t:List Nat}{a:Nat}(ha:a≤l.length)(h:l.drop a=m++t):l.drop (a+m.length)=t∧a+m.length≤l.length:=by
 refine ⟨by rw[←List.drop_drop,h];simp,?_⟩;have:=congrArg List.length h;rw[cQ,aI] at this;omega
theorem By.app {a b:List Nat}(h:By a)(k:By b):By (a++b):=fun c hc=>by
 rcases bS.1 hc with hc|hc
 ·exact h c hc
 ·exact k c hc
theorem Good.seq {κ μ:Type}{P:pO κ}{Q:pO μ}{F:κ→List Nat}{G:μ→List Nat}{D:κ→Prop}{E:μ→Prop}(h:Good P F D)(k:Good Q G E):Good (sJ P Q) (fun x=>F x.1++G x.2) (fun x=>D x.1∧E x.2) where
 put x hx l a t ha hd:=by
  rw[bM] at hd;have h1:=h.put x.1 hx.1 l a _ ha hd;obtain ⟨h2,h3⟩:=BQ ha hd;have h4:=k.put x.2 hx.2 l _ t h3 h2;unfold sJ;rw[h1];dsimp only;rw[h4];simp[Nat.add_assoc]
 get l a x b hb ha hd:=by
  unfold sJ at hd
  cases h1:P l a with
  | none=>rw[h1] at hd;cases hd
  | some q =>
   obtain ⟨k1,b1⟩:=q;rw[h1] at hd;dsimp only at hd
   cases h2:Q l b1 with
   | none=>rw[h2] at hd;cases hd
   | some q2 =>
    obtain ⟨k2,b2⟩:=q2;rw[h2] at hd
    cases hd;obtain ⟨d1,e1,f1,g1⟩:=h.get l a k1 b1 hb ha h1;obtain ⟨d2,e2,f2,g2⟩:=k.get l b1 k2 b hb g1 h2;exact ⟨⟨d1,d2⟩,by rw[e1,e2,bM],by simp only[aI];omega,g2⟩
 bytes x hx:=By.app (h.bytes _ hx.1) (k.bytes _ hx.2)
def fE {κ:Type}(P:pO κ):Nat→pO (List κ)
 | 0=>fun _ a=>some ([],a)
 | n+1=>fun l a=>match P l a with
  | none=>none
  | some (k,b)=>match fE P n l b with
   | none=>none
   | some (ks,c)=>some (k::ks,c)
theorem Good.list {κ:Type}{P:pO κ}{F:κ→List Nat}{D:κ→Prop}(h:Good P F D):∀n,Good (fE P n) (fun ks=>ks.flatMap F) (fun ks=>ks.length=n∧∀k∈ks,D k)
 | 0 =>
  { put := fun ks hk l a t ha hd => by
      have : ks=[]:=List.length_eq_zero_iff.1 hk.1;subst this;rfl
    get:=fun l a ks b hb ha hd=>by
      unfold fE at hd
      cases hd;exact ⟨⟨rfl,fun k hk=>by simp at hk⟩,by simp,by simp,ha⟩
    bytes:=fun ks hk=>by
      have : ks=[]:=List.length_eq_zero_iff.1 hk.1;subst this;intro c hc;simp at hc }
 | n+1 =>
  { put := fun ks hk l a t ha hd => by
      cases ks with
      | nil=>simp at hk
      | cons x xs =>
        rw[List.flatMap_cons,bM] at hd;have h1:=h.put x (hk.2 x (by simp)) l a _ ha hd;obtain ⟨h2,h3⟩:=BQ ha hd;have h4:=(Good.list h n).put xs ⟨by simpa using hk.1,fun k hk'=>hk.2 k (by simp[hk'])⟩ l _ t h3 h2;unfold fE;rw[h1];dsimp only;rw[h4];simp[Nat.add_assoc]
    get:=fun l a ks b hb ha hd=>by
      unfold fE at hd
      cases h1:P l a with
      | none=>rw[h1] at hd;cases hd
      | some q =>
        obtain ⟨k1,b1⟩:=q;rw[h1] at hd;dsimp only at hd
        cases h2:fE P n l b1 with
        | none=>rw[h2] at hd;cases hd
        | some q2 =>
          obtain ⟨k2,b2⟩:=q2;rw[h2] at hd
          cases hd;obtain ⟨d1,e1,f1,g1⟩:=h.get l a k1 b1 hb ha h1;obtain ⟨d2,e2,f2,g2⟩:=(Good.list h n).get l b1 k2 b hb g1 h2;refine ⟨⟨by simpa using d2.1,fun k hk=>?_⟩,by rw[List.flatMap_cons,e1,e2,bM],by simp only[List.flatMap_cons,aI];omega,g2⟩
          rcases List.mem_cons.1 hk with rfl|hk
          · exact d1
          · exact d2.2 k hk
    bytes:=fun ks hk=>by
      intro c hc;obtain ⟨x,hx,hc⟩:=List.mem_flatMap.1 hc;exact h.bytes x (hk.2 x hx) c hc }
def fG {κ:Type}(most:Nat)(P:pO κ):pO (List κ):=fun l a=>match pU most l a with
 | none=>none
 | some (n,b)=>fE P n.toNat l b
def mA {κ:Type}(F:κ→List Nat)(ks:List κ):List Nat:=fU ks.length++ks.flatMap F
theorem Good.many {κ:Type}{P:pO κ}{F:κ→List Nat}{D:κ→Prop}(h:Good P F D){most:Nat}(hm:most<18446744073709551616):Good (fG most P) (mA F) (fun ks=>ks.length≤most∧∀k∈ks,D k) where
 put ks hk l a t ha hd:=by
  unfold mA at hd ⊢;rw[bM] at hd;have h1:=(xP hm).put (ks.length:Int) (by omega) l a _ ha hd;obtain ⟨h2,h3⟩:=BQ ha hd;have h4:=(h.list ks.length).put ks ⟨rfl,hk.2⟩ l _ t h3 h2;unfold fG;rw[h1];dsimp only;rw[Int.toNat_natCast,h4];simp[Nat.add_assoc]
 get l a ks b hb ha hd:=by
  unfold fG at hd
  cases h1:pU most l a with
  | none=>rw[h1] at hd;cases hd
  | some q =>
   obtain ⟨k1,b1⟩:=q;rw[h1] at hd;dsimp only at hd;obtain ⟨d1,e1,f1,g1⟩:=(xP hm).get l a k1 b1 hb ha h1;obtain ⟨d2,e2,f2,g2⟩:=(h.list k1.toNat).get l b1 ks b hb g1 hd;have hk:k1=(ks.length:Int):=by rw[d2.1];omega
   subst hk;exact ⟨⟨by omega,d2.2⟩,by unfold mA;rw[e1,e2,bM],by unfold mA;rw[aI];omega,g2⟩
 bytes ks hk:=By.app ((xP hm).bytes _ (by omega)) ((h.list ks.length).bytes ks ⟨rfl,hk.2⟩)
def QT {κ μ:Type}(f:κ→μ)(P:pO κ):pO μ:=fun l a=>(P l a).map fun q=>(f q.1,q.2)
theorem Good.map {κ μ:Type}{P:pO κ}{F:κ→List Nat}{D:κ→Prop}(h:Good P F D)(f:κ→μ)(g:μ→κ)(hf:∀y,f (g y)=y)(hg:∀x,g (f x)=x):Good (QT f P) (fun y=>F (g y)) (fun y=>D (g y)) where
 put y hy l a t ha hd:=by
  unfold QT;rw[h.put (g y) hy l a t ha hd];simp[hf]
 get l a y b hb ha hd:=by
  unfold QT at hd;rw[Option.map_eq_some_iff] at hd;obtain ⟨⟨k,c⟩,h1,e⟩:=hd;simp only[Prod.mk.injEq] at e;obtain ⟨rfl,rfl⟩:=e;rw[hg];exact h.get l a k c hb ha h1
 bytes y hy:=h.bytes _ hy
def JN (q:Int×Int×Int×Int):gB:=⟨q.1,q.2.1,q.2.2.1,q.2.2.2⟩
def ofTri (t:gB):Int×Int×Int×Int:=(t.a,t.b,t.c,t.col)
def QS:pO (List Int):=fE pI 16
def oT:pO (List Int):=fE pI 3
def tJ:pO gB:=QT JN (sJ (pU 63) (sJ (pU 63) (sJ (pU 63) (pU 4294967295))))
def oC:pO (Int×List Int×List (List Int)×List gB):=sJ (pU 65535) (sJ QS (sJ (fG 64 oT) (fG 64 tJ)))
def yE:pO (Int×Int×List Int):=sJ (pU 64) (sJ (pU 64) QS)
abbrev lA:=Int×Int×List Int×List (Int×List Int×List (List Int)×List gB)
def MH:pO lA:=sJ (pU 64) (sJ (pU 64) (sJ QS (fG 16 oC)))
def eQ (s:eF):lA:=(s.w,s.h,s.jN,s.os.map eX)
theorem Ez (a b:eF):QA a b↔eQ a=eQ b:=by
 unfold QA eQ;simp[Prod.mk.injEq]
def eW (m:List Int):List Nat:=m.flatMap fI
def pA (t:gB):List Nat:=fU t.a++(fU t.b++(fU t.c++fU t.col))
def lZ (x:Int×List Int×List (List Int)×List gB):List Nat:=fU x.1++(eW x.2.1++(mA eW x.2.2.1++mA pA x.2.2.2))
def KR (s:lA):List Nat:=fU s.1++(fU s.2.1++(eW s.2.2.1++mA lZ s.2.2.2))
def xS (n:Nat)(m:List Int):Prop:=m.length=n∧∀z∈m,Num z
def Gk (t:gB):Prop:=(0≤t.a∧t.a≤63)∧(0≤t.b∧t.b≤63)∧(0≤t.c∧t.c≤63)∧(0≤t.col∧t.col≤4294967295)
def XS (x:Int×List Int×List (List Int)×List gB):Prop:=(0≤x.1∧x.1≤65535)∧xS 16 x.2.1∧(x.2.2.1.length≤64∧∀v∈x.2.2.1,xS 3 v)∧(x.2.2.2.length≤64∧∀t∈x.2.2.2,Gk t)
def Gl (s:lA):Prop:=(0≤s.1∧s.1≤64)∧(0≤s.2.1∧s.2.1≤64)∧xS 16 s.2.2.1∧(s.2.2.2.length≤16∧∀x∈s.2.2.2,XS x)
theorem Om:Good (pU 64) fU (fun z=>0≤z∧z≤64):=xP (by omega)
theorem XK:Good (pU 63) fU (fun z=>0≤z∧z≤63):=xP (by omega)
theorem good32:Good (pU 4294967295) fU (fun z=>0≤z∧z≤4294967295):=xP (by omega)
theorem good16:Good (pU 65535) fU (fun z=>0≤z∧z≤65535):=xP (by omega)
theorem Xa:Good tJ pA Gk:=(XK.seq (XK.seq (XK.seq good32))).map JN ofTri (fun _=>rfl) (fun _=>rfl)
theorem Xb:Good oC lZ XS:=good16.seq ((Oj.list 16).seq (((Oj.list 3).many (by omega)).seq (Xa.many (by omega))))
theorem NR:Good MH KR Gl:=Om.seq (Om.seq ((Oj.list 16).seq (Xb.many (by omega))))
theorem ze (l:List Nat)(a:Nat):MH l a=match yE l a with
  | none=>none
  | some (k,b)=>match fG 16 oC l b with
   | none=>none
   | some (os,c)=>some ((k.1,k.2.1,k.2.2,os),c):=by
 unfold MH yE sJ
 cases pU 64 l a with
 | none=>rfl
 | some q =>
  dsimp only
  cases pU 64 l q.2 with
  | none=>rfl
  | some q2 =>
   dsimp only
   cases QS l q2.2 with
   | none=>rfl
   | some q3=>
    dsimp only
    cases fG 16 oC l q3.2 with
    | none=>rfl
    | some q4=>rfl
end Fx
namespace Fx
open Go Go.RowKit Go.Shelf
open Pk (PW rU Turn form fold By)
attribute [local go_sem] Oper.semAt_some
structure tD (p:Nat)(W X:World):Prop where
 os:X.os=W.os
 tape:X.tape=W.tape
 output:X.output=W.output
 size:W.heap.size≤X.heap.size
 low:∀k,k<p→X.heap[k]?=W.heap[k]?
 block:∀ (k:Nat) (o:Obj),W.heap[k]?=some o→k≠p→(∀c f,o≠.cells c 5 f)→X.heap[k]?=some o
theorem tD.refl (p:Nat)(W:World):tD p W W:=⟨rfl,rfl,rfl,aB _,fun _ _=>rfl,fun _ _ h _ _=>h⟩
theorem tD.trans {p:Nat}{W X Y:World}(h:tD p W X)(k:tD p X Y):tD p W Y :=
 ⟨k.os.trans h.os,k.tape.trans h.tape,k.output.trans h.output,bH h.size k.size,fun i hi=>(k.low i hi).trans (h.low i hi),fun i o hi h1 h2=>k.block i o (h.block i o hi h1 h2) h1 h2⟩
theorem tD.of_below {p:Nat}{W X:World}(h:Below W.heap.size W X)(hp:p≤W.heap.size):tD p W X :=
 ⟨h.os,h.tape,h.output,h.size,fun k hk=>h.block k (by omega),fun k o hk _ _=>by rw[h.block k (aC.1 hk).1];exact hk⟩
theorem tD.below {p:Nat}{W X:World}(h:tD p W X):Below p W X:=⟨h.os,h.tape,h.output,h.size,h.low⟩
theorem tD.rows {p:Nat}{W X:World}(h:tD p W X){t:TypeId}(ht:t≠5){pw:Array Value}{u:TypeId}(hp:W.heap[p]?=some (.cells pw u (0,0)))(hu:t≠u):Rows t W X:=fun g cur hg=>h.block g _ hg (fun e=>by
 subst e;rw[hp] at hg
 cases hg;exact hu rfl) (fun c f e=>by cases e;exact ht rfl)
theorem tD.keeps {p:Nat}{W X:World}(h:tD p W X){pw:Array Value}{u:TypeId}(hp:W.heap[p]?=some (.cells pw u (0,0))):KeepsOthers W X :=
 ⟨h.size,fun k o hk ho=>h.block k o hk (fun e=>by
  subst e;rw[hp] at hk
  cases hk
  cases ho) (fun c f e=>by subst e;cases ho)⟩
theorem tD.kept {p B:Nat}{w W X:World}(hB:w.heap.size≤B)(hp:p≤w.heap.size)(h:tD p w W)(k:Kept B W X):tD p w X:=by
 refine ⟨k.os.trans h.os,k.tape.trans h.tape,k.output.trans h.output,bH h.size k.size,fun i hi=>?_,fun i o hi h1 h2=>k.block i o (h.block i o hi h1 h2) (.inl (by have:=(aC.1 hi).1;omega))⟩;have hlt:i<w.heap.size:=by omega
 have h1:=h.low i hi;rw[Array.getElem?_eq_getElem hlt] at h1 ⊢;exact k.block i _ h1 (.inl (by omega))
def wQ (p:Nat)(l:List Nat)(W:World):Prop:=∃v,PW (p+1) p v l false W
theorem wQ.row {p:Nat}{l:List Nat}{W:World}(h:wQ p l W):∃cs,W.heap[p]?=some (.cells cs 120 (0,0)):=by
 obtain ⟨v,h⟩:=h;exact ⟨_,h.row⟩
theorem wQ.lt {p:Nat}{l:List Nat}{W:World}(h:wQ p l W):p<W.heap.size:=by
 obtain ⟨v,h⟩:=h;exact h.lt
theorem wQ.below {p:Nat}{l:List Nat}{W X:World}(h:wQ p l W)(hb:Below W.heap.size W X):wQ p l X:=by
 obtain ⟨v,h⟩:=h;exact ⟨v,h.below hb⟩
theorem wQ.kept {p B:Nat}{l:List Nat}{W X:World}(h:wQ p l W)(k:Kept B W X):wQ p l X:=by
 obtain ⟨v,h⟩:=h;exact ⟨v,⟨k.cells h.row,h.own.kept k⟩⟩
theorem wQ.set {p m j:Nat}{l:List Nat}{W:World}{c:Array Value}{t:TypeId}{u:Value}(h:wQ p l W)(hm:W.heap[m]?=some (.cells c t (0,0)))(h1:t≠120)(h2:t≠5):wQ p l (W.setCell ⟨m,j,none⟩ u):=by
 obtain ⟨v,h⟩:=h;have hn:p≠m:=fun e=>by
  subst e;have:=h.row;rw[hm] at this
  cases this;exact h1 rfl
 refine ⟨v,⟨by rw[aK _ _ _ _ hn];exact h.row,?_⟩⟩;obtain ⟨o1,o2⟩:=h.own;refine ⟨o1,?_⟩
 rcases o2 with o2|⟨g,cap,cur,e,hb,hg,h3⟩
 ·exact Or.inl o2
 ·refine Or.inr ⟨g,cap,cur,e,hb,?_,h3⟩
  rw[aK _ _ _ _ (by
   show g≠m;intro e;subst e;rw[hm] at hg
   cases hg;exact h2 rfl)]
  exact hg
theorem MJ {W:World}{B:Nat}{v:Value}{l:List Nat}(s:Pk.Own W B v l):∀k,v.ownBlock=some k→B≤k∧∃cur,W.heap[k]?=some (.cells cur 5 (0,0)):=by
 intro k hk;obtain ⟨h1,h2⟩:=s
 rcases h2 with ⟨rfl,_⟩|⟨g,cap,cur,rfl,hb,hg,_⟩
 ·cases hk
 ·cases hk
  exact ⟨hb,cur,hg⟩
theorem tD.Vd {p:Nat}{v v':Value}{l:List Nat}{W X:World}(h:PW (p+1) p v l false W)(t:Turn p v v' W X):tD p W X:=by
 have hp:=h.lt;refine ⟨t.os,t.tape,t.output,t.size,fun k hk=>t.block k (by omega) (by omega) (fun e=>by have:=(MJ h.own k e).1;omega),fun k o hk h1 h2=>?_⟩;rw[t.block k (aC.1 hk).1 h1 (fun e=>by
  obtain ⟨_,cur,hc⟩:=MJ h.own k e;rw[hk] at hc
  cases hc;exact h2 _ _ rfl)]
 exact hk
def mM (p:Nat)(l:List Nat)(w:World)(e:Ending)(w':World):Prop:=e=.returned undef∧wQ p l w'∧tD p w w'
theorem mM.of {p:Nat}{v:Value}{l l':List Nat}{w w':World}{e:Ending}(h:PW (p+1) p v l false w)(hc:rU (p+1) p v l' false w e w'):mM p l' w e w':=by
 obtain ⟨he,v',h1,h2⟩:=hc;exact ⟨he,⟨v',h1⟩,tD.Vd h h2⟩
theorem PP (p:Nat)(z:Int)(l:List Nat)(w:World)(hz:Num z)(hl:l.length≤100000000)(h:wQ p l w):Calls prog 103 #[.pointer (some ⟨p,0,none⟩),.int .i64 z] w (mM p (l++fI z) w):=by
 obtain ⟨v,h⟩:=h;exact (Pk.Kt (p+1) p z v l false w h.lt hz.1 hz.2 hl h).mono fun e w' hc=>mM.of h hc
theorem Df (p n:Nat)(l:List Nat)(w:World)(hz:n<18446744073709551616)(hl:l.length≤100000000)(h:wQ p l w):Calls prog 93 #[.pointer (some ⟨p,0,none⟩),.int .u64 (n:Int)] w (mM p (l++form n) w):=by
 obtain ⟨v,h⟩:=h;exact (Pk.rD (p+1) p n v l false w h.lt hz hl h).mono fun e w' hc=>mM.of h hc
theorem iR (p:Nat)(n most:Int)(l:List Nat)(w:World)(h0:0≤n)(h1:n≤most)(hm:most≤9223372036854775807)(hl:l.length≤100000000)(h:wQ p l w):Calls prog 52 #[.pointer (some ⟨p,0,none⟩),.int .i64 n,.int .i64 most] w (mM p (l++fU n) w):=by
 obtain ⟨v,h⟩:=h;have:=Pk.DK (p+1) p n most v l false w h.lt (by omega) (by omega) hl h;have e:Pk.qF n most=true:=bA ⟨h0,h1⟩;rw[e] at this;exact this.mono fun e w' hc=>mM.of h hc
theorem Lf (a:Addr)(w:World):Calls prog 102 #[.pointer (some a)] w fun e w' =>
  e=.returned (.func (.func 131) #[] #[.pointer (some ⟨w.heap.size,0,none⟩)])∧w'=w.alloc (.cells #[.pointer (some a)] 158):=by
 go_enter func102,ntmps102;go_wp2;go_ret;exact ⟨rfl,rfl⟩
def ZZ (M k:Nat):Array Value:=#[.pointer (some ⟨M,k,none⟩)]
def NuM (A M:Nat)(X:World):Prop:=X.cell? ⟨A,0,none⟩=some (.pointer (some ⟨M,0,none⟩))
theorem DY (A M:Nat) :
  Hands Fence.wide 4 prog 131 #[.pointer (some ⟨A,0,none⟩)] (ZZ M) 16 (NuM A M):=by
 intro l J Jx W Sk hJ2 UQ Fl hY h0;have HY:=aA hY;clear hY;have Yy:=aA UQ;clear UQ;refine callsIn_of_wp func131 rfl trivial ?_ rfl;simp only[ntmps131,aL,bO,List.length_nil,Nat.reduceAdd,Nat.reduceSub,Array.replicate_succ,Array.replicate_zero,List.push_toArray,List.append_toArray,cB,cC];gi_wp2
 gi_loopw [5] (fun v9 wr=>∃r:Nat,v9=.int .i64 (r:Int)∧r≤4∧J (r*4) wr) (fun v9 _=>4-(intOf v9).toNat)
 case atStart=>exact ⟨0,rfl,by omega,h0⟩
 case round =>
  obtain ⟨r,rfl,SE,hJ⟩:=hrel;by_cases hr:r<4
  ·have r0:(0:Int)≤(r:Int):=by omega
   have r1:(r:Int)<4:=by omega
   gi_wp2
   gi_loopw [8] (fun v15 wx=>∃c:Nat,v15=.int .i64 (c:Int)∧c≤4∧J (r*4+c) wx) (fun v15 _=>4-(intOf v15).toNat)
   case atStart=>exact ⟨0,rfl,by omega,hJ⟩
   case round =>
    obtain ⟨c,rfl,Wo,hJc⟩:=hrel;by_cases hc:c<4
    ·have cA:=Yy.out _ wr hJc
     unfold NuM at cA;obtain ⟨fn,tmps,assign,body,hy,hR⟩:=HY.out (r*4+c) _ (by omega) hJc;simp only[ZZ] at hy;have c0:(0:Int)≤(c:Int):=by omega
     have c1:(c:Int)<4:=by omega
     gi_wp2;refine hR.mono ?_;rintro e W3 (⟨rfl,hJ3⟩|⟨rfl,zX⟩)
     ·gi_wp2
      go_roundw
      case rel=>exact ⟨c+1,by go_num,by omega,hJ3⟩
      case measure=>simp[intOf];omega
     ·gi_wp2
      refine aO (results_none rfl _ _ _) rfl ?_;exact ⟨⟨_,rfl⟩,.inr zX⟩
    ·have hce:c=4:=by omega
     subst hce;have hJ4:J ((r+1)*4) wr:=by rw[show (r+1)*4=r*4+4 from by omega];exact hJc
     have JA:=aA hJ4;clear hJ4;gi_wp2
     go_roundw
     case rel=>exact ⟨r+1,by go_num,by omega,JA.out⟩
     case measure=>simp[intOf];omega
  ·have zR:r=4:=by omega
   subst zR;have HJN:Hid (J 16 wr):=aA hJ;gi_wp2
   go_end0
   exact ⟨⟨_,rfl⟩,.inl HJN.out⟩
end Fx
namespace Fx
open Go Go.RowKit
open Pk (PR fW Bs)
def eP {κ:Type}(lost:Bool)(P:pO κ)(l:List Nat)(a:Nat):Option (κ×Nat):=if lost=true then none else P l a
def OP {α:Type}(t tS:TypeId)(El:α→World→Prop):Prop:=∀z W X,El z W→(∀u,u≠t→u≠144→u≠tS→Rows u W X)→El z X
structure CF {α:Type}(t tS:TypeId)(n:Nat)(f:α→List Value)(El:α→World→Prop)(o:Option Addr)(c:Nat)(l:List Nat)(p a:Nat)(lost:Bool)(v:Value)(zs:List α)(w W:World):Prop where
 box:W.heap[w.heap.size]?=some (.cells #[.pointer (some ⟨p,0,none⟩)] 90 (0,0))
 res:W.heap[w.heap.size+1]?=some (.cells #[v] tS (0,0))
 rd:PR o c l p a lost W
 own:fK t n f W (w.heap.size+2) v zs
 el:∀z∈zs,El z W
 grow:w.grownBy W (some p)
section
variable {α:Type} {t tS:TypeId} {n:Nat} {f:α→List Value} {El:α→World→Prop} {o:Option Addr} {c:Nat} {l:List Nat} {p a:Nat} {lost:Bool} {v:Value} {zs:List α} {w W:World}
theorem CF.facts (s:CF t tS n f El o c l p a lost v zs w W) :
  W.cell? ⟨w.heap.size,0,none⟩=some (.pointer (some ⟨p,0,none⟩))∧W.cell? ⟨w.heap.size+1,0,none⟩=some v∧W.frozen? ⟨w.heap.size+1,0,none⟩=false :=
 ⟨(aD _ _ 0 _ _ _ s.box).trans rfl,(aD _ _ 0 _ _ _ s.res).trans rfl,dJ s.res⟩
theorem CF.lt (s:CF t tS n f El o c l p a lost v zs w W):w.heap.size+2≤W.heap.size:=by
 have:=(aC.1 s.res).1;omega
theorem CF.read {a2:Nat}{fX:Bool}{X:World}(vR:OP t tS El)(ht:t≠144)(s:CF t tS n f El o c l p a lost v zs w W)(hp:p<w.heap.size)(hr:PR o c l p a2 fX X)(hg:W.grownBy X (some p)):CF t tS n f El o c l p a2 fX v zs w X:=by
 refine ⟨?_,?_,hr,s.own.grown hg (fun k hk e=>?_),fun z hz=>vR z W X (s.el z hz) (fun u _ hu _=>Rows.iL hg (fun k hk=>by cases hk;exact ⟨_,s.rd.row⟩) hu),s.grow.trans hg⟩
 ·rw[hg.block _ (aC.1 s.box).1 (fun e=>by have:=bK e;omega)]
  exact s.box
 ·rw[hg.block _ (aC.1 s.res).1 (fun e=>by have:=bK e;omega)]
  exact s.res
 ·cases hk
  obtain ⟨cur,hc⟩:=s.own.row p e;rw[s.rd.row] at hc
  cases hc;exact ht rfl
theorem CF.up {X:World}(vR:OP t tS El)(s:CF t tS n f El o c l p a lost v zs w W)(hb:Below W.heap.size W X):CF t tS n f El o c l p a lost v zs w X :=
 ⟨dL hb s.box,dL hb s.res,s.rd.below hb,s.own.below hb,fun z hz=>vR z W X (s.el z hz) (fun u _ _ _=>Rows.of_below hb),s.grow.trans (Pk.below_grown hb (some p))⟩
theorem TE (W:World)(b j:Nat)(v:Value):W.grownBy (W.setCell ⟨b,j,none⟩ v) (some b) :=
 ⟨rfl,rfl,rfl,by simp,fun k _ hk=>aK _ _ _ _ (by intro e;exact hk (by rw[show k=b from e]))⟩
theorem CF.app {v':Value}{zs':List α}{X:World}(vR:OP t tS El)(Ry:t≠tS)(s:CF t tS n f El o c l p a lost v zs w W)(hp:p<w.heap.size)(iE:∀b off,o=some ⟨b,off,none⟩→0<l.length→b<w.heap.size)(ho:fK t n f X (w.heap.size+2) v' zs')(hg:W.grownBy X v.ownBlock)(he:∀z∈zs',El z W) :
  X.heap[w.heap.size+1]?=some (.cells #[v] tS (0,0))∧CF t tS n f El o c l p a lost v' zs' w (X.setCell ⟨w.heap.size+1,0,none⟩ v'):=by
 have hv:=s.own.blk;have hres:X.heap[w.heap.size+1]?=some (.cells #[v] tS (0,0)):=by
  rw[hg.block _ (aC.1 s.res).1 (fun e=>by have:=hv _ e.symm;omega)];exact s.res
 have EM:X.heap[w.heap.size]?=some (.cells #[.pointer (some ⟨p,0,none⟩)] 90 (0,0)):=by
  rw[hg.block _ (aC.1 s.box).1 (fun e=>by have:=hv _ e.symm;omega)];exact s.box
 have Sb:PR o c l p a lost X:=s.rd.grown hg (fun e=>by have:=hv _ e.symm;omega) (fun b off e hm h=>by have:=hv b h.symm;have:=iE b off e hm;omega);have hgx:w.grownBy X (some p):=⟨hg.os.trans s.grow.os,hg.tape.trans s.grow.tape,hg.output.trans s.grow.output,bH s.grow.size hg.size,fun q hq Ml=>by
  rw[hg.block q (aP hq s.grow.size) (fun e=>by have:=hv q e.symm;omega)];exact s.grow.block q hq Ml⟩
 have hc:=TE X (w.heap.size+1) 0 v';refine ⟨hres,by rw[aK _ _ _ _ (by show _≠w.heap.size+1;omega)];exact EM,aM _ _ 0 _ _ v' hres,Sb.grown hc (fun e=>by have:=bK e;omega) (fun b off e hm h=>by have:=bK h;have:=iE b off e hm;omega),
  ho.kU (fun e=>by have:=ho.blk _ e;omega),fun z hz=>vR z W _ (he z hz) (fun u h1 _ h3=>(Rows.iL hg (fun k hk=>s.own.row k hk) h1).trans (Rows.lT hres h3)),?_⟩
 exact ⟨hc.os.trans hgx.os,hc.tape.trans hgx.tape,hc.output.trans hgx.output,bH hgx.size hc.size,fun q hq Ml=>by
  rw[hc.block q (aP hq hgx.size) (fun e=>by have:=bK e;omega)];exact hgx.block q hq Ml⟩
theorem CF.strike (vR:OP t tS El)(Ry:t≠tS)(s:CF t tS n f El o c l p a lost v zs w W)(hp:p<w.heap.size)(iE:∀b off,o=some ⟨b,off,none⟩→0<l.length→b<w.heap.size):CF t tS n f El o c l p a lost (.slice none 0 0) [] w (W.setCell ⟨w.heap.size+1,0,none⟩ (.slice none 0 0)) :=
 (s.app (v':=.slice none 0 0) (zs':=[]) vR Ry hp iE (fK.nil _ _ _ _ _) (cG _ _) (fun z hz=>by simp at hz)).2
end
def mD {α κ:Type}(P:pO κ)(key:α→κ)(El:α→World→Prop)(val:α→Value)(o:Option Addr)(c:Nat)(l:List Nat)(p a:Nat)(lost:Bool)(w:World)(e:Ending)(w':World):Prop :=
 w.grownBy w' (some p)∧∃x,e=.returned (val x)∧El x w'∧match eP lost P l a with
  | some (k,b)=>key x=k∧b≤l.length∧PR o c l p b false w'
  | none=>∃b,b≤l.length∧PR o c l p b true w'
structure OZ {α κ:Type}(key:α→κ)(t:TypeId)(n:Nat)(f:α→List Value)(El:α→World→Prop)(o:Option Addr)(c:Nat)(l:List Nat)(p:Nat)(r:Option (List κ×Nat))(w:World)(e:Ending)(w':World):Prop where
 grow:w.grownBy w' (some p)
 no:r=none→e=.returned (.slice none 0 0)∧∃a,a≤l.length∧PR o c l p a true w'
 yes:∀ks a,r=some (ks,a)→(∃v zs,e=.returned v∧fK t n f w' w.heap.size v zs∧(∀z∈zs,El z w')∧zs.map key=ks)∧a≤l.length∧PR o c l p a false w'
theorem zD {most:Nat}{l:List Nat}{a:Nat}{z:Int}{b:Nat}(ha:a≤l.length)(h:pU most l a=some (z,b)):0≤z∧z≤most∧b≤l.length:=by
 unfold pU at h;rw[Option.map_eq_some_iff] at h;obtain ⟨⟨n,j⟩,hr,e⟩:=h;simp only[Prod.mk.injEq] at e;obtain ⟨rfl,rfl⟩:=e;have:=Pk.tI hr;have Wk:(l.drop a).length=l.length-a:=by simp
 omega
theorem kM {lost:Bool}{most:Nat}{l:List Nat}{a:Nat}:(Pk.rz lost (most:Int) (l.drop a)).map (fun q=>((q.1:Int),a+q.2))=eP lost (pU most) l a:=by
 unfold Pk.rz eP pU
 cases lost
 ·have h:¬ ((false=true)∨(most:Int)<0):=by simp
  rw[bF h];simp
 ·simp
end Fx
namespace Fx
open Go Go.RowKit
open Pk (PR fW Bs pR YU YT rq)
theorem QF (o:Option Addr)(c:Nat)(l:List Nat)(p a:Nat)(lost:Bool)(w:World)(k:fW l a)(h:PR o c l p a lost w) :
  Calls prog 80 #[.pointer (some ⟨p,0,none⟩)] w (mD pI (fun z:Int=>z) (fun z _=>Num z) (fun z=>.int .i64 z) o c l p a lost w):=by
 refine (Pk.Ek o c l p a lost w k h).mono ?_;rintro e w' ⟨rfl,hr,hg⟩;have hlt:pR (rq lost 18446744073709551615 (l.drop a))<18446744073709551616:=by have:=Pk.QD (lost:=lost) (most:=18446744073709551615) (s:=l.drop a);omega
 refine ⟨hg,_,rfl,LO hlt,?_⟩;have e1:eP lost pI l a=(rq lost 18446744073709551615 (l.drop a)).map (fun q=>(Pk.GI q.1,a+q.2)):=by
  unfold eP pI rq
  cases lost <;> rfl
 rw[e1]
 cases hq:rq lost 18446744073709551615 (l.drop a) with
 | none =>
  rw[hq] at hr;exact ⟨a,k.at',hr⟩
 | some q =>
  rw[hq] at hr;refine ⟨rfl,?_,hr⟩;unfold rq at hq
  split at hq
  ·cases hq
  ·have:=Pk.tI hq
   have Wk:(l.drop a).length=l.length-a:=by simp
   omega
theorem sI (most:Nat)(hm:most<9223372036854775808)(o:Option Addr)(c:Nat)(l:List Nat)(p a:Nat)(lost:Bool)(w:World)(k:fW l a)(h:PR o c l p a lost w) :
  Calls prog 50 #[.pointer (some ⟨p,0,none⟩),.int .i64 (most:Int)] w (mD (pU most) (fun z:Int=>z) (fun z _=>0≤z∧z≤most) (fun z=>.int .i64 z) o c l p a lost w):=by
 refine (Pk.nJ o c l p a most lost w k (by omega) h).mono ?_;rintro e w' ⟨rfl,hr,hg⟩;have hle:=Pk.ZA (lost:=lost) (most:=(most:Int)) (s:=l.drop a);refine ⟨hg,_,rfl,⟨by omega,by omega⟩,?_⟩;rw[←kM]
 cases hq:Pk.rz lost (most:Int) (l.drop a) with
 | none =>
  rw[hq] at hr;exact ⟨a,k.at',hr⟩
 | some q =>
  rw[hq] at hr;refine ⟨rfl,?_,hr⟩;have:=kM (lost:=lost) (most:=most) (l:=l) (a:=a);rw[hq] at this;simp only[Option.map_some] at this;unfold eP at this
  split at this
  ·cases this
  ·exact (zD k.at' this.symm).2.2
end Fx
namespace Fx
open Go Go.RowKit Go.Shelf
attribute [local go_sem] Oper.semAt_some
theorem zL {l n:Nat}{P:Program}{o:Oper}{a:Act}{w:World}{K:Act→World→Prop}{Q:Exit→Act→World→Prop}(f:FuncId)(args:Array Value)(hrun:(execOp a.eval o).run P w=.ok (.enter f args) w)(c:Callee)(ps:Array Operand)(ts:Array TypeId)(ho:o.op=.call { callee:=c,args:=ps,argTypes:=ts })
  {post:Ending→World→Prop} (hc:Calls P f args w post) (h:∀e w',post e w'→∃v,e=.returned v∧K (a.put o.dst v) w'):Oper.wpIn (Fence.wide.inRound l) n P o a w K Q:=by
 unfold Oper.wpIn;refine ⟨fun f _=>trivial,?_⟩;rw[Oper.semAt_plain _ _ _ (by rw[ho];intro c hc';cases hc'),hrun];refine ⟨fun h=>(by cases h),CallsIn.inRound l (bG.2 (hc.mono ?_))⟩;intro e w' hp;obtain ⟨v,rfl,hk⟩:=h e w' hp;exact hk
structure Hf (p:Nat)(m:List Int)(l:List Nat)(w W:World):Prop where
 box:W.heap[w.heap.size]?=some (.cells #[.pointer (some ⟨p,0,none⟩)] 75 (0,0))
 GJ:W.heap[w.heap.size+1]?=some (.cells (mC m) 25 (0,0))
 it:W.heap[w.heap.size+1+1]?=some (.cells #[.pointer (some ⟨w.heap.size+1,0,none⟩)] 158 (0,0))
 wr:wQ p l W
 fr:tD p w W
theorem Hf.kept {p:Nat}{m:List Int}{l:List Nat}{B:Nat}{w W X:World}(hB:w.heap.size≤B)(hp:p≤w.heap.size)(k:Kept B W X)(i:Hf p m l w W):Hf p m l w X :=
 ⟨k.cells i.box,k.cells i.GJ,k.cells i.it,i.wr.kept k,i.fr.kept hB hp k⟩
theorem Hf.step {p:Nat}{m:List Int}{l l':List Nat}{w W X:World}(i:Hf p m l w W)(h:wQ p l' X)(hf:tD p W X):Hf p m l' w X:=by
 obtain ⟨cs,hr⟩:=i.wr.row;exact ⟨hf.rows (by decide) hr (by decide) _ _ i.box,hf.rows (by decide) hr (by decide) _ _ i.GJ,hf.rows (by decide) hr (by decide) _ _ i.it,h,i.fr.trans hf⟩
theorem Ac {m:List Int}{k:Nat}(hk:k<m.length):(mC m)[k]?=some (.int .i64 (m.getD k 0)):=by
 simp[mC,hk,encI]
theorem Hf.num {p:Nat}{m:List Int}{l:List Nat}{w W:World}(i:Hf p m l w W){k:Nat}(hk:k<m.length):W.cell? ⟨w.heap.size+1,k,none⟩=some (.int .i64 (m.getD k 0)):=by
 rw[aD _ _ _ _ _ _ i.GJ];exact Ac hk
def PmI (p:Nat)(m:List Int)(l:List Nat)(w:World)(k:Nat)(W:World):Prop:=Hf p m (l++eW (m.take k)) w W
def PmA (p:Nat)(m:List Int)(w:World)(k:Nat)(a:Act):Prop :=
 a={ tmps:=#[.pointer (some ⟨p,0,none⟩),.agg (mC m),.pointer (some ⟨w.heap.size,0,none⟩),.pointer (some ⟨w.heap.size+1,0,none⟩),.pointer (some ⟨w.heap.size+1,k,none⟩),.func (.func 131) #[] #[.pointer (some ⟨w.heap.size+1+1,0,none⟩)],.pointer (some ⟨w.heap.size+1,k,none⟩),undef,undef,undef,undef,undef],defers:=[] }
theorem gA (m:List Int):(eW m).length≤11*m.length:=by
 unfold eW
 induction m with
 | nil=>simp
 | cons a t ih =>
  rw[List.flatMap_cons,aI,bO];have : (fI a).length≤11:=(Pk.gP _).2;omega
theorem FD {m:List Int}{k:Nat}(hk:k<m.length):eW (m.take (k+1))=eW (m.take k)++fI (m.getD k 0):=by
 unfold eW;rw[bX,List.flatMap_append,aF hk];simp[hk]
theorem KA (p:Nat)(m:List Int)(l:List Nat)(w:World)(hm:xS 16 m)(hl:l.length≤90000000)(h:wQ p l w):Calls prog 62 #[.pointer (some ⟨p,0,none⟩),.agg (mC m)] w (mM p (l++eW m) w):=by
 have hlt:=h.lt;obtain ⟨W1,hW1⟩:∃V,(w.alloc (.cells #[.pointer (some ⟨p,0,none⟩)] 75)).alloc (.cells (mC m) 25)=V:=⟨_,rfl⟩;obtain ⟨W0,hW0⟩:∃V,W1.alloc (.cells #[.pointer (some ⟨w.heap.size+1,0,none⟩)] 158)=V:=⟨_,rfl⟩;have z1:W1.heap.size=w.heap.size+1+1:=by rw[←hW1];simp
 have b1:Below w.heap.size w W1:=by rw[←hW1];exact ((aJ _ w).alloc (aB _) _).alloc (by simp) _
 have b0:Below W1.heap.size W1 W0:=by rw[←hW0];exact (aJ _ W1).alloc (aB _) _
 have F0:Hf p m l w W0:=by
  have hb:=dN b1 b0;refine ⟨dL b0 ?_,dL b0 ?_,?_,h.below hb,tD.of_below hb (by omega)⟩
  ·rw[←hW1];exact dM (aG _ _)
  ·rw[←hW1]
   have:=aG (w.alloc (.cells #[.pointer (some ⟨p,0,none⟩)] 75)) (.cells (mC m) 25);rw[aR] at this;exact this
  ·rw[←hW0,←z1]
   exact aG W1 _
 have Hr:Hid (PmI p m l w 0 W0):=aA (by unfold PmI;rw[List.take_zero];simpa[eW] using F0);have wO:Hid (W0.heap.size=w.heap.size+1+1+1):=aA (by rw[←hW0,aR,z1]);have wS:=aA z1;have xY:=aA hW1;have HW0:=aA hW0;have HM:=aA hm;have HLL:=aA hl;have HP:=aA hlt;clear F0 b0 b1 z1 hW0 hW1 hm hl hlt h;refine (bG (n:=5)).1 ?_;refine callsIn_of_wp_marks func62 rfl trivial ?_ rfl;simp only[ntmps62,aL,bO,List.length_nil,Nat.reduceAdd,Nat.reduceSub,Array.replicate_succ,Array.replicate_zero,List.push_toArray,List.append_toArray,cB,cC];refine bN.2 ?_;go_wp2_with (rw[xY.out])
 refine (Lf _ _).mono ?_;rintro e w' ⟨rfl,rfl⟩;rw[wS.out,HW0.out];go_wp2_with fail;refine bN.1 (gJ (F:=Fence.wide) (n:=5) rfl (by omega) (gf:=131) (lb:=#[.pointer (some ⟨w.heap.size+1+1,0,none⟩)]) rfl trivial (enters_of func131 (by kernel_rfl) rfl)
  (DY (w.heap.size+1+1) (w.heap.size+1)) (fun _=>rfl) .ret (PmI p m l w) (fun _=>False) (fun j a' W=>PmA p m w j a'∧PmI p m l w j W)
  ?i1 ?i2 ?i3 ?i4 ?i5 Hr.out ?assign ?body ?done ?stop)
 case i1=>rintro j W X h1 hk;exact Hf.kept (by have:=wO.out;omega) (by have:=HP.out;omega) hk h1
 case i2=>rintro W X h;exact h.elim
 case i3=>rintro j a W X ⟨h0,h1⟩ hk;exact ⟨h0,Hf.kept (by have:=wO.out;omega) (by have:=HP.out;omega) hk h1⟩
 case i4=>rintro j W h1;unfold NuM;rw[aD _ _ _ _ _ _ (Hf.it h1)];rfl
 case i5=>rintro W h;exact h.elim
 case assign =>
  intro l1 j W C hk hI hC;simp only[ZZ];gi_wp2;exact hC _ _ (KeepsFrom.refl _ _) ⟨rfl,hI⟩
 case body =>
  rintro l1 j a' W hk ⟨ha,fs⟩;unfold PmA at ha;subst ha;unfold PmI at fs;have iw:j<m.length:=by rw[HM.out.1];exact hk
  have c0:W.cell? ⟨w.heap.size,0,none⟩=some (.pointer (some ⟨p,0,none⟩)):=by rw[aD _ _ _ _ _ _ fs.box];rfl
  have c1:=fs.num iw;have ou:=aA (FD iw);have hzn:Num (m.getD j 0):=HM.out.2 _ (by rw[aS,aF iw];exact List.getElem_mem iw);have hll:(l++eW (m.take j)).length≤100000000:=by
   have:=gA (m.take j);have h2:=HLL.out;have h3:(m.take j).length≤16:=by rw[bT,HM.out.1];omega
   rw[aI];omega
  generalize m.getD j 0=z at c1 hzn ou;have HI:Hid (∀X,wQ p (l++eW (m.take j)) X→Calls prog 103 #[.pointer (some ⟨p,0,none⟩),.int .i64 z] X (mM p (l++eW (m.take j)++fI z) X)):=aA (fun X hX=>PP p z _ X hzn hll hX);have HS:=aA fs;clear fs hzn hll hk iw;gi_wp2;refine iN (S:=fun X=>X.cell? ⟨w.heap.size,0,none⟩=some (.pointer (some ⟨p,0,none⟩))∧X.cell? ⟨w.heap.size+1,j,none⟩=some (.int .i64 z)) (Z:=[4]) (by kernel_rfl) ?_;refine eG (fun _=>trivial) [4] 0 (.pointer (some ⟨p,0,none⟩)) (by kernel_rfl) rfl (by kernel_rfl) (fun _ _ _ h=>h) ⟨c0,c1⟩ (by kernel_rfl) ?_ ?_
  ·intro wz hSw;obtain ⟨q1,q2⟩:=hSw;(first|(go_simp;done)|(go_simp;with_reducible rfl))
  try simp only[aQ]
  refine eG (fun _=>trivial) [2,3,4] 1 (?_) (by kernel_rfl) rfl (by kernel_rfl) (fun _ _ _ h=>h) ⟨c0,c1⟩ (by kernel_rfl) ?_ ?_;rotate_left
  ·intro wz hSw;first|(go_simp;done)|(go_simp;with_reducible rfl)
  try simp only[aQ]
  refine eG (fun _=>trivial) [3,4] 2 (?_) (by kernel_rfl) rfl (by kernel_rfl) (fun _ _ _ h=>h) ⟨c0,c1⟩ (by kernel_rfl) ?_ ?_;rotate_left
  ·intro wz hSw;first|(go_simp;done)|(go_simp;with_reducible rfl)
  try simp only[aQ]
  refine eG (fun _=>trivial) [4] 3 (.int .i64 z) (by kernel_rfl) rfl (by kernel_rfl) (fun _ _ _ h=>h) ⟨c0,c1⟩ (by kernel_rfl) ?_ ?_
  ·intro wz hSw;obtain ⟨q1,q2⟩:=hSw;(first|(go_simp;done)|(go_simp;with_reducible rfl))
  try simp only[aQ]
  refine gF (fun _=>trivial) 4 (by kernel_rfl) rfl (fun K hK=>?_);rw[aZ (by kernel_rfl)];have hD:Below W.heap.size W W.drew:=eM _ W 1;refine zL 103 #[.pointer (some ⟨p,0,none⟩),.int .i64 z] (by first|(go_simp;done)|(go_simp;with_reducible rfl)) _ _ _ rfl (HI.out _ (HS.out.wr.below hD)) (fun e w2 hp=>?_);obtain ⟨rfl,hw2,hf2⟩:=hp;have hf3:=(tD.of_below hD (by have:=HS.out.wr.lt;omega)).trans hf2;have Cp:=aA (HS.out.step hw2 hf3);have Ip:Hid (KeepsFrom W0.heap.size W w2):=aA (by obtain ⟨cs,hr⟩:=HS.out.wr.row;exact (hf3.keeps hr).from _);refine ⟨_,rfl,hK.out _ _ (fun h=>by cases h) ?_⟩;clear hK K hD hw2 hf2 hf3;try simp only[aQ]
  refine jW (by kernel_rfl) ?_ _;clear c0 c1;gi_wp2;exact ⟨Ip.out,by unfold PmI;rw[ou.out,←bM];exact Cp.out⟩
 case done =>
  rintro D W hD fs iF;unfold PmI at fs;rw[bB (by rw[HM.out.1];omega)] at fs;have hk:Kept w.heap.size W (W.putObj D (.deferred none)):=Kept.putObj _ (by have:=wO.out;omega) iF rfl;have HE:Hid (mM p (l++eW m) w (.returned undef) (W.putObj D (.deferred none))):=aA ⟨rfl,fs.wr.kept hk,fs.fr.kept (aB _) (by have:=HP.out;omega) hk⟩;have Hs:=aA iF;clear fs hD iF hk;go_wp2_with fail;refine ⟨by simp,.inl ⟨_,_,rfl,run_takeDeferred Hs.out,?_⟩⟩;exact ⟨_,results_none rfl _ _ _,HE.out⟩
 case stop =>
  rintro D W hD h iF;exact h.elim
end Fx
namespace Fx
open Go Go.RowKit
structure UU (p:Nat)(x:eE)(l:List Nat)(w W:World):Prop where
 box:W.heap[w.heap.size]?=some (.cells (dP x).toArray 73 (0,0))
 wr:wQ p l W
 fr:tD p w W
theorem UU.step {p:Nat}{x:eE}{l l':List Nat}{w W X:World}(i:UU p x l w W)(h:wQ p l' X)(hf:tD p W X):UU p x l' w X:=by
 obtain ⟨cs,hr⟩:=i.wr.row;exact ⟨hf.rows (by decide) hr (by decide) _ _ i.box,h,i.fr.trans hf⟩
theorem UU.up {p:Nat}{x:eE}{l:List Nat}{w W X:World}(i:UU p x l w W)(hb:Below W.heap.size W X):UU p x l w X :=
 i.step (i.wr.below hb) (tD.of_below hb (by have:=i.wr.lt;omega))
theorem UU.at {p j:Nat}{x:eE}{l:List Nat}{w W:World}(i:UU p x l w W):W.cell? ⟨w.heap.size,j,none⟩=(dP x)[j]?:=by
 rw[aD _ _ _ _ _ _ i.box];simp
def PvRel (p:Nat)(x:eE)(l:List Nat)(w:World)(n g:Nat)(s5 s7 s26 s31:Value)(W:World):Prop :=
 ∃k:Nat,g=n-k∧s26=.int .i64 (k:Int)∧k≤n∧UU p x (l++(x.vs.take k).flatMap eW) w W
def PtRel (p:Nat)(x:eE)(l:List Nat)(w:World)(n g:Nat)(s9 s47:Value)(W:World):Prop :=
 ∃k:Nat,g=n-k∧s47=.int .i64 (k:Int)∧k≤n∧UU p x (l++(x.ts.take k).flatMap pA) w W
def PnRel (p:Nat)(x:eE)(v:List Int)(l:List Nat)(w:World)(g:Nat)(s7 s31:Value)(W:World):Prop :=
 ∃k:Nat,g=3-k∧s31=.int .i64 (k:Int)∧k≤3∧UU p x (l++eW (v.take k)) w W
theorem KP {α:Type}{f:α→List Nat}{L:List α}{k:Nat}{x:α}(hx:L[k]?=some x):(L.take (k+1)).flatMap f=(L.take k).flatMap f++f x:=by
 rw[bX,hx,List.flatMap_append];simp
theorem jQ {α:Type}{f:α→List Nat}{c:Nat}(L:List α)(h:∀x∈L,(f x).length≤c):(L.flatMap f).length≤L.length*c:=by
 induction L with
 | nil=>simp
 | cons a t ih =>
  rw[List.flatMap_cons,aI,bO,Nat.add_mul];have:=h a (by simp);have:=ih (fun x hx=>h x (by simp[hx]));omega
theorem eT (z:Int):(fU z).length≤11:=(Pk.gP _).2
theorem EZ (t:gB):(pA t).length≤44:=by
 unfold pA;simp only[aI];have:=eT t.a;have:=eT t.b;have:=eT t.c;have:=eT t.col;omega
theorem Ub (x0 x1 x2:Int)(c:Nat)(h:c<3)(w:World):(Instr.index 85 (.agg #[.int .i64 x0,.int .i64 x1,.int .i64 x2]) (.int .i64 (c:Int))).run prog w=.ok (.int .i64 ([x0,x1,x2].getD c 0)) w:=by
 have hd:c=0∨c=1∨c=2:=by omega
 rcases hd with rfl|rfl|rfl <;> (show _=_;kernel_rfl)
theorem Eo (p:Nat)(x:eE)(l:List Nat)(w:World)(hx:jY x)(hd:XS (eX x))(hl:l.length≤50000000)(hda:∀X,Below p w X→fH X x.vo x.vs∧gM X x.tq x.ts)(h:wQ p l w) :
  Calls prog 63 #[.pointer (some ⟨p,0,none⟩),.agg (dP x).toArray] w (mM p (l++lZ (eX x)) w):=by
 have hlt:=h.lt;obtain ⟨V0,jR⟩:∃V,w.alloc (.cells (dP x).toArray 73)=V:=⟨_,rfl⟩;have hb0:Below w.heap.size w V0:=by rw[←jR];exact (aJ _ w).alloc (aB _) _
 have hI:UU p x l w V0:=⟨by rw[←jR];exact aG _ _,h.below hb0,tD.of_below hb0 (by omega)⟩;have HI:=aA hI;have oJ:=aA jR;have HD:=aA hd;have HL:=aA hl;have HDA:=aA (fun X (i:tD p w X)=>hda X i.below);have hism:=aA (VR hx);have d0:V0.cell? ⟨w.heap.size,0,none⟩=some (.int .i64 x.id):=hI.at.trans (uW x);obtain ⟨n,hn⟩:∃n,x.vs.length=n:=⟨_,rfl⟩;obtain ⟨n2,nS⟩:∃n,x.ts.length=n:=⟨_,rfl⟩;have HN:=aA hn;have wT:=aA nS;obtain ⟨vo,av⟩:∃o,x.vo=o:=⟨_,rfl⟩;obtain ⟨tq,htq⟩:∃o,x.tq=o:=⟨_,rfl⟩;have HVO:=aA av;have HTQ:=aA htq;have XB:n≤64:=by have h:=hd.2.2.1.1;unfold eX at h;simp only at h;omega
 have hn264:n2≤64:=by have h:=hd.2.2.2.1;unfold eX at h;simp only at h;omega
 have C17:=aA (fun (W:World) (l':List Nat) (i:UU p x l' w W)=>show W.cell? ⟨w.heap.size,17,none⟩=some (.slice vo n x.vc) by rw[i.at,nB hx,hn,av]);have su:=aA (fun (W:World) (l':List Nat) (i:UU p x l' w W)=>show W.cell? ⟨w.heap.size,18,none⟩=some (.slice tq n2 x.tc) by rw[i.at,nC hx,nS,htq]);have n0:(0:Int)≤(n:Int):=by omega
 have n1:(n:Int)≤64:=by omega
 have m0:(0:Int)≤(n2:Int):=by omega
 have m1:(n2:Int)≤64:=by omega
 have yT:=aA (iR p x.id 65535 l V0 hd.1.1 hd.1.2 (by omega) (by omega) hI.wr);clear hI jR hb0 hx hd hda h hlt hn nS av htq;go_enter func63,ntmps63;go_wp2_with (rw[oJ.out])
 refine yT.out.mono ?_;rintro e w1 ⟨rfl,hw,hf⟩;have nX:=aA (HI.out.step hw hf);have ig:=aA (show w1.rangeAt w.heap.size 1 (x.m.map encI) from fun j v hj=>nX.out.at.trans (DX hj));have HPM:=aA (KA p x.m (l++fU x.id) w1 HD.out.2.1 (by have:=eT x.id;have:=HL.out;rw[aI];omega) hw);clear hw hf HI yT d0 oJ;go_wp2_with (with_reducible refine dQ (some 16) rfl ?_;refine aA ?_;refine wpList_load_mid rfl 25 (.tmp 15) rfl w.heap.size 1 rfl (x.m.map encI) _ ig.out aU rfl hism.out ?_)
 refine HPM.out.mono ?_;rintro e w2 ⟨rfl,hw,hf⟩;have jP:=aA (nX.out.step hw hf);clear hw hf nX HPM ig;have hl2:(l++fU x.id++eW x.m).length≤50001000:=by
  have:=eT x.id;have:=gA x.m;have h3:x.m.length=16:=HD.out.2.1.1;have:=HL.out;simp only[aI];omega
 obtain ⟨l2,XD⟩:∃L,l++fU x.id++eW x.m=L:=⟨_,rfl⟩;rw[XD] at jP hl2;have HL2E:=aA XD;have Cp:=aA (iR p (n:Int) 64 l2 w2 n0 n1 (by omega) (by omega) jP.out.wr);have Hn:=aA hl2;have c17:=C17.out w2 _ jP.out;clear XD hl2;go_wp2_with fail;refine Cp.out.mono ?_;rintro e w3 ⟨rfl,hw,hf⟩;have qB:=aA (jP.out.step hw hf);clear hw hf jP Cp c17;have c17:=C17.out w3 _ qB.out;obtain ⟨l3,NG⟩:∃L,l2++fU (n:Int)=L:=⟨_,rfl⟩;rw[NG] at qB;have HL3E:=aA NG;have HL3:Hid (l3.length≤50001100):=aA (by rw[←NG,aI];have:=eT (n:Int);have:=Hn.out;omega);clear NG;go_wp2_with fail;go_loopg[5,7,26,31] n (PvRel p x l3 w n)
 case atStart=>exact ⟨0,rfl,rfl,by omega,by simpa using qB.out⟩
 case round =>
  clear qB c17;obtain ⟨k,hg,rfl,hk,hi⟩:=hrel;subst hg;have HK:=aA hi;have k0:(0:Int)≤(k:Int):=by omega
  by_cases pK:k<n
  ·have t1:(k:Int)<(n:Int):=by omega
   obtain ⟨v,hv⟩:∃v,x.vs[k]?=some v:=⟨_,aF (by rw[HN.out];exact pK)⟩;obtain ⟨b,off,e,hr,tB⟩:=(HDA.out wr hi.fr).1 k v hv;rw[HVO.out] at e;subst e;have ou:=aA (KP (f:=eW) hv);have hvd:xS 3 v:=HD.out.2.2.1.2 v (aX hv);obtain ⟨z0,z1,z2,hz⟩:∃z0 z1 z2,v=[z0,z1,z2]:=by
    match v,tB.len with
    | [a,b,c],_=>exact ⟨a,b,c,rfl⟩
   subst hz;have hvd2:=aA hvd.2;have q0:wr.cell? ⟨b,off+k*3,none⟩=some (.int .i64 z0):=hr 0 _ rfl;have q1:wr.cell? ⟨b,off+k*3+1,none⟩=some (.int .i64 z1):=hr 1 _ rfl;have q2:wr.cell? ⟨b,off+k*3+2,none⟩=some (.int .i64 z2):=hr 2 _ rfl;have hlk:(l3++(x.vs.take k).flatMap eW).length≤50010000:=by
    have h1:=jQ (f:=eW) (c:=33) (x.vs.take k) (fun y hy=>by
     have:=gA y;have h3:y.length=3:=(HD.out.2.2.1.2 y (cI hy)).1;omega)
    have h2:(x.vs.take k).length≤64:=by rw[bT,HN.out];omega
    have:=HL3.out;rw[aI];omega
   obtain ⟨l4,hl4⟩:∃L,l3++(x.vs.take k).flatMap eW=L:=⟨_,rfl⟩;rw[hl4] at hlk HK;have HL4:=aA hlk;have HL4E:=aA hl4;obtain ⟨V1,hV1⟩:∃V,wr.alloc (.cells #[.int .i64 z0,.int .i64 z1,.int .i64 z2] 85)=V:=⟨_,rfl⟩;have hb1:Below wr.heap.size wr V1:=by rw[←hV1];exact (aJ _ _).alloc (aB _) _
   have hrt:V1.heap[wr.heap.size]?=some (.cells #[.int .i64 z0,.int .i64 z1,.int .i64 z2] 85 (0,0)):=by rw[←hV1];exact aG _ _
   have u0:V1.cell? ⟨wr.heap.size,0,none⟩=some (.int .i64 z0):=by rw[aD _ _ _ _ _ _ hrt];rfl
   have u1:V1.cell? ⟨wr.heap.size,1,none⟩=some (.int .i64 z1):=by rw[aD _ _ _ _ _ _ hrt];rfl
   have u2:V1.cell? ⟨wr.heap.size,2,none⟩=some (.int .i64 z2):=by rw[aD _ _ _ _ _ _ hrt];rfl
   have YL:=aA (HK.out.up hb1);have vF:=aA hV1;clear hrt hi hv hr tB hvd hlk hl4 hV1 hb1;go_wp2_with (rw[vF.out])
   clear q0 q1 q2 u0 u1 u2;clear vF;go_loopg[7,31] 3 (PnRel p x [z0,z1,z2] l4 w)
   case atStart=>exact ⟨0,rfl,rfl,by omega,by simpa[eW] using YL.out⟩
   case round =>
    clear HK YL;obtain ⟨j,hg,rfl,hj,hi⟩:=hrel;subst hg;have HJ:=aA hi;have j0:(0:Int)≤(j:Int):=by omega
    by_cases hj3:j<3
    ·have t2:(j:Int)<3:=by omega
     have Au:=Ub z0 z1 z2 j hj3;obtain ⟨z,hz⟩:∃z,[z0,z1,z2].getD j 0=z:=⟨_,rfl⟩;have hzn:Num z:=by
      rw[←hz];obtain rfl|rfl|rfl:j=0∨j=1∨j=2:=by omega
      ·exact hvd2.out z0 (by simp)
      ·exact hvd2.out z1 (by simp)
      ·exact hvd2.out z2 (by simp)
     have HSJ:=aA (FD (m:=[z0,z1,z2]) (k:=j) hj3);rw[hz] at HSJ;rw[hz] at Au;have hlj:(l4++eW ([z0,z1,z2].take j)).length≤100000000:=by
      have h1:=gA ([z0,z1,z2].take j);have h2:([z0,z1,z2].take j).length≤3:=by rw[bT];omega
      have:=HL4.out;rw[aI];omega
     have qp:=aA (PP p z _ wr hzn hlj hi.wr);clear hz hzn hlj hi;go_wp2_with fail;refine qp.out.mono ?_;rintro e w4 ⟨rfl,hw,hf⟩;have YM:=aA (HJ.out.step hw hf);clear hw hf qp HJ Au;go_wp2_with fail;go_roundg (3-(j+1))
     case measure=>omega
     case rel=>exact ⟨j+1,rfl,by go_num,by omega,by rw[HSJ.out,←bM];exact YM.out⟩
    ·obtain rfl:j=3:=by omega
     have HE:Hid (UU p x (l3++(x.vs.take (k+1)).flatMap eW) w wr):=aA (by rw[ou.out,←bM,HL4E.out];exact hi);clear hi HJ;go_wp2_with fail;go_roundg (n-(k+1))
     case measure=>omega
     case rel=>exact ⟨k+1,rfl,by go_num,by omega,HE.out⟩
  ·obtain rfl:k=n:=by omega
   have t1:¬ (k:Int)<(k:Int):=by omega
   rw[bB (by rw[HN.out];omega)] at hi;obtain ⟨l5,hl5⟩:∃L,l3++x.vs.flatMap eW=L:=⟨_,rfl⟩;rw[hl5] at hi;have HL5E:=aA hl5;have hl5n:l5.length≤50010000:=by
    have h1:=jQ (f:=eW) (c:=33) x.vs (fun y hy=>by
     have:=gA y;have h3:y.length=3:=(HD.out.2.2.1.2 y hy).1;omega)
    have:=HL3.out;rw[HN.out] at h1;rw[←hl5,aI];omega
   have HL5:=aA hl5n;have Hp:=aA hi;have c18:=su.out wr _ hi;have HS5:=aA (iR p (n2:Int) 64 l5 wr m0 m1 (by omega) (by omega) hi.wr);clear hi hl5 hl5n HK;go_wp2_with fail;refine HS5.out.mono ?_;rintro e w6 ⟨rfl,hw,hf⟩;have YO:=aA (Hp.out.step hw hf);clear hw hf Hp HS5 c18;have c18:=su.out w6 _ YO.out;obtain ⟨l6,Wd⟩:∃L,l5++fU (n2:Int)=L:=⟨_,rfl⟩;rw[Wd] at YO;have HL6E:=aA Wd;have HL6:Hid (l6.length≤50010100):=aA (by rw[←Wd,aI];have:=eT (n2:Int);have:=HL5.out;omega);clear Wd;go_wp2_with fail;go_loopg[9,47] n2 (PtRel p x l6 w n2)
   case atStart=>exact ⟨0,rfl,rfl,by omega,by simpa using YO.out⟩
   case round =>
    clear YO c18;obtain ⟨i,hg,rfl,hi,hpo⟩:=hrel;subst hg;have HK:=aA hpo;have i0:(0:Int)≤(i:Int):=by omega
    by_cases sB:i<n2
    ·have t2:(i:Int)<(n2:Int):=by omega
     obtain ⟨t,ht⟩:∃t,x.ts[i]?=some t:=⟨_,aF (by rw[wT.out];exact sB)⟩;obtain ⟨b,off,e,hr,GK⟩:=(HDA.out wr hpo.fr).2 i t ht;have ou:=aA (KP (f:=pA) ht);have Sy:Hid (Gk t):=aA (HD.out.2.2.2.2 t (aX ht));rw[HTQ.out] at e;subst e;have q0:wr.cell? ⟨b,off+i*4,none⟩=some (.int .i64 t.a):=hr 0 _ rfl;have q1:wr.cell? ⟨b,off+i*4+1,none⟩=some (.int .i64 t.b):=hr 1 _ rfl;have q2:wr.cell? ⟨b,off+i*4+2,none⟩=some (.int .i64 t.c):=hr 2 _ rfl;have q3:wr.cell? ⟨b,off+i*4+3,none⟩=some (.int .u32 t.col):=hr 3 _ rfl;have hlk:(l6++(x.ts.take i).flatMap pA).length≤50020000:=by
      have h1:=jQ (f:=pA) (c:=44) (x.ts.take i) (fun y hy=>EZ y);have h2:(x.ts.take i).length≤64:=by rw[bT,wT.out];omega
      have:=HL6.out;rw[aI];omega
     obtain ⟨l7,hl7⟩:∃L,l6++(x.ts.take i).flatMap pA=L:=⟨_,rfl⟩;rw[hl7] at hlk HK;have HL7:=aA hlk;have HL7E:=aA hl7;obtain ⟨V1,hV1⟩:∃V,wr.alloc (.cells #[.int .i64 t.a,.int .i64 t.b,.int .i64 t.c,.int .u32 t.col] 87)=V:=⟨_,rfl⟩;have hb1:Below wr.heap.size wr V1:=by rw[←hV1];exact (aJ _ _).alloc (aB _) _
     have Yq:Hid (V1.heap[wr.heap.size]?=some (.cells #[.int .i64 t.a,.int .i64 t.b,.int .i64 t.c,.int .u32 t.col] 87 (0,0))):=aA (by rw[←hV1];exact aG _ _);have YL:=aA (HK.out.up hb1);have vF:=aA hV1;have u0:V1.cell? ⟨wr.heap.size,0,none⟩=some (.int .i64 t.a):=by rw[aD _ _ _ _ _ _ Yq.out];rfl
     have pH:=aA (iR p t.a 63 l7 V1 Sy.out.1.1 Sy.out.1.2 (by omega) (by omega) YL.out.wr);clear hpo ht hr GK hlk hl7 hV1 hb1 HK;go_wp2_with (rw[vF.out])
     clear q0 q1 q2 q3 vF;obtain ⟨bt,hbt⟩:∃b,wr.heap.size=b:=⟨_,rfl⟩;rw[hbt] at Yq u0 ⊢;clear hbt;refine pH.out.mono ?_;rintro e w7 ⟨rfl,hw,hf⟩;have qo:=aA (YL.out.step hw hf);have HRT2:Hid (w7.heap[bt]?=some (.cells #[.int .i64 t.a,.int .i64 t.b,.int .i64 t.c,.int .u32 t.col] 87 (0,0))):=aA (by obtain ⟨cs,vN⟩:=YL.out.wr.row;exact hf.rows (by decide) vN (by decide) _ _ Yq.out);have u1:w7.cell? ⟨bt,1,none⟩=some (.int .i64 t.b):=by rw[aD _ _ _ _ _ _ HRT2.out];rfl
     have rW:=aA (iR p t.b 63 (l7++fU t.a) w7 Sy.out.2.1.1 Sy.out.2.1.2 (by omega) (by rw[aI];have:=eT t.a;have:=HL7.out;omega) hw);clear hw hf YL Yq pH u0;go_wp2_with fail;refine rW.out.mono ?_;rintro e w8 ⟨rfl,hw,hf⟩;have HK3:=aA (qo.out.step hw hf);have HRT3:Hid (w8.heap[bt]?=some (.cells #[.int .i64 t.a,.int .i64 t.b,.int .i64 t.c,.int .u32 t.col] 87 (0,0))):=aA (by obtain ⟨cs,vN⟩:=qo.out.wr.row;exact hf.rows (by decide) vN (by decide) _ _ HRT2.out);have u2:w8.cell? ⟨bt,2,none⟩=some (.int .i64 t.c):=by rw[aD _ _ _ _ _ _ HRT3.out];rfl
     have qT:=aA (iR p t.c 63 (l7++fU t.a++fU t.b) w8 Sy.out.2.2.1.1 Sy.out.2.2.1.2 (by omega) (by simp only[aI];have:=eT t.a;have:=eT t.b;have:=HL7.out;omega) hw);clear hw hf qo HRT2 rW u1;go_wp2_with fail;refine qT.out.mono ?_;rintro e w9 ⟨rfl,hw,hf⟩;have HK4:=aA (HK3.out.step hw hf);have HRT4:Hid (w9.heap[bt]?=some (.cells #[.int .i64 t.a,.int .i64 t.b,.int .i64 t.c,.int .u32 t.col] 87 (0,0))):=aA (by obtain ⟨cs,vN⟩:=HK3.out.wr.row;exact hf.rows (by decide) vN (by decide) _ _ HRT3.out);have u3:w9.cell? ⟨bt,3,none⟩=some (.int .u32 t.col):=by rw[aD _ _ _ _ _ _ HRT4.out];rfl
     have Ns:((t.col.toNat:Nat):Int)=t.col:=by have:=Sy.out.2.2.2.1;omega
     have hcu:=Df p t.col.toNat (l7++fU t.a++fU t.b++fU t.c) w9 (by have:=Sy.out.2.2.2.2;omega) (by simp only[aI];have:=eT t.a;have:=eT t.b;have:=eT t.c;have:=HL7.out;omega) hw;rw[Ns] at hcu;have HC4:=aA hcu;have g0:=Sy.out.2.2.2.1;have g1:t.col≤18446744073709551615:=by have:=Sy.out.2.2.2.2;omega
     have HTE:=aA (show pA t=fU t.a++(fU t.b++(fU t.c++Pk.form t.col.toNat)) from rfl);generalize t.col=tc at u3 HC4 g0 g1 HTE;clear hw hf HK3 HRT3 qT u2 Ns hcu HRT4;go_wp2_with fail;refine HC4.out.mono ?_;rintro e w10 ⟨rfl,hw,hf⟩;have HE:Hid (UU p x (l6++(x.ts.take (i+1)).flatMap pA) w w10):=aA (by
      have h:=HK4.out.step hw hf;rw[ou.out,HTE.out,←bM,HL7E.out]
      simpa[bM] using h)
     clear hw hf HK4 HC4 u3;go_wp2_with fail;go_roundg (n2-(i+1))
     case measure=>omega
     case rel=>exact ⟨i+1,rfl,by go_num,by omega,HE.out⟩
    ·obtain rfl:i=n2:=by omega
     have t2:¬ (i:Int)<(i:Int):=by omega
     rw[bB (by rw[wT.out];omega)] at hpo;have HE:Hid (mM p (l++lZ (eX x)) w (.returned undef) wr):=aA ⟨rfl,by
      have h:=hpo.wr;rw[←HL6E.out,←HL5E.out,←HL3E.out,←HL2E.out] at h;have e:l++lZ (eX x)=l++fU x.id++eW x.m++fU (k:Int)++x.vs.flatMap eW++fU (i:Int)++x.ts.flatMap pA:=by
       unfold lZ mA eX;simp only[HN.out,wT.out,bM]
      rw[e];exact h,hpo.fr⟩
     clear hpo HK;go_wp2_with fail;exact aO (results_none rfl _ _ _) rfl HE.out
structure Sr (p:Nat)(s:eF)(l:List Nat)(w W:World):Prop where
 box:eZ w.heap.size s W
 wr:wQ p l W
 fr:tD p w W
theorem Sr.step {p:Nat}{s:eF}{l l':List Nat}{w W X:World}(i:Sr p s l w W)(h:wQ p l' X)(hf:tD p W X):Sr p s l' w X:=by
 obtain ⟨cs,hr⟩:=i.wr.row;exact ⟨hf.rows (by decide) hr (by decide) _ _ i.box,h,i.fr.trans hf⟩
theorem Sr.up {p:Nat}{s:eF}{l:List Nat}{w W X:World}(i:Sr p s l w W)(hb:Below W.heap.size W X):Sr p s l w X :=
 i.step (i.wr.below hb) (tD.of_below hb (by have:=i.wr.lt;omega))
def PpRel (p:Nat)(s:eF)(l:List Nat)(w:World)(n g:Nat)(s5 s26:Value)(W:World):Prop :=
 ∃k:Nat,g=n-k∧s26=.int .i64 (k:Int)∧k≤n∧Sr p s (l++((s.os.take k).map eX).flatMap lZ) w W
theorem FC {x:Int×List Int×List (List Int)×List gB}(h:XS x):(lZ x).length≤6000:=by
 unfold lZ mA;simp only[aI];have h1:=eT x.1;have h2:=gA x.2.1;have h2':=h.2.1.1;have h3:=eT (x.2.2.1.length:Int);have h4:=jQ (f:=eW) (c:=33) x.2.2.1 (fun y hy=>by
  have:=gA y;have h3:y.length=3:=(h.2.2.1.2 y hy).1;omega)
 have h5:=eT (x.2.2.2.length:Int);have h6:=jQ (f:=pA) (c:=44) x.2.2.2 (fun y hy=>EZ y);have h7:=h.2.2.1.1;have h8:=h.2.2.2.1;omega
theorem Kc {s:eF}(h:iA s):(prog.info? 25).map (·.size)=some (s.jN.map encI).length:=by rw[aT,h.len];kernel_rfl
theorem En (p:Nat)(s:eF)(l:List Nat)(w:World)(hs:iA s)(hd:Gl (eQ s))(hl:l.length≤10000000)(hda:∀X,Below p w X→eN X s.oo s.os)(h:wQ p l w) :
  Calls prog 32 #[.pointer (some ⟨p,0,none⟩),.agg (eU s)] w (mM p (l++KR (eQ s)) w):=by
 have hlt:=h.lt;obtain ⟨V0,jR⟩:∃V,w.alloc (.cells (eU s) 28)=V:=⟨_,rfl⟩;have hb0:Below w.heap.size w V0:=by rw[←jR];exact (aJ _ w).alloc (aB _) _
 have hI:Sr p s l w V0:=⟨by rw[←jR];exact eZ.new _ _,h.below hb0,tD.of_below hb0 (by omega)⟩;have HI:=aA hI;have oJ:=aA jR;have HD:=aA hd;have HL:=aA hl;have HDA:=aA (fun X (i:tD p w X)=>hda X i.below);have HDB:=aA (fun X Y (i:tD p w X) (b:Below p X Y)=>hda Y (i.below.trans b));have hism:=aA (Kc hs);have d0:V0.cell? ⟨w.heap.size,0,none⟩=some (.int .i64 s.w):=hI.box.c0;obtain ⟨n,hn⟩:∃n,s.os.length=n:=⟨_,rfl⟩;obtain ⟨oo,zU⟩:∃o,s.oo=o:=⟨_,rfl⟩;have HN:=aA hn;have Cr:=aA zU;have hn16:n≤16:=by have h:=hd.2.2.2.1;unfold eQ at h;simp only[aT] at h;omega
 have su:=aA (fun (W:World) (l':List Nat) (i:Sr p s l' w W)=>show W.cell? ⟨w.heap.size,18,none⟩=some (.slice oo n s.oc) by rw[i.box.c18 hs,hn,zU]);have n0:(0:Int)≤(n:Int):=by omega
 have n1:(n:Int)≤16:=by omega
 have yT:=aA (iR p s.w 64 l V0 hd.1.1 hd.1.2 (by omega) (by omega) hI.wr);clear hI jR hb0 hs hd hda h hlt hn zU;go_enter func32,ntmps32;go_wp2_with (rw[oJ.out])
 refine yT.out.mono ?_;rintro e w1 ⟨rfl,hw,hf⟩;have nX:=aA (HI.out.step hw hf);have d1:w1.cell? ⟨w.heap.size,1,none⟩=some (.int .i64 s.h):=nX.out.box.c1;have Cp:=aA (iR p s.h 64 (l++fU s.w) w1 HD.out.2.1.1 HD.out.2.1.2 (by omega) (by have:=eT s.w;have:=HL.out;rw[aI];omega) hw);clear hw hf HI yT d0 oJ;go_wp2_with fail;refine Cp.out.mono ?_;rintro e w2 ⟨rfl,hw,hf⟩;have jP:=aA (nX.out.step hw hf);have Mw:=aA jP.out.box.jN;have HPM:=aA (KA p s.jN (l++fU s.w++fU s.h) w2 HD.out.2.2.1 (by have:=eT s.w;have:=eT s.h;have:=HL.out;simp only[aI];omega) hw);clear hw hf nX Cp d1;go_wp2_with (with_reducible refine dQ (some 16) rfl ?_;refine aA ?_;refine wpList_load_mid rfl 25 (.tmp 15) rfl w.heap.size 2 rfl (s.jN.map encI) _ Mw.out aU rfl hism.out ?_)
 refine HPM.out.mono ?_;rintro e w3 ⟨rfl,hw,hf⟩;have qB:=aA (jP.out.step hw hf);clear hw hf jP HPM Mw;have hl2:(l++fU s.w++fU s.h++eW s.jN).length≤10001000:=by
  have:=eT s.w;have:=eT s.h;have:=gA s.jN;have h3:s.jN.length=16:=HD.out.2.2.1.1;have:=HL.out;simp only[aI];omega
 obtain ⟨l2,XD⟩:∃L,l++fU s.w++fU s.h++eW s.jN=L:=⟨_,rfl⟩;rw[XD] at qB hl2;have HL2E:=aA XD;have Co:=aA (iR p (n:Int) 16 l2 w3 n0 n1 (by omega) (by omega) qB.out.wr);have Hn:=aA hl2;have c18:=su.out w3 _ qB.out;clear XD hl2;go_wp2_with fail;refine Co.out.mono ?_;rintro e w4 ⟨rfl,hw,hf⟩;have Tc:=aA (qB.out.step hw hf);clear hw hf qB Co c18;have c18:=su.out w4 _ Tc.out;obtain ⟨l3,NG⟩:∃L,l2++fU (n:Int)=L:=⟨_,rfl⟩;rw[NG] at Tc;have HL3E:=aA NG;have HL3:Hid (l3.length≤10001100):=aA (by rw[←NG,aI];have:=eT (n:Int);have:=Hn.out;omega);clear NG;go_wp2_with fail;go_loopg[5,26] n (PpRel p s l3 w n)
 case atStart=>exact ⟨0,rfl,rfl,by omega,by simpa using Tc.out⟩
 case round =>
  clear Tc c18;obtain ⟨k,hg,rfl,hk,hi⟩:=hrel;subst hg;have HK:=aA hi;have k0:(0:Int)≤(k:Int):=by omega
  by_cases pK:k<n
  ·have t1:(k:Int)<(n:Int):=by omega
   obtain ⟨x,hx⟩:∃x,s.os[k]?=some x:=⟨_,aF (by rw[HN.out];exact pK)⟩;obtain ⟨b,off,e,hat⟩:=(HDA.out wr hi.fr) k x hx;rw[Cr.out] at e;subst e;have OS:eX x∈s.os.map eX:=List.mem_map.2 ⟨x,aX hx,rfl⟩;have hdx:XS (eX x):=HD.out.2.2.2.2 _ OS;have ou:=aA (show ((s.os.take (k+1)).map eX).flatMap lZ=((s.os.take k).map eX).flatMap lZ++lZ (eX x) by rw[bX,hx,List.map_append,List.flatMap_append];simp);have hlk:(l3++((s.os.take k).map eX).flatMap lZ).length≤20000000:=by
    have h1:=jQ (f:=lZ) (c:=6000) ((s.os.take k).map eX) (fun y hy=>FC (HD.out.2.2.2.2 y (by
     obtain ⟨z,hz,rfl⟩:=List.mem_map.1 hy;exact List.mem_map.2 ⟨z,cI hz,rfl⟩)))
    have h2:((s.os.take k).map eX).length≤16:=by rw[aT,bT,HN.out];omega
    have:=HL3.out;rw[aI];omega
   obtain ⟨V1,hV1⟩:∃V,wr.alloc (.cells #[.int .i64 0,.int .i64 0,.int .i64 0,.int .i64 0,.int .i64 0,.int .i64 0,.int .i64 0,.int .i64 0,.int .i64 0,.int .i64 0,.int .i64 0,.int .i64 0,.int .i64 0,.int .i64 0,.int .i64 0,.int .i64 0,.int .i64 0,.slice none 0 0,.slice none 0 0] 73)=V:=⟨_,rfl⟩;have r1:dI 73 wr.heap.size #[.int .i64 0,.int .i64 0,.int .i64 0,.int .i64 0,.int .i64 0,.int .i64 0,.int .i64 0,.int .i64 0,.int .i64 0,.int .i64 0,.int .i64 0,.int .i64 0,.int .i64 0,.int .i64 0,.int .i64 0,.int .i64 0,.int .i64 0,.slice none 0 0,.slice none 0 0] V1:=by rw[←hV1];exact dI.new _ _ _
   obtain ⟨Y1,sZ⟩:∃V,V1.setRow wr.heap.size (dP x).toArray=V:=⟨_,rfl⟩;have r2:dI 73 wr.heap.size (dP x).toArray Y1:=by rw[←sZ];exact r1.row _
   have hb2:Below wr.heap.size wr Y1:=by rw[←sZ,←hV1];exact Below.row ((aJ _ _).alloc (aB _) _) (aB _) _
   have qo:=aA (HK.out.up hb2);have HR:=aA hat.cells;have vQ:=aA (tH hat.wf);have EL:=aA (show (prog.info? 73).map (·.size)=some (dP x).toArray.size by rw[aL];exact tH hat.wf);have s1:=aA (show 19=(dP x).toArray.size by rw[aL];exact (dX hat.wf).symm);have HG:=aA (show Y1.rangeAt wr.heap.size 0 (dP x) from fun j v hj=>by rw[aD _ _ _ _ _ _ r2,bE];simpa using hj);have M1:=aA r1;have vF:=aA hV1;have UF:=aA sZ;have HPO:=aA (Eo p x _ Y1 hat.wf hdx (by omega) (fun X hX=>by
    obtain ⟨_,_,_,h⟩:=(HDB.out Y1 X qo.out.fr hX) k x hx;exact ⟨h.sT,h.zM⟩) qo.out.wr)
   clear hi hx hat OS hdx hlk hV1 r1 sZ r2 hb2;go_wp2_with (first|(rw[vF.out])|(rw[UF.out])|(with_reducible refine dQ (some 29) rfl ?_;refine aA ?_;refine wpList_load_mid rfl 73 (.tmp 28) rfl b (off+k*19) rfl (dP x) _ HR.out bW rfl vQ.out ?_)|(with_reducible refine dQ (some 31) rfl ?_;refine aA ?_;refine wpList_load_mid rfl 73 (.tmp 5) rfl wr.heap.size 0 rfl (dP x) _ HG.out bW rfl vQ.out ?_)|(refine dG rfl 73 (.tmp 5) (.tmp 29) rfl wr.heap.size _ _ (dP x).toArray rfl rfl M1.out EL.out s1.out (uV _) ?_))
   refine HPO.out.mono ?_;rintro e w5 ⟨rfl,hw,hf⟩;have HE:Hid (Sr p s (l3++((s.os.take (k+1)).map eX).flatMap lZ) w w5):=aA (by rw[ou.out,←bM];exact qo.out.step hw hf);clear hw hf HK qo HPO HR HG M1 vF UF;go_wp2_with fail;go_roundg (n-(k+1))
   case measure=>omega
   case rel=>exact ⟨k+1,rfl,by go_num,by omega,HE.out⟩
  ·obtain rfl:k=n:=by omega
   have t1:¬ (k:Int)<(k:Int):=by omega
   rw[bB (by rw[HN.out];omega)] at hi;have HE:Hid (mM p (l++KR (eQ s)) w (.returned undef) wr):=aA ⟨rfl,by
    have h:=hi.wr;rw[←HL3E.out,←HL2E.out] at h;have e:l++KR (eQ s)=l++fU s.w++fU s.h++eW s.jN++fU (k:Int)++(s.os.map eX).flatMap lZ:=by
     unfold KR mA eQ;simp only[aT,HN.out,bM]
    rw[e];exact h,hi.fr⟩
   clear hi HK;go_wp2_with fail;exact aO (results_none rfl _ _ _) rfl HE.out
end Fx
end Go.Proofs.YtbbhmhihpdmoiaaGreat
