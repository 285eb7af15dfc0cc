import Derived.Test.YtbbhmhihpdmoiaaGreatJf09
set_option linter.unusedVariables false
set_option linter.unusedSimpArgs false
set_option maxRecDepth 100000
set_option maxHeartbeats 32000000
namespace Go.Proofs.YtbbhmhihpdmoiaaGreat
open Go.Proofs.Tryz
namespace Fx
open Go Go.RowKit Go.Shelf
theorem GZ {F:Fence}{n:Nat}{P:Program}{o:Oper}{a:Act}{w:World}{K:Act→World→Prop}{Q:Exit→Act→World→Prop}(hF:∀f,F.fn f)(ty:TypeId)(x:Operand)(ho:o.op=.load ty x)
  (b off:Nat) (hx:a.eval x=.pointer (some ⟨b,off,none⟩)) (cs:List Value) (d:TypeDesc) (hc:w.rangeAt b off cs)
  (hu:P.underlying ty=some d) (hd:d.isRow=true) (hi:(P.info? ty).map (·.size)=some cs.length) (h:K (a.put o.dst (.agg cs.toArray)) w):Oper.wpIn F n P o a w K Q:=by
 unfold Oper.wpIn;rw[Oper.semAt_plain F _ _ (by intro c e;rw[ho] at e;cases e)];rw[gS ty x ho b off hx cs d hc hu hd hi];exact ⟨fun f _=>hF f,h⟩
theorem lN {F:Fence}{n:Nat}{P:Program}{ops:Array Oper}{rest:List Oper}{o:Oper}{a:Act}{w:World}{Q:Exit→Act→World→Prop}(hF:∀f,F.fn f)(hg:o.guard=none)(ty:TypeId)(x:Operand)(ho:o.op=.load ty x)
  (b off:Nat) (hx:a.eval x=.pointer (some ⟨b,off,none⟩)) (cs:List Value) (d:TypeDesc) (hc:w.rangeAt b off cs)
  (hu:P.underlying ty=some d) (hd:d.isRow=true) (hi:(P.info? ty).map (·.size)=some cs.length) (h:wpListIn F n P ops Q rest (a.put o.dst (.agg cs.toArray)) w):wpListIn F n P ops Q (o::rest) a w :=
 wpListIn_plain hg fun K hK=>GZ hF ty x ho b off hx cs d hc hu hd hi (hK _ _ h)
theorem kV {F:Fence}{n:Nat}{P:Program}{ops:Array Oper}{rest:List Oper}{o:Oper}{a:Act}{w:World}{Q:Exit→Act→World→Prop}(hF:∀f,F.fn f)(hgd:o.guard=none)(ty:TypeId)(x y:Operand)(ho:o.op=.store ty x y)
  (g:Nat) (t:TypeId) (c c':Array Value) (hx:a.eval x=.pointer (some ⟨g,0,none⟩)) (hg:w.heap.size=g) (hy:a.eval y=.agg c')
  (hi:(P.info? ty).map (·.size)=some c'.size) (hs:c.size=c'.size) (h1:c'.all (·.oneCell')=true)
  (h:wpListIn F n P ops Q rest (a.put o.dst undef) (w.alloc (.cells c' t))):wpListIn F n P ops Q (o::rest) a (w.alloc (.cells c t)):=by
 subst hg;refine wpListIn_plain hgd fun K hK=>?_
 refine eD hF ty x y ho w.heap.size t c c' hx hy (aG _ _) hi hs h1 ?_;rw[World.setRow_alloc_new];exact hK _ _ h
theorem eO {P:Program}{ops:Array Oper}{rest:List Oper}{op:Oper}{a:Act}{w:World}{Q:Exit→Act→World→Prop}(hw:Region.wanted op (yielded ops a.tmps)=true)(ty:TypeId)(x:Operand)(ho:op.op=.load ty x)
  (b o:Nat) (hx:a.eval x=.pointer (some ⟨b,o,none⟩)) (cs:List Value) (d:TypeDesc) (hc:w.rangeAt b o cs)
  (hu:P.underlying ty=some d) (hd:d.isRow=true) (hi:(P.info? ty).map (·.size)=some cs.length)
  (h:wpList P ops Q rest (a.put op.dst (.agg cs.toArray)) w):wpList P ops Q (op::rest) a w :=
 wpList_step fun K hK=>by
  rw[aZ hw];exact wp_load_mid ty x ho b o hx cs d hc hu hd hi (hK _ _ h)
theorem lF {W X:World}(h:Below W.heap.size W X)(B:Nat):KeepsFrom B W X :=
 ⟨h.size,fun k o _ hk _=>by rw[h.block k (aC.1 hk).1];exact hk⟩
theorem Kept.cell {B:Nat}{W W':World}(k:Kept B W W'){p:Addr}{v:Value}(h:W.cell? p=some v):W'.cell? p=some v:=by
 unfold World.cell? at h ⊢
 cases hb:W.heap[p.block]? with
 | none=>rw[hb] at h;simp at h
 | some o =>
  cases o with
  | cells c t f =>
   rw[k.cells hb];rw[hb] at h;exact h
  | _=>rw[hb] at h;simp at h
theorem Kept.range {B:Nat}{W W':World}(k:Kept B W W'){b j:Nat}{l:List Value}(h:W.rangeAt b j l):W'.rangeAt b j l:=fun i v hi=>k.cell (h i v hi)
theorem fH.kept {B:Nat}{W W':World}{o:Option Addr}{l:List (List Int)}(kp:Kept B W W')(h:fH W o l):fH W' o l:=fun k z hk=>by
 obtain ⟨b,off,e,h1,h2⟩:=h k z hk;exact ⟨b,off,e,kp.range h1,h2⟩
theorem gM.kept {B:Nat}{W W':World}{o:Option Addr}{l:List gB}(kp:Kept B W W')(h:gM W o l):gM W' o l:=fun k z hk=>by
 obtain ⟨b,off,e,h1,h2⟩:=h k z hk;exact ⟨b,off,e,kp.range h1,h2⟩
theorem nR.kept {B:Nat}{W W':World}{b j:Nat}{x:eE}(kp:Kept B W W')(h:nR W b j x):nR W' b j x:=⟨kp.range h.cells,h.sT.kept kp,h.zM.kept kp,h.wf⟩
theorem eN.kept {B:Nat}{W W':World}{o:Option Addr}{l:List eE}(kp:Kept B W W')(h:eN W o l):eN W' o l:=fun k z hk=>by
 obtain ⟨b,off,e,h1⟩:=h k z hk;exact ⟨b,off,e,h1.kept kp⟩
theorem eZ.kept {C B:Nat}{s:eF}{W W':World}(kp:Kept C W W')(h:eZ B s W):eZ B s W':=kp.cells h
def xB (s:eF)(k:Nat):Array Value:=#[.int .i64 (k:Int),.agg (dP (s.os.getD k default)).toArray]
def ObM (s:eF)(A:Nat)(X:World):Prop:=eZ A s X∧eN X s.oo s.os
theorem KE (s:eF)(A:Nat)(hs:iA s) :
  Hands Fence.wide 4 prog 130 #[.pointer (some ⟨A,0,none⟩)] (xB s) s.os.length (ObM s A):=by
 intro l J Jx W Sk hJ2 UQ Fl hY h0;obtain ⟨hsc,iE⟩:=UQ 0 W h0;have c18:=hsc.c18 hs;have HS:=aA hs;clear hs;have HY:=aA hY;clear hY;have PF:=aA Sk;clear Sk;have Yy:=aA UQ;clear UQ;have gR:=HS.out.cap.1;obtain ⟨n,hn⟩:∃n,s.os.length=n:=⟨_,rfl⟩;have HN:=aA hn;rw[hn] at c18 gR HY ⊢;obtain ⟨oo,zU⟩:∃oo,s.oo=oo:=⟨_,rfl⟩;have Cr:=aA zU;rw[zU] at c18;have n0:(0:Int)≤(n:Int):=by omega
 have n1:(n:Int)≤9223372036854775807:=by omega
 clear hn gR zU hsc iE;refine callsIn_of_wp func130 rfl trivial ?_ rfl;simp only[ntmps130,aL,bO,List.length_nil,Nat.reduceAdd,Nat.reduceSub,Array.replicate_succ,Array.replicate_zero,List.push_toArray,List.append_toArray,cB,cC];gi_wp2;clear c18
 gi_loopw [8] (fun v8 wr=>∃k:Nat,v8=.int .i64 (k:Int)∧k≤n∧J k wr) (fun v8 _=>n-(intOf v8).toNat)
 case atStart=>exact ⟨0,rfl,by omega,h0⟩
 case round =>
  clear h0;obtain ⟨k,rfl,hk,hJ⟩:=hrel;have k0:(0:Int)≤(k:Int):=by omega
  by_cases pK:k<n
  ·have t1:(k:Int)<(n:Int):=by omega
   obtain ⟨hsc,iE⟩:=Yy.out k wr hJ;obtain ⟨x,hx⟩:∃x,s.os[k]?=some x:=⟨_,aF (by rw[HN.out];exact pK)⟩;obtain ⟨b,off,e,hat⟩:=iE k x hx;rw[Cr.out] at e;subst e;have vR:xB s k=#[.int .i64 (k:Int),.agg (dP x).toArray]:=by
    unfold xB;rw[aS,hx];rfl
   have HR:=aA hat.cells;have lW:=aA (show (prog.info? 73).map (·.size)=some (dP x).length by rw[dX hat.wf];kernel_rfl);have oY:=aA (show (prog.info? 73).map (·.size)=some (dP x).toArray.size by rw[aL,dX hat.wf];kernel_rfl);have HL:=aA (show 19=(dP x).toArray.size by rw[aL,dX hat.wf]);have mX:=aA (nL x);have HB:Hid (Below wr.heap.size wr (wr.alloc (.cells (dP x).toArray 73))):=aA ((aJ _ wr).alloc (aB _) _);have hJ2:=PF.out k _ _ hJ HB.out;have mG:=aA (aG wr (.cells (dP x).toArray 73));have HRI:Hid (∀W':World,W'.heap[wr.heap.size]?=some (.cells (dP x).toArray 73 (0,0))→W'.rangeAt wr.heap.size 0 (dP x)):=aA (fun W' h j v hj=>by
    rw[aD _ _ _ _ _ _ h,bE]
    simpa using hj)
   obtain ⟨fn,tmps,assign,body,hy,hR⟩:=HY.out k _ pK hJ2;rw[vR] at hy;clear vR hat iE hsc hx hJ hJ2 PF
   gi_wp2_with (first|(refine lN (fun _=>trivial) rfl 73 (.tmp 11) rfl b (off+k*19) rfl (dP x) _ HR.out bW rfl lW.out ?_)|(refine kV (fun _=>trivial) rfl 73 (.tmp 4) (.tmp 12) rfl wr.heap.size _ _ (dP x).toArray rfl rfl rfl oY.out HL.out mX.out ?_)|(refine lN (fun _=>trivial) rfl 73 (.tmp 4) rfl wr.heap.size 0 rfl (dP x) _ (HRI.out _ mG.out) bW rfl lW.out ?_))
   refine hR.mono ?_;rintro e W3 (⟨rfl,hJ3⟩|⟨rfl,zX⟩)
   ·gi_wp2
    go_roundw
    case rel=>exact ⟨k+1,by go_num,by omega,hJ3⟩
    case measure=>simp[intOf];omega
   ·gi_wp2
    refine aO (results_none rfl _ _ _) rfl ?_;exact ⟨⟨_,rfl⟩,.inr zX⟩
  ·obtain rfl:k=n:=by omega
   have t1:¬ (k:Int)<(k:Int):=by omega
   gi_wp2
   go_end0
   exact ⟨⟨_,rfl⟩,.inl hJ⟩
theorem KD (s:eF)(w:World):Calls prog 101 #[.agg (eU s)] w fun e w' =>
  e=.returned (.func (.func 130) #[] #[.pointer (some ⟨w.heap.size,0,none⟩)])∧w'=w.alloc (.cells (eU s) 28):=by
 go_enter func101,ntmps101;go_wp2_with fail;go_ret;exact ⟨rfl,rfl⟩
attribute [local go_sem] Oper.semAt_some
theorem Fu {s:eF}{id:Int}{k:Nat}{x:eE}(hx:s.os[k]?=some x)(ha:lD (s.os.take k) id=none)(h:x.id≠id):lD (s.os.take (k+1)) id=none:=by
 unfold lD at ha ⊢;rw[bX,hx,List.findIdx?_append,ha];simp[h]
theorem TH {s:eF}{id:Int}{k:Nat}{x:eE}(hx:s.os[k]?=some x)(ha:lD (s.os.take k) id=none)(h:x.id=id):lD s.os id=some k:=by
 obtain ⟨wI,hx'⟩:=aY.1 hx;unfold lD at ha ⊢;rw[←List.take_append_drop k s.os,List.findIdx?_append,ha,List.drop_eq_getElem_cons wI];simp[List.findIdx?_cons,hx',h];omega
theorem Fv {s:eF}{id:Int}{n:Nat}(hn:s.os.length≤n)(h:lD (s.os.take n) id=none):lD s.os id=none:=by
 rw[bB hn] at h;exact h
structure Cw (s:eF)(id x:Int)(y:Bool)(w W:World):Prop where
 box:eZ w.heap.size s W
 idr:W.heap[w.heap.size+1]?=some (.cells #[.int .i64 id] 3 (0,0))
 r1:W.heap[w.heap.size+1+1]?=some (.cells #[.int .i64 x] 3 (0,0))
 r2:W.heap[w.heap.size+1+1+1]?=some (.cells #[.bool y] 4 (0,0))
 it:eZ (w.heap.size+1+1+1+1) s W
 below:Below w.heap.size w W
theorem Cw.kept {s:eF}{id x:Int}{y:Bool}{B:Nat}{w W X:World}(hB:w.heap.size≤B)(h:Kept B W X)(i:Cw s id x y w W):Cw s id x y w X :=
 ⟨i.box.kept h,h.cells i.idr,h.cells i.r1,h.cells i.r2,i.it.kept h,h.below hB i.below⟩
theorem Cw.up {s:eF}{id x:Int}{y:Bool}{w W X:World}(h:Below W.heap.size W X)(i:Cw s id x y w W):Cw s id x y w X :=
 ⟨i.box.below h,dL h i.idr,dL h i.r1,dL h i.r2,i.it.below h,dN i.below h⟩
theorem Cw.facts {s:eF}{id x:Int}{y:Bool}{w W:World}(i:Cw s id x y w W) :
  W.cell? ⟨w.heap.size+1,0,none⟩=some (.int .i64 id)∧W.cell? ⟨w.heap.size+1+1,0,none⟩=some (.int .i64 x)∧W.cell? ⟨w.heap.size+1+1+1,0,none⟩=some (.bool y) ∧
  W.frozen? ⟨w.heap.size+1+1,0,none⟩=false∧W.frozen? ⟨w.heap.size+1+1+1,0,none⟩=false :=
 ⟨by rw[aD _ _ _ _ _ _ i.idr];rfl,by rw[aD _ _ _ _ _ _ i.r1];rfl,by rw[aD _ _ _ _ _ _ i.r2];rfl,dJ i.r1,dJ i.r2⟩
theorem Cw.put {s:eF}{id x x2:Int}{y y2:Bool}{w W:World}(i:Cw s id x y w W):Cw s id x2 y2 w ((W.setCell ⟨w.heap.size+1+1,0,none⟩ (.int .i64 x2)).setCell ⟨w.heap.size+1+1+1,0,none⟩ (.bool y2)):=by
 have a1:=aM W _ 0 _ _ (.int .i64 x2) i.r1;have o1:∀ {g:Nat} {ob:Obj},g≠w.heap.size+1+1→g≠w.heap.size+1+1+1→W.heap[g]?=some ob→((W.setCell ⟨w.heap.size+1+1,0,none⟩ (.int .i64 x2)).setCell ⟨w.heap.size+1+1+1,0,none⟩ (.bool y2)).heap[g]?=some ob:=fun h1 h2 h=>by
  rw[aK _ _ _ _ h2,aK _ _ _ _ h1];exact h
 refine ⟨o1 (by omega) (by omega) i.box,o1 (by omega) (by omega) i.idr,?_,?_,o1 (by omega) (by omega) i.it,(i.below.setCell (p:=⟨w.heap.size+1+1,0,none⟩) (by show _≤w.heap.size+1+1;omega) _).setCell (p:=⟨w.heap.size+1+1+1,0,none⟩) (by show _≤w.heap.size+1+1+1;omega) _⟩
 ·rw[aK _ _ _ _ (by show _≠w.heap.size+1+1+1;omega)]
  exact a1
 ·have a2:(W.setCell ⟨w.heap.size+1+1,0,none⟩ (.int .i64 x2)).heap[w.heap.size+1+1+1]?=some (.cells #[.bool y] 4 (0,0)):=by
   rw[aK _ _ _ _ (by show _≠w.heap.size+1+1;omega)];exact i.r2
  exact aM _ _ 0 _ _ (.bool y2) a2
def FdI (s:eF)(id:Int)(w:World)(k:Nat)(W:World):Prop:=Cw s id 0 false w W∧lD (s.os.take k) id=none
def FdX (s:eF)(id:Int)(w W:World):Prop:=∃k:Nat,Cw s id (k:Int) true w W∧lD s.os id=some k
def FdA (s:eF)(id:Int)(w:World)(k:Nat)(a:Act)(W:World):Prop :=
 ∃b7,W.heap[b7]?=some (.cells (dP (s.os.getD k default)).toArray 73 (0,0)) ∧
 a={ tmps:=#[.agg (eU s),.int .i64 id,.pointer (some ⟨w.heap.size,0,none⟩),.pointer (some ⟨w.heap.size+1,0,none⟩),.pointer (some ⟨w.heap.size+1+1,0,none⟩),.pointer (some ⟨w.heap.size+1+1+1,0,none⟩),.int .i64 (k:Int),.pointer (some ⟨b7,0,none⟩),
  .agg (eU s),.func (.func 130) #[] #[.pointer (some ⟨w.heap.size+1+1+1+1,0,none⟩)],.int .i64 (k:Int),.agg (dP (s.os.getD k default)).toArray,undef,undef,undef,undef,undef],defers:=[] }
theorem Es (s:eF)(id:Int)(w:World)(hs:iA s)(h:eN w s.oo s.os) :
  Calls prog 119 #[.agg (eU s),.int .i64 id] w (Cj (lD s.os id) w):=by
 obtain ⟨W1,hW1⟩:∃W1,(((w.alloc (.cells (eU s) 28)).alloc (.cells #[.int .i64 id] 3)).alloc (.cells #[.int .i64 0] 3)).alloc (.cells #[.bool false] 4)=W1:=⟨_,rfl⟩;obtain ⟨W0,hW0⟩:∃W0,W1.alloc (.cells (eU s) 28)=W0:=⟨_,rfl⟩;have hs1:W1.heap.size=w.heap.size+1+1+1+1:=by rw[←hW1];simp
 have b1:Below w.heap.size w W1:=by rw[←hW1];exact ((((aJ _ w).alloc (aB _) _).alloc (by simp) _).alloc (by simp;omega) _).alloc (by simp;omega) _
 have OW:Below W1.heap.size W1 W0:=by rw[←hW0];exact (aJ _ W1).alloc (aB _) _
 have g0:eZ w.heap.size s W1:=by rw[←hW1];exact dM (dM (dM (eZ.new w s)))
 have F0:Cw s id 0 false w W0:=by
  refine ⟨g0.below OW,dL OW ?_,dL OW ?_,dL OW ?_,?_,dN b1 OW⟩
  ·rw[←hW1]
   have:=aG (w.alloc (.cells (eU s) 28)) (.cells #[.int .i64 id] 3);rw[aR] at this;exact dM (dM this)
  ·rw[←hW1]
   have:=aG ((w.alloc (.cells (eU s) 28)).alloc (.cells #[.int .i64 id] 3)) (.cells #[.int .i64 0] 3);rw[aR,aR] at this;exact dM this
  ·rw[←hW1]
   have:=aG (((w.alloc (.cells (eU s) 28)).alloc (.cells #[.int .i64 id] 3)).alloc (.cells #[.int .i64 0] 3)) (.cells #[.bool false] 4);rw[aR,aR,aR] at this;exact this
  ·rw[←hW0,←hs1]
   exact eZ.new W1 s
 have Hr:Hid (FdI s id w 0 W0):=aA ⟨F0,rfl⟩;have wO:Hid (W0.heap.size=w.heap.size+1+1+1+1+1):=aA (by rw[←hW0,aR,hs1]);have yT:=aA hs1;have xY:=aA hW1;have HW0:=aA hW0;have jA:=aA h;have Ym:=aA hs;have Rs:Hid (W1.rangeAt w.heap.size 0 (fP s)):=aA (fun j v hj=>by
  rw[bE];exact g0.at.trans hj)
 have hall:=aA (show (prog.info? 28).map (·.size)=some (fP s).length by rw[lR hs];kernel_rfl);clear F0 OW b1 g0 hW1 hW0 hs1 h hs;refine (bG (n:=5)).1 ?_;refine callsIn_of_wp_marks func119 rfl trivial ?_ rfl;simp only[ntmps119,aL,bO,List.length_nil,Nat.reduceAdd,Nat.reduceSub,Array.replicate_succ,Array.replicate_zero,List.push_toArray,List.append_toArray,cB,cC];refine bN.2 ?_;go_wp2_with (first|(rw[xY.out];refine wpList_load_mid rfl 28 (.tmp 2) rfl w.heap.size 0 rfl (fP s) _ Rs.out aW rfl hall.out ?_))
 refine (KD s _).mono ?_;rintro e w' ⟨rfl,rfl⟩;rw[yT.out,HW0.out];go_wp2_with fail;refine bN.1 (gJ (F:=Fence.wide) (n:=5) rfl (by omega) (gf:=130) (lb:=#[.pointer (some ⟨w.heap.size+1+1+1+1,0,none⟩)]) rfl trivial (enters_of func130 (by kernel_rfl) rfl)
  (KE s (w.heap.size+1+1+1+1) Ym.out) (fun _=>rfl) .ret (FdI s id w) (FdX s id w) (fun j a' W=>FdA s id w j a' W∧FdI s id w j W)
  ?i1 ?i2 ?i3 ?i4 ?i5 Hr.out ?assign ?body ?done ?stop)
 case i1=>rintro j W X ⟨h1,h2⟩ hk;exact ⟨h1.kept (by have:=wO.out;omega) hk,h2⟩
 case i2=>rintro W X ⟨k,h1,h2⟩ hk;exact ⟨k,h1.kept (by have:=wO.out;omega) hk,h2⟩
 case i3=>rintro j a W X ⟨⟨b7,h0,ha⟩,h1,h2⟩ hk;exact ⟨⟨b7,hk.cells h0,ha⟩,h1.kept (by have:=wO.out;omega) hk,h2⟩
 case i4=>rintro j W ⟨h1,h2⟩;exact ⟨h1.it,jA.out.below h1.below⟩
 case i5=>rintro W ⟨k,h1,h2⟩;exact ⟨h1.it,jA.out.below h1.below⟩
 case assign =>
  intro l1 j W C hk hI hC;have hx:s.os[j]?=some (s.os.getD j default):=by rw[aS,aF hk];rfl
  obtain ⟨b,off,e,hat⟩:=jA.out j _ hx;simp only[xB];have HA:Hid (∀ (X:World) (b7:Nat),X.heap[b7]?=some (.cells (dP (s.os.getD j default)).toArray 73 (0,0))→FdA s id w j _ X):=aA (fun X b7 h=>⟨b7,h,rfl⟩);obtain ⟨x,Al⟩:∃x,s.os.getD j default=x:=⟨_,rfl⟩;rw[Al] at hat hx HA ⊢;have oY:=aA (show (prog.info? 73).map (·.size)=some (dP x).toArray.size by rw[aL,dX hat.wf];kernel_rfl);have HL:=aA (show 19=(dP x).toArray.size by rw[aL,dX hat.wf]);have mX:=aA (nL x);have HB:Hid (Below W.heap.size W (W.alloc (.cells (dP x).toArray 73))):=aA ((aJ _ W).alloc (aB _) _);have mG:=aA (aG W (.cells (dP x).toArray 73));clear hat hx Al e
  gi_wp2_with (refine kV (fun _=>trivial) rfl 73 (.tmp 7) (.tmp 11) rfl W.heap.size _ _ (dP x).toArray rfl rfl rfl oY.out HL.out mX.out ?_)
  exact hC _ _ (lF HB.out _) ⟨HA.out _ _ mG.out,hI.1.up HB.out,hI.2⟩
 case body =>
  rintro l1 j a' W hk ⟨⟨b7,h7,ha⟩,fs,wG⟩;subst ha;have hx:s.os[j]?=some (s.os.getD j default):=by rw[aS,aF hk];rfl
  obtain ⟨x,Al⟩:∃x,s.os.getD j default=x:=⟨_,rfl⟩;rw[Al] at h7 hx ⊢;have d0:W.cell? ⟨b7,0,none⟩=some (.int .i64 x.id):=by rw[aD _ _ _ _ _ _ h7];rfl
  obtain ⟨c1,c2,c3,f1,f2⟩:=fs.facts;have PD:=aA (Fu hx wG);have Yz:=aA (TH hx wG);have HS:=aA fs;generalize x.id=z at d0 PD Yz;clear h7 hx Al wG fs hk;by_cases hz:z=id
  ·subst hz
   have HE:Hid (FdX s z w ((W.setCell ⟨w.heap.size+1+1,0,none⟩ (.int .i64 (j:Int))).setCell ⟨w.heap.size+1+1+1,0,none⟩ (.bool true))):=aA ⟨j,HS.out.put,Yz.out rfl⟩;have Ip:Hid (KeepsFrom W0.heap.size W ((W.setCell ⟨w.heap.size+1+1,0,none⟩ (.int .i64 (j:Int))).setCell ⟨w.heap.size+1+1+1,0,none⟩ (.bool true))):=aA (((KeepsOthers.setCell _ _ _).trans (KeepsOthers.setCell _ _ _)).from _);clear PD Yz;gi_wp2;exact ⟨rfl,Ip.out,HE.out⟩
  ·have HE:Hid (FdI s id w (j+1) W):=aA ⟨HS.out,PD.out hz⟩
   clear PD Yz;gi_wp2;exact ⟨KeepsFrom.refl _ _,HE.out⟩
 case done =>
  rintro D W hD ⟨fs,wG⟩ iF;have hr:=Fv (aB _) wG;obtain ⟨c1,c2,c3,f1,f2⟩:=fs.facts;have HS:=aA fs;have UM:Hid (w.heap.size+1+1+1+1+1≤D):=aA (by have:=wO.out;omega);have HR:=aA hr;clear fs wG hr hD;go_wp2_with fail;have yM:((W.setCell ⟨w.heap.size+1+1,0,none⟩ (.int .i64 0)).setCell ⟨w.heap.size+1+1+1,0,none⟩ (.bool false)).heap[D]?=some (.deferred (some [])):=(((KeepsOthers.setCell W ⟨w.heap.size+1+1,0,none⟩ (.int .i64 0)).trans (KeepsOthers.setCell _ ⟨w.heap.size+1+1+1,0,none⟩ (.bool false))).same D _ iF rfl);have qH:=(HS.out.put (x2:=0) (y2:=false)).kept (B:=w.heap.size) (aB _) (Kept.putObj (.deferred none) (by have:=UM.out;omega) yM rfl);refine ⟨by simp,.inl ⟨_,_,rfl,run_takeDeferred yM,?_⟩⟩;generalize (((W.setCell ⟨w.heap.size+1+1,0,none⟩ (.int .i64 0)).setCell ⟨w.heap.size+1+1+1,0,none⟩ (.bool false)).putObj D (.deferred none))=Y at qH ⊢;obtain ⟨_,d1,d2,_,_⟩:=qH.facts;have xW:=aA qH.below;clear qH yM iF c1 c2 c3 f1 f2;refine ⟨.tuple #[.int .i64 0,.bool false],?_,by rw[HR.out];rfl,xW.out⟩;simp[results,results119,go_sem, *]
 case stop =>
  rintro D W hD ⟨k,fs,hr⟩ iF;have HS:=aA fs;have UM:Hid (w.heap.size+1+1+1+1+1≤D):=aA (by have:=wO.out;omega);have HR:=aA hr;clear fs hr hD;refine bN.2 ?_;go_wp2_with fail;have qH:=HS.out.kept (B:=w.heap.size) (aB _) (Kept.putObj (.deferred none) (by have:=UM.out;omega) iF rfl);refine ⟨by simp,.inl ⟨_,_,rfl,run_takeDeferred iF,?_⟩⟩;generalize W.putObj D (.deferred none)=Y at qH ⊢;obtain ⟨_,d1,d2,_,_⟩:=qH.facts;have xW:=aA qH.below;clear qH iF;refine ⟨.tuple #[.int .i64 (k:Int),.bool true],?_,by rw[HR.out];rfl,xW.out⟩;simp[results,results119,go_sem, *]
end Fx
namespace Fx
open Go Go.RowKit
theorem Eu (s:eF)(k:Int)(w:World)(hs:iA s)(h:eN w s.oo s.os) :
  Calls prog 122 #[.agg (eU s),.int .i64 k] w (Ck (nP s k) w):=by
 have HI:=aA (BoI.new h);have HS:=aA hs;have c18:((w.alloc (.cells (eU s) 28)).alloc (.cells #[.int .i64 0,.int .i64 0,.int .i64 0,.int .i64 0,.int .i64 0,.int .i64 0,.int .i64 0,.int .i64 0,.int .i64 0,.int .i64 0,.int .i64 0,.int .i64 0,.int .i64 0,.int .i64 0,.int .i64 0,.int .i64 0] 25)).cell? ⟨w.heap.size,18,none⟩=some (.slice s.oo s.os.length s.oc):=HI.out.sc.c18 hs;have gR:=hs.cap.1;obtain ⟨n,hn⟩:∃n,s.os.length=n:=⟨_,rfl⟩;have HN:=aA hn;rw[hn] at c18 gR;have n0:(0:Int)≤(n:Int):=by omega
 have n1:(n:Int)≤9223372036854775807:=by omega
 clear hn gR hs h;by_cases h1:k<0
 ·have HR:Hid (nP s k=none):=aA (by unfold nP;rw[bF (by omega)])
  go_enter func122,ntmps122;go_wp2_with (first|(refine gI rfl 25 #[] rfl (mC dZ) (by kernel_rfl) ?_)|(refine dG rfl 25 (.tmp 4) (.tmp 17) rfl (w.heap.size+1) _ _ (mC dZ) rfl rfl HI.out.rr iT rfl (iV _) ?_))
  (try simp only[Exit.inBlock,Exit.then])
  exact aO (v:=.tuple #[.agg (mC dZ),.int .i64 60]) (eY rfl _ _ (w.heap.size+1) _ (mC dZ) _ _ (.int .i64 60) rfl (HI.out.rr.row _) aU rfl (by kernel_rfl) rfl) rfl ⟨by rw[HR.out];rfl,Below.row HI.out.gL (by omega) _⟩
 by_cases h2:(n:Int)≤k
 ·have HR:Hid (nP s k=none):=aA (by unfold nP;rw[bF (by rw[HN.out];omega)])
  go_enter func122,ntmps122;go_wp2_with (first|(refine gI rfl 25 #[] rfl (mC dZ) (by kernel_rfl) ?_)|(refine dG rfl 25 (.tmp 4) (.tmp 17) rfl (w.heap.size+1) _ _ (mC dZ) rfl rfl HI.out.rr iT rfl (iV _) ?_))
  (try simp only[Exit.inBlock,Exit.then])
  exact aO (v:=.tuple #[.agg (mC dZ),.int .i64 60]) (eY rfl _ _ (w.heap.size+1) _ (mC dZ) _ _ (.int .i64 60) rfl (HI.out.rr.row _) aU rfl (by kernel_rfl) rfl) rfl ⟨by rw[HR.out];rfl,Below.row HI.out.gL (by omega) _⟩
 obtain ⟨j,rfl⟩:∃j:Nat,k=(j:Int):=⟨k.toNat,by omega⟩;have hj:j<n:=by omega
 obtain ⟨x,hx⟩:∃x,s.os[j]?=some x:=⟨_,aF (by rw[HN.out];exact hj)⟩;have HR:Hid (nP s (j:Int)=rE s.jN x.m):=aA (by
  unfold nP;rw[aZ (by rw[HN.out];omega)];simp[hx])
 have HRG:Hid (∀W,eN W s.oo s.os→∃b off,s.oo=some ⟨b,off,none⟩∧W.rangeAt b (off+j*19+1) (x.m.map encI)):=aA (fun W h=>by
  obtain ⟨b,off,e,hat⟩:=h j x hx;exact ⟨b,off,e,hat.GJ⟩)
 have HX:Hid (jY x):=aA (by
  obtain ⟨b,off,e,hat⟩:=HI.out.ob j x hx;exact hat.wf)
 obtain ⟨b,off,e,_⟩:=HRG.out _ HI.out.ob;have Il:Hid (∀W,eN W s.oo s.os→W.rangeAt b (off+j*19+1) (x.m.map encI)):=aA (fun W h=>by
  obtain ⟨b',off',e',hat⟩:=HRG.out W h;rw[e] at e'
  injection e' with e'
  injection e' with e1 e2
  subst e1 e2;exact hat)
 have EO:=aA e;rw[e] at c18;have j1:(j:Int)<(n:Int):=by omega
 have j0:(0:Int)≤(j:Int):=by omega
 have hM:=aA (sV HX.out.len);have hC:=aA (sV HS.out.len);obtain ⟨r,hr⟩:∃r,rE s.jN x.m=r:=⟨_,rfl⟩;obtain ⟨u,hu⟩:∃u,r.getD dZ=u:=⟨_,rfl⟩;obtain ⟨er,her⟩:∃er:Int,(if r.isSome then (0:Int) else 30)=er:=⟨_,rfl⟩;have UL:Hid (u.length=16):=aA (by
  rw[←hu]
  cases r with
  | none=>rfl
  | some m=>exact xD hr)
 have cA:Hid (vH 141 #[.agg (mC s.jN),.agg (mC x.m)] (.tuple #[.agg (mC u),.int .i64 er])):=aA fun w=>by
  have:=Lm s.jN x.m w HS.out.len HX.out.len;unfold Ci at this;rw[hr,hu,her] at this;exact this
 have HU:=aA hu;have HER:=aA her;rw[hr] at HR;have YI:=aA (show (prog.info? 25).map (·.size)=some (mC u).size by rw[iT,eV,UL.out]);have SAMU:=aA (show 16=(mC u).size by rw[eV,UL.out]);rw[HR.out];clear hx HRG e hr hu her h1 h2 hj;go_enter func122,ntmps122;go_wp2_with fail;clear c18;generalize ((w.alloc (.cells (eU s) 28)).alloc (.cells #[.int .i64 0,.int .i64 0,.int .i64 0,.int .i64 0,.int .i64 0,.int .i64 0,.int .i64 0,.int .i64 0,.int .i64 0,.int .i64 0,.int .i64 0,.int .i64 0,.int .i64 0,.int .i64 0,.int .i64 0,.int .i64 0] 25))=V at HI ⊢;rename_i K5 Aw;refine (bN (n:=5)).1 (eA (S:=fun X=>Below V.heap.size V X) (Z:=[]) (by kernel_rfl) (by kernel_rfl) dU (fun d _ _ _ _ h=>by cases d <;> exact h) (eM _ _ 1) (fun hG rA hw0=>?_));refine dT [] 0 (?_) hG rfl (by kernel_rfl) hw0 (by kernel_rfl) ?_ ?_;rotate_left
 ·intro wz hSw;first|(go_simp;done)|(go_simp;with_reducible rfl)
 intro qZ kS eL;clear eL hw0 rA;try simp only[aQ]
 refine dT [] 1 (.agg (mC s.jN)) hG rfl (by kernel_rfl) kS (by kernel_rfl) ?_ ?_
 ·intro wz hSw;exact gS 25 (.tmp 19) (by kernel_rfl) w.heap.size 2 (by kernel_rfl) (s.jN.map encI) _ (HI.out.sc.below hSw).jN aU (by kernel_rfl) hC.out
 intro qY hw2 eL;clear eL kS qZ;try simp only[aQ]
 refine dT [] 2 (?_) hG rfl (by kernel_rfl) hw2 (by kernel_rfl) ?_ ?_;rotate_left
 ·intro wz hSw;first|(go_simp;done)|(go_simp;with_reducible rfl)
 intro qX hw3 eL;clear eL hw2 qY;try simp only[aQ]
 refine dT [] 3 (.slice (some ⟨b,off,none⟩) n s.oc) hG rfl (by kernel_rfl) hw3 (by kernel_rfl) ?_ ?_
 ·intro wz hSw;have c18:=(HI.out.sc.below hSw).c18 HS.out;rw[EO.out,HN.out] at c18;(first|(go_simp;done)|(go_simp;with_reducible rfl))
 intro qW hw4 eL;clear eL hw3 qX;try simp only[aQ]
 refine dT [] 4 (?_) hG rfl (by kernel_rfl) hw4 (by kernel_rfl) ?_ ?_;rotate_left
 ·intro wz hSw;first|(go_simp;done)|(go_simp;with_reducible rfl)
 intro qV lB eL;clear eL hw4 qW;try simp only[aQ]
 refine dT [] 5 (.pointer (some ⟨b,off+j*19,none⟩)) hG rfl (by kernel_rfl) lB (by kernel_rfl) ?_ ?_
 ·intro wz hSw;first|(go_simp;done)|(go_simp;with_reducible rfl)
 intro qU kA eL;clear eL lB qV;try simp only[aQ]
 refine dT [] 6 (.pointer (some ⟨b,off+j*19+1,none⟩)) hG rfl (by kernel_rfl) kA (by kernel_rfl) ?_ ?_
 ·intro wz hSw;first|(go_simp;done)|(go_simp;with_reducible rfl)
 intro qC kP eL;clear eL kA qU;try simp only[aQ]
 refine dT [] 7 (.agg (mC x.m)) hG rfl (by kernel_rfl) kP (by kernel_rfl) ?_ ?_
 ·intro wz hSw;exact gS 25 (.tmp 25) (by kernel_rfl) b (off+j*19+1) (by kernel_rfl) (x.m.map encI) _ (Il.out _ (HI.out.ob.below hSw)) aU (by kernel_rfl) hM.out
 intro sF kH eL;clear eL kP qC;try simp only[aQ]
 refine lC [] 8 141 #[.agg (mC s.jN),.agg (mC x.m)] (.tuple #[.agg (mC u),.int .i64 er]) hG rfl (by kernel_rfl) kH (by kernel_rfl) ?_ (cA.out) ?_
 ·intro wz;(first|(go_simp;done)|(go_simp;with_reducible rfl))
 intro sD lI eL;clear eL kH sF;try simp only[aQ]
 refine dT [] 9 (?_) hG rfl (by kernel_rfl) lI (by kernel_rfl) ?_ ?_;rotate_left
 ·intro wz hSw;first|(go_simp;done)|(go_simp;with_reducible rfl)
 intro jG gH eL;clear eL lI sD;try simp only[aQ]
 refine dT [] 10 (?_) hG rfl (by kernel_rfl) gH (by kernel_rfl) ?_ ?_;rotate_left
 ·intro wz hSw;first|(go_simp;done)|(go_simp;with_reducible rfl)
 intro kL gQ eL;clear eL gH jG;try simp only[aQ]
 refine dT [] 11 (?_) hG rfl (by kernel_rfl) gQ (by kernel_rfl) ?_ ?_;rotate_left
 ·intro wz hSw;first|(go_simp;done)|(go_simp;with_reducible rfl)
 intro lH iG eL;clear eL gQ kL;try simp only[aQ]
 refine fN 12 (by kernel_rfl) rfl (fun K hK=>?_);go_simp;obtain ⟨bC,Wt⟩:∃b,lH.heap.size=b:=⟨_,rfl⟩;have gbC:V.heap.size≤bC:=by rw[←Wt];exact iG.size
 rw[Wt];have Mi:Below V.heap.size V (lH.alloc (.cells #[.int .i64 0,.int .i64 0,.int .i64 0,.int .i64 0,.int .i64 0,.int .i64 0,.int .i64 0,.int .i64 0,.int .i64 0,.int .i64 0,.int .i64 0,.int .i64 0,.int .i64 0,.int .i64 0,.int .i64 0,.int .i64 0] 25)):=Below.alloc iG (by have:=iG.size;omega) _;have TC:=(show dI 25 bC #[.int .i64 0,.int .i64 0,.int .i64 0,.int .i64 0,.int .i64 0,.int .i64 0,.int .i64 0,.int .i64 0,.int .i64 0,.int .i64 0,.int .i64 0,.int .i64 0,.int .i64 0,.int .i64 0,.int .i64 0,.int .i64 0] (lH.alloc (.cells #[.int .i64 0,.int .i64 0,.int .i64 0,.int .i64 0,.int .i64 0,.int .i64 0,.int .i64 0,.int .i64 0,.int .i64 0,.int .i64 0,.int .i64 0,.int .i64 0,.int .i64 0,.int .i64 0,.int .i64 0,.int .i64 0] 25)) by rw[←Wt];exact dI.new _ _ _);refine hK.out _ _ (fun _=>Mi) (fun mS eL=>?_);have iW:=dU _ _ Mi eL;have RC:=dI.below eL TC;clear TC;clear eL hK K iG Mi;try simp only[aQ]
 clear Wt;refine fN 13 (by kernel_rfl) rfl (fun K hK=>?_);rw[aZ (by kernel_rfl)];refine eD (fun _=>trivial) 25 (.tmp 6) (.tmp 28) (by kernel_rfl) (bC) _ _ (mC u) (by kernel_rfl) (by kernel_rfl) RC YI.out SAMU.out (iV _) ?_;have Mh:Below V.heap.size V (mS.setRow bC (mC u)):=Below.row iW (by omega) _;have TC:=dI.row RC (mC u);refine hK.out _ _ (fun _=>Mh) (fun nH eL=>?_);have iZ:=dU _ _ Mh eL;replace RC:=dI.below eL TC;clear TC;clear eL hK K iW Mh;try simp only[aQ]
 refine dT [] 14 (?_) hG rfl (by kernel_rfl) iZ (by kernel_rfl) ?_ ?_;rotate_left
 ·intro wz hSw;first|(go_simp;done)|(go_simp;with_reducible rfl)
 intro oB jM eL;replace RC:=dI.below eL RC;clear eL iZ nH;try simp only[aQ]
 refine eK (by kernel_rfl) (?_) _;refine Aw _ _ ?_;have jP:=aA (HI.out.up jM);have Ys:=aA RC;clear RC Aw hG HI cA Il gbC
 cases r with
 | none =>
  obtain rfl:er=30:=HER.out.symm;clear Ys YI SAMU;go_wp2_with (first|(refine gI rfl 25 #[] rfl (mC dZ) (by kernel_rfl) ?_)|(refine dG rfl 25 (.tmp 4) (.tmp 32) rfl (w.heap.size+1) _ _ (mC dZ) rfl rfl jP.out.rr iT rfl (iV _) ?_))
  (try simp only[Exit.inBlock,Exit.then])
  exact aO (v:=.tuple #[.agg (mC dZ),.int .i64 60]) (eY rfl _ _ (w.heap.size+1) _ (mC dZ) _ _ (.int .i64 60) rfl (jP.out.rr.row _) aU rfl (by kernel_rfl) rfl) rfl ⟨rfl,Below.row jP.out.gL (by omega) _⟩
 | some m =>
  obtain rfl:m=u:=HU.out;obtain rfl:er=0:=HER.out.symm;have SAM2:Hid ((mC dZ).size=(mC m).size):=aA (by rw[eV,eV,UL.out];rfl);go_wp2_with (first|(refine wpList_load_row rfl 25 (.tmp 6) rfl (bC) rfl _ _ _ _ Ys.out aU rfl YI.out ?_)|(refine dG rfl 25 (.tmp 4) (.tmp 33) rfl (w.heap.size+1) _ _ (mC m) rfl rfl jP.out.rr YI.out SAM2.out (iV _) ?_))
  (try simp only[Exit.inBlock,Exit.then])
  exact aO (v:=.tuple #[.agg (mC m),.int .i64 0]) (eY rfl _ _ (w.heap.size+1) _ (mC m) _ _ (.int .i64 0) rfl (jP.out.rr.row _) aU rfl YI.out rfl) rfl ⟨rfl,Below.row jP.out.gL (by omega) _⟩
end Fx
namespace Fx
open Go Go.RowKit Go.Shelf
def wE {α:Type}(p:α→Bool)(l:List α):Int:=((l.findIdx? p).map Int.ofNat).getD (-1)
theorem xK {α:Type}{p:α→Bool}{l:List α}{n:Nat}(hn:l.length≤n)(h:(l.take n).any p=false):wE p l=-1:=by
 rw[bB hn] at h;unfold wE;rw[List.findIdx?_eq_none_iff.2 (by simpa using h)];rfl
theorem BG {α:Type}{p:α→Bool}{l:List α}{k:Nat}{x:α}(hx:l[k]?=some x)(h:(l.take k).any p=false)(hp:p x=true):wE p l=(k:Int):=by
 obtain ⟨wI,hx'⟩:=aY.1 hx;unfold wE;have e:l.findIdx? p=some k:=by
  rw[←List.take_append_drop k l,List.findIdx?_append,List.findIdx?_eq_none_iff.2 (by simpa using h),List.drop_eq_getElem_cons wI];simp[List.findIdx?_cons,hx',hp];omega
 rw[e];rfl
theorem BH {α:Type}(p:α→Bool)(l:List α):(l.any p=true∧0≤wE p l)∨(l.any p=false∧wE p l<0):=by
 unfold wE
 cases h:l.findIdx? p with
 | none =>
  right
  rw[List.findIdx?_eq_none_iff] at h;exact ⟨by simpa using h,by simp⟩
 | some k =>
  left
  have:=List.findIdx?_eq_some_iff_getElem.1 h;obtain ⟨h1,h2,_⟩:=this;exact ⟨List.any_eq_true.2 ⟨_,List.getElem_mem h1,h2⟩,by simp⟩
def Cm {α:Type}(p:α→Bool)(l:List α)(w:World)(n g:Nat)(s5 s8:Value)(W:World):Prop :=
 ∃k:Nat,g=n-k∧s8=.int .i64 (k:Int)∧k≤n∧Below w.heap.size w W∧(l.take k).any p=false
theorem xU {α:Type}{p:α→Bool}{l:List α}{k:Nat}{x:α}(hx:l[k]?=some x)(h:(l.take k).any p=false)(hp:p x=false):(l.take (k+1)).any p=false:=by
 rw[bX,hx,List.any_append,h];simp[hp]
def OC (z:Int)(w:World)(e:Ending)(w':World):Prop:=e=.returned (.int .i64 z)∧Below w.heap.size w w'
theorem idx_v (p:List Int→Bool)(g:Nat)(lb:Array Value)(eg:∀args w,(callFunc g args).run prog w=.ok (.enter g args) w)(o:Option Addr)(c:Nat)(l:List (List Int))(w:World)
  (hl:fH w o l) (hlen:l.length≤9223372036854775807)
  (hp:∀W x,Below w.heap.size w W→x∈l→Calls prog g (#[.agg (x.map encI).toArray]++lb) W fun e w'=>e=.returned (.bool (p x))∧Below W.heap.size W w') :
  Calls prog 142 #[.slice o l.length c,.func (.func g) #[] lb] w (OC (wE p l) w):=by
 obtain ⟨n,hn⟩:∃n,l.length=n:=⟨_,rfl⟩;have HN:=aA hn;have HL:=aA hl;have HP:=aA hp;rw[hn] at hlen ⊢;have n0:(0:Int)≤(n:Int):=by omega
 have n1:(n:Int)≤9223372036854775807:=by omega
 clear hn hl hp hlen;go_enter func142,ntmps142;go_wp2_with fail;go_loopg[5,8] n (Cm p l w n)
 case atStart=>exact ⟨0,rfl,rfl,by omega,aJ _ _,rfl⟩
 case round =>
  obtain ⟨k,hg,rfl,hk,hbl,ha⟩:=hrel;subst hg;have HB:=aA hbl;have HA:=aA ha;clear ha;have k0:(0:Int)≤(k:Int):=by omega
  by_cases pK:k<n
  ·have t1:(k:Int)<(n:Int):=by omega
   obtain ⟨x,hx⟩:∃x,l[k]?=some x:=⟨_,aF (by rw[HN.out];exact pK)⟩;obtain ⟨b,off,e,hr,sY⟩:=(HL.out.below hbl) k x hx;have lW:=aA (show (prog.info? 85).map (·.size)=some (x.map encI).length by (first|(rw[aT,sY.len];kernel_rfl)|kernel_rfl));have HR:=aA hr;have HC:=aA (HP.out wr x hbl (aX hx));have HX:=aA hx;subst e;clear hbl hx hr sY
   cases hq:p x with
   | true =>
    rw[hq] at HC;have iP:=aA (BG HX.out HA.out hq);clear hq;go_wp2_with (first|(go_at_fn g;refine HC.out.mono ?_;rintro e w' ⟨rfl,hb'⟩)|(refine wpList_load_mid rfl 85 (.tmp 14) rfl b (off+k*3) rfl (x.map encI) _ HR.out cU rfl lW.out ?_))
    go_ret;exact ⟨by rw[iP.out];rfl,dN HB.out hb'⟩
   | false =>
    rw[hq] at HC;have iP:=aA (xU HX.out HA.out hq);clear hq;go_wp2_with (first|(go_at_fn g;refine HC.out.mono ?_;rintro e w' ⟨rfl,hb'⟩)|(refine wpList_load_mid rfl 85 (.tmp 14) rfl b (off+k*3) rfl (x.map encI) _ HR.out cU rfl lW.out ?_))
    go_roundg (n-(k+1))
    case measure=>omega
    case rel=>exact ⟨k+1,rfl,by go_num,by omega,dN HB.out hb',iP.out⟩
  ·obtain rfl:k=n:=by omega
   have t1:¬ (k:Int)<(k:Int):=by omega
   have iP:=aA (xK (p:=p) (by rw[HN.out];omega) HA.out);clear hbl;go_wp2_with fail;go_ret;exact ⟨by rw[iP.out];rfl,HB.out⟩
theorem has_v (p:List Int→Bool)(g:Nat)(lb:Array Value)(eg:∀args w,(callFunc g args).run prog w=.ok (.enter g args) w)(o:Option Addr)(c:Nat)(l:List (List Int))(w:World)
  (hl:fH w o l) (hlen:l.length≤9223372036854775807)
  (hp:∀W x,Below w.heap.size w W→x∈l→Calls prog g (#[.agg (x.map encI).toArray]++lb) W fun e w'=>e=.returned (.bool (p x))∧Below W.heap.size W w') :
  Calls prog 124 #[.slice o l.length c,.func (.func g) #[] lb] w (fJ (l.any p) w):=by
 have HC:=aA (idx_v p g lb eg o c l w hl hlen hp);have HZ:=aA (BH p l);clear hp hl eg;generalize wE p l=z at HC HZ;generalize l.any p=r at HZ ⊢;generalize l.length=n at *
 rcases HZ.out with ⟨rfl,hz⟩|⟨rfl,hz⟩
 ·clear HZ
  go_enter func124,ntmps124;go_wp2_with fail;refine HC.out.mono ?_;rintro e w1 ⟨rfl,hb⟩;have HB:=aA hb;clear hb;go_wp2_with fail;go_ret;exact ⟨rfl,HB.out⟩
 ·clear HZ
  have hz2:¬ 0≤z:=by omega
  go_enter func124,ntmps124;go_wp2_with fail;refine HC.out.mono ?_;rintro e w1 ⟨rfl,hb⟩;have HB:=aA hb;clear hb;go_wp2_with fail;go_ret;exact ⟨by show Ending.returned (.bool (decide (0≤z)))=_;rw[aN (show ¬ 0≤z by omega)],HB.out⟩
theorem idx_t (p:gB→Bool)(g:Nat)(lb:Array Value)(eg:∀args w,(callFunc g args).run prog w=.ok (.enter g args) w)(o:Option Addr)(c:Nat)(l:List (gB))(w:World)
  (hl:gM w o l) (hlen:l.length≤9223372036854775807)
  (hp:∀W x,Below w.heap.size w W→x∈l→Calls prog g (#[.agg (fC x).toArray]++lb) W fun e w'=>e=.returned (.bool (p x))∧Below W.heap.size W w') :
  Calls prog 147 #[.slice o l.length c,.func (.func g) #[] lb] w (OC (wE p l) w):=by
 obtain ⟨n,hn⟩:∃n,l.length=n:=⟨_,rfl⟩;have HN:=aA hn;have HL:=aA hl;have HP:=aA hp;rw[hn] at hlen ⊢;have n0:(0:Int)≤(n:Int):=by omega
 have n1:(n:Int)≤9223372036854775807:=by omega
 clear hn hl hp hlen;go_enter func147,ntmps147;go_wp2_with fail;go_loopg[5,8] n (Cm p l w n)
 case atStart=>exact ⟨0,rfl,rfl,by omega,aJ _ _,rfl⟩
 case round =>
  obtain ⟨k,hg,rfl,hk,hbl,ha⟩:=hrel;subst hg;have HB:=aA hbl;have HA:=aA ha;clear ha;have k0:(0:Int)≤(k:Int):=by omega
  by_cases pK:k<n
  ·have t1:(k:Int)<(n:Int):=by omega
   obtain ⟨x,hx⟩:∃x,l[k]?=some x:=⟨_,aF (by rw[HN.out];exact pK)⟩;obtain ⟨b,off,e,hr,sY⟩:=(HL.out.below hbl) k x hx;have lW:=aA (show (prog.info? 87).map (·.size)=some (fC x).length by (first|(rw[aT,sY.len];kernel_rfl)|kernel_rfl));have HR:=aA hr;have HC:=aA (HP.out wr x hbl (aX hx));have HX:=aA hx;subst e;clear hbl hx hr sY
   cases hq:p x with
   | true =>
    rw[hq] at HC;have iP:=aA (BG HX.out HA.out hq);clear hq;go_wp2_with (first|(go_at_fn g;refine HC.out.mono ?_;rintro e w' ⟨rfl,hb'⟩)|(refine wpList_load_mid rfl 87 (.tmp 14) rfl b (off+k*4) rfl (fC x) _ HR.out cR rfl lW.out ?_))
    go_ret;exact ⟨by rw[iP.out];rfl,dN HB.out hb'⟩
   | false =>
    rw[hq] at HC;have iP:=aA (xU HX.out HA.out hq);clear hq;go_wp2_with (first|(go_at_fn g;refine HC.out.mono ?_;rintro e w' ⟨rfl,hb'⟩)|(refine wpList_load_mid rfl 87 (.tmp 14) rfl b (off+k*4) rfl (fC x) _ HR.out cR rfl lW.out ?_))
    go_roundg (n-(k+1))
    case measure=>omega
    case rel=>exact ⟨k+1,rfl,by go_num,by omega,dN HB.out hb',iP.out⟩
  ·obtain rfl:k=n:=by omega
   have t1:¬ (k:Int)<(k:Int):=by omega
   have iP:=aA (xK (p:=p) (by rw[HN.out];omega) HA.out);clear hbl;go_wp2_with fail;go_ret;exact ⟨by rw[iP.out];rfl,HB.out⟩
theorem has_t (p:gB→Bool)(g:Nat)(lb:Array Value)(eg:∀args w,(callFunc g args).run prog w=.ok (.enter g args) w)(o:Option Addr)(c:Nat)(l:List (gB))(w:World)
  (hl:gM w o l) (hlen:l.length≤9223372036854775807)
  (hp:∀W x,Below w.heap.size w W→x∈l→Calls prog g (#[.agg (fC x).toArray]++lb) W fun e w'=>e=.returned (.bool (p x))∧Below W.heap.size W w') :
  Calls prog 129 #[.slice o l.length c,.func (.func g) #[] lb] w (fJ (l.any p) w):=by
 have HC:=aA (idx_t p g lb eg o c l w hl hlen hp);have HZ:=aA (BH p l);clear hp hl eg;generalize wE p l=z at HC HZ;generalize l.any p=r at HZ ⊢;generalize l.length=n at *
 rcases HZ.out with ⟨rfl,hz⟩|⟨rfl,hz⟩
 ·clear HZ
  go_enter func129,ntmps129;go_wp2_with fail;refine HC.out.mono ?_;rintro e w1 ⟨rfl,hb⟩;have HB:=aA hb;clear hb;go_wp2_with fail;go_ret;exact ⟨rfl,HB.out⟩
 ·clear HZ
  have hz2:¬ 0≤z:=by omega
  go_enter func129,ntmps129;go_wp2_with fail;refine HC.out.mono ?_;rintro e w1 ⟨rfl,hb⟩;have HB:=aA hb;clear hb;go_wp2_with fail;go_ret;exact ⟨by show Ending.returned (.bool (decide (0≤z)))=_;rw[aN (show ¬ 0≤z by omega)],HB.out⟩
theorem idx_q (p:Int→Bool)(g:Nat)(lb:Array Value)(eg:∀args w,(callFunc g args).run prog w=.ok (.enter g args) w)(o:Option Addr)(c:Nat)(l:List (Int))(w:World)
  (hl:qN w o l) (hlen:l.length≤9223372036854775807)
  (hp:∀W x,Below w.heap.size w W→x∈l→Calls prog g (#[.int .i64 x]++lb) W fun e w'=>e=.returned (.bool (p x))∧Below W.heap.size W w') :
  Calls prog 152 #[.slice o l.length c,.func (.func g) #[] lb] w (OC (wE p l) w):=by
 obtain ⟨n,hn⟩:∃n,l.length=n:=⟨_,rfl⟩;have HN:=aA hn;have HL:=aA hl;have HP:=aA hp;rw[hn] at hlen ⊢;have n0:(0:Int)≤(n:Int):=by omega
 have n1:(n:Int)≤9223372036854775807:=by omega
 clear hn hl hp hlen;go_enter func152,ntmps152;go_wp2_with fail;go_loopg[5,8] n (Cm p l w n)
 case atStart=>exact ⟨0,rfl,rfl,by omega,aJ _ _,rfl⟩
 case round =>
  obtain ⟨k,hg,rfl,hk,hbl,ha⟩:=hrel;subst hg;have HB:=aA hbl;have HA:=aA ha;clear ha;have k0:(0:Int)≤(k:Int):=by omega
  by_cases pK:k<n
  ·have t1:(k:Int)<(n:Int):=by omega
   obtain ⟨x,hx⟩:∃x,l[k]?=some x:=⟨_,aF (by rw[HN.out];exact pK)⟩;obtain ⟨b,off,e,hr⟩:=(HL.out.below hbl) k (by rw[HN.out];exact pK);rw[aS,hx,Option.getD_some] at hr;have HC:=aA (HP.out wr x hbl (aX hx));have HX:=aA hx;subst e;clear hbl hx 
   cases hq:p x with
   | true =>
    rw[hq] at HC;have iP:=aA (BG HX.out HA.out hq);clear hq;go_wp2_with (first|(go_at_fn g;refine HC.out.mono ?_;rintro e w' ⟨rfl,hb'⟩)|fail)
    go_ret;exact ⟨by rw[iP.out];rfl,dN HB.out hb'⟩
   | false =>
    rw[hq] at HC;have iP:=aA (xU HX.out HA.out hq);clear hq;go_wp2_with (first|(go_at_fn g;refine HC.out.mono ?_;rintro e w' ⟨rfl,hb'⟩)|fail)
    go_roundg (n-(k+1))
    case measure=>omega
    case rel=>exact ⟨k+1,rfl,by go_num,by omega,dN HB.out hb',iP.out⟩
  ·obtain rfl:k=n:=by omega
   have t1:¬ (k:Int)<(k:Int):=by omega
   have iP:=aA (xK (p:=p) (by rw[HN.out];omega) HA.out);clear hbl;go_wp2_with fail;go_ret;exact ⟨by rw[iP.out];rfl,HB.out⟩
theorem has_q (p:Int→Bool)(g:Nat)(lb:Array Value)(eg:∀args w,(callFunc g args).run prog w=.ok (.enter g args) w)(o:Option Addr)(c:Nat)(l:List (Int))(w:World)
  (hl:qN w o l) (hlen:l.length≤9223372036854775807)
  (hp:∀W x,Below w.heap.size w W→x∈l→Calls prog g (#[.int .i64 x]++lb) W fun e w'=>e=.returned (.bool (p x))∧Below W.heap.size W w') :
  Calls prog 143 #[.slice o l.length c,.func (.func g) #[] lb] w (fJ (l.any p) w):=by
 have HC:=aA (idx_q p g lb eg o c l w hl hlen hp);have HZ:=aA (BH p l);clear hp hl eg;generalize wE p l=z at HC HZ;generalize l.any p=r at HZ ⊢;generalize l.length=n at *
 rcases HZ.out with ⟨rfl,hz⟩|⟨rfl,hz⟩
 ·clear HZ
  go_enter func143,ntmps143;go_wp2_with fail;refine HC.out.mono ?_;rintro e w1 ⟨rfl,hb⟩;have HB:=aA hb;clear hb;go_wp2_with fail;go_ret;exact ⟨rfl,HB.out⟩
 ·clear HZ
  have hz2:¬ 0≤z:=by omega
  go_enter func143,ntmps143;go_wp2_with fail;refine HC.out.mono ?_;rintro e w1 ⟨rfl,hb⟩;have HB:=aA hb;clear hb;go_wp2_with fail;go_ret;exact ⟨by show Ending.returned (.bool (decide (0≤z)))=_;rw[aN (show ¬ 0≤z by omega)],HB.out⟩
theorem idx_i (p:Int→Bool)(g:Nat)(lb:Array Value)(eg:∀args w,(callFunc g args).run prog w=.ok (.enter g args) w)(o:Option Addr)(c:Nat)(l:List (Int))(w:World)
  (hl:qN w o l) (hlen:l.length≤9223372036854775807)
  (hp:∀W x,Below w.heap.size w W→x∈l→Calls prog g (#[.int .i64 x]++lb) W fun e w'=>e=.returned (.bool (p x))∧Below W.heap.size W w') :
  Calls prog 153 #[.slice o l.length c,.func (.func g) #[] lb] w (OC (wE p l) w):=by
 obtain ⟨n,hn⟩:∃n,l.length=n:=⟨_,rfl⟩;have HN:=aA hn;have HL:=aA hl;have HP:=aA hp;rw[hn] at hlen ⊢;have n0:(0:Int)≤(n:Int):=by omega
 have n1:(n:Int)≤9223372036854775807:=by omega
 clear hn hl hp hlen;go_enter func153,ntmps153;go_wp2_with fail;go_loopg[5,8] n (Cm p l w n)
 case atStart=>exact ⟨0,rfl,rfl,by omega,aJ _ _,rfl⟩
 case round =>
  obtain ⟨k,hg,rfl,hk,hbl,ha⟩:=hrel;subst hg;have HB:=aA hbl;have HA:=aA ha;clear ha;have k0:(0:Int)≤(k:Int):=by omega
  by_cases pK:k<n
  ·have t1:(k:Int)<(n:Int):=by omega
   obtain ⟨x,hx⟩:∃x,l[k]?=some x:=⟨_,aF (by rw[HN.out];exact pK)⟩;obtain ⟨b,off,e,hr⟩:=(HL.out.below hbl) k (by rw[HN.out];exact pK);rw[aS,hx,Option.getD_some] at hr;have HC:=aA (HP.out wr x hbl (aX hx));have HX:=aA hx;subst e;clear hbl hx 
   cases hq:p x with
   | true =>
    rw[hq] at HC;have iP:=aA (BG HX.out HA.out hq);clear hq;go_wp2_with (first|(go_at_fn g;refine HC.out.mono ?_;rintro e w' ⟨rfl,hb'⟩)|fail)
    go_ret;exact ⟨by rw[iP.out];rfl,dN HB.out hb'⟩
   | false =>
    rw[hq] at HC;have iP:=aA (xU HX.out HA.out hq);clear hq;go_wp2_with (first|(go_at_fn g;refine HC.out.mono ?_;rintro e w' ⟨rfl,hb'⟩)|fail)
    go_roundg (n-(k+1))
    case measure=>omega
    case rel=>exact ⟨k+1,rfl,by go_num,by omega,dN HB.out hb',iP.out⟩
  ·obtain rfl:k=n:=by omega
   have t1:¬ (k:Int)<(k:Int):=by omega
   have iP:=aA (xK (p:=p) (by rw[HN.out];omega) HA.out);clear hbl;go_wp2_with fail;go_ret;exact ⟨by rw[iP.out];rfl,HB.out⟩
theorem has_i (p:Int→Bool)(g:Nat)(lb:Array Value)(eg:∀args w,(callFunc g args).run prog w=.ok (.enter g args) w)(o:Option Addr)(c:Nat)(l:List (Int))(w:World)
  (hl:qN w o l) (hlen:l.length≤9223372036854775807)
  (hp:∀W x,Below w.heap.size w W→x∈l→Calls prog g (#[.int .i64 x]++lb) W fun e w'=>e=.returned (.bool (p x))∧Below W.heap.size W w') :
  Calls prog 145 #[.slice o l.length c,.func (.func g) #[] lb] w (fJ (l.any p) w):=by
 have HC:=aA (idx_i p g lb eg o c l w hl hlen hp);have HZ:=aA (BH p l);clear hp hl eg;generalize wE p l=z at HC HZ;generalize l.any p=r at HZ ⊢;generalize l.length=n at *
 rcases HZ.out with ⟨rfl,hz⟩|⟨rfl,hz⟩
 ·clear HZ
  go_enter func145,ntmps145;go_wp2_with fail;refine HC.out.mono ?_;rintro e w1 ⟨rfl,hb⟩;have HB:=aA hb;clear hb;go_wp2_with fail;go_ret;exact ⟨rfl,HB.out⟩
 ·clear HZ
  have hz2:¬ 0≤z:=by omega
  go_enter func145,ntmps145;go_wp2_with fail;refine HC.out.mono ?_;rintro e w1 ⟨rfl,hb⟩;have HB:=aA hb;clear hb;go_wp2_with fail;go_ret;exact ⟨by show Ending.returned (.bool (decide (0≤z)))=_;rw[aN (show ¬ 0≤z by omega)],HB.out⟩
theorem Et (n:Int)(w:World):Calls prog 144 #[.int .i64 n] w fun e w'=>e=.returned (.bool (nU n))∧w'=w:=by
 by_cases h2:n < -1073741824
 ·have e:nU n=true:=by unfold nU;rw[bA h2,Bool.or_true]
  rw[e];clear e;go_enter func144,ntmps144;go_wp2_with fail;go_ret;exact ⟨rfl,rfl⟩
 ·by_cases h1:1073741824<n
  ·have e:nU n=true:=by unfold nU;rw[bA h1];rfl
   rw[e];clear e;go_enter func144,ntmps144;go_wp2_with fail;go_ret;exact ⟨rfl,rfl⟩
  ·have e:nU n=false:=by unfold nU;rw[aN h1,aN h2];rfl
   rw[e];clear e;go_enter func144,ntmps144;go_wp2_with fail;go_ret;exact ⟨rfl,rfl⟩
theorem Ou {v:List Int}(h:v.length=3):v.any nU = !rL v:=by
 match v,h with
 | [a,b,c],_=>simp[rL,Bool.or_assoc]
theorem Kv (v:List Int)(w:World)(hv:v.length=3):Calls prog 125 #[.agg (v.map encI).toArray] w (fJ (!rL v) w):=by
 have hI:qN (w.alloc (.cells (v.map encI).toArray 85)) (some ⟨w.heap.size,0,none⟩) v:=fun i hi=>⟨_,_,rfl,by
  rw[aD _ _ _ _ _ _ (aG _ _),bE];simp[aF hi,aS,encI]⟩
 have HC:=aA (has_q nU 144 #[] (enters_of func144 (by kernel_rfl) rfl) _ 3 v _ hI (by omega) (fun W x _ _=>(Et x W).mono fun _ _ h=>⟨h.1,h.2▸aJ _ _⟩));have HB:Hid (Below w.heap.size w (w.alloc (.cells (v.map encI).toArray 85))):=aA ((aJ _ w).alloc (aB _) _);rw[Ou hv,hv] at HC;generalize rL v=r at HC ⊢;generalize (v.map encI).toArray=cs at *;clear hI hv;go_enter func125,ntmps125;go_wp2_with fail;refine HC.out.mono ?_;rintro e w1 ⟨rfl,hb⟩;have jK:=aA (dN HB.out hb);clear hb;go_wp2_with fail;go_ret;exact ⟨rfl,jK.out⟩
structure nY (x:eE)(B:Nat)(V:World):Prop where
 row:V.heap[B]?=some (.cells (dP x).toArray 73 (0,0))
 wf:jY x
theorem nY.at {x:eE}{B j:Nat}{V:World}(i:nY x B V):V.cell? ⟨B,j,none⟩=(dP x)[j]?:=by
 rw[aD _ _ _ _ _ _ i.row];simp
theorem nY.c0 {x:eE}{B:Nat}{V:World}(i:nY x B V):V.cell? ⟨B,0,none⟩=some (.int .i64 x.id):=i.at
theorem nY.c17 {x:eE}{B:Nat}{V:World}(i:nY x B V):V.cell? ⟨B,17,none⟩=some (.slice x.vo x.vs.length x.vc):=i.at.trans (nB i.wf)
theorem nY.c18 {x:eE}{B:Nat}{V:World}(i:nY x B V):V.cell? ⟨B,18,none⟩=some (.slice x.tq x.ts.length x.tc):=i.at.trans (nC i.wf)
theorem nY.GJ {x:eE}{B:Nat}{V:World}(i:nY x B V):V.rangeAt B 1 (x.m.map encI):=fun j v hj=>i.at.trans (DX hj)
theorem nY.up {x:eE}{B:Nat}{V X:World}(hb:Below V.heap.size V X)(i:nY x B V):nY x B X:=⟨dL hb i.row,i.wf⟩
theorem nY.new (x:eE)(w:World)(h:jY x):nY x w.heap.size (w.alloc (.cells (dP x).toArray 73)):=⟨aG _ _,h⟩
theorem eN.wf {W:World}{o:Option Addr}{l:List eE}{k:Nat}{x:eE}(h:eN W o l)(hx:l[k]?=some x):jY x∧fH W x.vo x.vs∧gM W x.tq x.ts:=by
 obtain ⟨b,off,e,hat⟩:=h k x hx;exact ⟨hat.wf,hat.sT,hat.zM⟩
theorem eZ.all {A:Nat}{s:eF}{W:World}(h:eZ A s W):W.rangeAt A 0 (fP s):=fun j v hj=>by
 rw[bE];exact h.at.trans hj
theorem CR {s:eF}(hs:iA s):(prog.info? 28).map (·.size)=some (fP s).length:=by rw[lR hs];kernel_rfl
theorem XO {s:eF}{x:eE}{k:Nat}(hx:s.os[k]?=some x):((s.os.take k).all fun y=>decide (y.id≠x.id))=decide ((lD s.os x.id).getD 0=k):=by
 obtain ⟨wI,hx'⟩:=aY.1 hx
 cases h:lD (s.os.take k) x.id with
 | none =>
  rw[TH hx h rfl];have : ((s.os.take k).all fun y=>decide (y.id≠x.id))=true:=by
   unfold lD at h;rw[List.findIdx?_eq_none_iff] at h;rw[bU];intro y hy;have:=h y hy
   simpa using this
  rw[this];simp
 | some i =>
  have hi:lD s.os x.id=some i:=by
   unfold lD at h ⊢;rw[←List.take_append_drop k s.os,List.findIdx?_append,h];rfl
  have hlt:i<k:=by
   unfold lD at h;obtain ⟨h1,_⟩:=List.findIdx?_eq_some_iff_getElem.1 h;simp at h1;omega
  have : ((s.os.take k).all fun y=>decide (y.id≠x.id))=false:=by
   unfold lD at h;obtain ⟨h1,h2,_⟩:=List.findIdx?_eq_some_iff_getElem.1 h;rw[List.all_eq_false];exact ⟨_,List.getElem_mem h1,by simpa using h2⟩
  rw[this,hi];simp;omega
theorem duty1 (s:eF)(x:eE)(k A:Nat)(w:World)(hs:iA s)(ha:eZ A s w)(h:eN w s.oo s.os)(hx:s.os[k]?=some x) :
  Calls prog 118 #[.int .i64 (k:Int),.agg (dP x).toArray,.pointer (some ⟨A,0,none⟩)] w (fJ (rF s x k) w):=by
 have HB:Hid (Below w.heap.size w (w.alloc (.cells (dP x).toArray 73))):=aA ((aJ _ w).alloc (aB _) _);have HX:=aA (nY.new x w (h.wf hx).1);have HA:=aA (ha.below HB.out);have hall:=aA (CR hs);have HF:=aA (Es s x.id _ hs (h.below HB.out));have HK:Hid (rF s x k=(decide ((lD s.os x.id).getD 0=k) && (decide (1≤x.id) && decide (x.id≤65535)))):=aA (by unfold rF;rw[XO hx]);have c0:=HX.out.c0;have k0:(0:Int)≤(k:Int):=by omega
 unfold Cj at HF;rw[HK.out];clear h hx ha hs HK;generalize x.id=z at c0 HF ⊢;generalize lD s.os z=fz at HF ⊢;generalize fz.isSome=fb at HF;generalize fz.getD 0=f at HF ⊢;go_enter func118,ntmps118;go_wp2_with (refine wpList_load_mid rfl 28 (.tmp 2) rfl A 0 rfl (fP s) _ HA.out.all aW rfl hall.out ?_)
 refine HF.out.mono ?_;rintro e w1 ⟨rfl,hb⟩;have c1:=dE hb c0;have jK:=aA (dN HB.out hb);clear hb HF c0;by_cases h1:1≤z
 ·by_cases h2:z≤65535
  ·by_cases h3:f=k
   ·subst h3
    go_wp2_with fail;go_ret;exact ⟨by (first|(simp[*];done)|(simp;omega)|(simp[*];omega)),jK.out⟩
   ·have t3:¬ (f:Int)=(k:Int):=by omega
    go_wp2_with fail;go_ret;exact ⟨by (first|(simp[*];done)|(simp;omega)|(simp[*];omega)),jK.out⟩
  ·go_wp2_with fail
   go_ret;exact ⟨by (first|(simp[*];done)|(simp;omega)|(simp[*];omega)),jK.out⟩
 ·go_wp2_with fail
  go_ret;exact ⟨by (first|(simp[*];done)|(simp;omega)|(simp[*];omega)),jK.out⟩
theorem duty2 (s:eF)(x:eE)(k:Nat)(w:World)(hx:jY x) :
  Calls prog 120 #[.int .i64 (k:Int),.agg (dP x).toArray] w (fJ (xJ s x k) w):=by
 have HB:Hid (Below w.heap.size w (w.alloc (.cells (dP x).toArray 73))):=aA ((aJ _ w).alloc (aB _) _);have HX:=aA (nY.new x w hx);have hM:=aA (sV hx.len);have HC:=aA (yQ x.m 16777216 (w.alloc (.cells (dP x).toArray 73)) hx.len (by omega) (by omega));have HK:Hid (xJ s x k=wB 16777216 x.m 16):=aA rfl;rw[HK.out];clear hx HK
 cases hb:wB 16777216 x.m 16 with
 | true =>
  rw[hb] at HC;clear hb;go_enter func120,ntmps120;go_wp2_with (refine wpList_load_mid rfl 25 (.tmp 5) rfl w.heap.size 1 rfl (x.m.map encI) _ HX.out.GJ aU rfl hM.out ?_)
  refine HC.out.mono ?_;rintro e w1 ⟨rfl,hb⟩;have jK:=aA (dN HB.out hb);clear hb;go_wp2_with fail;go_ret;exact ⟨rfl,jK.out⟩
 | false =>
  rw[hb] at HC;clear hb;go_enter func120,ntmps120;go_wp2_with (refine wpList_load_mid rfl 25 (.tmp 5) rfl w.heap.size 1 rfl (x.m.map encI) _ HX.out.GJ aU rfl hM.out ?_)
  refine HC.out.mono ?_;rintro e w1 ⟨rfl,hb⟩;have jK:=aA (dN HB.out hb);clear hb;go_wp2_with fail;go_ret;exact ⟨rfl,jK.out⟩
def yF (s:eF)(k:Nat):Bool:=wB 67108864 ((nP s (k:Int)).getD dZ) 16
theorem Gr (s:eF)(k:Int):((nP s k).getD dZ).length=16:=by
 cases h:nP s k with
 | none=>rfl
 | some m =>
  unfold nP at h
  split at h
  ·cases hx:s.os[k.toNat]? with
   | none=>rw[hx] at h;cases h
   | some x =>
    rw[hx] at h;exact xD h
  ·cases h
theorem duty3 (s:eF)(x:eE)(k A:Nat)(w:World)(hs:iA s)(ha:eZ A s w)(h:eN w s.oo s.os)(hx:s.os[k]?=some x) :
  Calls prog 121 #[.int .i64 (k:Int),.agg (dP x).toArray,.pointer (some ⟨A,0,none⟩)] w (fJ (yF s k) w):=by
 have HB:Hid (Below w.heap.size w (w.alloc (.cells (dP x).toArray 73))):=aA ((aJ _ w).alloc (aB _) _);have HA:=aA (ha.below HB.out);have hall:=aA (CR hs);have HF:=aA (Eu s (k:Int) _ hs (h.below HB.out));have HU:=aA (Gr s (k:Int));have HC:=aA (fun (W:World)=>yQ ((nP s (k:Int)).getD dZ) 67108864 W HU.out (by omega) (by omega));have HK:Hid (yF s k=wB 67108864 ((nP s (k:Int)).getD dZ) 16):=aA rfl;unfold Ck at HF;rw[HK.out];clear h hx ha hs HK;generalize (if (nP s (k:Int)).isSome=true then (0:Int) else 60)=er at HF;generalize (nP s (k:Int)).getD dZ=u at *;have hM:=aA (sV HU.out);have hUA:=aA (show (prog.info? 25).map (·.size)=some (mC u).size by rw[iT,eV,HU.out]);have hUL:=aA (show 16=(mC u).size by rw[eV,HU.out])
 cases hb:wB 67108864 u 16 with
 | true =>
  rw[hb] at HC;clear hb;go_enter func121,ntmps121;go_wp2_with (refine wpList_load_mid rfl 28 (.tmp 2) rfl A 0 rfl (fP s) _ HA.out.all aW rfl hall.out ?_)
  refine HF.out.mono ?_;rintro e w1 ⟨rfl,hb⟩;have jK:=aA (dN HB.out hb);have mI:Hid (Below w.heap.size w (w1.alloc (.cells (mC u) 25))):=aA (Below.alloc jK.out jK.out.size _);have oz:=aA (DG (aG w1 (.cells (mC u) 25)));clear hb;go_wp2_with (first|(refine eJ rfl 25 (.tmp 6) (.tmp 12) rfl w1.heap.size _ _ (mC u) rfl rfl rfl hUA.out hUL.out (iV _) ?_)|(refine wpList_load_mid rfl 25 (.tmp 6) rfl w1.heap.size 0 rfl (u.map encI) _ oz.out aU rfl hM.out ?_))
  refine (HC.out _).mono ?_;rintro e w2 ⟨rfl,hb⟩;have LF:=aA (dN mI.out hb);clear hb;go_wp2_with fail;go_ret;exact ⟨rfl,LF.out⟩
 | false =>
  rw[hb] at HC;clear hb;go_enter func121,ntmps121;go_wp2_with (refine wpList_load_mid rfl 28 (.tmp 2) rfl A 0 rfl (fP s) _ HA.out.all aW rfl hall.out ?_)
  refine HF.out.mono ?_;rintro e w1 ⟨rfl,hb⟩;have jK:=aA (dN HB.out hb);have mI:Hid (Below w.heap.size w (w1.alloc (.cells (mC u) 25))):=aA (Below.alloc jK.out jK.out.size _);have oz:=aA (DG (aG w1 (.cells (mC u) 25)));clear hb;go_wp2_with (first|(refine eJ rfl 25 (.tmp 6) (.tmp 12) rfl w1.heap.size _ _ (mC u) rfl rfl rfl hUA.out hUL.out (iV _) ?_)|(refine wpList_load_mid rfl 25 (.tmp 6) rfl w1.heap.size 0 rfl (u.map encI) _ oz.out aU rfl hM.out ?_))
  refine (HC.out _).mono ?_;rintro e w2 ⟨rfl,hb⟩;have LF:=aA (dN mI.out hb);clear hb;go_wp2_with fail;go_ret;exact ⟨rfl,LF.out⟩
theorem Ce {α:Type}(l:List α)(p:α→Bool):l.any (fun x=>!p x) = !l.all p:=by
 induction l with
 | nil=>rfl
 | cons a t ih=>simp[ih,Bool.not_and]
theorem duty4 (s:eF)(x:eE)(k:Nat)(w:World)(hx:jY x)(hv:fH w x.vo x.vs) :
  Calls prog 123 #[.int .i64 (k:Int),.agg (dP x).toArray] w (fJ (tW s x k) w):=by
 have HB:Hid (Below w.heap.size w (w.alloc (.cells (dP x).toArray 73))):=aA ((aJ _ w).alloc (aB _) _);have HX:=aA (nY.new x w hx);have HC:=aA (has_v (fun v=>!rL v) 125 #[] (enters_of func125 (by kernel_rfl) rfl) x.vo x.vc x.vs _ (hv.below HB.out) (by have:=hx.LJ.1;omega) (fun W v _ hm=>by
  obtain ⟨i,hi⟩:=List.mem_iff_getElem?.1 hm;obtain ⟨b,off,e,h1,h2⟩:=hv i v hi;exact Kv v W h2.len))
 have c17:=HX.out.c17;have HK:Hid (tW s x k=(x.vs.all rL && decide ((x.vs.length:Int)≤64))):=aA rfl;have hc:=hx.LJ.1;rw[HK.out];rw[Ce] at HC;clear hx hv HK;generalize x.vs.all rL=r at HC ⊢;generalize x.vs.length=m at *;have m0:(0:Int)≤(m:Int):=by omega
 by_cases hm:(m:Int)≤64
 ·go_enter func123,ntmps123
  go_wp2_with fail;refine HC.out.mono ?_;rintro e w1 ⟨rfl,hb⟩;have jK:=aA (dN HB.out hb);clear hb;go_wp2_with fail;go_ret;exact ⟨by simp[hm],jK.out⟩
 ·go_enter func123,ntmps123
  go_wp2_with fail;go_ret;exact ⟨by simp[hm],HB.out⟩
def zO (n z:Int):Bool:=decide (z<0) || decide (n≤z)
theorem ME (A:Nat)(o:Option Addr)(n c:Nat)(z:Int)(w:World)(h:w.cell? ⟨A,0,none⟩=some (.slice o n c)):Calls prog 146 #[.int .i64 z,.pointer (some ⟨A,0,none⟩)] w fun e w'=>e=.returned (.bool (zO (n:Int) z))∧w'=w:=by
 have n0:(0:Int)≤(n:Int):=by omega
 by_cases h2:z<0
 ·have e:zO (n:Int) z=true:=by unfold zO;rw[bA h2];rfl
  rw[e];clear e;go_enter func146,ntmps146;go_wp2_with fail;go_ret;exact ⟨rfl,rfl⟩
 ·by_cases h1:(n:Int)≤z
  ·have e:zO (n:Int) z=true:=by unfold zO;rw[bA h1,Bool.or_true]
   rw[e];clear e;go_enter func146,ntmps146;go_wp2_with fail;go_ret;exact ⟨rfl,rfl⟩
  ·have e:zO (n:Int) z=false:=by unfold zO;rw[aN h1,aN h2];rfl
   rw[e];clear e;go_enter func146,ntmps146;go_wp2_with fail;go_ret;exact ⟨rfl,rfl⟩
theorem QM (o o2:Option Addr)(n c c2:Nat)(l:List Int)(w:World)(hl:qN w o2 l)(hn:l.length=3):Calls prog 128 #[.slice o n c,.slice o2 3 c2] w (fJ (!l.any (zO (n:Int))) w):=by
 have HB:Hid (Below w.heap.size w (w.alloc (.cells #[.slice o n c] 70))):=aA ((aJ _ w).alloc (aB _) _);have h0:(w.alloc (.cells #[.slice o n c] 70)).cell? ⟨w.heap.size,0,none⟩=some (.slice o n c):=by
  rw[aD _ _ _ _ _ _ (aG _ _)];rfl
 have HC:=aA (has_i (zO (n:Int)) 146 #[.pointer (some ⟨w.heap.size,0,none⟩)] (enters_of func146 (by kernel_rfl) rfl) o2 c2 l _ (hl.below HB.out) (by omega) (fun W z hb _=>(ME w.heap.size o n c z W (dE hb h0)).mono fun _ _ h=>⟨h.1,h.2▸aJ _ _⟩));rw[hn] at HC;generalize l.any (zO (n:Int))=r at HC ⊢;clear hl hn h0;go_enter func128,ntmps128;go_wp2_with fail;refine HC.out.mono ?_;rintro e w1 ⟨rfl,hb⟩;have jK:=aA (dN HB.out hb);clear hb;go_wp2_with fail;go_ret;exact ⟨rfl,jK.out⟩
theorem Ot (n:Int)(t:gB):(!([t.a,t.b,t.c].any (zO n)))=rM n t:=by
 unfold rM zO;simp only[List.any_cons,List.any_nil,Bool.or_false]
 congr 1
 cases decide (t.a<0) <;> cases decide (t.b<0) <;> cases decide (t.c<0) <;> cases decide (n≤t.a) <;> cases decide (n≤t.b) <;> cases decide (n≤t.c) <;> rfl
theorem Ep (x:eE)(B:Nat)(t:gB)(w:World)(i:nY x B w):Calls prog 127 #[.agg (fC t).toArray,.pointer (some ⟨B,0,none⟩)] w (fJ (!rM (x.vs.length:Int) t) w):=by
 obtain ⟨V,hV⟩:∃V,w.alloc (.cells (fC t).toArray 87)=V:=⟨_,rfl⟩;have HB:Hid (Below w.heap.size w V):=aA (by rw[←hV];exact (aJ _ w).alloc (aB _) _);have c17:=(i.up HB.out).c17;have hrow:V.heap[w.heap.size]?=some (.cells (fC t).toArray 87 (0,0)):=by rw[←hV];exact aG _ _
 have d0:V.cell? ⟨w.heap.size,0,none⟩=some (.int .i64 t.a):=by rw[aD _ _ _ _ _ _ hrow];rfl
 have d1:V.cell? ⟨w.heap.size,1,none⟩=some (.int .i64 t.b):=by rw[aD _ _ _ _ _ _ hrow];rfl
 have d2:V.cell? ⟨w.heap.size,2,none⟩=some (.int .i64 t.c):=by rw[aD _ _ _ _ _ _ hrow];rfl
 have HC:=aA (QM x.vo (some ⟨V.heap.size,0,none⟩) x.vs.length x.vc 3 [t.a,t.b,t.c] (V.alloc (.cells #[.int .i64 t.a,.int .i64 t.b,.int .i64 t.c] 3)) (fun j hj=>⟨_,_,rfl,by
  rw[aD _ _ _ _ _ _ (aG _ _),bE]
  match j,hj with
  | 0,_=>rfl
  | 1,_=>rfl
  | 2,_=>rfl⟩) rfl)
 have mI:Hid (Below w.heap.size w (V.alloc (.cells #[.int .i64 t.a,.int .i64 t.b,.int .i64 t.c] 3))):=aA (HB.out.alloc HB.out.size _);rw[Ot] at HC;have HV:=aA hV;clear hrow i hV;generalize rM (x.vs.length:Int) t=r at HC ⊢;generalize t.a=ta at *;generalize t.b=tb at *;generalize t.c=tc at *;generalize (fC t).toArray=tl at HV ⊢;go_enter func127,ntmps127;go_wp2_with (rw[HV.out])
 refine HC.out.mono ?_;rintro e w1 ⟨rfl,hb⟩;have jK:=aA (dN mI.out hb);clear hb;go_wp2_with fail;go_ret;exact ⟨rfl,jK.out⟩
theorem duty5 (s:eF)(x:eE)(k:Nat)(w:World)(hx:jY x)(hv:gM w x.tq x.ts) :
  Calls prog 126 #[.int .i64 (k:Int),.agg (dP x).toArray] w (fJ (tV s x k) w):=by
 have HB:Hid (Below w.heap.size w (w.alloc (.cells (dP x).toArray 73))):=aA ((aJ _ w).alloc (aB _) _);have HX:=aA (nY.new x w hx);have HC:=aA (has_t (fun t=>!rM (x.vs.length:Int) t) 127 #[.pointer (some ⟨w.heap.size,0,none⟩)] (enters_of func127 (by kernel_rfl) rfl) x.tq x.tc x.ts _ (hv.below HB.out) (by have:=hx.ID.1;omega) (fun W t hb _ =>
  Ep x w.heap.size t W (HX.out.up hb)))
 have c18:=HX.out.c18;have HK:Hid (tV s x k=(x.ts.all (rM (x.vs.length:Int)) && decide ((x.ts.length:Int)≤64))):=aA rfl;have hc:=hx.ID.1;rw[HK.out];rw[Ce] at HC;clear hx hv HK;generalize x.ts.all (rM (x.vs.length:Int))=r at HC ⊢;generalize x.ts.length=m at *;have m0:(0:Int)≤(m:Int):=by omega
 by_cases hm:(m:Int)≤64
 ·go_enter func126,ntmps126
  go_wp2_with fail;refine HC.out.mono ?_;rintro e w1 ⟨rfl,hb⟩;have jK:=aA (dN HB.out hb);clear hb;go_wp2_with fail;go_ret;exact ⟨by simp[hm],jK.out⟩
 ·go_enter func126,ntmps126
  go_wp2_with fail;go_ret;exact ⟨by simp[hm],HB.out⟩
end Fx
namespace Fx
open Go Go.RowKit
def Zj (x y:eE):Prop:=x.id=y.id∧x.m=y.m∧x.vs=y.vs∧x.ts=y.ts
instance (x y:eE):Decidable (Zj x y):=by unfold Zj;infer_instance
theorem VR {x:eE}(h:jY x):(prog.info? 25).map (·.size)=some (x.m.map encI).length:=by rw[aT,h.len];exact iT
structure TwoO (x y:eE)(w V:World):Prop where
 a:nY x w.heap.size V
 b:nY y (w.heap.size+1) V
 va:fH V x.vo x.vs
 vb:fH V y.vo y.vs
 ta:gM V x.tq x.ts
 tb:gM V y.tq y.ts
 gL:Below w.heap.size w V
theorem TwoO.new {x y:eE}{w:World}(wx:jY x)(wy:jY y)(a1:fH w x.vo x.vs)(a2:fH w y.vo y.vs)(b1:gM w x.tq x.ts)(b2:gM w y.tq y.ts):TwoO x y w ((w.alloc (.cells (dP x).toArray 73)).alloc (.cells (dP y).toArray 73)):=by
 have hB:Below w.heap.size w ((w.alloc (.cells (dP x).toArray 73)).alloc (.cells (dP y).toArray 73)):=by go_grown
 refine ⟨⟨dM (aG _ _),wx⟩,?_,a1.below hB,a2.below hB,b1.below hB,b2.below hB,hB⟩;have:=nY.new y (w.alloc (.cells (dP x).toArray 73)) wy;rw[aR] at this;exact this
def eX (x:eE):Int×List Int×List (List Int)×List gB:=(x.id,x.m,x.vs,x.ts)
theorem tH {x:eE}(h:jY x):(prog.info? 73).map (·.size)=some (dP x).length:=by rw[dX h];kernel_rfl
theorem uV (x:eE):(dP x).toArray.all (·.oneCell')=true:=by
 rw[Array.all_eq_true_iff_forall_mem];intro v hv;simp only[dP,List.mem_toArray,List.mem_cons,bS,List.mem_map,List.not_mem_nil,or_false] at hv
 rcases hv with rfl|⟨z,_,rfl⟩|rfl|rfl <;> rfl
def QA (a b:eF):Prop:=a.w=b.w∧a.h=b.h∧a.jN=b.jN∧a.os.map eX=b.os.map eX
instance (a b:eF):Decidable (QA a b):=by unfold QA;infer_instance
structure NZ (a b:eF)(w V:World):Prop where
 sa:eZ w.heap.size a V
 sb:eZ (w.heap.size+1) b V
 oa:eN V a.oo a.os
 ob:eN V b.oo b.os
 gL:Below w.heap.size w V
theorem NZ.up {a b:eF}{w V X:World}(i:NZ a b w V)(hb:Below V.heap.size V X):NZ a b w X :=
 ⟨i.sa.below hb,i.sb.below hb,i.oa.below hb,i.ob.below hb,dN i.gL hb⟩
theorem NZ.new {a b:eF}{w:World}(h:eN w a.oo a.os)(h2:eN w b.oo b.os):NZ a b w ((w.alloc (.cells (eU a) 28)).alloc (.cells (eU b) 28)):=by
 have hB:Below w.heap.size w ((w.alloc (.cells (eU a) 28)).alloc (.cells (eU b) 28)):=by go_grown
 refine ⟨dM (eZ.new w a),?_,h.below hB,h2.below hB,hB⟩;have:=eZ.new (w.alloc (.cells (eU a) 28)) b;rw[aR] at this;exact this
structure Xw (a b:eF)(x y:eE)(m n:Nat)(w W:World):Prop where
 s:NZ a b w W
 a:nY x m W
 b:nY y n W
 va:fH W x.vo x.vs
 vb:fH W y.vo y.vs
 ta:gM W x.tq x.ts
 tb:gM W y.tq y.ts
theorem Xw.up {a b:eF}{x y:eE}{m n:Nat}{w W X:World}(i:Xw a b x y m n w W)(hb:Below W.heap.size W X):Xw a b x y m n w X :=
 ⟨i.s.up hb,i.a.up hb,i.b.up hb,i.va.below hb,i.vb.below hb,i.ta.below hb,i.tb.below hb⟩
def ZsRel (a b:eF)(w:World)(n g:Nat)(s5 s6 s7 s8 s9:Value)(W:World):Prop :=
 ∃k:Nat,g=n-k∧s5=.int .i64 (k:Int)∧k≤n∧NZ a b w W∧(a.os.map eX).take k=(b.os.map eX).take k
def kr {α:Type}(a b:eF)(x y:eE)(m1 m2:Nat)(p q:List α)(w:World)(n g:Nat)(s8:Value)(W:World):Prop :=
 ∃j:Nat,g=n-j∧s8=.int .i64 (j:Int)∧j≤n∧Xw a b x y m1 m2 w W∧p.take j=q.take j
end Fx
end Go.Proofs.YtbbhmhihpdmoiaaGreat
