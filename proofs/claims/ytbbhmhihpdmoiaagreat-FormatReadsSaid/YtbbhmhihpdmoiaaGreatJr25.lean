import Derived.Test.YtbbhmhihpdmoiaaGreatJr24
set_option linter.unusedVariables false
set_option linter.unusedSimpArgs false
set_option maxRecDepth 100000
set_option maxHeartbeats 32000000
namespace Go.Proofs.YtbbhmhihpdmoiaaGreat
namespace Fx
open Go Go.RowKit Go.Shelf
theorem CF {F:Fence} {n:Nat} {P:Program} {o:Oper} {a:Act} {w:World} {K:Act→World→Prop} {Q:Exit→Act→World→Prop} (hF:∀ f,F.fn f) (ty:TypeId) (x:Operand) (ho:o.op=.load ty x)
  (b off:Nat) (hx:a.eval x=.pointer (some ⟨b,off,none⟩)) (cs:List Value) (d:TypeDesc) (hc:w.rangeAt b off cs)
  (hu:P.underlying ty=some d) (hd:d.isRow=true) (hi:(P.info? ty).map (·.size)=some cs.length) (h:K (a.put o.dst (.agg cs.toArray)) w):Oper.wpIn F n P o a w K Q:=by
 unfold Oper.wpIn
 rw [Oper.semAt_plain F _ _ (by intro c e;rw [ho] at e;cases e)]
 rw [gM ty x ho b off hx cs d hc hu hd hi]
 exact ⟨fun f _=>hF f,h⟩
theorem kV {F:Fence} {n:Nat} {P:Program} {ops:Array Oper} {rest:List Oper} {o:Oper} {a:Act} {w:World} {Q:Exit→Act→World→Prop} (hF:∀ f,F.fn f) (hg:o.guard=none) (ty:TypeId) (x:Operand) (ho:o.op=.load ty x)
  (b off:Nat) (hx:a.eval x=.pointer (some ⟨b,off,none⟩)) (cs:List Value) (d:TypeDesc) (hc:w.rangeAt b off cs)
  (hu:P.underlying ty=some d) (hd:d.isRow=true) (hi:(P.info? ty).map (·.size)=some cs.length) (h:wpListIn F n P ops Q rest (a.put o.dst (.agg cs.toArray)) w):wpListIn F n P ops Q (o :: rest) a w :=
 wpListIn_plain hg fun K hK=>CF hF ty x ho b off hx cs d hc hu hd hi (hK _ _ h)
theorem kI {F:Fence} {n:Nat} {P:Program} {ops:Array Oper} {rest:List Oper} {o:Oper} {a:Act} {w:World} {Q:Exit→Act→World→Prop} (hF:∀ f,F.fn f) (hgd:o.guard=none) (ty:TypeId) (x y:Operand) (ho:o.op=.store ty x y)
  (g:Nat) (t:TypeId) (c c':Array Value) (hx:a.eval x=.pointer (some ⟨g,0,none⟩)) (hg:w.heap.size=g) (hy:a.eval y=.agg c')
  (hi:(P.info? ty).map (·.size)=some c'.size) (hs:c.size=c'.size) (h1:c'.all (·.oneCell')=true)
  (h:wpListIn F n P ops Q rest (a.put o.dst undef) (w.alloc (.cells c' t))):wpListIn F n P ops Q (o :: rest) a (w.alloc (.cells c t)):=by
 subst hg
 refine wpListIn_plain hgd fun K hK=>?_
 refine eY hF ty x y ho w.heap.size t c c' hx hy (aG _ _) hi hs h1 ?_
 rw [World.setRow_alloc_new]
 exact hK _ _ h
theorem eT {P:Program} {ops:Array Oper} {rest:List Oper} {op:Oper} {a:Act} {w:World} {Q:Exit→Act→World→Prop} (hw:Region.wanted op (yielded ops a.tmps)=true) (ty:TypeId) (x:Operand) (ho:op.op=.load ty x)
  (b o:Nat) (hx:a.eval x=.pointer (some ⟨b,o,none⟩)) (cs:List Value) (d:TypeDesc) (hc:w.rangeAt b o cs)
  (hu:P.underlying ty=some d) (hd:d.isRow=true) (hi:(P.info? ty).map (·.size)=some cs.length)
  (h:wpList P ops Q rest (a.put op.dst (.agg cs.toArray)) w):wpList P ops Q (op :: rest) a w :=
 wpList_step fun K hK=>by
  rw [aT hw]
  exact wp_load_mid ty x ho b o hx cs d hc hu hd hi (hK _ _ h)
theorem kS {W X:World} (h:Below W.heap.size W X) (B:Nat):KeepsFrom B W X :=
 ⟨h.size,fun k o _ hk _=>by rw [h.block k (aC.1 hk).1];exact hk⟩
theorem Kept.cell {B:Nat} {W W':World} (k:Kept B W W') {p:Addr} {v:Value} (h:W.cell? p=some v):W'.cell? p=some v:=by
 unfold World.cell? at h ⊢
 cases hb:W.heap[p.block]? with
 | none=>rw [hb] at h;simp at h
 | some o =>
  cases o with
  | cells c t f =>
   rw [k.cells hb]
   rw [hb] at h
   exact h
  | _=>rw [hb] at h;simp at h
theorem Kept.range {B:Nat} {W W':World} (k:Kept B W W') {b j:Nat} {l:List Value} (h:W.rangeAt b j l):W'.rangeAt b j l:=fun i v hi=>k.cell (h i v hi)
theorem gN.kept {B:Nat} {W W':World} {o:Option Addr} {l:List (List Int)} (kp:Kept B W W') (h:gN W o l):gN W' o l:=fun k z hk=>by
 obtain ⟨b,off,e,h1,h2⟩:=h k z hk
 exact ⟨b,off,e,kp.range h1,h2⟩
theorem iL.kept {B:Nat} {W W':World} {o:Option Addr} {l:List iH} (kp:Kept B W W') (h:iL W o l):iL W' o l:=fun k z hk=>by
 obtain ⟨b,off,e,h1,h2⟩:=h k z hk
 exact ⟨b,off,e,kp.range h1,h2⟩
theorem nQ.kept {B:Nat} {W W':World} {b j:Nat} {x:fE} (kp:Kept B W W') (h:nQ W b j x):nQ W' b j x:=⟨kp.range h.cells,h.wT.kept kp,h.IG.kept kp,h.wf⟩
theorem fM.kept {B:Nat} {W W':World} {o:Option Addr} {l:List fE} (kp:Kept B W W') (h:fM W o l):fM W' o l:=fun k z hk=>by
 obtain ⟨b,off,e,h1⟩:=h k z hk
 exact ⟨b,off,e,h1.kept kp⟩
theorem gF.kept {C B:Nat} {s:fH} {W W':World} (kp:Kept C W W') (h:gF B s W):gF B s W':=kp.cells h
def uU (s:fH) (k:Nat):Array Value:=#[.int .i64 (k:Int),.agg (eF (s.os.getD k default)).toArray]
def ObM (s:fH) (A:Nat) (X:World):Prop:=gF A s X∧fM X s.oo s.os
theorem DK (s:fH) (A:Nat) (hs:jE s) :
  Hands Fence.wide 4 Tryz.prog 130 #[.pointer (some ⟨A,0,none⟩)] (uU s) s.os.length (ObM s A):=by
 intro l J Jx W QU hJ2 GU vK hY h0
 obtain ⟨hsc,iQ⟩:=GU 0 W h0
 have c18:=hsc.c18 hs
 have HS:=aA hs;clear hs
 have HY:=aA hY;clear hY
 have TL:=aA QU;clear QU
 have HJ2:=aA hJ2;clear hJ2
 have Gy:=aA GU;clear GU
 have Fp:=aA vK;clear vK
 have hcap:=HS.out.cap.1
 obtain ⟨n,hn⟩:∃ n,s.os.length=n:=⟨_,rfl⟩
 have HN:=aA hn
 rw [hn] at c18 hcap HY ⊢
 obtain ⟨oo,Ri⟩:∃ oo,s.oo=oo:=⟨_,rfl⟩
 have Gv:=aA Ri
 rw [Ri] at c18
 have n0:(0:Int)≤(n:Int):=by omega
 have n1:(n:Int)≤9223372036854775807:=by omega
 clear hn hcap Ri hsc iQ
 refine callsIn_of_wp Tryz.func130 rfl trivial ?_ rfl
 simp only [Tryz.ntmps130,aL,bK,List.length_nil,Nat.reduceAdd,Nat.reduceSub,Array.replicate_succ,Array.replicate_zero,List.push_toArray,List.append_toArray,bX,bT]
 gi_wp2
 clear c18
 gi_loopw [8] (fun v8 wr=>∃ k:Nat,v8=.int .i64 (k:Int)∧k≤n∧J k wr) (fun v8 _=>n - (intOf v8).toNat)
 case atStart=>exact ⟨0,rfl,by omega,h0⟩
 case round =>
  clear h0
  obtain ⟨k,rfl,hk,hJ⟩:=hrel
  have k0:(0:Int)≤(k:Int):=by omega
  by_cases hkn:k < n
  ·have t1:(k:Int) < (n:Int):=by omega
   obtain ⟨hsc,iQ⟩:=Gy.out k wr hJ
   obtain ⟨x,hx⟩:∃ x,s.os[k]?=some x:=⟨_,aJ (by rw [HN.out];exact hkn)⟩
   obtain ⟨b,off,e,hat⟩:=iQ k x hx
   rw [Gv.out] at e
   subst e
   have hel:uU s k=#[.int .i64 (k:Int),.agg (eF x).toArray]:=by
    unfold uU
    rw [aS,hx]
    rfl
   have HR:=aA hat.cells
   have kZ:=aA (show (Tryz.prog.info? 73).map (·.size)=some (eF x).length by rw [eZ hat.wf];kernel_rfl)
   have nM:=aA (show (Tryz.prog.info? 73).map (·.size)=some (eF x).toArray.size by rw [aL,eZ hat.wf];kernel_rfl)
   have HL:=aA (show 19=(eF x).toArray.size by rw [aL,eZ hat.wf])
   have mY:=aA (mF x)
   have HB:Hid (Below wr.heap.size wr (wr.alloc (.cells (eF x).toArray 73))):=aA ((aI _ wr).alloc (aB _) _)
   have hJ2:=TL.out k _ _ hJ HB.out
   have qD:=aA (aG wr (.cells (eF x).toArray 73))
   have HRI:Hid (∀ W':World,W'.heap[wr.heap.size]?=some (.cells (eF x).toArray 73 (0,0))→W'.rangeAt wr.heap.size 0 (eF x)):=aA (fun W' h j v hj=>by
    rw [aF _ _ _ _ _ _ h,bB]
    simpa using hj)
   obtain ⟨fn,tmps,assign,body,hy,hR⟩:=HY.out k _ hkn hJ2
   rw [hel] at hy
   clear hel hat iQ hsc hx hJ hJ2 TL
   gi_wp2_with (first | (refine kV (fun _=>trivial) rfl 73 (.tmp 11) rfl b (off + k * 19) rfl (eF x) _ HR.out bV rfl kZ.out ?_) | (refine kI (fun _=>trivial) rfl 73 (.tmp 4) (.tmp 12) rfl wr.heap.size _ _ (eF x).toArray rfl rfl rfl nM.out HL.out mY.out ?_) | (refine kV (fun _=>trivial) rfl 73 (.tmp 4) rfl wr.heap.size 0 rfl (eF x) _ (HRI.out _ qD.out) bV rfl kZ.out ?_))
   refine hR.mono ?_
   rintro e W3 (⟨rfl,hJ3⟩ | ⟨rfl,hJx3⟩)
   ·gi_wp2
    go_roundw
    case rel=>exact ⟨k + 1,by go_num,by omega,hJ3⟩
    case measure=>simp [intOf];omega
   ·gi_wp2
    refine aO (results_none rfl _ _ _) rfl ?_
    exact ⟨⟨_,rfl⟩,.inr hJx3⟩
  ·obtain rfl:k=n:=by omega
   have t1:¬ (k:Int) < (k:Int):=by omega
   gi_wp2
   go_end0
   exact ⟨⟨_,rfl⟩,.inl hJ⟩
theorem DJ (s:fH) (w:World):Calls Tryz.prog 101 #[.agg (fZ s)] w fun e w' =>
  e=.returned (.func (.func 130) #[] #[.pointer (some ⟨w.heap.size,0,none⟩)])∧w'=w.alloc (.cells (fZ s) 28):=by
 go_enter Tryz.func101,Tryz.ntmps101
 go_wp2_with fail
 go_ret
 exact ⟨rfl,rfl⟩
attribute [local go_sem] Oper.semAt_some
theorem VM {s:fH} {id:Int} {k:Nat} {x:fE} (hx:s.os[k]?=some x) (ha:kR (s.os.take k) id=none) (h:x.id≠id):kR (s.os.take (k + 1)) id=none:=by
 unfold kR at ha ⊢
 rw [dH,hx,List.findIdx?_append,ha]
 simp [h]
theorem KJ {s:fH} {id:Int} {k:Nat} {x:fE} (hx:s.os[k]?=some x) (ha:kR (s.os.take k) id=none) (h:x.id=id):kR s.os id=some k:=by
 obtain ⟨hkl,hx'⟩:=bD.1 hx
 unfold kR at ha ⊢
 rw [←List.take_append_drop k s.os,List.findIdx?_append,ha,List.drop_eq_getElem_cons hkl]
 simp [List.findIdx?_cons,hx',h]
 omega
theorem VN {s:fH} {id:Int} {n:Nat} (hn:s.os.length≤n) (h:kR (s.os.take n) id=none):kR s.os id=none:=by
 rw [bO hn] at h
 exact h
structure TN (s:fH) (id x:Int) (y:Bool) (w W:World):Prop where
 box:gF w.heap.size s W
 idr:W.heap[w.heap.size + 1]?=some (.cells #[.int .i64 id] 3 (0,0))
 r1:W.heap[w.heap.size + 1 + 1]?=some (.cells #[.int .i64 x] 3 (0,0))
 r2:W.heap[w.heap.size + 1 + 1 + 1]?=some (.cells #[.bool y] 4 (0,0))
 it:gF (w.heap.size + 1 + 1 + 1 + 1) s W
 below:Below w.heap.size w W
theorem TN.kept {s:fH} {id x:Int} {y:Bool} {B:Nat} {w W X:World} (hB:w.heap.size≤B) (h:Kept B W X) (i:TN s id x y w W):TN s id x y w X :=
 ⟨i.box.kept h,h.cells i.idr,h.cells i.r1,h.cells i.r2,i.it.kept h,h.below hB i.below⟩
theorem TN.up {s:fH} {id x:Int} {y:Bool} {w W X:World} (h:Below W.heap.size W X) (i:TN s id x y w W):TN s id x y w X :=
 ⟨i.box.below h,dV h i.idr,dV h i.r1,dV h i.r2,i.it.below h,dY i.below h⟩
theorem TN.facts {s:fH} {id x:Int} {y:Bool} {w W:World} (i:TN s id x y w W) :
  W.cell? ⟨w.heap.size + 1,0,none⟩=some (.int .i64 id)∧W.cell? ⟨w.heap.size + 1 + 1,0,none⟩=some (.int .i64 x)∧W.cell? ⟨w.heap.size + 1 + 1 + 1,0,none⟩=some (.bool y) ∧
  W.frozen? ⟨w.heap.size + 1 + 1,0,none⟩=false∧W.frozen? ⟨w.heap.size + 1 + 1 + 1,0,none⟩=false :=
 ⟨by rw [aF _ _ _ _ _ _ i.idr];rfl,by rw [aF _ _ _ _ _ _ i.r1];rfl,by rw [aF _ _ _ _ _ _ i.r2];rfl,dU i.r1,dU i.r2⟩
theorem TN.put {s:fH} {id x x2:Int} {y y2:Bool} {w W:World} (i:TN s id x y w W):TN s id x2 y2 w ((W.setCell ⟨w.heap.size + 1 + 1,0,none⟩ (.int .i64 x2)).setCell ⟨w.heap.size + 1 + 1 + 1,0,none⟩ (.bool y2)):=by
 have a1:=aK W _ 0 _ _ (.int .i64 x2) i.r1
 have o1:∀ {g:Nat} {ob:Obj},g≠w.heap.size + 1 + 1→g≠w.heap.size + 1 + 1 + 1→W.heap[g]?=some ob→((W.setCell ⟨w.heap.size + 1 + 1,0,none⟩ (.int .i64 x2)).setCell ⟨w.heap.size + 1 + 1 + 1,0,none⟩ (.bool y2)).heap[g]?=some ob:=fun h1 h2 h=>by
  rw [aH _ _ _ _ h2,aH _ _ _ _ h1]
  exact h
 refine ⟨o1 (by omega) (by omega) i.box,o1 (by omega) (by omega) i.idr,?_,?_,o1 (by omega) (by omega) i.it,(i.below.setCell (p:=⟨w.heap.size + 1 + 1,0,none⟩) (by show _≤w.heap.size + 1 + 1;omega) _).setCell (p:=⟨w.heap.size + 1 + 1 + 1,0,none⟩) (by show _≤w.heap.size + 1 + 1 + 1;omega) _⟩
 ·rw [aH _ _ _ _ (by show _≠w.heap.size + 1 + 1 + 1;omega)]
  exact a1
 ·have a2:(W.setCell ⟨w.heap.size + 1 + 1,0,none⟩ (.int .i64 x2)).heap[w.heap.size + 1 + 1 + 1]?=some (.cells #[.bool y] 4 (0,0)):=by
   rw [aH _ _ _ _ (by show _≠w.heap.size + 1 + 1;omega)]
   exact i.r2
  exact aK _ _ 0 _ _ (.bool y2) a2
def FdI (s:fH) (id:Int) (w:World) (k:Nat) (W:World):Prop:=TN s id 0 false w W∧kR (s.os.take k) id=none
def FdX (s:fH) (id:Int) (w W:World):Prop:=∃ k:Nat,TN s id (k:Int) true w W∧kR s.os id=some k
def FdA (s:fH) (id:Int) (w:World) (k:Nat) (a:Act) (W:World):Prop :=
 ∃ b7,W.heap[b7]?=some (.cells (eF (s.os.getD k default)).toArray 73 (0,0)) ∧
 a={ tmps:=#[.agg (fZ s),.int .i64 id,.pointer (some ⟨w.heap.size,0,none⟩),.pointer (some ⟨w.heap.size + 1,0,none⟩),.pointer (some ⟨w.heap.size + 1 + 1,0,none⟩),.pointer (some ⟨w.heap.size + 1 + 1 + 1,0,none⟩),.int .i64 (k:Int),.pointer (some ⟨b7,0,none⟩),
  .agg (fZ s),.func (.func 130) #[] #[.pointer (some ⟨w.heap.size + 1 + 1 + 1 + 1,0,none⟩)],.int .i64 (k:Int),.agg (eF (s.os.getD k default)).toArray,undef,undef,undef,undef,undef],defers:=[] }
theorem UZ (s:fH) (id:Int) (w:World) (hs:jE s) (h:fM w s.oo s.os) :
  Calls Tryz.prog 119 #[.agg (fZ s),.int .i64 id] w (TA (kR s.os id) w):=by
 obtain ⟨W1,hW1⟩:∃ W1,(((w.alloc (.cells (fZ s) 28)).alloc (.cells #[.int .i64 id] 3)).alloc (.cells #[.int .i64 0] 3)).alloc (.cells #[.bool false] 4)=W1:=⟨_,rfl⟩
 obtain ⟨W0,hW0⟩:∃ W0,W1.alloc (.cells (fZ s) 28)=W0:=⟨_,rfl⟩
 have hs1:W1.heap.size=w.heap.size + 1 + 1 + 1 + 1:=by rw [←hW1];simp
 have b1:Below w.heap.size w W1:=by rw [←hW1];exact ((((aI _ w).alloc (aB _) _).alloc (by simp) _).alloc (by simp;omega) _).alloc (by simp;omega) _
 have h12:Below W1.heap.size W1 W0:=by rw [←hW0];exact (aI _ W1).alloc (aB _) _
 have g0:gF w.heap.size s W1:=by rw [←hW1];exact dW (dW (dW (gF.new w s)))
 have F0:TN s id 0 false w W0:=by
  refine ⟨g0.below h12,dV h12 ?_,dV h12 ?_,dV h12 ?_,?_,dY b1 h12⟩
  ·rw [←hW1]
   have:=aG (w.alloc (.cells (fZ s) 28)) (.cells #[.int .i64 id] 3)
   rw [aR] at this
   exact dW (dW this)
  ·rw [←hW1]
   have:=aG ((w.alloc (.cells (fZ s) 28)).alloc (.cells #[.int .i64 id] 3)) (.cells #[.int .i64 0] 3)
   rw [aR,aR] at this
   exact dW this
  ·rw [←hW1]
   have:=aG (((w.alloc (.cells (fZ s) 28)).alloc (.cells #[.int .i64 id] 3)).alloc (.cells #[.int .i64 0] 3)) (.cells #[.bool false] 4)
   rw [aR,aR,aR] at this
   exact this
  ·rw [←hW0,←hs1]
   exact gF.new W1 s
 have Pj:Hid (FdI s id w 0 W0):=aA ⟨F0,rfl⟩
 have BH:Hid (W0.heap.size=w.heap.size + 1 + 1 + 1 + 1 + 1):=aA (by rw [←hW0,aR,hs1])
 have CU:=aA hs1
 have HW1:=aA hW1
 have HW0:=aA hW0
 have jJ:=aA h
 have HSW:=aA hs
 have HN:Hid (s.os.length≤s.os.length):=aA (aB _)
 have Uv:Hid (W1.rangeAt w.heap.size 0 (jF s)):=aA (fun j v hj=>by
  rw [bB]
  exact g0.at.trans hj)
 have hall:=aA (show (Tryz.prog.info? 28).map (·.size)=some (jF s).length by rw [uN hs];kernel_rfl)
 clear F0 h12 b1 g0 hW1 hW0 hs1 h hs
 refine (aW (n:=5)).1 ?_
 refine callsIn_of_wp_marks Tryz.func119 rfl trivial ?_ rfl
 simp only [Tryz.ntmps119,aL,bK,List.length_nil,Nat.reduceAdd,Nat.reduceSub,Array.replicate_succ,Array.replicate_zero,List.push_toArray,List.append_toArray,bX,bT]
 refine bG.2 ?_
 go_wp2_with (first | (rw [HW1.out];refine wpList_load_mid rfl 28 (.tmp 2) rfl w.heap.size 0 rfl (jF s) _ Uv.out bA rfl hall.out ?_))
 refine (DJ s _).mono ?_
 rintro e w' ⟨rfl,rfl⟩
 rw [CU.out,HW0.out]
 go_wp2_with fail
 refine bG.1 (iU (F:=Fence.wide) (n:=5) rfl (by omega) (gf:=130) (lb:=#[.pointer (some ⟨w.heap.size + 1 + 1 + 1 + 1,0,none⟩)]) rfl trivial (enters_of Tryz.func130 (by kernel_rfl) rfl)
  (DK s (w.heap.size + 1 + 1 + 1 + 1) HSW.out) (fun _=>rfl) .ret (FdI s id w) (FdX s id w) (fun j a' W=>FdA s id w j a' W∧FdI s id w j W)
  ?i1 ?i2 ?i3 ?i4 ?i5 Pj.out ?assign ?body ?done ?stop)
 case i1=>rintro j W X ⟨h1,h2⟩ hk;exact ⟨h1.kept (by have:=BH.out;omega) hk,h2⟩
 case i2=>rintro W X ⟨k,h1,h2⟩ hk;exact ⟨k,h1.kept (by have:=BH.out;omega) hk,h2⟩
 case i3=>rintro j a W X ⟨⟨b7,h0,ha⟩,h1,h2⟩ hk;exact ⟨⟨b7,hk.cells h0,ha⟩,h1.kept (by have:=BH.out;omega) hk,h2⟩
 case i4=>rintro j W ⟨h1,h2⟩;exact ⟨h1.it,jJ.out.below h1.below⟩
 case i5=>rintro W ⟨k,h1,h2⟩;exact ⟨h1.it,jJ.out.below h1.below⟩
 case assign =>
  intro l1 j W C hk hI hC
  have hx:s.os[j]?=some (s.os.getD j default):=by rw [aS,aJ hk];rfl
  obtain ⟨b,off,e,hat⟩:=jJ.out j _ hx
  simp only [uU]
  have HA:Hid (∀ (X:World) (b7:Nat),X.heap[b7]?=some (.cells (eF (s.os.getD j default)).toArray 73 (0,0))→FdA s id w j _ X):=aA (fun X b7 h=>⟨b7,h,rfl⟩)
  obtain ⟨x,QT⟩:∃ x,s.os.getD j default=x:=⟨_,rfl⟩
  rw [QT] at hat hx HA ⊢
  have nM:=aA (show (Tryz.prog.info? 73).map (·.size)=some (eF x).toArray.size by rw [aL,eZ hat.wf];kernel_rfl)
  have HL:=aA (show 19=(eF x).toArray.size by rw [aL,eZ hat.wf])
  have mY:=aA (mF x)
  have HB:Hid (Below W.heap.size W (W.alloc (.cells (eF x).toArray 73))):=aA ((aI _ W).alloc (aB _) _)
  have qD:=aA (aG W (.cells (eF x).toArray 73))
  clear hat hx QT e
  gi_wp2_with (refine kI (fun _=>trivial) rfl 73 (.tmp 7) (.tmp 11) rfl W.heap.size _ _ (eF x).toArray rfl rfl rfl nM.out HL.out mY.out ?_)
  exact hC _ _ (kS HB.out _) ⟨HA.out _ _ qD.out,hI.1.up HB.out,hI.2⟩
 case body =>
  rintro l1 j a' W hk ⟨⟨b7,h7,ha⟩,fs,hpre⟩
  subst ha
  have hx:s.os[j]?=some (s.os.getD j default):=by rw [aS,aJ hk];rfl
  obtain ⟨x,QT⟩:∃ x,s.os.getD j default=x:=⟨_,rfl⟩
  rw [QT] at h7 hx ⊢
  have d0:W.cell? ⟨b7,0,none⟩=some (.int .i64 x.id):=by rw [aF _ _ _ _ _ _ h7];rfl
  obtain ⟨c1,c2,c3,f1,f2⟩:=fs.facts
  have GY:=aA (VM hx hpre)
  have Mk:=aA (KJ hx hpre)
  have HS:=aA fs
  generalize x.id=z at d0 GY Mk
  clear h7 hx QT hpre fs hk
  by_cases hz:z=id
  ·subst hz
   have HE:Hid (FdX s z w ((W.setCell ⟨w.heap.size + 1 + 1,0,none⟩ (.int .i64 (j:Int))).setCell ⟨w.heap.size + 1 + 1 + 1,0,none⟩ (.bool true))):=aA ⟨j,HS.out.put,Mk.out rfl⟩
   have Gx:Hid (KeepsFrom W0.heap.size W ((W.setCell ⟨w.heap.size + 1 + 1,0,none⟩ (.int .i64 (j:Int))).setCell ⟨w.heap.size + 1 + 1 + 1,0,none⟩ (.bool true))):=aA (((KeepsOthers.setCell _ _ _).trans (KeepsOthers.setCell _ _ _)).from _)
   clear GY Mk
   gi_wp2
   exact ⟨rfl,Gx.out,HE.out⟩
  ·have HE:Hid (FdI s id w (j + 1) W):=aA ⟨HS.out,GY.out hz⟩
   clear GY Mk
   gi_wp2
   exact ⟨KeepsFrom.refl _ _,HE.out⟩
 case done =>
  rintro D W hD ⟨fs,hpre⟩ hdef
  have hr:=VN (aB _) hpre
  obtain ⟨c1,c2,c3,f1,f2⟩:=fs.facts
  have HS:=aA fs
  have KZ:Hid (w.heap.size + 1 + 1 + 1 + 1 + 1≤D):=aA (by have:=BH.out;omega)
  have HR:=aA hr
  clear fs hpre hr hD
  go_wp2_with fail
  have hdf:((W.setCell ⟨w.heap.size + 1 + 1,0,none⟩ (.int .i64 0)).setCell ⟨w.heap.size + 1 + 1 + 1,0,none⟩ (.bool false)).heap[D]?=some (.deferred (some [])):=(((KeepsOthers.setCell W ⟨w.heap.size + 1 + 1,0,none⟩ (.int .i64 0)).trans (KeepsOthers.setCell _ ⟨w.heap.size + 1 + 1 + 1,0,none⟩ (.bool false))).same D _ hdef rfl)
  have oJ:=(HS.out.put (x2:=0) (y2:=false)).kept (B:=w.heap.size) (aB _) (Kept.putObj (.deferred none) (by have:=KZ.out;omega) hdf rfl)
  refine ⟨by simp,.inl ⟨_,_,rfl,run_takeDeferred hdf,?_⟩⟩
  generalize (((W.setCell ⟨w.heap.size + 1 + 1,0,none⟩ (.int .i64 0)).setCell ⟨w.heap.size + 1 + 1 + 1,0,none⟩ (.bool false)).putObj D (.deferred none))=Y at oJ ⊢
  obtain ⟨_,d1,d2,_,_⟩:=oJ.facts
  have vR:=aA oJ.below
  clear oJ hdf hdef c1 c2 c3 f1 f2
  refine ⟨.tuple #[.int .i64 0,.bool false],?_,by rw [HR.out];rfl,vR.out⟩
  simp [results,Tryz.results119,go_sem, *]
 case stop =>
  rintro D W hD ⟨k,fs,hr⟩ hdef
  have HS:=aA fs
  have KZ:Hid (w.heap.size + 1 + 1 + 1 + 1 + 1≤D):=aA (by have:=BH.out;omega)
  have HR:=aA hr
  clear fs hr hD
  refine bG.2 ?_
  go_wp2_with fail
  have oJ:=HS.out.kept (B:=w.heap.size) (aB _) (Kept.putObj (.deferred none) (by have:=KZ.out;omega) hdef rfl)
  refine ⟨by simp,.inl ⟨_,_,rfl,run_takeDeferred hdef,?_⟩⟩
  generalize W.putObj D (.deferred none)=Y at oJ ⊢
  obtain ⟨_,d1,d2,_,_⟩:=oJ.facts
  have vR:=aA oJ.below
  clear oJ hdef
  refine ⟨.tuple #[.int .i64 (k:Int),.bool true],?_,by rw [HR.out];rfl,vR.out⟩
  simp [results,Tryz.results119,go_sem, *]
end Fx
namespace Fx
open Go Go.RowKit
theorem VB (s:fH) (k:Int) (w:World) (hs:jE s) (h:fM w s.oo s.os) :
  Calls Tryz.prog 122 #[.agg (fZ s),.int .i64 k] w (TD (mI s k) w):=by
 have HI:=aA (Vt.new h)
 have HS:=aA hs
 have c18:((w.alloc (.cells (fZ s) 28)).alloc (.cells #[.int .i64 0,.int .i64 0,.int .i64 0,.int .i64 0,.int .i64 0,.int .i64 0,.int .i64 0,.int .i64 0,.int .i64 0,.int .i64 0,.int .i64 0,.int .i64 0,.int .i64 0,.int .i64 0,.int .i64 0,.int .i64 0] 25)).cell? ⟨w.heap.size,18,none⟩=some (.slice s.oo s.os.length s.oc):=HI.out.sc.c18 hs
 have hcap:=hs.cap.1
 obtain ⟨n,hn⟩:∃ n,s.os.length=n:=⟨_,rfl⟩
 have HN:=aA hn
 rw [hn] at c18 hcap
 have n0:(0:Int)≤(n:Int):=by omega
 have n1:(n:Int)≤9223372036854775807:=by omega
 clear hn hcap hs h
 by_cases h1:k < 0
 ·have HR:Hid (mI s k=none):=aA (by unfold mI;rw [aX (by omega)])
  go_enter Tryz.func122,Tryz.ntmps122
  go_wp2_with (first | (refine gX rfl 25 #[] rfl (mC eX) (by kernel_rfl) ?_) | (refine dQ rfl 25 (.tmp 4) (.tmp 17) rfl (w.heap.size + 1) _ _ (mC eX) rfl rfl HI.out.rr iW rfl (iY _) ?_))
  (try simp only [Exit.inBlock,Exit.then])
  exact aO (v:=.tuple #[.agg (mC eX),.int .i64 60]) (fJ rfl _ _ (w.heap.size + 1) _ (mC eX) _ _ (.int .i64 60) rfl (HI.out.rr.row _) aP rfl (by kernel_rfl) rfl) rfl ⟨by rw [HR.out];rfl,Below.row HI.out.jI (by omega) _⟩
 by_cases h2:(n:Int)≤k
 ·have HR:Hid (mI s k=none):=aA (by unfold mI;rw [aX (by rw [HN.out];omega)])
  go_enter Tryz.func122,Tryz.ntmps122
  go_wp2_with (first | (refine gX rfl 25 #[] rfl (mC eX) (by kernel_rfl) ?_) | (refine dQ rfl 25 (.tmp 4) (.tmp 17) rfl (w.heap.size + 1) _ _ (mC eX) rfl rfl HI.out.rr iW rfl (iY _) ?_))
  (try simp only [Exit.inBlock,Exit.then])
  exact aO (v:=.tuple #[.agg (mC eX),.int .i64 60]) (fJ rfl _ _ (w.heap.size + 1) _ (mC eX) _ _ (.int .i64 60) rfl (HI.out.rr.row _) aP rfl (by kernel_rfl) rfl) rfl ⟨by rw [HR.out];rfl,Below.row HI.out.jI (by omega) _⟩
 obtain ⟨j,rfl⟩:∃ j:Nat,k=(j:Int):=⟨k.toNat,by omega⟩
 have hj:j < n:=by omega
 obtain ⟨x,hx⟩:∃ x,s.os[j]?=some x:=⟨_,aJ (by rw [HN.out];exact hj)⟩
 have HR:Hid (mI s (j:Int)=oU s.jK x.m):=aA (by
  unfold mI
  rw [aT (by rw [HN.out];omega)]
  simp [hx])
 have HRG:Hid (∀ W,fM W s.oo s.os→∃ b off,s.oo=some ⟨b,off,none⟩∧W.rangeAt b (off + j * 19 + 1) (x.m.map encI)):=aA (fun W h=>by
  obtain ⟨b,off,e,hat⟩:=h j x hx
  exact ⟨b,off,e,hat.BQ⟩)
 have HX:Hid (kD x):=aA (by
  obtain ⟨b,off,e,hat⟩:=HI.out.ob j x hx
  exact hat.wf)
 obtain ⟨b,off,e,_⟩:=HRG.out _ HI.out.ob
 have Gt:Hid (∀ W,fM W s.oo s.os→W.rangeAt b (off + j * 19 + 1) (x.m.map encI)):=aA (fun W h=>by
  obtain ⟨b',off',e',hat⟩:=HRG.out W h
  rw [e] at e'
  injection e' with e'
  injection e' with e1 e2
  subst e1 e2
  exact hat)
 have EO:=aA e
 rw [e] at c18
 have j1:(j:Int) < (n:Int):=by omega
 have j0:(0:Int)≤(j:Int):=by omega
 have hM:=aA (nY HX.out.len)
 have hC:=aA (nY HS.out.len)
 obtain ⟨r,hr⟩:∃ r,oU s.jK x.m=r:=⟨_,rfl⟩
 obtain ⟨u,hu⟩:∃ u,r.getD eX=u:=⟨_,rfl⟩
 obtain ⟨er,her⟩:∃ er:Int,(if r.isSome then (0:Int) else 30)=er:=⟨_,rfl⟩
 have BU:Hid (u.length=16):=aA (by
  rw [←hu]
  cases r with
  | none=>rfl
  | some m=>exact uX hr)
 have cA:Hid (pO 141 #[.agg (mC s.jK),.agg (mC x.m)] (.tuple #[.agg (mC u),.int .i64 er])):=aA fun w=>by
  have:=Bb s.jK x.m w HS.out.len HX.out.len
  unfold SY at this
  rw [hr,hu,her] at this
  exact this
 have HU:=aA hu
 have HER:=aA her
 rw [hr] at HR
 have OP:=aA (show (Tryz.prog.info? 25).map (·.size)=some (mC u).size by rw [iW,fT,BU.out])
 have SAMU:=aA (show 16=(mC u).size by rw [fT,BU.out])
 rw [HR.out]
 clear hx HRG e hr hu her h1 h2 hj
 go_enter Tryz.func122,Tryz.ntmps122
 go_wp2_with fail
 clear c18
 generalize ((w.alloc (.cells (fZ s) 28)).alloc (.cells #[.int .i64 0,.int .i64 0,.int .i64 0,.int .i64 0,.int .i64 0,.int .i64 0,.int .i64 0,.int .i64 0,.int .i64 0,.int .i64 0,.int .i64 0,.int .i64 0,.int .i64 0,.int .i64 0,.int .i64 0,.int .i64 0] 25))=V at HI ⊢
 rename_i K5 DW
 refine (bG (n:=5)).1 (fA (S:=fun X=>Below V.heap.size V X) (Z:=[]) (by kernel_rfl) (by kernel_rfl) eU (fun d _ _ _ _ h=>by cases d <;> exact h) (fG _ _ 1) (fun hG qR hw0=>?_))
 refine eG [] 0 (?_) hG rfl (by kernel_rfl) hw0 (by kernel_rfl) ?_ ?_
 rotate_left
 ·intro wz hSw;(first | (go_simp;done) | (go_simp;with_reducible rfl))
 intro qQ hw1 hbn
 clear hbn hw0 qR
 try simp only [aQ]
 refine eG [] 1 (.agg (mC s.jK)) hG rfl (by kernel_rfl) hw1 (by kernel_rfl) ?_ ?_
 ·intro wz hSw;exact gM 25 (.tmp 19) (by kernel_rfl) w.heap.size 2 (by kernel_rfl) (s.jK.map encI) _ (HI.out.sc.below hSw).jK aP (by kernel_rfl) hC.out
 intro qP hw2 hbn
 clear hbn hw1 qQ
 try simp only [aQ]
 refine eG [] 2 (?_) hG rfl (by kernel_rfl) hw2 (by kernel_rfl) ?_ ?_
 rotate_left
 ·intro wz hSw;(first | (go_simp;done) | (go_simp;with_reducible rfl))
 intro qO hw3 hbn
 clear hbn hw2 qP
 try simp only [aQ]
 refine eG [] 3 (.slice (some ⟨b,off,none⟩) n s.oc) hG rfl (by kernel_rfl) hw3 (by kernel_rfl) ?_ ?_
 ·intro wz hSw;have c18:=(HI.out.sc.below hSw).c18 HS.out;rw [EO.out,HN.out] at c18;(first | (go_simp;done) | (go_simp;with_reducible rfl))
 intro qN hw4 hbn
 clear hbn hw3 qO
 try simp only [aQ]
 refine eG [] 4 (?_) hG rfl (by kernel_rfl) hw4 (by kernel_rfl) ?_ ?_
 rotate_left
 ·intro wz hSw;(first | (go_simp;done) | (go_simp;with_reducible rfl))
 intro qM lK hbn
 clear hbn hw4 qN
 try simp only [aQ]
 refine eG [] 5 (.pointer (some ⟨b,off + j * 19,none⟩)) hG rfl (by kernel_rfl) lK (by kernel_rfl) ?_ ?_
 ·intro wz hSw;(first | (go_simp;done) | (go_simp;with_reducible rfl))
 intro qL kP hbn
 clear hbn lK qM
 try simp only [aQ]
 refine eG [] 6 (.pointer (some ⟨b,off + j * 19 + 1,none⟩)) hG rfl (by kernel_rfl) kP (by kernel_rfl) ?_ ?_
 ·intro wz hSw;(first | (go_simp;done) | (go_simp;with_reducible rfl))
 intro pQ hw7 hbn
 clear hbn kP qL
 try simp only [aQ]
 refine eG [] 7 (.agg (mC x.m)) hG rfl (by kernel_rfl) hw7 (by kernel_rfl) ?_ ?_
 ·intro wz hSw;exact gM 25 (.tmp 25) (by kernel_rfl) b (off + j * 19 + 1) (by kernel_rfl) (x.m.map encI) _ (Gt.out _ (HI.out.ob.below hSw)) aP (by kernel_rfl) hM.out
 intro rA hw8 hbn
 clear hbn hw7 pQ
 try simp only [aQ]
 refine kQ [] 8 141 #[.agg (mC s.jK),.agg (mC x.m)] (.tuple #[.agg (mC u),.int .i64 er]) hG rfl (by kernel_rfl) hw8 (by kernel_rfl) ?_ (cA.out) ?_
 ·intro wz;(first | (go_simp;done) | (go_simp;with_reducible rfl))
 intro qZ mH hbn
 clear hbn hw8 rA
 try simp only [aQ]
 refine eG [] 9 (?_) hG rfl (by kernel_rfl) mH (by kernel_rfl) ?_ ?_
 rotate_left
 ·intro wz hSw;(first | (go_simp;done) | (go_simp;with_reducible rfl))
 intro jM iF hbn
 clear hbn mH qZ
 try simp only [aQ]
 refine eG [] 10 (?_) hG rfl (by kernel_rfl) iF (by kernel_rfl) ?_ ?_
 rotate_left
 ·intro wz hSw;(first | (go_simp;done) | (go_simp;with_reducible rfl))
 intro kW iN hbn
 clear hbn iF jM
 try simp only [aQ]
 refine eG [] 11 (?_) hG rfl (by kernel_rfl) iN (by kernel_rfl) ?_ ?_
 rotate_left
 ·intro wz hSw;(first | (go_simp;done) | (go_simp;with_reducible rfl))
 intro mD jG hbn
 clear hbn iN kW
 try simp only [aQ]
 refine iB 12 (by kernel_rfl) rfl (fun K hK=>?_)
 go_simp
 obtain ⟨bC,hbC⟩:∃ b,mD.heap.size=b:=⟨_,rfl⟩
 have gbC:V.heap.size≤bC:=by rw [←hbC];exact jG.size
 rw [hbC]
 have Bt:Below V.heap.size V (mD.alloc (.cells #[.int .i64 0,.int .i64 0,.int .i64 0,.int .i64 0,.int .i64 0,.int .i64 0,.int .i64 0,.int .i64 0,.int .i64 0,.int .i64 0,.int .i64 0,.int .i64 0,.int .i64 0,.int .i64 0,.int .i64 0,.int .i64 0] 25)):=Below.alloc jG (by have:=jG.size;omega) _
 have TC:=(show dR 25 bC #[.int .i64 0,.int .i64 0,.int .i64 0,.int .i64 0,.int .i64 0,.int .i64 0,.int .i64 0,.int .i64 0,.int .i64 0,.int .i64 0,.int .i64 0,.int .i64 0,.int .i64 0,.int .i64 0,.int .i64 0,.int .i64 0] (mD.alloc (.cells #[.int .i64 0,.int .i64 0,.int .i64 0,.int .i64 0,.int .i64 0,.int .i64 0,.int .i64 0,.int .i64 0,.int .i64 0,.int .i64 0,.int .i64 0,.int .i64 0,.int .i64 0,.int .i64 0,.int .i64 0,.int .i64 0] 25)) by rw [←hbC];exact dR.new _ _ _)
 refine hK.out _ _ (fun _=>Bt) (fun nC hbn=>?_)
 have jR:=eU _ _ Bt hbn
 have RC:=dR.below hbn TC
 clear TC
 clear hbn hK K jG Bt
 try simp only [aQ]
 clear hbC
 refine iB 13 (by kernel_rfl) rfl (fun K hK=>?_)
 rw [aT (by kernel_rfl)]
 refine eY (fun _=>trivial) 25 (.tmp 6) (.tmp 28) (by kernel_rfl) (bC) _ _ (mC u) (by kernel_rfl) (by kernel_rfl) RC OP.out SAMU.out (iY _) ?_
 have Br:Below V.heap.size V (nC.setRow bC (mC u)):=Below.row jR (by omega) _
 have TC:=dR.row RC (mC u)
 refine hK.out _ _ (fun _=>Br) (fun nT hbn=>?_)
 have jN:=eU _ _ Br hbn
 replace RC:=dR.below hbn TC
 clear TC
 clear hbn hK K jR Br
 try simp only [aQ]
 refine eG [] 14 (?_) hG rfl (by kernel_rfl) jN (by kernel_rfl) ?_ ?_
 rotate_left
 ·intro wz hSw;(first | (go_simp;done) | (go_simp;with_reducible rfl))
 intro oP kK hbn
 replace RC:=dR.below hbn RC
 clear hbn jN nT
 try simp only [aQ]
 refine fF (by kernel_rfl) (?_) _
 refine DW _ _ ?_
 have HI2:=aA (HI.out.up kK)
 have Me:=aA RC
 clear RC DW hG HI cA Gt gbC
 cases r with
 | none =>
  obtain rfl:er=30:=HER.out.symm
  clear Me OP SAMU
  go_wp2_with (first | (refine gX rfl 25 #[] rfl (mC eX) (by kernel_rfl) ?_) | (refine dQ rfl 25 (.tmp 4) (.tmp 32) rfl (w.heap.size + 1) _ _ (mC eX) rfl rfl HI2.out.rr iW rfl (iY _) ?_))
  (try simp only [Exit.inBlock,Exit.then])
  exact aO (v:=.tuple #[.agg (mC eX),.int .i64 60]) (fJ rfl _ _ (w.heap.size + 1) _ (mC eX) _ _ (.int .i64 60) rfl (HI2.out.rr.row _) aP rfl (by kernel_rfl) rfl) rfl ⟨rfl,Below.row HI2.out.jI (by omega) _⟩
 | some m =>
  obtain rfl:m=u:=HU.out
  obtain rfl:er=0:=HER.out.symm
  have SAM2:Hid ((mC eX).size=(mC m).size):=aA (by rw [fT,fT,BU.out];rfl)
  go_wp2_with (first | (refine wpList_load_row rfl 25 (.tmp 6) rfl (bC) rfl _ _ _ _ Me.out aP rfl OP.out ?_) | (refine dQ rfl 25 (.tmp 4) (.tmp 33) rfl (w.heap.size + 1) _ _ (mC m) rfl rfl HI2.out.rr OP.out SAM2.out (iY _) ?_))
  (try simp only [Exit.inBlock,Exit.then])
  exact aO (v:=.tuple #[.agg (mC m),.int .i64 0]) (fJ rfl _ _ (w.heap.size + 1) _ (mC m) _ _ (.int .i64 0) rfl (HI2.out.rr.row _) aP rfl OP.out rfl) rfl ⟨rfl,Below.row HI2.out.jI (by omega) _⟩
end Fx
end Go.Proofs.YtbbhmhihpdmoiaaGreat
