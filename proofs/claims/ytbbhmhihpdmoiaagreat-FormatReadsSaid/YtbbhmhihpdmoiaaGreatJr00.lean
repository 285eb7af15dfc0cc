import Derived.Test.YtbbhmhihpdmoiaaGreatJrz
set_option linter.unusedVariables false
set_option linter.unusedSimpArgs false
set_option maxRecDepth 100000
set_option maxHeartbeats 32000000
namespace Go.Proofs.YtbbhmhihpdmoiaaGreat
namespace Fx
open Go Go.RowKit
variable {F:Fence} {n:Nat} {P:Program}
structure Kept (B:Nat) (W W':World):Prop where
 os:W'.os=W.os
 tape:W'.tape=W.tape
 output:W'.output=W.output
 size:W.heap.size≤W'.heap.size
 block:∀ k o,W.heap[k]?=some o→(k < B∨o.isCells=true)→W'.heap[k]?=some o
theorem Kept.of_below {B:Nat} {W W':World} (h:Below W.heap.size W W'):Kept B W W' :=
 ⟨h.os,h.tape,h.output,h.size,fun k o hk _=>by rw [h.block k (aC.1 hk).1];exact hk⟩
theorem Kept.putObj {B l:Nat} {W:World} {o:Obj} (o':Obj) (hB:B≤l) (hl:W.heap[l]?=some o) (ho:o.isCells=false):Kept B W (W.putObj l o') :=
 ⟨rfl,rfl,rfl,by simp,fun k o1 hk hc=>by
  by_cases e:k=l
  ·subst e
   rw [hl] at hk
   cases hk
   rcases hc with hc | hc
   ·omega
   ·rw [ho] at hc;cases hc
  ·exact (World.putObj_heap_other e).trans hk⟩
theorem Kept.below {B:Nat} {w W W':World} (k:Kept B W W') (hB:w.heap.size≤B) (h:Below w.heap.size w W):Below w.heap.size w W' :=
 ⟨k.os.trans h.os,k.tape.trans h.tape,k.output.trans h.output,bH h.size k.size,fun i hi=>by
  have h1:=h.block i hi
  rw [Array.getElem?_eq_getElem hi] at h1 ⊢
  exact k.block i _ h1 (.inl (by omega))⟩
theorem Kept.cells {B:Nat} {W W':World} (k:Kept B W W') {g:Nat} {c:Array Value} {t:TypeId} {f:Nat×Nat} (h:W.heap[g]?=some (.cells c t f)):W'.heap[g]?=some (.cells c t f):=k.block g _ h (.inr rfl)
def Hands (F:Fence) (n:Nat) (P:Program) (gf:Nat) (lb:Array Value) (elem:Nat→Array Value) (N:Nat) (M:World→Prop):Prop :=
 ∀ (l:Nat) (J:Nat→World→Prop) (Jx:World→Prop) (W:World),
  (∀ k W W',J k W→Below W.heap.size W W'→J k W')→(∀ W W',Jx W→Below W.heap.size W W'→Jx W')→(∀ k W,J k W→M W)→(∀ W,Jx W→M W) →
  (∀ k W1,k < N→J k W1→YieldAt F (n - 1) P l (elem k) W1 fun e W'=>(e=.returned (.bool true)∧J (k + 1) W')∨(e=.returned (.bool false)∧Jx W')) →
  J 0 W→CallsIn F n P gf (#[.func (.yield l) #[] #[]] ++ lb) W fun e W'=>(∃ v,e=.returned v)∧(J N W'∨Jx W')
def MB (B c0:Nat) (I' Ix:World→Prop) (W:World):Exit→Act→World→Prop
 | .normal,_,W'=>KeepsFrom B W W'∧I' W'
 | .exit c,_,W'=>c=c0∧KeepsFrom B W W'∧Ix W'
 | _,_,_=>False
theorem jO {g:Operand} {ps:Array Tmp} {assign body:Code} {Q:Exit→Act→World→Prop} {a:Act} {w:World}
  (hro:F.round=none) (h1:1≤n) {gf:Nat} {lb:Array Value} (hg:a.eval g=.func (.func gf) #[] lb) (hFg:F.fn gf) (eg:∀ args w,(callFunc gf args).run P w=.ok (.enter gf args) w)
  {elem:Nat→Array Value} {N:Nat} {M:World→Prop} (hseq:Hands F (n - 1) P gf lb elem N M) (hps:∀ k,(elem k).size=ps.size)
  (c0:Nat) (I:Nat→World→Prop) (Ix:World→Prop) (Ax:Nat→Act→World→Prop)
  (hI:∀ k W W',I k W→Kept w.heap.size W W'→I k W') (hIx:∀ W W',Ix W→Kept w.heap.size W W'→Ix W') (hAx:∀ k a W W',Ax k a W→Kept w.heap.size W W'→Ax k a W')
  (hIM:∀ k W,I k W→M W) (Rq:∀ W,Ix W→M W) (h0:I 0 w)
  (hassign:∀ (l k:Nat) (W:World) (C:Act→World→Prop),k < N→I k W→(∀ a' W',KeepsFrom w.heap.size W W'→Ax k a' W'→C a' W') →
   assign.wpIn (F.inRound l) (n - 1 - 1) P (Exit.then C (fun _ _ _=>False)) { tmps:=(ps.zip (elem k)).foldl (fun t (p,v)=>t.setIfInBounds p v) a.tmps,defers:=[] } W)
  (hbody:∀ (l k:Nat) (a':Act) (W:World),k < N→Ax k a' W→body.wpIn (F.inRound l) (n - 1 - 1) P (MB w.heap.size c0 (I (k + 1)) Ix W) a' W)
  (hdone:∀ (D:Nat) (W:World),w.heap.size≤D→I N W→W.heap[D]?=some (.deferred (some []))→Q .normal { a with defers:={ target:=.collected D,args:=#[] } :: a.defers } W)
  (hstop:∀ (D:Nat) (W:World),w.heap.size≤D→Ix W→W.heap[D]?=some (.deferred (some []))→(Code.exit c0).wpIn F n P Q { a with defers:={ target:=.collected D,args:=#[] } :: a.defers } W) :
  (Code.rangeFunc g ps assign body).wpIn F n P Q a w:=by
 refine wpIn_rangeFunc fun fn hfn=>?_
 rw [hro]
 obtain ⟨rc,hrc⟩:∃ rc:LoopState→Option Code→Loop,rc=fun st pe=>{ state:=st,pending:=pe,fn,tmps:=a.tmps,params:=ps,assign,body,defers:=w.heap.size }:=⟨_,rfl⟩
 obtain ⟨V,hV⟩:∃ V,(w.alloc (.deferred (some []))).alloc (.loop (rc .ready none))=V:=⟨_,rfl⟩
 have vL:V.heap[w.heap.size + 1]?=some (.loop (rc .ready none)):=by
  have:=World.alloc_heap_new (w.alloc (.deferred (some []))) (.loop (rc .ready none))
  rw [aR,hV] at this
  exact this
 have vD:V.heap[w.heap.size]?=some (.deferred (some [])):=by
  rw [←hV]
  exact (Below.heap_alloc _ _ _ (by simp)).trans (World.alloc_heap_new w _)
 have vB:Below w.heap.size w V:=by rw [←hV];exact ((aI _ w).alloc (aB _) _).alloc (by simp) _
 have vI:I 0 V:=hI _ _ _ h0 (Kept.of_below vB)
 refine ⟨w.heap.size + 1,[{ target:=.collected w.heap.size,args:=#[] }],V,{ target:=.fn (.func gf) lb,args:=#[.func (.yield (w.heap.size + 1)) #[] #[]] },V,gf,#[.func (.yield (w.heap.size + 1)) #[] #[]] ++ lb,V,?_,?_,?_,?_,fun _=>h1,?_⟩
 ·rw [←hV,hrc];exact run_enterLoop_outer _ _ _ _ _
 ·simp only [resolve,hg]
  simp [go_sem]
 ·intro f' hf'
  simp [Target.leads] at hf'
  subst hf'
  exact hFg
 ·simp [invoke,go_sem,eg]
 have stay:∀ {X:World} {W W':World} {k:Nat} {o:Obj},W.heap[k]?=some o→Below W.heap.size W W'→W'.heap[k]?=some o:=fun hk hb=>by
  rw [hb.block _ (aC.1 hk).1];exact hk
 refine (hseq (w.heap.size + 1)
  (fun k W=>I k W∧W.heap[w.heap.size + 1]?=some (.loop (rc .ready none))∧W.heap[w.heap.size]?=some (.deferred (some [])))
  (fun W=>Ix W∧W.heap[w.heap.size + 1]?=some (.loop (rc .done (some (.exit c0))))∧W.heap[w.heap.size]?=some (.deferred (some [])))
  V (fun k W W' h hb=>⟨hI _ _ _ h.1 (Kept.of_below hb),stay (X:=W) h.2.1 hb,stay (X:=W) h.2.2 hb⟩) (fun W W' h hb=>⟨hIx _ _ h.1 (Kept.of_below hb),stay (X:=W) h.2.1 hb,stay (X:=W) h.2.2 hb⟩)
  (fun k W h=>hIM k W h.1) (fun W h=>Rq W h.1) ?round ⟨vI,vL,vD⟩).mono ?behind
 case round =>
  rintro k W hkN ⟨hi,hl,hd⟩
  have hlt:w.heap.size + 1 < W.heap.size:=(aC.1 hl).1
  have hy:=run_yield (P:=P) (args:=elem k) hl (by rw [hrc];exact hps k)
  rw [hrc] at hy
  refine ⟨fn,_,assign,body,hy,roundIn_of_wpIn hfn (hassign _ k W _ hkN hi ?_)⟩
  intro a' W' Yx hax
  have wL:=Yx.same _ _ (by omega) hl rfl
  have wD:=Yx.same _ _ (aB _) hd rfl
  refine ⟨_,run_beginRound wL (by rw [hrc]),?_⟩
  obtain ⟨U,hU⟩:∃ U,W'.putObj (w.heap.size + 1) (.loop { rc .ready none with state:=.busy })=U:=⟨_,rfl⟩
  have hlt':w.heap.size + 1 < W'.heap.size:=(aC.1 wL).1
  have uL:U.heap[w.heap.size + 1]?=some (.loop { rc .ready none with state:=.busy }):=by rw [←hU];exact World.putObj_heap_same hlt'
  have uD:U.heap[w.heap.size]?=some (.deferred (some [])):=by rw [←hU];exact (World.putObj_heap_other (by omega)).trans wD
  have uA:Ax k a' U:=by rw [←hU];exact hAx _ _ _ _ hax (Kept.putObj _ (by omega) wL rfl)
  rw [hU]
  refine wpIn_mono (hbody _ k a' U hkN uA) ?_
  have ends:∀ (jump:Option Code) (X:World),KeepsFrom w.heap.size U X→X.heap[w.heap.size + 1]?=some (.loop { rc .ready none with state:=.busy }) ∧
    (Instr.endRound (w.heap.size + 1) jump).run P X=.ok (.bool jump.isNone) (X.putObj (w.heap.size + 1) (.loop (rc (if jump.isNone then .ready else .done) jump))) ∧
    (X.putObj (w.heap.size + 1) (.loop (rc (if jump.isNone then .ready else .done) jump))).heap[w.heap.size + 1]?=some (.loop (rc (if jump.isNone then .ready else .done) jump)) ∧
    (X.putObj (w.heap.size + 1) (.loop (rc (if jump.isNone then .ready else .done) jump))).heap[w.heap.size]?=some (.deferred (some [])):=by
   intro jump X hX
   have xL:=hX.same _ _ (by omega) uL rfl
   have xr:=run_endRound (P:=P) jump xL
   have xs:=World.putObj_heap_same (o:=.loop (rc (if jump.isNone then .ready else .done) jump)) (aC.1 xL).1
   have xd:=(World.putObj_heap_other (o:=.loop (rc (if jump.isNone then .ready else .done) jump)) (show w.heap.size≠w.heap.size + 1 by omega)).trans (hX.same _ _ (aB _) uD rfl)
   refine ⟨xL,?_,xs,xd⟩
   rw [hrc] at xr ⊢
   exact xr
  intro e b X hp
  match e,hp with
  | .normal,hp =>
   obtain ⟨hk,hi2⟩:=hp
   obtain ⟨xL,r,s,d⟩:=ends none X hk
   exact ⟨_,_,r,.inl ⟨rfl,hI _ _ _ hi2 (Kept.putObj _ (by omega) xL rfl),s,d⟩⟩
  | .exit c,hp =>
   obtain ⟨rfl,hk,hx⟩:=hp
   obtain ⟨xL,r,s,d⟩:=ends (some (.exit c)) X hk
   exact ⟨_,_,r,.inr ⟨rfl,hIx _ _ hx (Kept.putObj _ (by omega) xL rfl),s,d⟩⟩
 case behind =>
  rintro e X ⟨⟨v,rfl⟩,⟨hi,hl,hd⟩ | ⟨hx,hl,hd⟩⟩
  ·have h:=run_endLoop (P:=P) hl (by rw [hrc];simp)
   rw [hrc] at h
   exact ⟨none,_,h,hdone _ _ (aB _) (hI _ _ _ hi (Kept.putObj _ (by omega) hl rfl)) ((World.putObj_heap_other (by omega)).trans hd)⟩
  ·have h:=run_endLoop (P:=P) hl (by rw [hrc];simp)
   rw [hrc] at h
   exact ⟨some (.exit c0),_,h,hstop _ _ (aB _) (hIx _ _ hx (Kept.putObj _ (by omega) hl rfl)) ((World.putObj_heap_other (by omega)).trans hd)⟩
variable {F:Fence} {n:Nat} {P:Program}
def Ia (B:Nat) (cj:Code) (I' Ix:World→Prop) (W:World):Exit→Act→World→Prop
 | .normal,_,W'=>KeepsFrom B W W'∧I' W'
 | .exit c,_,W'=>cj=.exit c∧KeepsFrom B W W'∧Ix W'
 | .ret,_,W'=>cj=.ret∧KeepsFrom B W W'∧Ix W'
 | _,_,_=>False
theorem iU {g:Operand} {ps:Array Tmp} {assign body:Code} {Q:Exit→Act→World→Prop} {a:Act} {w:World}
  (hro:F.round=none) (h1:1≤n) {gf:Nat} {lb:Array Value} (hg:a.eval g=.func (.func gf) #[] lb) (hFg:F.fn gf) (eg:∀ args w,(callFunc gf args).run P w=.ok (.enter gf args) w)
  {elem:Nat→Array Value} {N:Nat} {M:World→Prop} (hseq:Hands F (n - 1) P gf lb elem N M) (hps:∀ k,(elem k).size=ps.size)
  (cj:Code) (I:Nat→World→Prop) (Ix:World→Prop) (Ax:Nat→Act→World→Prop)
  (hI:∀ k W W',I k W→Kept w.heap.size W W'→I k W') (hIx:∀ W W',Ix W→Kept w.heap.size W W'→Ix W') (hAx:∀ k a W W',Ax k a W→Kept w.heap.size W W'→Ax k a W')
  (hIM:∀ k W,I k W→M W) (Rq:∀ W,Ix W→M W) (h0:I 0 w)
  (hassign:∀ (l k:Nat) (W:World) (C:Act→World→Prop),k < N→I k W→(∀ a' W',KeepsFrom w.heap.size W W'→Ax k a' W'→C a' W') →
   assign.wpIn (F.inRound l) (n - 1 - 1) P (Exit.then C (fun _ _ _=>False)) { tmps:=(ps.zip (elem k)).foldl (fun t (p,v)=>t.setIfInBounds p v) a.tmps,defers:=[] } W)
  (hbody:∀ (l k:Nat) (a':Act) (W:World),k < N→Ax k a' W→body.wpIn (F.inRound l) (n - 1 - 1) P (Ia w.heap.size cj (I (k + 1)) Ix W) a' W)
  (hdone:∀ (D:Nat) (W:World),w.heap.size≤D→I N W→W.heap[D]?=some (.deferred (some []))→Q .normal { a with defers:={ target:=.collected D,args:=#[] } :: a.defers } W)
  (hstop:∀ (D:Nat) (W:World),w.heap.size≤D→Ix W→W.heap[D]?=some (.deferred (some []))→cj.wpIn F n P Q { a with defers:={ target:=.collected D,args:=#[] } :: a.defers } W) :
  (Code.rangeFunc g ps assign body).wpIn F n P Q a w:=by
 refine wpIn_rangeFunc fun fn hfn=>?_
 rw [hro]
 obtain ⟨rc,hrc⟩:∃ rc:LoopState→Option Code→Loop,rc=fun st pe=>{ state:=st,pending:=pe,fn,tmps:=a.tmps,params:=ps,assign,body,defers:=w.heap.size }:=⟨_,rfl⟩
 obtain ⟨V,hV⟩:∃ V,(w.alloc (.deferred (some []))).alloc (.loop (rc .ready none))=V:=⟨_,rfl⟩
 have vL:V.heap[w.heap.size + 1]?=some (.loop (rc .ready none)):=by
  have:=World.alloc_heap_new (w.alloc (.deferred (some []))) (.loop (rc .ready none))
  rw [aR,hV] at this
  exact this
 have vD:V.heap[w.heap.size]?=some (.deferred (some [])):=by
  rw [←hV]
  exact (Below.heap_alloc _ _ _ (by simp)).trans (World.alloc_heap_new w _)
 have vB:Below w.heap.size w V:=by rw [←hV];exact ((aI _ w).alloc (aB _) _).alloc (by simp) _
 have vI:I 0 V:=hI _ _ _ h0 (Kept.of_below vB)
 refine ⟨w.heap.size + 1,[{ target:=.collected w.heap.size,args:=#[] }],V,{ target:=.fn (.func gf) lb,args:=#[.func (.yield (w.heap.size + 1)) #[] #[]] },V,gf,#[.func (.yield (w.heap.size + 1)) #[] #[]] ++ lb,V,?_,?_,?_,?_,fun _=>h1,?_⟩
 ·rw [←hV,hrc];exact run_enterLoop_outer _ _ _ _ _
 ·simp only [resolve,hg]
  simp [go_sem]
 ·intro f' hf'
  simp [Target.leads] at hf'
  subst hf'
  exact hFg
 ·simp [invoke,go_sem,eg]
 have stay:∀ {X:World} {W W':World} {k:Nat} {o:Obj},W.heap[k]?=some o→Below W.heap.size W W'→W'.heap[k]?=some o:=fun hk hb=>by
  rw [hb.block _ (aC.1 hk).1];exact hk
 refine (hseq (w.heap.size + 1)
  (fun k W=>I k W∧W.heap[w.heap.size + 1]?=some (.loop (rc .ready none))∧W.heap[w.heap.size]?=some (.deferred (some [])))
  (fun W=>Ix W∧W.heap[w.heap.size + 1]?=some (.loop (rc .done (some cj)))∧W.heap[w.heap.size]?=some (.deferred (some [])))
  V (fun k W W' h hb=>⟨hI _ _ _ h.1 (Kept.of_below hb),stay (X:=W) h.2.1 hb,stay (X:=W) h.2.2 hb⟩) (fun W W' h hb=>⟨hIx _ _ h.1 (Kept.of_below hb),stay (X:=W) h.2.1 hb,stay (X:=W) h.2.2 hb⟩)
  (fun k W h=>hIM k W h.1) (fun W h=>Rq W h.1) ?round ⟨vI,vL,vD⟩).mono ?behind
 case round =>
  rintro k W hkN ⟨hi,hl,hd⟩
  have hlt:w.heap.size + 1 < W.heap.size:=(aC.1 hl).1
  have hy:=run_yield (P:=P) (args:=elem k) hl (by rw [hrc];exact hps k)
  rw [hrc] at hy
  refine ⟨fn,_,assign,body,hy,roundIn_of_wpIn hfn (hassign _ k W _ hkN hi ?_)⟩
  intro a' W' Yx hax
  have wL:=Yx.same _ _ (by omega) hl rfl
  have wD:=Yx.same _ _ (aB _) hd rfl
  refine ⟨_,run_beginRound wL (by rw [hrc]),?_⟩
  obtain ⟨U,hU⟩:∃ U,W'.putObj (w.heap.size + 1) (.loop { rc .ready none with state:=.busy })=U:=⟨_,rfl⟩
  have hlt':w.heap.size + 1 < W'.heap.size:=(aC.1 wL).1
  have uL:U.heap[w.heap.size + 1]?=some (.loop { rc .ready none with state:=.busy }):=by rw [←hU];exact World.putObj_heap_same hlt'
  have uD:U.heap[w.heap.size]?=some (.deferred (some [])):=by rw [←hU];exact (World.putObj_heap_other (by omega)).trans wD
  have uA:Ax k a' U:=by rw [←hU];exact hAx _ _ _ _ hax (Kept.putObj _ (by omega) wL rfl)
  rw [hU]
  refine wpIn_mono (hbody _ k a' U hkN uA) ?_
  have ends:∀ (jump:Option Code) (X:World),KeepsFrom w.heap.size U X→X.heap[w.heap.size + 1]?=some (.loop { rc .ready none with state:=.busy }) ∧
    (Instr.endRound (w.heap.size + 1) jump).run P X=.ok (.bool jump.isNone) (X.putObj (w.heap.size + 1) (.loop (rc (if jump.isNone then .ready else .done) jump))) ∧
    (X.putObj (w.heap.size + 1) (.loop (rc (if jump.isNone then .ready else .done) jump))).heap[w.heap.size + 1]?=some (.loop (rc (if jump.isNone then .ready else .done) jump)) ∧
    (X.putObj (w.heap.size + 1) (.loop (rc (if jump.isNone then .ready else .done) jump))).heap[w.heap.size]?=some (.deferred (some [])):=by
   intro jump X hX
   have xL:=hX.same _ _ (by omega) uL rfl
   have xr:=run_endRound (P:=P) jump xL
   have xs:=World.putObj_heap_same (o:=.loop (rc (if jump.isNone then .ready else .done) jump)) (aC.1 xL).1
   have xd:=(World.putObj_heap_other (o:=.loop (rc (if jump.isNone then .ready else .done) jump)) (show w.heap.size≠w.heap.size + 1 by omega)).trans (hX.same _ _ (aB _) uD rfl)
   refine ⟨xL,?_,xs,xd⟩
   rw [hrc] at xr ⊢
   exact xr
  intro e b X hp
  match e,hp with
  | .normal,hp =>
   obtain ⟨hk,hi2⟩:=hp
   obtain ⟨xL,r,s,d⟩:=ends none X hk
   exact ⟨_,_,r,.inl ⟨rfl,hI _ _ _ hi2 (Kept.putObj _ (by omega) xL rfl),s,d⟩⟩
  | .exit c,hp =>
   obtain ⟨rfl,hk,hx⟩:=hp
   obtain ⟨xL,r,s,d⟩:=ends (some (.exit c)) X hk
   exact ⟨_,_,r,.inr ⟨rfl,hIx _ _ hx (Kept.putObj _ (by omega) xL rfl),s,d⟩⟩
  | .ret,hp =>
   obtain ⟨rfl,hk,hx⟩:=hp
   obtain ⟨xL,r,s,d⟩:=ends (some .ret) X hk
   exact ⟨_,_,r,.inr ⟨rfl,hIx _ _ hx (Kept.putObj _ (by omega) xL rfl),s,d⟩⟩
 case behind =>
  rintro e X ⟨⟨v,rfl⟩,⟨hi,hl,hd⟩ | ⟨hx,hl,hd⟩⟩
  ·have h:=run_endLoop (P:=P) hl (by rw [hrc];simp)
   rw [hrc] at h
   exact ⟨none,_,h,hdone _ _ (aB _) (hI _ _ _ hi (Kept.putObj _ (by omega) hl rfl)) ((World.putObj_heap_other (by omega)).trans hd)⟩
  ·have h:=run_endLoop (P:=P) hl (by rw [hrc];simp)
   rw [hrc] at h
   exact ⟨some cj,_,h,hstop _ _ (aB _) (hIx _ _ hx (Kept.putObj _ (by omega) hl rfl)) ((World.putObj_heap_other (by omega)).trans hd)⟩
end Fx
namespace Pk
open Go Go.RowKit
theorem tQ {B:Nat} {w w':World} (n:Nat) (h:Below B (w.drewN n) w'):Below B w w':=⟨h.os,h.tape,h.output,h.size,h.block⟩
theorem fG (B:Nat) (w:World) (n:Nat):Below B w (w.drewN n):=tQ n (aI _ _)
theorem oM {B:Nat} {a w:World} (n:Nat) (h:Below B a w):Below B a (w.drewN n):=⟨h.os,h.tape,h.output,h.size,h.block⟩
theorem dY {w W1 W2:World} (h:Below w.heap.size w W1) (k:Below W1.heap.size W1 W2):Below w.heap.size w W2:=h.trans (k.mono h.size)
theorem dN {w w':World} {a:Addr} {v:Value} (hb:Below w.heap.size w w') (h:w.cell? a=some v):w'.cell? a=some v:=by
 rw [hb.cell]
 ·exact h
 ·exact block_lt_of_cell h
theorem dS {w w':World} {b o:Nat} (hb:Below w.heap.size w w') (hs:b < w.heap.size) (h:w.frozen? ⟨b,o,none⟩=false):w'.frozen? ⟨b,o,none⟩=false:=by
 rw [hb.frozen (p:=⟨b,o,none⟩) hs]
 exact h
theorem dV {w w':World} {b:Nat} {o:Obj} (hb:Below w.heap.size w w') (h:w.heap[b]?=some o):w'.heap[b]?=some o:=by
 rw [hb.block _ (aC.1 h).1];exact h
theorem dU {w:World} {g j:Nat} {cs:Array Value} {t:TypeId} (hg:w.heap[g]?=some (.cells cs t (0,0))):w.frozen? ⟨g,j,none⟩=false:=by
 simp [World.frozen?,hg]
theorem dW {w:World} {o:Obj} {b:Nat} {x:Obj} (h:w.heap[b]?=some x):(w.alloc o).heap[b]?=some x:=by
 rw [heap_alloc_old _ _ (aC.1 h).1]
 exact h
theorem jU (w:World) (A B C:Obj):(((w.alloc A).alloc B).alloc C).heap[w.heap.size]?=some A∧(((w.alloc A).alloc B).alloc C).heap[w.heap.size + 1]?=some B∧(((w.alloc A).alloc B).alloc C).heap[w.heap.size + 1 + 1]?=some C:=by
 have h0:=aG w A
 have h1:=aG (w.alloc A) B
 have h2:=aG ((w.alloc A).alloc B) C
 simp only [aR] at h1 h2
 exact ⟨dW (dW h0),dW h1,h2⟩
def Bs (W:World) (o:Option Addr) (l:List Nat):Prop :=
 ∀ j,j < l.length→∃ b off,o=some ⟨b,off,none⟩∧W.cell? ⟨b,off + j,none⟩=some (.int .u8 ((l.getD j 0:Nat):Int))
theorem Bs.below {w W:World} (h:Below w.heap.size w W) {o:Option Addr} {l:List Nat} (s:Bs w o l):Bs W o l:=fun j hj=>by
 obtain ⟨b,off,e,hc⟩:=s j hj
 exact ⟨b,off,e,dN h hc⟩
def By (l:List Nat):Prop:=∀ c∈l,c < 256
theorem By.get {l:List Nat} (h:By l) (k:Nat):l.getD k 0 < 256:=by
 by_cases hk:k < l.length
 ·have : l.getD k 0=l[k]:=by simp [List.getD,hk]
  rw [this]
  exact h _ (List.getElem_mem hk)
 ·simp [List.getD,hk]
theorem By.take {l:List Nat} (h:By l) (k:Nat):By (l.take k):=fun c hc=>h c (dL hc)
theorem By.drop {l:List Nat} (h:By l) (k:Nat):By (l.drop k):=fun c hc=>h c (List.mem_of_mem_drop hc)
theorem By.append {l m:List Nat} (h:By l) (h2:By m):By (l ++ m):=fun c hc=>(bU.1 hc).elim (h c) (h2 c)
theorem Bs.take {W:World} {o:Option Addr} {l:List Nat} (h:Bs W o l) (k:Nat):Bs W o (l.take k):=fun j hj=>by
 have hj2:j < k∧j < l.length:=by rw [bZ] at hj;omega
 obtain ⟨b,off,e,hc⟩:=h j hj2.2
 refine ⟨b,off,e,hc.trans ?_⟩
 simp [List.getD,List.getElem?_take,hj2.1]
theorem Bs.drop {W:World} {b off cap k:Nat} {l:List Nat} (hcap:l.length≤cap) (h:Bs W (some ⟨b,off,none⟩) l):Bs W (if cap=k then some ⟨b,off,none⟩ else some ⟨b,off + k,none⟩) (l.drop k):=fun j hj=>by
 rw [dD] at hj
 rw [aX (by omega)]
 obtain ⟨b',off',e,hc⟩:=h (k + j) (by omega)
 cases e
 refine ⟨b,off + k,rfl,?_⟩
 rw [show off + k + j=off + (k + j) by omega,hc]
 simp [List.getD]
theorem Bs.nought {W:World} {o:Option Addr}:Bs W o []:=fun j hj=>absurd hj (by simp)
def bR (l:List Nat):Array Value:=(l.map fun x:Nat=>Value.int .u8 (x:Int)).toArray
theorem yF (l:List Nat):(bR l).size=l.length:=by simp [bR]
theorem GD (l:List Nat) {j:Nat} (h:j < l.length):(bR l)[j]?=some (.int .u8 ((l.getD j 0:Nat):Int)):=by simp [bR,h,List.getD]
theorem Bs.row {W:World} {b:Nat} {l:List Nat} {t:TypeId} {fr:Nat×Nat} (h:W.heap[b]?=some (.cells (bR l) t fr)):Bs W (some ⟨b,0,none⟩) l:=fun j hj =>
 ⟨b,0,rfl,by rw [bB,aF _ _ _ _ _ _ h,GD l hj]⟩
theorem By.of {l:List Nat} (h:l.all (fun c=>decide (c < 256))=true):By l:=fun c hc=>by
 have:=bL.1 h c hc
 simpa using this
def jD (x:Nat):Value:=.int .u8 (x:Int)
def Own (W:World) (B:Nat) (v:Value) (l:List Nat):Prop:=W.ownsRow B 5 1 v l.length (l.map jD)
theorem Own.below {w W:World} {B:Nat} {v:Value} {l:List Nat} (h:Below w.heap.size w W) (s:Own w B v l):Own W B v l:=by
 obtain ⟨h1,h2⟩:=s
 refine ⟨h1,?_⟩
 rcases h2 with h2 | ⟨g,cap,cur,e,hb,hg,h3⟩
 ·exact Or.inl h2
 ·exact Or.inr ⟨g,cap,cur,e,hb,dV h hg,h3⟩
theorem Own.mono {W:World} {B C:Nat} {v:Value} {l:List Nat} (hB:B≤C) (s:Own W C v l):Own W B v l:=by
 obtain ⟨h1,h2⟩:=s
 refine ⟨h1,?_⟩
 rcases h2 with h2 | ⟨g,cap,cur,e,hb,h3⟩
 ·exact Or.inl h2
 ·exact Or.inr ⟨g,cap,cur,e,bH hB hb,h3⟩
theorem Own.open {W:World} {B:Nat} {v:Value} {l:List Nat} (s:Own W B v l):∃ o cap,v=.slice o l.length cap∧Bs W o l∧l.length≤cap∧cap≤9223372036854775807∧(o=none→cap=0)∧(∀ a,o=some a→∃ g,a=⟨g,0,none⟩∧B≤g∧g < W.heap.size∧∀ j,W.frozen? ⟨g,j,none⟩=false):=by
 obtain ⟨h1,h2⟩:=s
 rcases h2 with ⟨rfl,h0⟩ | ⟨g,cap,cur,rfl,hb,hg,hc,hm,hs,ht⟩
 ·have : l=[]:=List.length_eq_zero_iff.1 h0
  subst this
  exact ⟨none,0,rfl,Bs.nought,by simp,by omega,fun _=>rfl,fun a h=>by cases h⟩
 ·refine ⟨some ⟨g,0,none⟩,cap,rfl,fun j hj=>⟨g,0,rfl,?_⟩,hc,by unfold maxLen at hm;omega,(fun h=>by cases h),fun a h=>⟨g,(bF h).symm,hb,(aC.1 hg).1,fun j=>dU hg⟩⟩
  rw [bB,aF _ _ _ _ _ _ hg]
  have h3:(cur.toList.take (l.length * 1))[j]?=some (jD (l.getD j 0)):=by rw [ht];simp [hj,List.getD]
  rw [List.getElem?_take,aT (by omega)] at h3
  simpa [jD] using h3
theorem QI {W:World} {b off:Nat} {l:List Nat} (h:Bs W (some ⟨b,off,none⟩) l):∀ j u,(l.map jD)[j]?=some u→W.cell? ((⟨b,off,none⟩:Addr).add j)=some u:=by
 intro j u hu
 have hj:j < l.length:=by
  have:=(bD.1 hu).1
  simpa using this
 obtain ⟨b',off',e,hc⟩:=h j hj
 cases e
 rw [Addr.add_lit,hc,←hu]
 simp [hj,jD,List.getD]
theorem uW (l:List Nat):∀ u∈l.map jD,u.oneCell'=true:=by
 intro u hu
 obtain ⟨x,_,rfl⟩:=List.mem_map.1 hu
 rfl
theorem info5:(Tryz.prog.info? 5).map (fun i=>(i.zero,i.size,i.bytes))=some (some (.int .u8 0),1,1):=by kernel_rfl
theorem nZ (w:World) (t e:TypeId) (a:Option Addr) (l c:Nat) (h:Tryz.prog.underlying t=some (.slice e)):(binOp .eql t (.slice a l c) (.slice none 0 0)).run Tryz.prog w=.ok (.bool a.isNone) w:=by
 show ((do pure (.bool (← Op.equal t (.slice a l c) (.slice none 0 0)))):Sem Value).run Tryz.prog w=_
 simp [run_equal_slice_nil w t e a l c h]
theorem Dx (l:List Nat):(bR l).all (·.oneCell')=true:=by
 simp only [bR,List.all_toArray,List.all_map,bL]
 intro i _
 rfl
def iP (l:List Nat):ByteArray:=⟨(l.map UInt8.ofNat).toArray⟩
theorem yY (l:List Nat):∀ (b:ByteArray),(l.map fun x:Nat=>(x:Int)).foldl (fun r n=>r.push (UInt8.ofNat n.toNat)) b=⟨b.data ++ (l.map UInt8.ofNat).toArray⟩:=by
 induction l with
 | nil=>intro b;simp
 | cons x l ih =>
  intro b
  simp only [List.map_cons,List.foldl_cons]
  rw [ih]
  simp [ByteArray.push]
theorem rF {W:World} {o:Option Addr} {l:List Nat} (h:Bs W o l):∀ ad,o=some ad→∀ j u,(l.map jD)[j]?=some u→W.cell? (ad.add j)=some u:=by
 intro ad e j u hu
 have hj:j < l.length:=by
  have:=(bD.1 hu).1
  simpa using this
 obtain ⟨b,off,e2,hc⟩:=h j hj
 rw [e] at e2
 cases e2
 rw [Addr.add_lit,hc,←hu]
 simp [hj,jD,List.getD]
theorem FD {W:World} {l:List Nat} (h:Bs W none l):l=[]:=by
 cases l with
 | nil=>rfl
 | cons x l=>obtain ⟨_,_,e,_⟩:=h 0 (by simp);cases e
theorem sW {W:World} {o:Option Addr} {l:List Nat} {n:Nat} (cap:Nat) (hn:l.length=n) (h:Bs W o l):(convert 31 9 (.slice o n cap)).run Tryz.prog W=.ok (.string (iP l)) W:=by
 subst hn
 rw [run_convert_bytes_string W _ _ _ _ _ _ bS dM Tryz.underlying9]
 cases o with
 | none =>
  have : l=[]:=by
   cases l with
   | nil=>rfl
   | cons x l=>obtain ⟨_,_,e,_⟩:=h 0 (by simp);cases e
  subst this
  rfl
 | some a =>
  have hl:=run_loadCells_list (P:=Tryz.prog) (w:=W) a (l.map jD) (rF h a rfl)
  rw [bI] at hl
  have hm:l.map jD=(l.map fun x:Nat=>(x:Int)).map (Value.int .u8):=by simp [jD]
  rw [hm] at hl
  rw [run_bytesToString W _ _ _ _ hl,yY]
  simp [iP,ByteArray.empty,ByteArray.emptyWithCapacity]
  rfl
theorem SC {W:World} {b off:Nat} {l m:List Nat} (h:Bs W (some ⟨b,off,none⟩) (l ++ m)):Bs W (some ⟨b,off,none⟩) l:=by
 have:=h.take l.length
 rwa [List.take_left] at this
theorem tO {W:World} {b off:Nat} {l:List Nat} (h:Bs W (some ⟨b,off,none⟩) l) {j:Nat} (hj:j < l.length):W.cell? ⟨b,off + j,none⟩=some (.int .u8 ((l.getD j 0:Nat):Int)):=by
 obtain ⟨_,_,e,hc⟩:=h j hj
 cases e
 exact hc
def lD:Nat→Nat→List Nat
 | 0,n=>[n]
 | f + 1,n=>if n < 128 then [n] else (128 + n % 128) :: lD f (n / 128)
def form (n:Nat):List Nat:=lD 10 n
theorem zX:∀ (f m:Nat),1≤f→m < 128 ^ f→lD f m=lD (f + 1) m
 | 0,_,h,_=>by omega
 | f + 1,m,_,h=>by
  by_cases h1:m < 128
  ·simp only [lD,aT h1]
  ·have e:∀ g,lD (g + 1) m=(128 + m % 128) :: lD g (m / 128):=fun g=>by simp only [lD,aX h1]
   rw [e,e]
   congr 1
   have hf:1≤f:=by
    rcases Nat.eq_zero_or_pos f with rfl | h0
    ·simp at h;omega
    ·exact h0
   exact zX f (m / 128) hf (by rw [bM] at h;omega)
theorem lT {n:Nat} (h:n < 128):form n=[n]:=by unfold form;simp only [lD,aT h]
theorem vM {n:Nat} (h:¬ n < 128) (hn:n < 18446744073709551616):form n=(128 + n % 128) :: form (n / 128):=by
 unfold form
 have e:lD 10 n=(128 + n % 128) :: lD 9 (n / 128):=by rw [lD,aX h]
 rw [e, zX 9 _ (by omega) (by have : (128 : Nat) ^ 9 = 9223372036854775808 := by decide
                              omega)]
theorem DY:∀ (f n:Nat),1≤(lD f n).length∧(lD f n).length≤f + 1
 | 0,n=>by simp [lD]
 | f + 1,n=>by
  simp only [lD]
  split
  ·simp
  ·have:=DY f (n / 128)
   simp
   omega
theorem KH (n:Nat):1≤(form n).length∧(form n).length≤11:=DY 10 n
theorem QY:∀ (f n:Nat),n < 128 ^ (f + 1)→By (lD f n)
 | 0,n,h=>by
  intro c hc
  simp [lD] at hc
  subst hc
  simp at h
  omega
 | f + 1,n,h=>by
  simp only [lD]
  split
  ·intro c hc
   simp at hc
   subst hc
   omega
  ·intro c hc
   rcases List.mem_cons.1 hc with rfl | hc
   ·omega
   ·exact QY f (n / 128) (by rw [bM] at h;omega) c hc
theorem zW {n:Nat} (hn:n < 18446744073709551616):By (form n):=QY 10 n (by
 have h:(128:Nat) ^ (10 + 1)=151115727451828646838272:=by decide
 rw [h]
 omega)
theorem Own.alloc {w:World} {B:Nat} {v:Value} {l:List Nat} (s:Own w B v l) (o:Obj):Own (w.alloc o) B v l:=by
 obtain ⟨h1,h2⟩:=s
 refine ⟨h1,?_⟩
 rcases h2 with h2 | ⟨g,cap,cur,e,hb,hg,h3⟩
 ·exact Or.inl h2
 ·exact Or.inr ⟨g,cap,cur,e,hb,dW hg,h3⟩
theorem Own.more {w:World} {B:Nat} {v:Value} {l m:List Nat} (h:w.ownsRow B 5 1 v (l.length + m.length) (l.map jD ++ m.map jD)):Own w B v (l ++ m):=by
 unfold Own
 rw [aY,List.map_append]
 exact h
theorem Own.blk {w:World} {B:Nat} {v:Value} {l:List Nat} (s:Own w B v l):∀ k,v.ownBlock=some k→B≤k:=by
 intro k hk
 obtain ⟨h1,h2⟩:=s
 rcases h2 with ⟨rfl,_⟩ | ⟨g,cap,cur,rfl,hb,_⟩
 ·cases hk
 ·cases hk
  exact hb
theorem Iq (k:Nat) (hk:k < 9):(2:Nat) ^ (64 - 7 * k)=128 * 2 ^ (64 - 7 * (k + 1)):=by
 rw [show 64 - 7 * k=7 + (64 - 7 * (k + 1)) by omega,Nat.pow_add]
end Pk
namespace Pk
open Fx (Hands)
open Go Go.RowKit Go.Shelf
attribute [local go_sem] Oper.semAt_some
def XE (n A:Nat) (X:World):Prop:=X.cell? ⟨A,0,none⟩=some (.int .u64 (n:Int))
def xZ (n k:Nat):Array Value:=#[.int .u8 (((form n).getD k 0:Nat):Int)]
theorem u8_or128 (m:Nat):bits .or .u8 ((m:Int) % 256) 128=128 + (m:Int) % 128:=by
 have h:∀ x:Fin 256,bits .or .u8 ((x.val:Nat):Int) 128=((128 + x.val % 128:Nat):Int):=by decide
 have:=h ⟨m % 256,cK _ (by omega)⟩
 dsimp only at this
 rw [show ((m:Int) % 256)=((m % 256:Nat):Int) by omega,this]
 omega
theorem xG {n m k:Nat} (h:m < 128) (hf:form m=(form n).drop k):(form n).length=k + 1∧(form n).getD k 0=m:=by
 rw [lT h] at hf
 have hl:=congrArg List.length hf
 simp at hl
 refine ⟨by omega,?_⟩
 have hk:k < (form n).length:=by omega
 rw [List.drop_eq_getElem_cons hk] at hf
 simp only [List.cons.injEq] at hf
 simp [List.getD,hk,hf.1]
theorem CO {n m k:Nat} (h:¬ m < 128) (hm:m < 18446744073709551616) (hf:form m=(form n).drop k):k < (form n).length∧(form n).getD k 0=128 + m % 128∧form (m / 128)=(form n).drop (k + 1):=by
 rw [vM h hm] at hf
 have hl:=congrArg List.length hf
 have:=(KH (m / 128)).1
 simp at hl
 have hk:k < (form n).length:=by omega
 rw [List.drop_eq_getElem_cons hk] at hf
 simp only [List.cons.injEq] at hf
 exact ⟨hk,by simp [List.getD,hk,hf.1],hf.2⟩
theorem NW (n A:Nat) (hn:n < 18446744073709551616) :
  Hands Fence.wide 4 Tryz.prog 139 #[.pointer (some ⟨A,0,none⟩)] (xZ n) (form n).length (XE n A):=by
 intro l J Jx W QU hJ2 GU vK hY h0
 have cA:=GU 0 W h0
 have HY:=aA hY;clear hY
 have TL:=aA QU;clear QU
 have HJ2:=aA hJ2;clear hJ2
 have Gy:=aA GU;clear GU
 have Fp:=aA vK;clear vK
 unfold XE at cA
 refine callsIn_of_wp Tryz.func139 rfl trivial ?_ rfl
 simp only [Tryz.ntmps139,aL,bK,List.length_nil,Nat.reduceAdd,Nat.reduceSub,Array.replicate_succ,Array.replicate_zero,List.push_toArray,List.append_toArray,bX,bT]
 gi_wp2
 gi_loopw [3] (fun v3 wr=>∃ k m:Nat,v3=.int .u64 (m:Int)∧m < 18446744073709551616∧form m=(form n).drop k∧J k wr) (fun v3 _=>(intOf v3).toNat)
 case atStart=>exact ⟨0,n,rfl,hn,rfl,h0⟩
 case round =>
  clear cA
  obtain ⟨k,m,rfl,hm,hf,hJ⟩:=hrel
  by_cases hs:m < 128
  ·obtain ⟨hl,hg⟩:=xG hs hf
   obtain ⟨fn,tmps,assign,body,hy,hR⟩:=HY.out k wr (by omega) hJ
   simp only [xZ] at hy
   rw [hg] at hy
   have t1:¬ (128:Int)≤(m:Int):=by omega
   have hw:IntKind.u8.wrap (m:Int)=(m:Int):=by rw [IntKind.wrap_u8];omega
   have HKN:Hid (k + 1=(form n).length):=aA hl.symm
   clear hf hl hg
   gi_wp2
   refine hR.mono ?_
   rintro e W3 (⟨rfl,hJ3⟩ | ⟨rfl,hJx3⟩)
   ·gi_wp2
    go_end0
    exact ⟨⟨_,rfl⟩,.inl (HKN.out▸hJ3)⟩
   ·gi_wp2
    go_end0
    exact ⟨⟨_,rfl⟩,.inr hJx3⟩
  ·obtain ⟨hk,hg,hf2⟩:=CO hs hm hf
   obtain ⟨fn,tmps,assign,body,hy,hR⟩:=HY.out k wr hk hJ
   simp only [xZ] at hy
   rw [hg] at hy
   have t1:(128:Int)≤(m:Int):=by omega
   have hor:=u8_or128 m
   rw [show ((128 + m % 128:Nat):Int)=128 + (m:Int) % 128 by omega] at hy
   gi_wp2
   refine hR.mono ?_
   rintro e W3 (⟨rfl,hJ3⟩ | ⟨rfl,hJx3⟩)
   ·gi_wp2
    go_roundw
    case rel=>exact ⟨k + 1,m / 128,by go_num,by omega,hf2,hJ3⟩
    case measure=>simp [intOf];omega
   ·gi_wp2
    refine aO (results_none rfl _ _ _) rfl ?_
    exact ⟨⟨_,rfl⟩,.inr hJx3⟩
theorem Rv (n:Nat) (w:World):Calls Tryz.prog 115 #[.int .u64 (n:Int)] w fun e w' =>
  e=.returned (.func (.func 139) #[] #[.pointer (some ⟨w.heap.size,0,none⟩)])∧w'=w.alloc (.cells #[.int .u64 (n:Int)] 89):=by
 go_enter Tryz.func115,Tryz.ntmps115
 go_wp2
 go_ret
 exact ⟨rfl,rfl⟩
end Pk
namespace Pk
open Go Go.RowKit
def ZW (B p:Nat) (l:List Nat) (lost:Bool) (W:World):Prop:=∃ v,W.heap[p]?=some (.cells #[v,.bool lost] 81 (0,0))∧Own W B v l
theorem ZW.lt {B p:Nat} {l:List Nat} {lost:Bool} {W:World} (h:ZW B p l lost W):p < W.heap.size:=by
 obtain ⟨v,h,_⟩:=h
 exact (aC.1 h).1
theorem ZW.below {B p:Nat} {l:List Nat} {lost:Bool} {W X:World} (h:ZW B p l lost W) (hb:Below W.heap.size W X):ZW B p l lost X:=by
 obtain ⟨v,h,o⟩:=h
 exact ⟨v,dV hb h,o.below hb⟩
theorem Own.apart {W:World} {B p:Nat} {v:Value} {l:List Nat} {cs:Array Value} {t:TypeId} {fr:Nat×Nat} (s:Own W B v l) (h:W.heap[p]?=some (.cells cs t fr)) (ht:t≠5):∀ k,v.ownBlock=some k→k≠p:=by
 intro k hk e
 subst e
 obtain ⟨h1,h2⟩:=s
 rcases h2 with ⟨rfl,_⟩ | ⟨g,cap,cur,rfl,hb,hg,_⟩
 ·cases hk
 ·cases hk
  rw [h] at hg
  injection hg with hg
  injection hg with _ hg
  exact ht hg
theorem Own.grown {W X:World} {B:Nat} {v:Value} {l:List Nat} {row:Option Nat} (s:Own W B v l) (hg:W.grownBy X row) (hr:∀ k,v.ownBlock=some k→some k≠row):Own X B v l:=by
 obtain ⟨h1,h2⟩:=s
 refine ⟨h1,?_⟩
 rcases h2 with h2 | ⟨g,cap,cur,rfl,hb,hgg,h3⟩
 ·exact Or.inl h2
 ·exact Or.inr ⟨g,cap,cur,rfl,hb,by rw [hg.block g (aC.1 hgg).1 (hr g rfl)];exact hgg,h3⟩
theorem below_grown {w w':World} (h:Below w.heap.size w w') (row:Option Nat):w.grownBy w' row:=⟨h.os,h.tape,h.output,h.size,fun k hk _=>h.block k hk⟩
theorem fO (W:World) (b j:Nat) (v:Value):W.grownBy (W.setCell ⟨b,j,none⟩ v) (some b) :=
 ⟨rfl,rfl,rfl,by simp,fun k hk hne=>aH _ _ _ _ (by intro e;exact hne (by rw [e]))⟩
theorem Bs.set {W:World} {o:Option Addr} {m:List Nat} (hb:Bs W o m) {p j:Nat} (v:Value) (h:∀ b off,o=some ⟨b,off,none⟩→0 < m.length→b≠p):Bs (W.setCell ⟨p,j,none⟩ v) o m:=fun i hi=>by
 obtain ⟨b,off,e,hc⟩:=hb i hi
 refine ⟨b,off,e,?_⟩
 have hne:=h b off e (by omega)
 rw [dG (show (W.setCell ⟨p,j,none⟩ v).heap[b]?=W.heap[b]? from aH _ _ _ _ hne)]
 exact hc
theorem Bs.grown {W X:World} {o:Option Addr} {m:List Nat} {row:Option Nat} (hb:Bs W o m) (hg:W.grownBy X row) (h:∀ b off,o=some ⟨b,off,none⟩→0 < m.length→some b≠row):Bs X o m:=fun i hi=>by
 obtain ⟨b,off,e,hc⟩:=hb i hi
 exact ⟨b,off,e,hg.cell hc (h b off e (by omega))⟩
theorem Bs.lt {W:World} {b off:Nat} {m:List Nat} (hb:Bs W (some ⟨b,off,none⟩) m) (hm:0 < m.length):b < W.heap.size:=by
 obtain ⟨b',off',e,hc⟩:=hb 0 hm
 cases e
 rcases Nat.lt_or_ge b W.heap.size with h | h
 ·exact h
 ·rw [World.cell?,Array.getElem?_eq_none h] at hc
  cases hc
end Pk
end Go.Proofs.YtbbhmhihpdmoiaaGreat
