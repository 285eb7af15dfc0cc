import Derived.Test.YtbbhmhihpdmoiaaGreatJr08
import Derived.Test.YtbbhmhihpdmoiaaGreatJr27
set_option linter.unusedVariables false
set_option linter.unusedSimpArgs false
set_option maxRecDepth 100000
set_option maxHeartbeats 32000000
namespace Go.Proofs.YtbbhmhihpdmoiaaGreat
namespace Fx
open Go Go.RowKit Go.Shelf
attribute [local go_sem] Oper.semAt_some
def Rows (t:TypeId) (W X:World):Prop:=∀ (g:Nat) (cur:Array Value),W.heap[g]?=some (.cells cur t (0,0))→X.heap[g]?=some (.cells cur t (0,0))
theorem Rows.refl (t:TypeId) (W:World):Rows t W W:=fun _ _ h=>h
theorem Rows.trans {t:TypeId} {W X Y:World} (h:Rows t W X) (k:Rows t X Y):Rows t W Y:=fun g cur hg=>k g cur (h g cur hg)
theorem Rows.of_below {t:TypeId} {W X:World} (h:Below W.heap.size W X):Rows t W X:=fun g cur hg=>dV h hg
theorem Rows.QC {t:TypeId} {B:Nat} {W X:World} (h:Kept B W X):Rows t W X:=fun g cur hg=>h.cells hg
theorem Rows.nK {t u:TypeId} {m j:Nat} {c:Array Value} {v:Value} {W:World} (hm:W.heap[m]?=some (.cells c u (0,0))) (hne:t≠u):Rows t W (W.setCell ⟨m,j,none⟩ v):=fun g cur hg=>by
 rw [aH _ _ _ _ (by
  show g≠m
  intro e
  subst e
  rw [hg] at hm
  cases hm
  exact hne rfl)]
 exact hg
theorem Rows.jP {t u:TypeId} {row:Option Nat} {W X:World} (h:W.grownBy X row) (hr:∀ k,row=some k→∃ c,W.heap[k]?=some (.cells c u (0,0))) (hne:t≠u):Rows t W X:=fun g cur hg=>by
 rw [h.block g (aC.1 hg).1 (fun e=>by
  obtain ⟨c,hc⟩:=hr g e.symm
  rw [hg] at hc
  cases hc
  exact hne rfl)]
 exact hg
theorem kT.rows {α:Type} {t:TypeId} {n:Nat} {f:α→List Value} {W X:World} {B:Nat} {o:Option Addr} {l:List α} (s:kT t n f W B o l) (h:Rows t W X):kT t n f X B o l :=
 ⟨fun k z hk=>by
  obtain ⟨g,cur,e,hb,hg,hs,hr⟩:=s.at_ k z hk
  refine ⟨g,cur,e,hb,h g cur hg,hs,fun j u hj=>?_⟩
  have:=hr j u hj
  rw [aF _ _ _ _ _ _ hg] at this
  rw [aF _ _ _ _ _ _ (h g cur hg)]
  exact this⟩
theorem kT.base {α:Type} {t:TypeId} {n:Nat} {f:α→List Value} {W:World} {B C:Nat} {o:Option Addr} {l:List α} (hc:C≤B) (s:kT t n f W B o l):kT t n f W C o l :=
 ⟨fun k z hk=>by
  obtain ⟨g,cur,e,hb,h⟩:=s.at_ k z hk
  exact ⟨g,cur,e,bH hc hb,h⟩⟩
structure iM (B:Nat) (x:fE) (W:World):Prop where
 wf:kD x
 v:kT 85 3 (fun z=>z.map encI) W B x.vo x.vs
 t:kT 87 4 fV W B x.tq x.ts
 vw:∀ z∈x.vs,jX z
 tw:∀ z∈x.ts,mX z
theorem iM.rows {B:Nat} {x:fE} {W X:World} (s:iM B x W) (h3:Rows 85 W X) (h4:Rows 87 W X):iM B x X:=⟨s.wf,s.v.rows h3,s.t.rows h4,s.vw,s.tw⟩
theorem iM.base {B C:Nat} {x:fE} {W:World} (hc:C≤B) (s:iM B x W):iM C x W:=⟨s.wf,s.v.base hc,s.t.base hc,s.vw,s.tw⟩
structure iC (B:Nat) (c:fH) (W:World):Prop where
 wf:jE c
 objs:kT 73 19 eF W B c.oo c.os
 each:∀ x∈c.os,iM B x W
theorem iC.at {B:Nat} {c:fH} {W:World} (s:iC B c W):fM W c.oo c.os:=fun k z hk=>by
 obtain ⟨g,cur,e,_,_,_,h⟩:=s.objs.at_ k z hk
 have hz:=s.each z (bJ hk)
 exact ⟨g,0,e,h,hz.v.wT hz.vw,hz.t.IG hz.tw,hz.wf⟩
def YQ (s:fH) (v:Value):List Value:=.int .i64 s.w :: .int .i64 s.h :: (s.jK.map encI ++ [v])
theorem xK {s:fH} (h:jE s) (v:Value):(YQ s v).toArray.size=19:=by simp [YQ,h.len]
theorem pR (s:fH) (v:Value) (hv:v.oneCell'=true):(YQ s v).toArray.all (·.oneCell')=true:=by
 rw [Array.all_eq_true_iff_forall_mem]
 intro u hu
 simp only [YQ,List.mem_toArray,List.mem_cons,bU,List.mem_map,List.not_mem_nil,or_false] at hu
 rcases hu with rfl | rfl | ⟨z,_,rfl⟩ | rfl
 ·rfl
 ·rfl
 ·rfl
 ·exact hv
theorem PG {s:fH} (h:jE s) (v u:Value):(YQ s v).toArray.setIfInBounds 18 u=(YQ s u).toArray:=by
 simp [YQ,List.set_append,h.len]
structure XR (s:fH) (v:Value) (l:List fE) (w W:World):Prop where
 box:gF w.heap.size s W
 res:W.heap[w.heap.size + 1]?=some (.cells #[.int .i64 0,.int .i64 0,.int .i64 0,.int .i64 0,.int .i64 0,.int .i64 0,.int .i64 0,.int .i64 0,.int .i64 0,.int .i64 0,.int .i64 0,.int .i64 0,.int .i64 0,.int .i64 0,.int .i64 0,.int .i64 0,.int .i64 0,.int .i64 0,.slice none 0 0] 28 (0,0))
 twin:W.heap[w.heap.size + 1 + 1]?=some (.cells (YQ s v).toArray 28 (0,0))
 it:gF (w.heap.size + 1 + 1 + 1) s W
 own:iD 73 19 eF W (w.heap.size + 1 + 1 + 1 + 1) v l
 each:∀ x∈l,iM (w.heap.size + 1 + 1 + 1 + 1) x W
 below:Below w.heap.size w W
theorem XR.kept {s:fH} {v:Value} {l:List fE} {B:Nat} {w W X:World} (hB:w.heap.size≤B) (h:Kept B W X) (i:XR s v l w W):XR s v l w X :=
 ⟨i.box.kept h,h.cells i.res,h.cells i.twin,i.it.kept h,i.own.kept h,fun x hx=>(i.each x hx).rows (Rows.QC h) (Rows.QC h),h.below hB i.below⟩
theorem XR.up {s:fH} {v:Value} {l:List fE} {w W X:World} (h:Below W.heap.size W X) (i:XR s v l w W):XR s v l w X :=
 ⟨i.box.below h,dV h i.res,dV h i.twin,i.it.below h,i.own.below h,fun x hx=>(i.each x hx).rows (Rows.of_below h) (Rows.of_below h),dY i.below h⟩
theorem XR.put {s:fH} {v u:Value} {l:List fE} {w W:World} {b j:Nat} {c:Array Value} (i:XR s v l w W) (hb:w.heap.size + 1 + 1 + 1 < b) (ho:v.ownBlock≠some b) (hr:W.heap[b]?=some (.cells c 73 (0,0))):XR s v l w (W.setCell ⟨b,j,none⟩ u):=by
 have keep:∀ {g:Nat} {o:Obj},g < b→W.heap[g]?=some o→(W.setCell ⟨b,j,none⟩ u).heap[g]?=some o:=fun hlt h=>by
  rw [aH _ _ _ _ (by show _≠b;omega)]
  exact h
 exact ⟨keep (by omega) i.box,keep (by omega) i.res,keep (by omega) i.twin,keep (by omega) i.it,i.own.kH ho,
  fun x hx=>(i.each x hx).rows (Rows.nK hr (by decide)) (Rows.nK hr (by decide)),i.below.setCell (p:=⟨b,j,none⟩) (by show _≤b;omega) _⟩
theorem XR.step {s:fH} {v v':Value} {l l':List fE} {w W X:World} (hs:jE s) (i:XR s v l w W) (ho:iD 73 19 eF X (w.heap.size + 1 + 1 + 1 + 1) v' l') (hg:W.grownBy X v.ownBlock) (he:∀ x∈l',iM (w.heap.size + 1 + 1 + 1 + 1) x W) :
  XR s v' l' w (X.setCell ⟨w.heap.size + 1 + 1,18,none⟩ v'):=by
 have hb:=i.own.blk
 have keep:∀ {g:Nat} {o:Obj},g < w.heap.size + 1 + 1 + 1 + 1→W.heap[g]?=some o→X.heap[g]?=some o:=fun hlt h=>by
  rw [hg.block _ (aC.1 h).1 (fun e=>by have:=hb _ e.symm;omega)]
  exact h
 have k2:∀ {g:Nat} {o:Obj},g≠w.heap.size + 1 + 1→g < w.heap.size + 1 + 1 + 1 + 1→W.heap[g]?=some o→(X.setCell ⟨w.heap.size + 1 + 1,18,none⟩ v').heap[g]?=some o:=fun hne hlt h=>by
  rw [aH _ _ _ _ hne]
  exact keep hlt h
 have ht:=keep (by omega) i.twin
 refine ⟨k2 (by omega) (by omega) i.box,k2 (by omega) (by omega) i.res,?_,k2 (by omega) (by omega) i.it,ho.kH (fun e=>by have:=ho.blk _ e;omega),fun x hx=>?_,?_⟩
 ·rw [aK _ _ 18 _ _ v' ht,PG hs]
 ·have h1:∀ {t:TypeId},t≠73→t≠28→Rows t W (X.setCell ⟨w.heap.size + 1 + 1,18,none⟩ v'):=fun n1 n2=>(Rows.jP hg (fun k hk=>i.own.row k hk) n1).trans (Rows.nK ht n2)
  exact (he x hx).rows (h1 (by decide) (by decide)) (h1 (by decide) (by decide))
 ·exact (gW (aB _) i.below hg (fun k hk=>by have:=hb k hk;omega)).setCell (p:=⟨w.heap.size + 1 + 1,18,none⟩) (by show _≤w.heap.size + 1 + 1;omega) _
theorem ZE (s:fH) (h:jE s) (v:Value):(Tryz.prog.info? 28).map (·.size)=some (YQ s v).toArray.size:=by rw [xK h];kernel_rfl
end Fx
namespace Fx
open Go Go.RowKit Go.Shelf
open Pk (PW KW Turn form fold By)
attribute [local go_sem] Oper.semAt_some
structure vO (p:Nat) (W X:World):Prop where
 os:X.os=W.os
 tape:X.tape=W.tape
 output:X.output=W.output
 size:W.heap.size≤X.heap.size
 low:∀ k,k < p→X.heap[k]?=W.heap[k]?
 block:∀ (k:Nat) (o:Obj),W.heap[k]?=some o→k≠p→(∀ c f,o≠.cells c 5 f)→X.heap[k]?=some o
theorem vO.refl (p:Nat) (W:World):vO p W W:=⟨rfl,rfl,rfl,aB _,fun _ _=>rfl,fun _ _ h _ _=>h⟩
theorem vO.trans {p:Nat} {W X Y:World} (h:vO p W X) (k:vO p X Y):vO p W Y :=
 ⟨k.os.trans h.os,k.tape.trans h.tape,k.output.trans h.output,bH h.size k.size,fun i hi=>(k.low i hi).trans (h.low i hi),fun i o hi h1 h2=>k.block i o (h.block i o hi h1 h2) h1 h2⟩
theorem vO.of_below {p:Nat} {W X:World} (h:Below W.heap.size W X) (hp:p≤W.heap.size):vO p W X :=
 ⟨h.os,h.tape,h.output,h.size,fun k hk=>h.block k (by omega),fun k o hk _ _=>by rw [h.block k (aC.1 hk).1];exact hk⟩
theorem vO.below {p:Nat} {W X:World} (h:vO p W X):Below p W X:=⟨h.os,h.tape,h.output,h.size,h.low⟩
theorem vO.rows {p:Nat} {W X:World} (h:vO p W X) {t:TypeId} (ht:t≠5) {pw:Array Value} {u:TypeId} (hp:W.heap[p]?=some (.cells pw u (0,0))) (hu:t≠u):Rows t W X:=fun g cur hg=>h.block g _ hg (fun e=>by
 subst e
 rw [hp] at hg
 cases hg
 exact hu rfl) (fun c f e=>by cases e;exact ht rfl)
theorem vO.keeps {p:Nat} {W X:World} (h:vO p W X) {pw:Array Value} {u:TypeId} (hp:W.heap[p]?=some (.cells pw u (0,0))):KeepsOthers W X :=
 ⟨h.size,fun k o hk ho=>h.block k o hk (fun e=>by
  subst e
  rw [hp] at hk
  cases hk
  cases ho) (fun c f e=>by subst e;cases ho)⟩
theorem vO.kept {p B:Nat} {w W X:World} (hB:w.heap.size≤B) (hp:p≤w.heap.size) (h:vO p w W) (k:Kept B W X):vO p w X:=by
 refine ⟨k.os.trans h.os,k.tape.trans h.tape,k.output.trans h.output,bH h.size k.size,fun i hi=>?_,fun i o hi h1 h2=>k.block i o (h.block i o hi h1 h2) (.inl (by have:=(aC.1 hi).1;omega))⟩
 have hlt:i < w.heap.size:=by omega
 have h1:=h.low i hi
 rw [Array.getElem?_eq_getElem hlt] at h1 ⊢
 exact k.block i _ h1 (.inl (by omega))
def CQ (p:Nat) (l:List Nat) (W:World):Prop:=∃ v,PW (p + 1) p v l false W
theorem CQ.row {p:Nat} {l:List Nat} {W:World} (h:CQ p l W):∃ cs,W.heap[p]?=some (.cells cs 120 (0,0)):=by
 obtain ⟨v,h⟩:=h
 exact ⟨_,h.row⟩
theorem CQ.lt {p:Nat} {l:List Nat} {W:World} (h:CQ p l W):p < W.heap.size:=by
 obtain ⟨v,h⟩:=h
 exact h.lt
theorem CQ.below {p:Nat} {l:List Nat} {W X:World} (h:CQ p l W) (hb:Below W.heap.size W X):CQ p l X:=by
 obtain ⟨v,h⟩:=h
 exact ⟨v,h.below hb⟩
theorem CQ.kept {p B:Nat} {l:List Nat} {W X:World} (h:CQ p l W) (k:Kept B W X):CQ p l X:=by
 obtain ⟨v,h⟩:=h
 exact ⟨v,⟨k.cells h.row,h.own.kept k⟩⟩
theorem CQ.set {p m j:Nat} {l:List Nat} {W:World} {c:Array Value} {t:TypeId} {u:Value} (h:CQ p l W) (hm:W.heap[m]?=some (.cells c t (0,0))) (h1:t≠120) (h2:t≠5):CQ p l (W.setCell ⟨m,j,none⟩ u):=by
 obtain ⟨v,h⟩:=h
 have hn:p≠m:=fun e=>by
  subst e
  have:=h.row
  rw [hm] at this
  cases this
  exact h1 rfl
 refine ⟨v,⟨by rw [aH _ _ _ _ hn];exact h.row,?_⟩⟩
 obtain ⟨o1,o2⟩:=h.own
 refine ⟨o1,?_⟩
 rcases o2 with o2 | ⟨g,cap,cur,e,hb,hg,h3⟩
 ·exact Or.inl o2
 ·refine Or.inr ⟨g,cap,cur,e,hb,?_,h3⟩
  rw [aH _ _ _ _ (by
   show g≠m
   intro e
   subst e
   rw [hm] at hg
   cases hg
   exact h2 rfl)]
  exact hg
theorem QA {W:World} {B:Nat} {v:Value} {l:List Nat} (s:Pk.Own W B v l):∀ k,v.ownBlock=some k→B≤k∧∃ cur,W.heap[k]?=some (.cells cur 5 (0,0)):=by
 intro k hk
 obtain ⟨h1,h2⟩:=s
 rcases h2 with ⟨rfl,_⟩ | ⟨g,cap,cur,rfl,hb,hg,_⟩
 ·cases hk
 ·cases hk
  exact ⟨hb,cur,hg⟩
theorem vO.Jd {p:Nat} {v v':Value} {l:List Nat} {W X:World} (h:PW (p + 1) p v l false W) (t:Turn p v v' W X):vO p W X:=by
 have hp:=h.lt
 refine ⟨t.os,t.tape,t.output,t.size,fun k hk=>t.block k (by omega) (by omega) (fun e=>by have:=(QA h.own k e).1;omega),fun k o hk h1 h2=>?_⟩
 rw [t.block k (aC.1 hk).1 h1 (fun e=>by
  obtain ⟨_,cur,hc⟩:=QA h.own k e
  rw [hk] at hc
  cases hc
  exact h2 _ _ rfl)]
 exact hk
def Eg (p:Nat) (l:List Nat) (w:World) (e:Ending) (w':World):Prop:=e=.returned undef∧CQ p l w'∧vO p w w'
theorem Eg.of {p:Nat} {v:Value} {l l':List Nat} {w w':World} {e:Ending} (h:PW (p + 1) p v l false w) (hc:KW (p + 1) p v l' false w e w'):Eg p l' w e w':=by
 obtain ⟨he,v',h1,h2⟩:=hc
 exact ⟨he,⟨v',h1⟩,vO.Jd h h2⟩
theorem Qq (a:Addr) (w:World):Calls Tryz.prog 102 #[.pointer (some a)] w fun e w' =>
  e=.returned (.func (.func 131) #[] #[.pointer (some ⟨w.heap.size,0,none⟩)])∧w'=w.alloc (.cells #[.pointer (some a)] 158):=by
 go_enter Tryz.func102,Tryz.ntmps102
 go_wp2
 go_ret
 exact ⟨rfl,rfl⟩
def Aw (M k:Nat):Array Value:=#[.pointer (some ⟨M,k,none⟩)]
def NuM (A M:Nat) (X:World):Prop:=X.cell? ⟨A,0,none⟩=some (.pointer (some ⟨M,0,none⟩))
theorem NG (A M:Nat) :
  Hands Fence.wide 4 Tryz.prog 131 #[.pointer (some ⟨A,0,none⟩)] (Aw M) 16 (NuM A M):=by
 intro l J Jx W QU hJ2 GU vK hY h0
 have HY:=aA hY;clear hY
 have TL:=aA QU;clear QU
 have HJ2:=aA hJ2;clear hJ2
 have Gy:=aA GU;clear GU
 have Fp:=aA vK;clear vK
 refine callsIn_of_wp Tryz.func131 rfl trivial ?_ rfl
 simp only [Tryz.ntmps131,aL,bK,List.length_nil,Nat.reduceAdd,Nat.reduceSub,Array.replicate_succ,Array.replicate_zero,List.push_toArray,List.append_toArray,bX,bT]
 gi_wp2
 gi_loopw [5] (fun v9 wr=>∃ r:Nat,v9=.int .i64 (r:Int)∧r≤4∧J (r * 4) wr) (fun v9 _=>4 - (intOf v9).toNat)
 case atStart=>exact ⟨0,rfl,by omega,h0⟩
 case round =>
  obtain ⟨r,rfl,hrn,hJ⟩:=hrel
  by_cases hr:r < 4
  ·have r0:(0:Int)≤(r:Int):=by omega
   have r1:(r:Int) < 4:=by omega
   gi_wp2
   gi_loopw [8] (fun v15 wx=>∃ c:Nat,v15=.int .i64 (c:Int)∧c≤4∧J (r * 4 + c) wx) (fun v15 _=>4 - (intOf v15).toNat)
   case atStart=>exact ⟨0,rfl,by omega,hJ⟩
   case round =>
    obtain ⟨c,rfl,hc4,Ve⟩:=hrel
    by_cases hc:c < 4
    ·have cA:=Gy.out _ wr Ve
     unfold NuM at cA
     obtain ⟨fn,tmps,assign,body,hy,hR⟩:=HY.out (r * 4 + c) _ (by omega) Ve
     simp only [Aw] at hy
     have c0:(0:Int)≤(c:Int):=by omega
     have c1:(c:Int) < 4:=by omega
     gi_wp2
     refine hR.mono ?_
     rintro e W3 (⟨rfl,hJ3⟩ | ⟨rfl,hJx3⟩)
     ·gi_wp2
      go_roundw
      case rel=>exact ⟨c + 1,by go_num,by omega,hJ3⟩
      case measure=>simp [intOf];omega
     ·gi_wp2
      refine aO (results_none rfl _ _ _) rfl ?_
      exact ⟨⟨_,rfl⟩,.inr hJx3⟩
    ·have hce:c=4:=by omega
     subst hce
     have Zq:J ((r + 1) * 4) wr:=by rw [show (r + 1) * 4=r * 4 + 4 from by omega];exact Ve
     have XO:=aA Zq
     clear Zq
     gi_wp2
     go_roundw
     case rel=>exact ⟨r + 1,by go_num,by omega,XO.out⟩
     case measure=>simp [intOf];omega
  ·have hrm:r=4:=by omega
   subst hrm
   have HJN:Hid (J 16 wr):=aA hJ
   gi_wp2
   go_end0
   exact ⟨⟨_,rfl⟩,.inl HJN.out⟩
end Fx
namespace Fx
open Go Go.RowKit
open Pk (PR iA Bs)
def fQ {κ:Type} (lost:Bool) (P:nV κ) (l:List Nat) (a:Nat):Option (κ×Nat):=if lost=true then none else P l a
def OW {α:Type} (t tS:TypeId) (El:α→World→Prop):Prop:=∀ z W X,El z W→(∀ u,u≠t→u≠144→u≠tS→Rows u W X)→El z X
structure BS {α:Type} (t tS:TypeId) (n:Nat) (f:α→List Value) (El:α→World→Prop) (o:Option Addr) (c:Nat) (l:List Nat) (p a:Nat) (lost:Bool) (v:Value) (zs:List α) (w W:World):Prop where
 box:W.heap[w.heap.size]?=some (.cells #[.pointer (some ⟨p,0,none⟩)] 90 (0,0))
 res:W.heap[w.heap.size + 1]?=some (.cells #[v] tS (0,0))
 rd:PR o c l p a lost W
 own:iD t n f W (w.heap.size + 2) v zs
 el:∀ z∈zs,El z W
 grow:w.grownBy W (some p)
section
variable {α:Type} {t tS:TypeId} {n:Nat} {f:α→List Value} {El:α→World→Prop} {o:Option Addr} {c:Nat} {l:List Nat} {p a:Nat} {lost:Bool} {v:Value} {zs:List α} {w W:World}
theorem BS.facts (s:BS t tS n f El o c l p a lost v zs w W) :
  W.cell? ⟨w.heap.size,0,none⟩=some (.pointer (some ⟨p,0,none⟩))∧W.cell? ⟨w.heap.size + 1,0,none⟩=some v∧W.frozen? ⟨w.heap.size + 1,0,none⟩=false :=
 ⟨(aF _ _ 0 _ _ _ s.box).trans rfl,(aF _ _ 0 _ _ _ s.res).trans rfl,dU s.res⟩
theorem BS.lt (s:BS t tS n f El o c l p a lost v zs w W):w.heap.size + 2≤W.heap.size:=by
 have:=(aC.1 s.res).1
 omega
theorem BS.read {a2:Nat} {gP:Bool} {X:World} (hel:OW t tS El) (ht:t≠144) (s:BS t tS n f El o c l p a lost v zs w W) (hp:p < w.heap.size) (hr:PR o c l p a2 gP X) (hg:W.grownBy X (some p)):BS t tS n f El o c l p a2 gP v zs w X:=by
 refine ⟨?_,?_,hr,s.own.grown hg (fun k hk e=>?_),fun z hz=>hel z W X (s.el z hz) (fun u _ hu _=>Rows.jP hg (fun k hk=>by cases hk;exact ⟨_,s.rd.row⟩) hu),s.grow.trans hg⟩
 ·rw [hg.block _ (aC.1 s.box).1 (fun e=>by have:=bF e;omega)]
  exact s.box
 ·rw [hg.block _ (aC.1 s.res).1 (fun e=>by have:=bF e;omega)]
  exact s.res
 ·cases hk
  obtain ⟨cur,hc⟩:=s.own.row p e
  rw [s.rd.row] at hc
  cases hc
  exact ht rfl
theorem BS.up {X:World} (hel:OW t tS El) (s:BS t tS n f El o c l p a lost v zs w W) (hb:Below W.heap.size W X):BS t tS n f El o c l p a lost v zs w X :=
 ⟨dV hb s.box,dV hb s.res,s.rd.below hb,s.own.below hb,fun z hz=>hel z W X (s.el z hz) (fun u _ _ _=>Rows.of_below hb),s.grow.trans (Pk.below_grown hb (some p))⟩
theorem KG (W:World) (b j:Nat) (v:Value):W.grownBy (W.setCell ⟨b,j,none⟩ v) (some b) :=
 ⟨rfl,rfl,rfl,by simp,fun k _ hk=>aH _ _ _ _ (by intro e;exact hk (by rw [show k=b from e]))⟩
theorem BS.app {v':Value} {zs':List α} {X:World} (hel:OW t tS El) (hts:t≠tS) (s:BS t tS n f El o c l p a lost v zs w W) (hp:p < w.heap.size) (iQ:∀ b off,o=some ⟨b,off,none⟩→0 < l.length→b < w.heap.size) (ho:iD t n f X (w.heap.size + 2) v' zs') (hg:W.grownBy X v.ownBlock) (he:∀ z∈zs',El z W) :
  X.heap[w.heap.size + 1]?=some (.cells #[v] tS (0,0))∧BS t tS n f El o c l p a lost v' zs' w (X.setCell ⟨w.heap.size + 1,0,none⟩ v'):=by
 have hv:=s.own.blk
 have hres:X.heap[w.heap.size + 1]?=some (.cells #[v] tS (0,0)):=by
  rw [hg.block _ (aC.1 s.res).1 (fun e=>by have:=hv _ e.symm;omega)]
  exact s.res
 have zN:X.heap[w.heap.size]?=some (.cells #[.pointer (some ⟨p,0,none⟩)] 90 (0,0)):=by
  rw [hg.block _ (aC.1 s.box).1 (fun e=>by have:=hv _ e.symm;omega)]
  exact s.box
 have hrd:PR o c l p a lost X:=s.rd.grown hg (fun e=>by have:=hv _ e.symm;omega) (fun b off e hm h=>by have:=hv b h.symm;have:=iQ b off e hm;omega)
 have hgx:w.grownBy X (some p):=⟨hg.os.trans s.grow.os,hg.tape.trans s.grow.tape,hg.output.trans s.grow.output,bH s.grow.size hg.size,fun q hq Bv=>by
  rw [hg.block q (aM hq s.grow.size) (fun e=>by have:=hv q e.symm;omega)]
  exact s.grow.block q hq Bv⟩
 have hc:=KG X (w.heap.size + 1) 0 v'
 refine ⟨hres,by rw [aH _ _ _ _ (by show _≠w.heap.size + 1;omega)];exact zN,aK _ _ 0 _ _ v' hres,hrd.grown hc (fun e=>by have:=bF e;omega) (fun b off e hm h=>by have:=bF h;have:=iQ b off e hm;omega),
  ho.kH (fun e=>by have:=ho.blk _ e;omega),fun z hz=>hel z W _ (he z hz) (fun u h1 _ h3=>(Rows.jP hg (fun k hk=>s.own.row k hk) h1).trans (Rows.nK hres h3)),?_⟩
 exact ⟨hc.os.trans hgx.os,hc.tape.trans hgx.tape,hc.output.trans hgx.output,bH hgx.size hc.size,fun q hq Bv=>by
  rw [hc.block q (aM hq hgx.size) (fun e=>by have:=bF e;omega)]
  exact hgx.block q hq Bv⟩
theorem BS.strike (hel:OW t tS El) (hts:t≠tS) (s:BS t tS n f El o c l p a lost v zs w W) (hp:p < w.heap.size) (iQ:∀ b off,o=some ⟨b,off,none⟩→0 < l.length→b < w.heap.size):BS t tS n f El o c l p a lost (.slice none 0 0) [] w (W.setCell ⟨w.heap.size + 1,0,none⟩ (.slice none 0 0)) :=
 (s.app (v':=.slice none 0 0) (zs':=[]) hel hts hp iQ (iD.nil _ _ _ _ _) (cB _ _) (fun z hz=>by simp at hz)).2
end
def lF {α κ:Type} (P:nV κ) (key:α→κ) (El:α→World→Prop) (val:α→Value) (o:Option Addr) (c:Nat) (l:List Nat) (p a:Nat) (lost:Bool) (w:World) (e:Ending) (w':World):Prop :=
 w.grownBy w' (some p)∧∃ x,e=.returned (val x)∧El x w'∧match fQ lost P l a with
  | some (k,b)=>key x=k∧b≤l.length∧PR o c l p b false w'
  | none=>∃ b,b≤l.length∧PR o c l p b true w'
structure TF {α κ:Type} (key:α→κ) (t:TypeId) (n:Nat) (f:α→List Value) (El:α→World→Prop) (o:Option Addr) (c:Nat) (l:List Nat) (p:Nat) (r:Option (List κ×Nat)) (w:World) (e:Ending) (w':World):Prop where
 grow:w.grownBy w' (some p)
 no:r=none→e=.returned (.slice none 0 0)∧∃ a,a≤l.length∧PR o c l p a true w'
 yes:∀ ks a,r=some (ks,a)→(∃ v zs,e=.returned v∧iD t n f w' w.heap.size v zs∧(∀ z∈zs,El z w')∧zs.map key=ks)∧a≤l.length∧PR o c l p a false w'
theorem JJ {most:Nat} {l:List Nat} {a:Nat} {z:Int} {b:Nat} (ha:a≤l.length) (h:pU most l a=some (z,b)):0≤z∧z≤most∧b≤l.length:=by
 unfold pU at h
 rw [Option.map_eq_some_iff] at h
 obtain ⟨⟨n,j⟩,hr,e⟩:=h
 simp only [Prod.mk.injEq] at e
 obtain ⟨rfl,rfl⟩:=e
 have:=Pk.tJ hr
 have hdl:(l.drop a).length=l.length - a:=by simp
 omega
theorem nD {lost:Bool} {most:Nat} {l:List Nat} {a:Nat}:(Pk.rz lost (most:Int) (l.drop a)).map (fun q=>((q.1:Int),a + q.2))=fQ lost (pU most) l a:=by
 unfold Pk.rz fQ pU
 cases lost
 ·have h:¬ ((false=true)∨(most:Int) < 0):=by simp
  rw [aX h]
  simp
 ·simp
end Fx
namespace Fx
open Go Go.RowKit
open Pk (PR iA Bs qU XJ XI rq)
theorem JA (o:Option Addr) (c:Nat) (l:List Nat) (p a:Nat) (lost:Bool) (w:World) (k:iA l a) (h:PR o c l p a lost w) :
  Calls Tryz.prog 80 #[.pointer (some ⟨p,0,none⟩)] w (lF pI (fun z:Int=>z) (fun z _=>Num z) (fun z=>.int .i64 z) o c l p a lost w):=by
 refine (Pk.UV o c l p a lost w k h).mono ?_
 rintro e w' ⟨rfl,hr,hg⟩
 have hlt:qU (rq lost 18446744073709551615 (l.drop a)) < 18446744073709551616:=by have:=Pk.IU (lost:=lost) (most:=18446744073709551615) (s:=l.drop a);omega
 refine ⟨hg,_,rfl,PE hlt,?_⟩
 have e1:fQ lost pI l a=(rq lost 18446744073709551615 (l.drop a)).map (fun q=>(Pk.BP q.1,a + q.2)):=by
  unfold fQ pI rq
  cases lost <;> rfl
 rw [e1]
 cases hq:rq lost 18446744073709551615 (l.drop a) with
 | none =>
  rw [hq] at hr
  exact ⟨a,k.at',hr⟩
 | some q =>
  rw [hq] at hr
  refine ⟨rfl,?_,hr⟩
  unfold rq at hq
  split at hq
  ·cases hq
  ·have:=Pk.tJ hq
   have hdl:(l.drop a).length=l.length - a:=by simp
   omega
theorem nH (most:Nat) (hm:most < 9223372036854775808) (o:Option Addr) (c:Nat) (l:List Nat) (p a:Nat) (lost:Bool) (w:World) (k:iA l a) (h:PR o c l p a lost w) :
  Calls Tryz.prog 50 #[.pointer (some ⟨p,0,none⟩),.int .i64 (most:Int)] w (lF (pU most) (fun z:Int=>z) (fun z _=>0≤z∧z≤most) (fun z=>.int .i64 z) o c l p a lost w):=by
 refine (Pk.oC o c l p a most lost w k (by omega) h).mono ?_
 rintro e w' ⟨rfl,hr,hg⟩
 have hle:=Pk.ZM (lost:=lost) (most:=(most:Int)) (s:=l.drop a)
 refine ⟨hg,_,rfl,⟨by omega,by omega⟩,?_⟩
 rw [←nD]
 cases hq:Pk.rz lost (most:Int) (l.drop a) with
 | none =>
  rw [hq] at hr
  exact ⟨a,k.at',hr⟩
 | some q =>
  rw [hq] at hr
  refine ⟨rfl,?_,hr⟩
  have:=nD (lost:=lost) (most:=most) (l:=l) (a:=a)
  rw [hq] at this
  simp only [Option.map_some] at this
  unfold fQ at this
  split at this
  ·cases this
  ·exact (JJ k.at' this.symm).2.2
end Fx
namespace Fx
open Go Go.RowKit Go.Shelf
attribute [local go_sem] Oper.semAt_some
structure Ou (p:Nat) (m:List Int) (l:List Nat) (w W:World):Prop where
 box:W.heap[w.heap.size]?=some (.cells #[.pointer (some ⟨p,0,none⟩)] 75 (0,0))
 BQ:W.heap[w.heap.size + 1]?=some (.cells (mC m) 25 (0,0))
 it:W.heap[w.heap.size + 1 + 1]?=some (.cells #[.pointer (some ⟨w.heap.size + 1,0,none⟩)] 158 (0,0))
 wr:CQ p l W
 fr:vO p w W
theorem Ou.kept {p:Nat} {m:List Int} {l:List Nat} {B:Nat} {w W X:World} (hB:w.heap.size≤B) (hp:p≤w.heap.size) (k:Kept B W X) (i:Ou p m l w W):Ou p m l w X :=
 ⟨k.cells i.box,k.cells i.BQ,k.cells i.it,i.wr.kept k,i.fr.kept hB hp k⟩
theorem Ou.step {p:Nat} {m:List Int} {l l':List Nat} {w W X:World} (i:Ou p m l w W) (h:CQ p l' X) (hf:vO p W X):Ou p m l' w X:=by
 obtain ⟨cs,hr⟩:=i.wr.row
 exact ⟨hf.rows (by decide) hr (by decide) _ _ i.box,hf.rows (by decide) hr (by decide) _ _ i.BQ,hf.rows (by decide) hr (by decide) _ _ i.it,h,i.fr.trans hf⟩
theorem QM {m:List Int} {k:Nat} (hk:k < m.length):(mC m)[k]?=some (.int .i64 (m.getD k 0)):=by
 simp [mC,hk,encI]
theorem Ou.num {p:Nat} {m:List Int} {l:List Nat} {w W:World} (i:Ou p m l w W) {k:Nat} (hk:k < m.length):W.cell? ⟨w.heap.size + 1,k,none⟩=some (.int .i64 (m.getD k 0)):=by
 rw [aF _ _ _ _ _ _ i.BQ]
 exact QM hk
end Fx
namespace Fx
open Go Go.RowKit
structure WL (a b:fH) (x y:fE) (m n:Nat) (w W:World):Prop where
 s:CR a b w W
 a:mR x m W
 b:mR y n W
 va:gN W x.vo x.vs
 vb:gN W y.vo y.vs
 ta:iL W x.tq x.ts
 tb:iL W y.tq y.ts
theorem WL.up {a b:fH} {x y:fE} {m n:Nat} {w W X:World} (i:WL a b x y m n w W) (hb:Below W.heap.size W X):WL a b x y m n w X :=
 ⟨i.s.up hb,i.a.up hb,i.b.up hb,i.va.below hb,i.vb.below hb,i.ta.below hb,i.tb.below hb⟩
def ZsRel (a b:fH) (w:World) (n g:Nat) (s5 s6 s7 s8 s9:Value) (W:World):Prop :=
 ∃ k:Nat,g=n - k∧s5=.int .i64 (k:Int)∧k≤n∧CR a b w W∧(a.os.map jC).take k=(b.os.map jC).take k
def Oi {α:Type} (a b:fH) (x y:fE) (m1 m2:Nat) (p q:List α) (w:World) (n g:Nat) (s8:Value) (W:World):Prop :=
 ∃ j:Nat,g=n - j∧s8=.int .i64 (j:Int)∧j≤n∧WL a b x y m1 m2 w W∧p.take j=q.take j
theorem XU (a b:fH) (w:World) (ha:jE a) (hb:jE b) (h:fM w a.oo a.os) (h2:fM w b.oo b.os) (hno:¬ (a.w=b.w∧a.h=b.h∧a.jK=b.jK∧a.os.length=b.os.length)) :
  Calls Tryz.prog 15 #[.agg (fZ a),.agg (fZ b)] w (gH false w):=by
 have HI:=aA (CR.new h h2)
 have hA:=aA (nY ha.len)
 have hBm:=aA (nY hb.len)
 have c0:((w.alloc (.cells (fZ a) 28)).alloc (.cells (fZ b) 28)).cell? ⟨w.heap.size,0,none⟩=some (.int .i64 a.w):=HI.out.sa.c0
 have c1:((w.alloc (.cells (fZ a) 28)).alloc (.cells (fZ b) 28)).cell? ⟨w.heap.size,1,none⟩=some (.int .i64 a.h):=HI.out.sa.c1
 have d0:((w.alloc (.cells (fZ a) 28)).alloc (.cells (fZ b) 28)).cell? ⟨w.heap.size + 1,0,none⟩=some (.int .i64 b.w):=HI.out.sb.c0
 have d1:((w.alloc (.cells (fZ a) 28)).alloc (.cells (fZ b) 28)).cell? ⟨w.heap.size + 1,1,none⟩=some (.int .i64 b.h):=HI.out.sb.c1
 have c18:((w.alloc (.cells (fZ a) 28)).alloc (.cells (fZ b) 28)).cell? ⟨w.heap.size,18,none⟩=some (.slice a.oo a.os.length a.oc):=HI.out.sa.c18 ha
 have VW:((w.alloc (.cells (fZ a) 28)).alloc (.cells (fZ b) 28)).cell? ⟨w.heap.size + 1,18,none⟩=some (.slice b.oo b.os.length b.oc):=HI.out.sb.c18 hb
 by_cases h1:a.w=b.w
 ·by_cases h3:a.h=b.h
  ·by_cases h4:a.jK=b.jK
   ·have hne:∀ W,(binOp .neq 25 (.agg (a.jK.map encI).toArray) (.agg (b.jK.map encI).toArray)).run Tryz.prog W=.ok (.bool false) W:=fun W=>by rw [rG W _ _ ha.len hb.len];simp [h4]
    have hl:¬ (a.os.length:Int)=(b.os.length:Int):=fun e=>hno ⟨h1,h3,h4,by omega⟩
    rw [h1] at c0
    rw [h3] at c1
    clear ha hb h h2 h1 h3 h4 hno
    generalize b.w=bw at c0 d0
    generalize b.h=bh at c1 d1
    generalize a.os.length=n1 at c18 hl
    generalize b.os.length=n2 at VW hl
    go_enter Tryz.func15,Tryz.ntmps15
    go_wp2_with (first | (refine eT rfl 25 (.tmp 23) rfl w.heap.size 2 rfl (a.jK.map encI) _ HI.out.sa.jK aP rfl hA.out ?_) | (refine eT rfl 25 (.tmp 25) rfl (w.heap.size + 1) 2 rfl (b.jK.map encI) _ HI.out.sb.jK aP rfl hBm.out ?_))
    go_ret
    exact ⟨by first | rfl | simp,HI.out.jI⟩
   ·have hne:∀ W,(binOp .neq 25 (.agg (a.jK.map encI).toArray) (.agg (b.jK.map encI).toArray)).run Tryz.prog W=.ok (.bool true) W:=fun W=>by rw [rG W _ _ ha.len hb.len];simp [h4]
    rw [h1] at c0
    rw [h3] at c1
    clear ha hb h h2 h1 h3 h4 hno c18 VW
    generalize b.w=bw at c0 d0
    generalize b.h=bh at c1 d1
    go_enter Tryz.func15,Tryz.ntmps15
    go_wp2_with (first | (refine eT rfl 25 (.tmp 23) rfl w.heap.size 2 rfl (a.jK.map encI) _ HI.out.sa.jK aP rfl hA.out ?_) | (refine eT rfl 25 (.tmp 25) rfl (w.heap.size + 1) 2 rfl (b.jK.map encI) _ HI.out.sb.jK aP rfl hBm.out ?_))
    go_ret
    exact ⟨by first | rfl | simp,HI.out.jI⟩
  ·rw [h1] at c0
   clear ha hb h h2 h1 hno c18 VW
   generalize b.w=bw at c0 d0
   generalize b.h=bh at d1 h3
   generalize a.h=ah at c1 h3
   go_enter Tryz.func15,Tryz.ntmps15
   go_wp2_with fail
   go_ret
   exact ⟨by first | rfl | simp,HI.out.jI⟩
 ·clear ha hb h h2 hno c18 VW c1 d1
  generalize b.w=bw at d0 h1
  generalize a.w=aw at c0 h1
  go_enter Tryz.func15,Tryz.ntmps15
  go_wp2_with fail
  go_ret
  exact ⟨by first | rfl | simp,HI.out.jI⟩
end Fx
end Go.Proofs.YtbbhmhihpdmoiaaGreat
