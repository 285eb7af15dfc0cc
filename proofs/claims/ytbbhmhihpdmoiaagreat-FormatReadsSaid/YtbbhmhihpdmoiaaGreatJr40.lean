import Derived.Test.YtbbhmhihpdmoiaaGreatJr39
set_option linter.unusedVariables false
set_option linter.unusedSimpArgs false
set_option maxRecDepth 100000
set_option maxHeartbeats 32000000
namespace Go.Proofs.YtbbhmhihpdmoiaaGreat
namespace Fx
open Go Go.RowKit Go.ChangeShapes Go.WideShapes
instance:Inhabited fH:=⟨⟨0,0,[],none,[],0⟩⟩
structure SV (W:World) (b j:Nat) (s:fH):Prop where
 cells:W.rangeAt b j (jF s)
 objs:fM W s.oo s.os
 wf:jE s
def SS (W:World) (o:Option Addr) (l:List fH):Prop:=nR (SV W) 19 o l
theorem SV.below {w W:World} {b j:Nat} {s:fH} (hb:Below w.heap.size w W) (h:SV w b j s):SV W b j s:=⟨kN hb h.cells,h.objs.below hb,h.wf⟩
theorem SS.below {w W:World} {o:Option Addr} {l:List fH} (hb:Below w.heap.size w W) (h:SS w o l):SS W o l:=fun k z hk=>by
 obtain ⟨b,off,e,h1⟩:=h k z hk
 exact ⟨b,off,e,h1.below hb⟩
section
variable {H:Type} {enc:TypeId×Value→H} {w:World} {base:Nat} {held:Bool}
end
end Fx
namespace Fx
open Go Go.RowKit
theorem NM {s:fH} (h:jE s):(Tryz.prog.info? 28).map (·.size)=some (jF s).length:=by rw [uN h];kernel_rfl
end Fx
namespace Fx
open Go Go.RowKit Go.Lib
open Pk (Bs By PW KW Turn)
structure Vn (p:Nat) (l:List Nat) (w W:World):Prop where
 wr:CQ p l W
 jI:Below p w W
 lt:p < W.heap.size
theorem Vn.up {p:Nat} {l:List Nat} {w W X:World} (i:Vn p l w W) (h:Below W.heap.size W X):Vn p l w X :=
 ⟨i.wr.below h,i.jI.trans ⟨h.os,h.tape,h.output,h.size,fun k hk=>h.block k (by have:=i.lt;omega)⟩,aM i.lt h.size⟩
theorem Vn.post {p:Nat} {l l':List Nat} {w W X:World} {e:Ending} (i:Vn p l w W) (h:Eg p l' W e X):Vn p l' w X :=
 ⟨h.2.1,i.jI.trans h.2.2.below,h.2.1.lt⟩
end Fx
namespace Fx
open Go Go.RowKit Go.Lib
open Pk (form fold)
def Oj (p:Nat) (l:List Nat) (W:World):Prop:=Pk.ZW 0 p l false W
def Ed (p:Nat) (l:List Nat) (w:World) (e:Ending) (w':World):Prop:=e=.returned undef∧Oj p l w'∧w.grownBy w' (some p)
theorem Oj.lt {p:Nat} {l:List Nat} {W:World} (h:Oj p l W):p < W.heap.size:=Pk.ZW.lt h
theorem Oj.below {p:Nat} {l:List Nat} {W X:World} (h:Oj p l W) (hb:Below W.heap.size W X):Oj p l X:=Pk.ZW.below h hb
structure ZmI (p:Nat) (m:List Int) (l:List Nat) (w W:World):Prop where
 box:W.rangeAt w.heap.size 0 (m.map encI)
 wr:Oj p l W
 gr:w.grownBy W (some p)
theorem ZmI.step {p:Nat} {m:List Int} {l l':List Nat} {w W X:World} {e:Ending} (i:ZmI p m l w W) (hp:p < w.heap.size) (h:Ed p l' W e X):ZmI p m l' w X :=
 ⟨fun j v hj=>h.2.2.cell (i.box j v hj) (fun e=>by have : w.heap.size=p:=bF e;omega),h.2.1,i.gr.trans h.2.2⟩
end Fx
namespace Fx
open Go Go.RowKit
open Pk (PR iA Bs By)
def Ng:nV (List Nat):=fun l a=>(Pk.txR false 65536 l a).map fun q=>(q.1,a + q.2)
structure Vh where
 o:Option Addr
 c:Nat
 l:List Nat
structure Ei (x:Vh) (W:World):Prop where
 own:Pk.Own W 0 (.slice x.o x.l.length x.c) x.l
 lt:∀ b off,x.o=some ⟨b,off,none⟩→b < W.heap.size
theorem Ai {W X:World} {B:Nat} {v:Value} {l:List Nat} (h:Pk.Own W B v l) (hr:Rows 5 W X):Pk.Own X B v l:=by
 obtain ⟨h1,h2⟩:=h
 refine ⟨h1,?_⟩
 rcases h2 with h2 | ⟨g,cap,cur,e,hb,hg,h3⟩
 ·exact .inl h2
 ·exact .inr ⟨g,cap,cur,e,hb,hr g cur hg,h3⟩
theorem Ei.rows {x:Vh} {W X:World} (h:Ei x W) (hr:Rows 5 W X):Ei x X:=by
 have h1:=Ai h.own hr
 refine ⟨h1,fun b off e=>?_⟩
 obtain ⟨o,c,e2,_,_,_,_,hf⟩:=h1.open
 cases e2
 obtain ⟨g,e3,_,h4,_⟩:=hf _ e
 cases e3
 exact h4
theorem Ei.bs {x:Vh} {W:World} (h:Ei x W):Bs W x.o x.l∧x.l.length≤x.c∧x.c≤9223372036854775807:=by
 obtain ⟨o,c,e2,h1,h2,h3,_,_⟩:=h.own.open
 cases e2
 exact ⟨h1,h2,h3⟩
section
variable {t:TypeId} {n:Nat}
end
end Fx
namespace Fx
open Go Go.RowKit
open Pk (PR iA Bs)
end Fx
namespace Fx
open Go Go.RowKit Go.Lib
open Pk (Bs By PR iA)
theorem iC.low {B C:Nat} {c:fH} {W:World} (h:iC B c W) (hc:C≤B):iC C c W :=
 ⟨h.wf,h.objs.base hc,fun x hx=>⟨(h.each x hx).wf,(h.each x hx).v.base hc,(h.each x hx).t.base hc,(h.each x hx).vw,(h.each x hx).tw⟩⟩
structure WR (zs:List Vh) (W0:World) (v:Value) (fs:List fH) (W:World):Prop where
 jI:Below W0.heap.size W0 W
 own:iD 28 19 jF W W0.heap.size v fs
 each:∀ z∈fs,iC W0.heap.size z W
theorem WR.up {zs:List Vh} {W0:World} {v:Value} {fs:List fH} {W X:World} (i:WR zs W0 v fs W) (h:Below W.heap.size W X):WR zs W0 v fs X :=
 ⟨dY i.jI h,i.own.below h,fun z hz=>(i.each z hz).rows (Rows.of_below h) (Rows.of_below h) (Rows.of_below h)⟩
theorem WR.app {zs:List Vh} {W0:World} {v v':Value} {fs:List fH} {t:fH} {W X:World} (i:WR zs W0 v fs W) (hf:iC W0.heap.size t W) (ho:iD 28 19 jF X W0.heap.size v' (fs ++ [t])) (hg:W.grownBy X v.ownBlock):WR zs W0 v' (fs ++ [t]) X:=by
 have hr:∀ {u:TypeId},u≠28→Rows u W X:=fun hne=>Rows.jP hg (fun k hk=>i.own.row k hk) hne
 refine ⟨i.jI.grown hg i.jI.size (fun k hk=>i.own.blk k hk),ho,fun z hz=>?_⟩
 rcases bU.1 hz with hz | hz
 ·exact (i.each z hz).rows (hr (by decide)) (hr (by decide)) (hr (by decide))
 ·simp at hz
  subst hz
  exact hf.rows (hr (by decide)) (hr (by decide)) (hr (by decide))
end Fx
namespace Fx
open Go Go.RowKit Go.Lib
open Pk (Bs By)
structure RkI (xs:List fH) (o:Option Addr) (l:List Nat) (ob:Option Addr) (w W:World):Prop where
 sc:SS W o xs
 bs:Bs W ob l
 jI:Below w.heap.size w W
theorem RkI.up {xs:List fH} {o ob:Option Addr} {l:List Nat} {w W X:World} (i:RkI xs o l ob w W) (h:Below W.heap.size W X):RkI xs o l ob w X:=⟨i.sc.below h,i.bs.below h,dY i.jI h⟩
end Fx
namespace Fx
open Go Go.RowKit Go.Lib
open Pk (Bs By iK)
end Fx
namespace Fx
open Go Go.RowKit Go.Lib
open Pk (form fold Bs By)
structure Tf (p:Nat) (s:fH) (l:List Nat) (w W:World):Prop where
 box:gF w.heap.size s W
 wr:Oj p l W
 jI:Below w.heap.size w W
 hp:w.heap.size < p
theorem gF.grown {B:Nat} {s:fH} {W X:World} {m:Nat} (h:gF B s W) (hg:W.grownBy X (some m)) (e:B≠m):gF B s X:=by
 have h1:dR 28 B (fZ s) W:=h
 exact fI h1 hg e
theorem Tf.step {p:Nat} {s:fH} {l l':List Nat} {w W X:World} {e:Ending} (i:Tf p s l w W) (h:Ed p l' W e X):Tf p s l' w X :=
 ⟨i.box.grown h.2.2 (by have:=i.hp;omega),h.2.1,i.jI.grown h.2.2 i.jI.size (fun k hk=>by cases hk;have:=i.hp;omega),i.hp⟩
theorem Tf.up {p:Nat} {s:fH} {l:List Nat} {w W X:World} (i:Tf p s l w W) (h:Below W.heap.size W X):Tf p s l w X :=
 ⟨i.box.below h,i.wr.below h,dY i.jI h,i.hp⟩
structure Oh (p b:Nat) (s:fH) (x:fE) (l:List Nat) (w W:World):Prop where
 sc:Tf p s l w W
 row:dR 73 b (eF x).toArray W
 ne:b≠p
theorem Oh.step {p b:Nat} {s:fH} {x:fE} {l l':List Nat} {w W X:World} {e:Ending} (i:Oh p b s x l w W) (h:Ed p l' W e X):Oh p b s x l' w X :=
 ⟨i.sc.step h,fI i.row h.2.2 i.ne,i.ne⟩
theorem Oh.up {p b:Nat} {s:fH} {x:fE} {l:List Nat} {w W X:World} (i:Oh p b s x l w W) (h:Below W.heap.size W X):Oh p b s x l w X :=
 ⟨i.sc.up h,dV h i.row,i.ne⟩
theorem Oh.cells {p b:Nat} {s:fH} {x:fE} {l:List Nat} {w W:World} (i:Oh p b s x l w W):W.rangeAt b 0 (eF x):=fun j u hj=>by
 rw [bB,aF _ _ _ _ _ _ i.row]
 simpa using hj
end Fx
namespace Fx
open Go Go.RowKit Go.Lib
structure Ej (s:fH) (v:Value) (l:List fE) (w W:World):Prop where
 box:gF w.heap.size s W
 res:W.heap[w.heap.size + 1]?=some (.cells #[.int .i64 0,.int .i64 0,.int .i64 0,.int .i64 0,.int .i64 0,.int .i64 0,.int .i64 0,.int .i64 0,.int .i64 0,.int .i64 0,.int .i64 0,.int .i64 0,.int .i64 0,.int .i64 0,.int .i64 0,.int .i64 0,.int .i64 0,.int .i64 0,.slice none 0 0] 28 (0,0))
 twin:W.heap[w.heap.size + 1 + 1]?=some (.cells (YQ s v).toArray 28 (0,0))
 own:iD 73 19 eF W (w.heap.size + 1 + 1 + 1) v l
 each:∀ x∈l,iM (w.heap.size + 1 + 1 + 1) x W
 below:Below w.heap.size w W
theorem Ej.up {s:fH} {v:Value} {l:List fE} {w W X:World} (h:Below W.heap.size W X) (i:Ej s v l w W):Ej s v l w X :=
 ⟨i.box.below h,dV h i.res,dV h i.twin,i.own.below h,fun x hx=>(i.each x hx).rows (Rows.of_below h) (Rows.of_below h),dY i.below h⟩
theorem Ej.lt {s:fH} {v:Value} {l:List fE} {w W:World} (i:Ej s v l w W):w.heap.size + 1 + 1 < W.heap.size:=(aC.1 i.twin).1
theorem Ej.put {s:fH} {v u:Value} {l:List fE} {w W:World} {b j:Nat} {c:Array Value} (i:Ej s v l w W) (hb:w.heap.size + 1 + 1 < b) (ho:v.ownBlock≠some b) (hr:W.heap[b]?=some (.cells c 73 (0,0))):Ej s v l w (W.setCell ⟨b,j,none⟩ u):=by
 have keep:∀ {g:Nat} {o:Obj},g < b→W.heap[g]?=some o→(W.setCell ⟨b,j,none⟩ u).heap[g]?=some o:=fun hlt h=>by
  rw [aH _ _ _ _ (by show _≠b;omega)]
  exact h
 exact ⟨keep (by omega) i.box,keep (by omega) i.res,keep (by omega) i.twin,i.own.kH ho,
  fun x hx=>(i.each x hx).rows (Rows.nK hr (by decide)) (Rows.nK hr (by decide)),i.below.setCell (p:=⟨b,j,none⟩) (by show _≤b;omega) _⟩
theorem Ej.step {s:fH} {v v':Value} {l l':List fE} {w W X:World} (hs:jE s) (i:Ej s v l w W) (ho:iD 73 19 eF X (w.heap.size + 1 + 1 + 1) v' l') (hg:W.grownBy X v.ownBlock) (he:∀ x∈l',iM (w.heap.size + 1 + 1 + 1) x W) :
  X.heap[w.heap.size + 1 + 1]?=some (.cells (YQ s v).toArray 28 (0,0))∧Ej s v' l' w (X.setCell ⟨w.heap.size + 1 + 1,18,none⟩ v'):=by
 have hb:=i.own.blk
 have keep:∀ {g:Nat} {o:Obj},g < w.heap.size + 1 + 1 + 1→W.heap[g]?=some o→X.heap[g]?=some o:=fun hlt h=>by
  rw [hg.block _ (aC.1 h).1 (fun e=>by have:=hb _ e.symm;omega)]
  exact h
 have k2:∀ {g:Nat} {o:Obj},g≠w.heap.size + 1 + 1→g < w.heap.size + 1 + 1 + 1→W.heap[g]?=some o→(X.setCell ⟨w.heap.size + 1 + 1,18,none⟩ v').heap[g]?=some o:=fun hne hlt h=>by
  rw [aH _ _ _ _ hne]
  exact keep hlt h
 have ht:=keep (by omega) i.twin
 refine ⟨ht,k2 (by omega) (by omega) i.box,k2 (by omega) (by omega) i.res,?_,ho.kH (fun e=>by have:=ho.blk _ e;omega),fun x hx=>?_,?_⟩
 ·rw [aK _ _ 18 _ _ v' ht,PG hs]
 ·have h1:∀ {t:TypeId},t≠73→t≠28→Rows t W (X.setCell ⟨w.heap.size + 1 + 1,18,none⟩ v'):=fun n1 n2=>(Rows.jP hg (fun k hk=>i.own.row k hk) n1).trans (Rows.nK ht n2)
  exact (he x hx).rows (h1 (by decide) (by decide)) (h1 (by decide) (by decide))
 ·exact (gW (aB _) i.below hg (fun k hk=>by have:=hb k hk;omega)).setCell (p:=⟨w.heap.size + 1 + 1,18,none⟩) (by show _≤w.heap.size + 1 + 1;omega) _
end Fx
namespace Fx
open Go Go.RowKit
open Pk (iA Bs By)
theorem vZ {κ:Type} {P:nV κ} {most:Nat} {l:List Nat} {lost lo1 lo2:Bool} {a a1 a2:Nat} {n:Int} {ks:List κ} (h:fQ lost (pU most) l a=opt lo1 (n,a1)) (h2:fQ lo1 (gK P n.toNat) l a1=opt lo2 (ks,a2)):fQ lost (jA most P) l a=opt lo2 (ks,a2):=by
 unfold fQ opt jA at *
 cases lost <;> cases lo1 <;> cases lo2 <;> simp_all
structure LK (o:Option Addr) (c:Nat) (l:List Nat) (p b:Nat) (lo:Bool) (id:Int) (m:List Int) (v1 v2:Value) (w W:World):Prop where
 res:W.heap[w.heap.size]?=some (.cells #[.int .i64 0,.int .i64 0,.int .i64 0,.int .i64 0,.int .i64 0,.int .i64 0,.int .i64 0,.int .i64 0,.int .i64 0,.int .i64 0,.int .i64 0,.int .i64 0,.int .i64 0,.int .i64 0,.int .i64 0,.int .i64 0,.int .i64 0,.slice none 0 0,.slice none 0 0] 73 (0,0))
 box:W.heap[w.heap.size + 1]?=some (.cells (mE id m v1 v2).toArray 73 (0,0))
 rd:Pk.ZR o c l p b lo W
 le:b≤l.length
 grow:w.grownBy W (some p)
theorem LK.step {o:Option Addr} {c:Nat} {l:List Nat} {p b b2:Nat} {lo lo2:Bool} {id:Int} {m:List Int} {v1 v2:Value} {w W X:World} (hp:p < w.heap.size) (i:LK o c l p b lo id m v1 v2 w W) (hg:W.grownBy X (some p)) (hr:Pk.ZR o c l p b2 lo2 X) (hl:b2≤l.length):LK o c l p b2 lo2 id m v1 v2 w X:=by
 have keep:∀ {g:Nat} {ob:Obj},g≠p→W.heap[g]?=some ob→X.heap[g]?=some ob:=fun hne h=>by
  rw [hg.block _ (aC.1 h).1 (fun e=>hne (bF e))]
  exact h
 exact ⟨keep (by omega) i.res,keep (by omega) i.box,hr,hl,i.grow.trans hg⟩
theorem LK.put {o:Option Addr} {c:Nat} {l:List Nat} {p b:Nat} {lo:Bool} {id id2:Int} {m m2:List Int} {v1 v2 u1 u2:Value} {w W X:World} (hp:p < w.heap.size) (iQ:∀ b off,o=some ⟨b,off,none⟩→0 < l.length→b < w.heap.size) (i:LK o c l p b lo id m v1 v2 w W) (hb:Below w.heap.size W X)
  (hres:X.heap[w.heap.size]?=W.heap[w.heap.size]?) (zN:X.heap[w.heap.size + 1]?=some (.cells (mE id2 m2 u1 u2).toArray 73 (0,0))):LK o c l p b lo id2 m2 u1 u2 w X :=
 ⟨hres.trans i.res,zN,uF i.rd hp iQ hb,i.le,iI i.grow hb⟩
theorem LK.cell {o:Option Addr} {c:Nat} {l:List Nat} {p b:Nat} {lo:Bool} {id:Int} {m:List Int} {v1 v2:Value} {w W:World} (i:LK o c l p b lo id m v1 v2 w W) {j:Nat} {u:Value} (h:(mE id m v1 v2)[j]?=some u):W.cell? ⟨w.heap.size + 1,j,none⟩=some u∧W.frozen? ⟨w.heap.size + 1,j,none⟩=false :=
 ⟨by rw [aF _ _ _ _ _ _ i.box];simpa using h,dU i.box⟩
theorem LK.set {o:Option Addr} {c:Nat} {l:List Nat} {p b:Nat} {lo:Bool} {id id2:Int} {m m2:List Int} {v1 v2 u1 u2:Value} {w W:World} {j:Nat} {u:Value} (hp:p < w.heap.size) (iQ:∀ b off,o=some ⟨b,off,none⟩→0 < l.length→b < w.heap.size) (i:LK o c l p b lo id m v1 v2 w W)
  (h:(mE id m v1 v2).toArray.setIfInBounds j u=(mE id2 m2 u1 u2).toArray):LK o c l p b lo id2 m2 u1 u2 w (W.setCell ⟨w.heap.size + 1,j,none⟩ u):=by
 have hb:Below w.heap.size W (W.setCell ⟨w.heap.size + 1,j,none⟩ u):=Below.setCell (p:=⟨w.heap.size + 1,j,none⟩) ⟨rfl,rfl,rfl,aB _,fun _ _=>rfl⟩ (by show _≤w.heap.size + 1;omega) _
 refine i.put hp iQ hb (aH _ _ _ _ (by show w.heap.size≠w.heap.size + 1;omega)) ?_
 rw [aK _ _ j _ _ u i.box,h]
structure EE (o:Option Addr) (c:Nat) (l:List Nat) (p b:Nat) (lo:Bool) (id:Int) (m:List Int) (ov:Option Addr) (cv:Nat) (vs:List (List Int)) (ot:Option Addr) (ct:Nat) (ts:List iH) (w W:World):Prop where
 base:LK o c l p b lo id m (.slice ov vs.length cv) (.slice ot ts.length ct) w W
 vo:iD 85 3 (List.map encI) W (w.heap.size + 2) (.slice ov vs.length cv) vs
 tv:iD 87 4 fV W (w.heap.size + 2) (.slice ot ts.length ct) ts
 vw:∀ z∈vs,jX z
 tw:∀ z∈ts,mX z
section
variable {o:Option Addr} {c:Nat} {l:List Nat} {p b:Nat} {lo:Bool} {id:Int} {m:List Int} {ov:Option Addr} {cv:Nat} {vs:List (List Int)} {ot:Option Addr} {ct:Nat} {ts:List iH} {w W X:World}
theorem EE.lt (i:EE o c l p b lo id m ov cv vs ot ct ts w W):w.heap.size + 1 < W.heap.size:=(aC.1 i.base.box).1
theorem EE.step {b2:Nat} {lo2:Bool} (hp:p < w.heap.size) (i:EE o c l p b lo id m ov cv vs ot ct ts w W) (hg:W.grownBy X (some p)) (hr:Pk.ZR o c l p b2 lo2 X) (hl:b2≤l.length):EE o c l p b2 lo2 id m ov cv vs ot ct ts w X :=
 ⟨i.base.step hp hg hr hl,i.vo.grown hg (fun k hk e=>by cases hk;have:=i.vo.blk _ e;omega),i.tv.grown hg (fun k hk e=>by cases hk;have:=i.tv.blk _ e;omega),i.vw,i.tw⟩
theorem EE.up (h:Below W.heap.size W X) (i:EE o c l p b lo id m ov cv vs ot ct ts w W):EE o c l p b lo id m ov cv vs ot ct ts w X :=
 ⟨⟨dV h i.base.res,dV h i.base.box,i.base.rd.below h,i.base.le,i.base.grow.trans (Pk.below_grown h (some p))⟩,i.vo.below h,i.tv.below h,i.vw,i.tw⟩
theorem EE.put {g j:Nat} {cs:Array Value} {t:TypeId} {u:Value} (hp:p < w.heap.size) (iQ:∀ b off,o=some ⟨b,off,none⟩→0 < l.length→b < w.heap.size) (i:EE o c l p b lo id m ov cv vs ot ct ts w W) (hr:dR t g cs W) (h1:t≠73) (h2:t≠106) (hv:(Value.slice ov vs.length cv).ownBlock≠some g) (ht:(Value.slice ot ts.length ct).ownBlock≠some g) (hg:w.heap.size + 1 < g):EE o c l p b lo id m ov cv vs ot ct ts w (W.setCell ⟨g,j,none⟩ u):=by
 have hb:Below w.heap.size W (W.setCell ⟨g,j,none⟩ u):=Below.setCell (p:=⟨g,j,none⟩) ⟨rfl,rfl,rfl,aB _,fun _ _=>rfl⟩ (by show _≤g;omega) _
 exact ⟨i.base.put hp iQ hb (aH _ _ _ _ (by show w.heap.size≠g;omega)) (by rw [aH _ _ _ _ (by show w.heap.size + 1≠g;omega)];exact i.base.box),i.vo.kH hv,i.tv.kH ht,i.vw,i.tw⟩
theorem EE.appV {v':Value} {x:List Int} {ow:Option Addr} {cw:Nat} (hp:p < w.heap.size) (iQ:∀ b off,o=some ⟨b,off,none⟩→0 < l.length→b < w.heap.size) (i:EE o c l p b lo id m ov cv vs ot ct ts w W) (ho:iD 85 3 (List.map encI) X (w.heap.size + 2) (.slice ow (vs ++ [x]).length cw) (vs ++ [x])) (hg:W.grownBy X (Value.slice ov vs.length cv).ownBlock) (hx:jX x) (hm:m.length=16) :
  X.cell? ⟨w.heap.size + 1,17,none⟩=some (.slice ov vs.length cv)∧X.frozen? ⟨w.heap.size + 1,17,none⟩=false∧EE o c l p b lo id m ow cw (vs ++ [x]) ot ct ts w (X.setCell ⟨w.heap.size + 1,17,none⟩ (.slice ow (vs ++ [x]).length cw)):=by
 have hb:=i.vo.blk
 have keep:∀ {g:Nat} {q:Obj},g < w.heap.size + 2→W.heap[g]?=some q→X.heap[g]?=some q:=fun hlt h=>by
  rw [hg.block _ (aC.1 h).1 (fun e=>by have:=hb _ e.symm;omega)]
  exact h
 have hbx:Below w.heap.size W X:=(aI _ _).grown hg (by have:=i.lt;omega) (fun k hk=>by have:=hb k hk;omega)
 have i2:LK o c l p b lo id m (.slice ov vs.length cv) (.slice ot ts.length ct) w X:=⟨keep (by omega) i.base.res,keep (by omega) i.base.box,uF i.base.rd hp iQ hbx,i.base.le,iI i.base.grow hbx⟩
 obtain ⟨q1,q2⟩:=i2.cell (j:=17) (u:=.slice ov vs.length cv) (by simp [mE,hm])
 have i3:=i2.set (j:=17) (u:=.slice ow (vs ++ [x]).length cw) (id2:=id) (m2:=m) (u1:=.slice ow (vs ++ [x]).length cw) (u2:=.slice ot ts.length ct) hp iQ (by simp [mE,List.set_append,hm])
 refine ⟨q1,q2,i3,ho.kH (fun e=>by have:=ho.blk _ e;omega),(i.tv.grown hg (fun k hk e=>?_)).kH (fun e=>by have:=i.tv.blk _ e;omega),fun z hz=>?_,i.tw⟩
 ·obtain ⟨c1,h1⟩:=i.vo.row k hk
  obtain ⟨c2,h2⟩:=i.tv.row k e
  rw [h1] at h2
  cases h2
 ·rcases bU.1 hz with hz | hz
  ·exact i.vw z hz
  ·simp at hz
   subst hz
   exact hx
theorem EE.appT {x:iH} {ow:Option Addr} {cw:Nat} (hp:p < w.heap.size) (iQ:∀ b off,o=some ⟨b,off,none⟩→0 < l.length→b < w.heap.size) (i:EE o c l p b lo id m ov cv vs ot ct ts w W) (ho:iD 87 4 fV X (w.heap.size + 2) (.slice ow (ts ++ [x]).length cw) (ts ++ [x])) (hg:W.grownBy X (Value.slice ot ts.length ct).ownBlock) (hx:mX x) (hm:m.length=16) :
  X.cell? ⟨w.heap.size + 1,18,none⟩=some (.slice ot ts.length ct)∧X.frozen? ⟨w.heap.size + 1,18,none⟩=false∧EE o c l p b lo id m ov cv vs ow cw (ts ++ [x]) w (X.setCell ⟨w.heap.size + 1,18,none⟩ (.slice ow (ts ++ [x]).length cw)):=by
 have hb:=i.tv.blk
 have keep:∀ {g:Nat} {q:Obj},g < w.heap.size + 2→W.heap[g]?=some q→X.heap[g]?=some q:=fun hlt h=>by
  rw [hg.block _ (aC.1 h).1 (fun e=>by have:=hb _ e.symm;omega)]
  exact h
 have hbx:Below w.heap.size W X:=(aI _ _).grown hg (by have:=i.lt;omega) (fun k hk=>by have:=hb k hk;omega)
 have i2:LK o c l p b lo id m (.slice ov vs.length cv) (.slice ot ts.length ct) w X:=⟨keep (by omega) i.base.res,keep (by omega) i.base.box,uF i.base.rd hp iQ hbx,i.base.le,iI i.base.grow hbx⟩
 obtain ⟨q1,q2⟩:=i2.cell (j:=18) (u:=.slice ot ts.length ct) (by simp [mE,hm])
 have i3:=i2.set (j:=18) (u:=.slice ow (ts ++ [x]).length cw) (id2:=id) (m2:=m) (u1:=.slice ov vs.length cv) (u2:=.slice ow (ts ++ [x]).length cw) hp iQ (by simp [mE,List.set_append,hm])
 refine ⟨q1,q2,i3,(i.vo.grown hg (fun k hk e=>?_)).kH (fun e=>by have:=i.vo.blk _ e;omega),ho.kH (fun e=>by have:=ho.blk _ e;omega),i.vw,fun z hz=>?_⟩
 ·obtain ⟨c1,h1⟩:=i.tv.row k hk
  obtain ⟨c2,h2⟩:=i.vo.row k e
  rw [h1] at h2
  cases h2
 ·rcases bU.1 hz with hz | hz
  ·exact i.tw z hz
  ·simp at hz
   subst hz
   exact hx
end
def ZObj (B p a:Nat) (lost:Bool) (o:Option Addr) (c:Nat) (l:List Nat) (w:World):Ending→World→Prop:=kU nJ jC (iM B) (fun x=>.agg (eF x).toArray) o c l p a lost w
end Fx
end Go.Proofs.YtbbhmhihpdmoiaaGreat
