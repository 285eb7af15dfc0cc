import Derived.Test.YtbbhmhihpdmoiaaGreatJr36
import Derived.Test.YtbbhmhihpdmoiaaGreatJr37
set_option linter.unusedVariables false
set_option linter.unusedSimpArgs false
set_option maxRecDepth 100000
set_option maxHeartbeats 32000000
namespace Go.Proofs.YtbbhmhihpdmoiaaGreat
namespace Fx
open Go Go.RowKit
theorem VG {s t:fH} {x y:fE} {k r:Nat} (hc:s.jK=t.jK) (ho:s.os.map jC=t.os.map jC) (hx:jC x=jC y):vE s x k r=vE t y k r:=by
 unfold jC at hx
 simp only [Prod.mk.injEq] at hx
 obtain ⟨h1,h2,h3,h4⟩:=hx
 have hk:(s.os.take k).all (fun z=>decide (z.id≠x.id))=(t.os.take k).all (fun z=>decide (z.id≠x.id)):=by
  have e:∀ u:fH,(u.os.take k).all (fun z=>decide (z.id≠x.id))=((u.os.map jC).take k).all (fun z=>decide (z.1≠x.id)):=fun u=>by
   rw [←List.map_take,List.all_map]
   rfl
  rw [e s,e t,ho]
 unfold vE qG vF zI tN tL
 rw [hk,hc,h1,h2,h3,h4]
theorem WC {s t:fH} {r k:Nat} (hc:s.jK=t.jK) (ho:s.os.map jC=t.os.map jC):mW s r k=mW t r k:=by
 unfold mW
 have h:=congrArg (fun L=>L[k]?) ho
 simp only [cO] at h
 cases hs:s.os[k]? with
 | none =>
  rw [hs] at h
  cases ht:t.os[k]? with
  | none=>rfl
  | some y=>rw [ht] at h;cases h
 | some x =>
  rw [hs] at h
  cases ht:t.os[k]? with
  | none=>rw [ht] at h;cases h
  | some y =>
   rw [ht] at h
   simp only [Option.map_some,Option.some.injEq] at h
   dsimp only
   rw [VG hc ho h]
theorem Jb {s t:fH} (h:wE s=wE t):JN s=JN t:=by
 unfold wE at h
 simp only [Prod.mk.injEq] at h
 obtain ⟨h1,h2,h3,h4⟩:=h
 have hl:s.os.length=t.os.length:=by
  have:=congrArg List.length h4
  simpa using this
 have hb:∀ r,lL s r=lL t r:=fun r=>by
  unfold lL
  rw [hl]
  congr 1
  funext k
  exact WC h3 h4
 unfold JN gL rC
 simp only [h1,h2,h3,hl,hb]
def gT:List Nat:=[109,117,108,49]
theorem uZ:Pk.By gT:=by unfold Pk.By gT;decide
end Fx
namespace Fx
open Go Go.RowKit
open Pk (PR iA By Bs)
def canO (x:Int×List Int×List (List Int)×List iH):fE:=⟨x.1,x.2.1,none,x.2.2.1,0,none,x.2.2.2,0⟩
def Sn (k:KX):fH:=⟨k.1,k.2.1,k.2.2.1,none,k.2.2.2.map canO,0⟩
theorem Jn (k:KX):wE (Sn k)=k:=by
 unfold wE Sn
 simp only [List.map_map]
 have : (jC ∘ canO)=id:=by
  funext x
  rfl
 rw [this,List.map_id]
def okK (k:KX):Bool:=JN (Sn k)
theorem Ao (s:fH):JN s=okK (wE s):=Jb (Jn (wE s)).symm
def wK (l:List Nat):Option KX×Int:=match behind gT l with
 | none=>(none,jZ gT l)
 | some r=>match LG r 0 with
  | none=>(none,70)
  | some (k,b)=>if b=r.length then (if okK k=true then (some k,0) else (none,60)) else (none,70)
def Vu:KX:=(0,0,eX,[])
def gJ:fH:=⟨0,0,eX,none,[],0⟩
theorem Qs:Num 0:=⟨by omega,by omega⟩
theorem XX:jE gJ:=⟨Qs,Qs,rfl,fun j=>by
 have : gJ.jK.getD j 0=0:=by
  show eX.getD j 0=0
  rw [aS]
  cases h:eX[j]? with
  | none=>rfl
  | some z =>
   have:=bJ h
   unfold eX at this
   simp at this
   exact this
 rw [this]
 exact Qs,⟨⟨by simp [gJ],by simp [gJ]⟩,fun _=>rfl⟩⟩
theorem wR (B:Nat) (W:World):iC B gJ W:=⟨XX,⟨fun k z hk=>by simp [gJ] at hk⟩,fun x hx=>by simp [gJ] at hx⟩
def BD (l:List Nat) (w:World) (e:Ending) (w':World):Prop:=(∃ s:fH,e=.returned (.tuple #[.agg (fZ s),.int .i64 (wK l).2])∧iC w.heap.size s w'∧wE s=(wK l).1.getD Vu)∧Below w.heap.size w w'
theorem yD {W:World} {b j:Nat} {v:Value} (h:W.cell? ⟨b,j,none⟩=some v):b < W.heap.size:=by
 unfold World.cell? at h
 cases hb:W.heap[b]? with
 | none=>rw [hb] at h;simp at h
 | some o=>exact (aC.1 hb).1
theorem GL {o:Option Addr} {c:Nat} {l:List Nat} {p a:Nat} {lost:Bool} {W:World} (h:PR o c l p a lost W):∀ b off,o=some ⟨b,off,none⟩→0 < l.length→b < W.heap.size:=fun b off e hm=>by
 obtain ⟨b',off',e',hc⟩:=h.bs 0 hm
 rw [e] at e'
 cases e'
 exact yD hc
theorem Kr {r:List Nat} {f:Int×Int×List Int} {ks:List (Int×List Int×List (List Int)×List iH)} {a1 a2:Nat} {lo1 lo2:Bool} (h1:fQ false jV r 0=opt lo1 (f,a1)) (h2:fQ lo1 (jA 16 nJ) r a1=opt lo2 (ks,a2)) (hl:a2≤r.length) :
  (Pk.pY lo2 r.length a2=0→lo2=false∧LG r 0=some ((f.1,f.2.1,f.2.2,ks),r.length))∧(Pk.pY lo2 r.length a2≠0→∀ k b,LG r 0=some (k,b)→b≠r.length):=by
 have hsc:=Qo r 0
 have e1:fQ false jV r 0=jV r 0:=rfl
 rw [e1] at h1
 unfold Pk.pY
 cases lo1
 ·have e2:fQ false (jA 16 nJ) r a1=jA 16 nJ r a1:=rfl
  rw [e2] at h2
  rw [h1] at hsc
  simp only [opt,bE,if_false] at hsc
  rw [h2] at hsc
  cases lo2
  ·simp only [opt,bE,if_false,false_or] at hsc ⊢
   refine ⟨fun h=>⟨trivial,?_⟩,fun h k b hk=>?_⟩
   ·split at h
    ·cases h
    ·rw [hsc,show a2=r.length by omega]
   ·split at h
    ·rw [hsc] at hk
     cases hk
     omega
    ·exact absurd rfl h
  ·simp only [opt,if_true,true_or] at hsc ⊢
   exact ⟨fun h=>(by cases h),fun _ k b hk=>by rw [hsc] at hk;cases hk⟩
 ·have e2:fQ true (jA 16 nJ) r a1=none:=rfl
  rw [e2] at h2
  rw [h1] at hsc
  simp only [opt,if_true] at hsc
  cases lo2
  ·simp [opt] at h2
  ·simp only [if_true,true_or]
   exact ⟨fun h=>(by cases h),fun _ k b hk=>by rw [hsc] at hk;cases hk⟩
theorem iE {fn:Func} {p u:Tmp} {ty:TypeId} (h:fn.results=#[.cell p ty,.tmp u]) (tmps:Array Value) (w:World) (g:Nat) (hp:tmps.getD p undef=.pointer (some ⟨g,0,none⟩)) (v:Value) (hu:tmps.getD u undef=v) (t:TypeId) (cs:Array Value) (d:TypeDesc) (hr:w.heap[g]?=some (.cells cs t (0,0))) (hd:Tryz.prog.underlying ty=some d) (hrow:(match d with | .struct _ | .array _ _=>true | _=>false)=true) (hi:(Tryz.prog.info? ty).map (·.size)=some cs.size) :
  (results fn tmps).run Tryz.prog w=.ok (.tuple #[.agg cs,v]) w:=by
 rw [results_cell_tmp h,hp,hu]
 simp only [asAddr,Sem.run_pure,Result.andThen_ok]
 rw [run_loadVar_row w g t ty cs (0,0) d hr hd (by cases d <;> first | rfl | exact hrow) hi]
 rfl
theorem iC.rows {B:Nat} {c:fH} {W X:World} (s:iC B c W) (hO:Rows 73 W X) (h3:Rows 85 W X) (h4:Rows 87 W X):iC B c X :=
 ⟨s.wf,s.objs.rows hO,fun x hx=>(s.each x hx).rows h3 h4⟩
theorem Dk {l r:List Nat} (h:behind gT l=some r) (hn:∀ k b,LG r 0=some (k,b)→b≠r.length):wK l=(none,70):=by
 unfold wK
 rw [h]
 dsimp only
 cases hp:LG r 0 with
 | none=>rfl
 | some q =>
  obtain ⟨k,b⟩:=q
  dsimp only
  rw [aX (hn k b hp)]
theorem RY {l r:List Nat} (h:behind gT l=some r) {k:KX} (hn:LG r 0=some (k,r.length)):wK l=if okK k=true then (some k,0) else (none,60):=by
 unfold wK
 rw [h]
 dsimp only
 rw [hn]
 dsimp only
 rw [aT rfl]
theorem QW {f:Int×Int×List Int} (h:f.2.2.length=16) (v u:Value):(mV f v).toArray.setIfInBounds 18 u=(mV f u).toArray:=by
 simp [mV,List.set_append,h]
theorem yA {f:Int×Int×List Int} (h:f.2.2.length=16) (v:Value):(mV f v).length=19:=by simp [mV,h]
theorem Ru (f:Int×Int×List Int) (oo:Option Addr) (zs:List fE) (oc:Nat):mV f (.slice oo zs.length oc)=jF ⟨f.1,f.2.1,f.2.2,oo,zs,oc⟩:=rfl
theorem Cr {f:Int×Int×List Int} (h:Dm f) {oo:Option Addr} {zs:List fE} {oc:Nat} (hc:LD oo zs.length oc):jE ⟨f.1,f.2.1,f.2.2,oo,zs,oc⟩ :=
 ⟨kJ (by omega) h.1,kJ (by omega) h.2.1,h.2.2.1,fun j=>by
  show Num (f.2.2.getD j 0)
  rw [aS]
  cases hz:f.2.2[j]? with
  | none=>exact ⟨by simp,by simp⟩
  | some z=>exact h.2.2.2 z (bJ hz),hc⟩
theorem wW (l:List Nat) (o:Option Addr) (c:Nat) (w:World) (hl:By l) (hlen:l.length≤900000) (hc:l.length≤c) (hc2:c≤9223372036854775807) (hb:Bs w o l) :
  Calls Tryz.prog 16 #[.slice o l.length c] w (BD l w):=by
 obtain ⟨V0,lI⟩:∃ V,w.alloc (.cells #[.int .i64 0,.int .i64 0,.int .i64 0,.int .i64 0,.int .i64 0,.int .i64 0,.int .i64 0,.int .i64 0,.int .i64 0,.int .i64 0,.int .i64 0,.int .i64 0,.int .i64 0,.int .i64 0,.int .i64 0,.int .i64 0,.int .i64 0,.int .i64 0,.slice none 0 0] 28)=V:=⟨_,rfl⟩
 have hb0:Below w.heap.size w V0:=by rw [←lI];exact (aI _ _).alloc (aB _) _
 have hr0:dR 28 w.heap.size #[.int .i64 0,.int .i64 0,.int .i64 0,.int .i64 0,.int .i64 0,.int .i64 0,.int .i64 0,.int .i64 0,.int .i64 0,.int .i64 0,.int .i64 0,.int .i64 0,.int .i64 0,.int .i64 0,.int .i64 0,.int .i64 0,.int .i64 0,.int .i64 0,.slice none 0 0] V0:=by rw [←lI];exact dR.new _ _ _
 have hz0:V0.heap.size=w.heap.size + 1:=by rw [←lI];simp
 have HO:=aA (wV gT uZ (by decide) l o c V0 hl hlen hc hc2 (hb.below hb0))
 rw [show Pk.iP gT=⟨#[109,117,108,49]⟩ from rfl] at HO
 have HB0:=aA hb0
 have oO:=aA hr0
 have HZ0:=aA hz0
 have qJ:=aA lI
 have yH:=aA (show ∀ r,behind gT l=some r→By r∧r.length≤900000 from fun r hr=>by
  unfold behind at hr
  cases ho:Cx.opened l with
  | none=>rw [ho] at hr;cases hr
  | some m =>
   rw [ho] at hr
   dsimp only at hr
   split at hr
   ·cases hr
    obtain ⟨h1,h2⟩:=sP hl ho
    exact ⟨fun x hx=>h1 x (List.mem_of_mem_drop hx),by rw [dD];omega⟩
   ·cases hr)
 have hiz:=aA (show (Tryz.prog.info? 28).map (·.size)=some (fZ gJ).size by kernel_rfl)
 have hsz:=aA (show 19=(fZ gJ).size from rfl)
 have Bz:=aA (show (fZ gJ).all (·.oneCell')=true from pR gJ (.slice none 0 0) rfl)
 clear hb0 hr0 lI hl hlen hc hc2 hb hz0
 have OV:Hid (∀ (ec:Int) (X:World),wK l=(none,ec)→Below w.heap.size w X→BD l w (.returned (.tuple #[.agg (fZ gJ),.int .i64 ec])) X):=aA (fun ec X hd hb=>⟨⟨gJ,by rw [hd],wR _ _,by rw [hd];rfl⟩,hb⟩)
 unfold EF at HO
 cases nN:behind gT l with
 | none =>
  have HD:Hid (wK l=(none,jZ gT l)):=aA (by unfold wK;rw [nN])
  have Fb:Hid (jZ gT l≠0):=aA (by
   unfold behind at nN
   unfold jZ
   cases ho:Cx.opened l with
   | none=>simp
   | some m =>
    rw [ho] at nN
    dsimp only at nN ⊢
    split at nN
    ·cases nN
    ·rename_i hh
     rw [aX hh]
     decide)
  simp only [nN] at HO
  have hnz:=Fb.out
  generalize jZ gT l=ec at HO HD hnz
  clear nN Fb
  go_enter Tryz.func16,Tryz.ntmps16
  go_wp2_with (rw [qJ.out])
  refine HO.out.mono ?_
  rintro e w1 ⟨hb1,rfl⟩
  have HR1:=aA (oO.out.below hb1)
  have HB1:=aA (dY HB0.out hb1)
  clear hb1 HO qJ oO
  go_wp2_with (first | (with_reducible refine eQ (some 15) rfl ?_;refine aA ?_;refine fP rfl (.agg (fZ gJ)) w1 (by kernel_rfl) ?_) | (refine dQ rfl 28 (.tmp 2) (.tmp 15) rfl w.heap.size _ _ (fZ gJ) rfl rfl HR1.out hiz.out hsz.out Bz.out ?_))
  refine aO (v:=.tuple #[.agg (fZ gJ),.int .i64 ec]) (iE rfl _ _ w.heap.size rfl (.int .i64 ec) rfl 28 (fZ gJ) _ (setRow_heap _ _ _ _ _ _ HR1.out) bA rfl hiz.out) rfl ?_
  exact OV.out ec _ HD.out (Below.row HB1.out (aB _) _)
 | some r =>
  have hbr:=yH.out r nN
  simp only [nN] at HO
  have hkb:=aA hbr
  have TM:=aA nN
  clear hbr yH nN
  go_enter Tryz.func16,Tryz.ntmps16
  go_wp2_with (rw [qJ.out])
  refine HO.out.mono ?_
  rintro e w1 ⟨hb1,p,o1,c1,rfl,hpr,hp,iQ⟩
  rw [HZ0.out] at hp iQ
  have hr1:=oO.out.below hb1
  have hbw:=dY HB0.out hb1
  have hs1:=HZ0.out▸hb1.size
  have k0:iA r 0:=⟨hkb.out.1,by have:=hkb.out.2;omega,by omega⟩
  have HF:=aA (DC o1 c1 r p 0 false w1 k0 hpr (GL hpr))
  have HK:=aA k0
  have jJ:=aA (show ∀ b off,o1=some ⟨b,off,none⟩→0 < r.length→b < w1.heap.size from GL hpr)
  have qV:=aA (show w.heap.size < p∧p < w1.heap.size from ⟨by omega,hpr.lt⟩)
  have HR1:=aA hr1
  have HB1:=aA hbw
  clear hb1 hpr hp iQ hr1 hbw hs1 k0 HO qJ oO HB0 HZ0
  go_wp2_with fail
  refine HF.out.mono ?_
  rintro e w2 h2
  obtain ⟨hg2,f,a1,lo1,rfl,hn2,hp2,hl2,JZ⟩:=lF.use h2
  obtain ⟨hp0,hp1⟩:=qV.out
  have hs2:=hg2.size
  have hb2:Below w.heap.size w w2:=gW (aB _) HB1.out hg2 (fun k e=>by cases e;omega)
  have hr2:=fI HR1.out hg2 (by omega)
  have hrs:w.heap.size < w2.heap.size:=by omega
  obtain ⟨V2,hV2⟩:∃ V,w2.alloc (.cells #[.int .i64 0,.int .i64 0,.int .i64 0,.int .i64 0,.int .i64 0,.int .i64 0,.int .i64 0,.int .i64 0,.int .i64 0,.int .i64 0,.int .i64 0,.int .i64 0,.int .i64 0,.int .i64 0,.int .i64 0,.int .i64 0,.int .i64 0,.int .i64 0,.slice none 0 0] 28)=V:=⟨_,rfl⟩
  obtain ⟨V3,sS⟩:∃ V,V2.setRow w2.heap.size (mV f (.slice none 0 0)).toArray=V:=⟨_,rfl⟩
  have hx2:V2.heap[w2.heap.size]?=some (.cells #[.int .i64 0,.int .i64 0,.int .i64 0,.int .i64 0,.int .i64 0,.int .i64 0,.int .i64 0,.int .i64 0,.int .i64 0,.int .i64 0,.int .i64 0,.int .i64 0,.int .i64 0,.int .i64 0,.int .i64 0,.int .i64 0,.int .i64 0,.int .i64 0,.slice none 0 0] 28 (0,0)):=by rw [←hV2];exact aG _ _
  have hx3:V3.heap[w2.heap.size]?=some (.cells (mV f (.slice none 0 0)).toArray 28 (0,0)):=by rw [←sS];exact setRow_heap _ _ _ _ _ _ hx2
  have wY:Below w2.heap.size w2 V3:=by rw [←sS,←hV2];exact Below.row ((aI _ _).alloc (aB _) _) (aB _) _
  have hb3:Below w.heap.size w V3:=dY hb2 wY
  have hr3:V3.heap[w.heap.size]?=some (.cells #[.int .i64 0,.int .i64 0,.int .i64 0,.int .i64 0,.int .i64 0,.int .i64 0,.int .i64 0,.int .i64 0,.int .i64 0,.int .i64 0,.int .i64 0,.int .i64 0,.int .i64 0,.int .i64 0,.int .i64 0,.int .i64 0,.int .i64 0,.int .i64 0,.slice none 0 0] 28 (0,0)):=by rw [wY.block _ hrs];exact hr2
  have mP:∀ b off,o1=some ⟨b,off,none⟩→0 < r.length→b < w2.heap.size:=fun b off e hm=>aM (jJ.out b off e hm) hs2
  have hp3:=nP hp2 (by omega) mP wY
  have hs3:w2.heap.size < V3.heap.size:=(aC.1 hx3).1
  have HM:=aA (Iw w.heap.size o1 c1 r p a1 lo1 V3 (by omega) (iO HK.out hl2) hp3 (fun b off e hm=>Nat.lt_trans (mP b off e hm) hs3))
  have hfl:=hn2.2.2.1
  have hi2:=aA (show (Tryz.prog.info? 28).map (·.size)=some (mV f (.slice none 0 0)).toArray.size by rw [aL,yA hfl];kernel_rfl)
  have Bu:=aA (show 19=(mV f (.slice none 0 0)).toArray.size by rw [aL,yA hfl])
  have ho2:=aA (FV f (v:=.slice none 0 0) rfl)
  have WV:=aA hx2
  have Ew:=aA hx3
  have HR3:=aA hr3
  have HB3:=aA hb3
  have HOB2:=aA mP
  have HN:=aA hn2
  have Ez:=aA JZ
  have uJ:=aA hV2
  have LP:=aA sS
  have WW:=aA (show w.heap.size < w2.heap.size∧p < w2.heap.size∧w2.heap.size < V3.heap.size∧w.heap.size < p from ⟨hrs,by omega,hs3,hp0⟩)
  clear h2 hg2 hn2 hp2 hl2 JZ hp0 hp1 hs2 hb2 hr2 hrs hx2 hx3 wY hb3 hr3 mP hp3 hs3 hfl hV2 sS HF qV HR1 HB1 jJ
  go_wp2_with (first | (rw [uJ.out]) | (refine dQ rfl 28 (.tmp 6) (.tmp 18) rfl w2.heap.size _ _ (mV f (.slice none 0 0)).toArray rfl rfl WV.out hi2.out Bu.out ho2.out ?_) | (rw [LP.out]))
  refine HM.out.mono ?_
  rintro e w4 h4
  obtain ⟨hg4,v4,zs,a2,lo2,rfl,zK,Uz,NQ,hl4,JY⟩:=h4.use
  obtain ⟨oo,oc,rfl,hcap,hlies⟩:=zK.form (fun z hz=>by simp [eF,(Uz z hz).wf.len])
  obtain ⟨q1,q2,q3,q4⟩:=WW.out
  have hx4:w4.heap[w2.heap.size]?=some (.cells (mV f (.slice none 0 0)).toArray 28 (0,0)):=fI Ew.out hg4 (by omega)
  have hr4:w4.heap[w.heap.size]?=some (.cells #[.int .i64 0,.int .i64 0,.int .i64 0,.int .i64 0,.int .i64 0,.int .i64 0,.int .i64 0,.int .i64 0,.int .i64 0,.int .i64 0,.int .i64 0,.int .i64 0,.int .i64 0,.int .i64 0,.int .i64 0,.int .i64 0,.int .i64 0,.int .i64 0,.slice none 0 0] 28 (0,0)):=fI HR3.out hg4 (by omega)
  have hb4:Below w.heap.size w w4:=gW (aB _) HB3.out hg4 (fun k e=>by cases e;omega)
  obtain ⟨s,hs⟩:∃ s:fH,(⟨f.1,f.2.1,f.2.2,oo,zs,oc⟩:fH)=s:=⟨_,rfl⟩
  have hwf:jE s:=by rw [←hs];exact Cr HN.out hcap
  obtain ⟨Y4,vJ⟩:∃ V,w4.setCell ⟨w2.heap.size,18,none⟩ (.slice oo zs.length oc)=V:=⟨_,rfl⟩
  have hx5:Y4.heap[w2.heap.size]?=some (.cells (jF s).toArray 28 (0,0)):=by
   rw [←vJ,aK _ _ 18 _ _ _ hx4,QW HN.out.2.2.1,Ru,hs]
  have Cc:Below w2.heap.size w4 Y4:=by rw [←vJ];exact Below.setCell (p:=⟨w2.heap.size,18,none⟩) ⟨rfl,rfl,rfl,aB _,fun _ _=>rfl⟩ (aB _) _
  have Gf:Y4.heap[w.heap.size]?=some (.cells #[.int .i64 0,.int .i64 0,.int .i64 0,.int .i64 0,.int .i64 0,.int .i64 0,.int .i64 0,.int .i64 0,.int .i64 0,.int .i64 0,.int .i64 0,.int .i64 0,.int .i64 0,.int .i64 0,.int .i64 0,.int .i64 0,.int .i64 0,.int .i64 0,.slice none 0 0] 28 (0,0)):=by rw [Cc.block _ q1];exact hr4
  have hb5:Below w.heap.size w Y4:=by rw [←vJ];exact hb4.setCell (p:=⟨w2.heap.size,18,none⟩) (by show _≤w2.heap.size;omega) _
  have Yl:=nP NQ q2 HOB2.out Cc
  have hfs:iC w.heap.size s Y4:=by
   have hrw:∀ {t:TypeId},t≠28→Rows t w4 Y4:=fun hne=>by rw [←vJ];exact Rows.nK hx4 hne
   rw [←hs] at hwf ⊢
   exact ⟨hwf,(hlies.rows (hrw (by decide))).base (by omega),fun x hx=>(Uz x hx).rows (hrw (by decide)) (hrw (by decide))⟩
  obtain ⟨c18,f18⟩:w4.cell? ⟨w2.heap.size,18,none⟩=some (.slice none 0 0)∧w4.frozen? ⟨w2.heap.size,18,none⟩=false :=
   ⟨by rw [aF _ _ _ _ _ _ hx4];simp [mV,HN.out.2.2.1],dU hx4⟩
  have hkey:wE s=(f.1,f.2.1,f.2.2,zs.map jC):=by rw [←hs];rfl
  have hend:=Kr Ez.out JY hl4
  have Fy:=aA (Pk.zA o1 c1 r p a2 lo2 Y4 (iO HK.out hl4) Yl)
  have LM:=aA vJ
  have HX5:=aA hx5
  have GQ:=aA Gf
  have CB:=aA hb5
  have HFS:=aA hfs
  have HKEY:=aA hkey
  have BN:=aA hend
  clear h4 hg4 zK Uz NQ hl4 JY hcap hlies q1 q2 q3 q4 hx4 hr4 hb4 hs hwf hx5 Cc Gf hb5 Yl hfs hkey hend vJ HM WV Ew HR3 HB3 HOB2 HN Ez uJ LP WW hi2 Bu ho2 HK hkb
  generalize hec:Pk.pY lo2 r.length a2=ec at Fy BN
  clear hec
  by_cases hz:ec=0
  ·subst hz
   obtain ⟨_,hps⟩:=BN.out.1 rfl
   rw [←HKEY.out] at hps
   have HDK:=aA (RY TM.out hps)
   clear hps BN TM
   go_wp2_with (rw [LM.out])
   clear c18 f18 LM
   refine Fy.out.mono ?_
   rintro e w5 ⟨rfl,hb⟩
   have hx6:=dV hb HX5.out
   have wH:iC w.heap.size s w5:=HFS.out.rows (Rows.of_below hb) (Rows.of_below hb) (Rows.of_below hb)
   have Ma:=aA (show w5.rangeAt w2.heap.size 0 (jF s) from fun j u hj=>by rw [aF _ _ _ _ _ _ hx6,bB];simpa using hj)
   have GX:=aA (show dR 28 w.heap.size #[.int .i64 0,.int .i64 0,.int .i64 0,.int .i64 0,.int .i64 0,.int .i64 0,.int .i64 0,.int .i64 0,.int .i64 0,.int .i64 0,.int .i64 0,.int .i64 0,.int .i64 0,.int .i64 0,.int .i64 0,.int .i64 0,.int .i64 0,.int .i64 0,.slice none 0 0] w5 from dV hb GQ.out)
   have XD:=aA (dY CB.out hb)
   have HC:=aA (show Calls Tryz.prog 30 #[.agg (jF s).toArray] w5 (wP (JN s) w5) from NC s w5 wH.wf wH.at)
   have HF6:=aA wH
   have Ju:=aA (show (Tryz.prog.info? 28).map (·.size)=some (jF s).length by simp only [jF,bK,aY,bI,wH.wf.len,List.length_nil];kernel_rfl)
   have XB:=aA (show (Tryz.prog.info? 28).map (·.size)=some (jF s).toArray.size by rw [aL];exact Ju.out)
   have TH:=aA (show 19=(jF s).toArray.size by simp [jF,wH.wf.len])
   have HO6:=aA (show (jF s).toArray.all (·.oneCell')=true from pR s (.slice s.oo s.os.length s.oc) rfl)
   clear hx6 wH hb Fy HX5 GQ CB HFS HKEY
   rw [←Ao] at HDK
   unfold wP at HC
   cases hk:JN s
   ·rw [hk] at HC HDK
    simp only [bE,if_false] at HC HDK
    go_wp2_with (with_reducible refine eQ (some 26) rfl ?_;refine aA ?_;refine wpList_load_mid rfl 28 (.tmp 6) rfl w2.heap.size 0 rfl (jF s) _ Ma.out bA rfl Ju.out ?_)
    refine HC.out.mono ?_
    rintro e w6 ⟨rfl,hb⟩
    have WY:=aA (show dR 28 w.heap.size #[.int .i64 0,.int .i64 0,.int .i64 0,.int .i64 0,.int .i64 0,.int .i64 0,.int .i64 0,.int .i64 0,.int .i64 0,.int .i64 0,.int .i64 0,.int .i64 0,.int .i64 0,.int .i64 0,.int .i64 0,.int .i64 0,.int .i64 0,.int .i64 0,.slice none 0 0] w6 from dV hb GX.out)
    have Us:=aA (dY XD.out hb)
    clear hb HC GX XD
    go_wp2_with (first | (with_reducible refine eQ (some 30) rfl ?_;refine aA ?_;refine fP rfl (.agg (fZ gJ)) w6 (by kernel_rfl) ?_) | (refine dQ rfl 28 (.tmp 2) (.tmp 30) rfl w.heap.size _ _ (fZ gJ) rfl rfl WY.out hiz.out hsz.out Bz.out ?_))
    refine aO (v:=.tuple #[.agg (fZ gJ),.int .i64 60]) (iE rfl _ _ w.heap.size rfl (.int .i64 60) rfl 28 (fZ gJ) _ (setRow_heap _ _ _ _ _ _ WY.out) bA rfl hiz.out) rfl ?_
    exact OV.out 60 _ HDK.out (Below.row Us.out (aB _) _)
   ·rw [hk] at HC HDK
    simp only [if_true] at HC HDK
    go_wp2_with (with_reducible refine eQ (some 26) rfl ?_;refine aA ?_;refine wpList_load_mid rfl 28 (.tmp 6) rfl w2.heap.size 0 rfl (jF s) _ Ma.out bA rfl Ju.out ?_)
    refine HC.out.mono ?_
    rintro e w6 ⟨rfl,hb⟩
    have HX7:=aA (show w6.rangeAt w2.heap.size 0 (jF s) from kN hb Ma.out)
    have WY:=aA (show dR 28 w.heap.size #[.int .i64 0,.int .i64 0,.int .i64 0,.int .i64 0,.int .i64 0,.int .i64 0,.int .i64 0,.int .i64 0,.int .i64 0,.int .i64 0,.int .i64 0,.int .i64 0,.int .i64 0,.int .i64 0,.int .i64 0,.int .i64 0,.int .i64 0,.int .i64 0,.slice none 0 0] w6 from dV hb GX.out)
    have Us:=aA (dY XD.out hb)
    have HF7:=aA (show iC w.heap.size s w6 from HF6.out.rows (Rows.of_below hb) (Rows.of_below hb) (Rows.of_below hb))
    clear hb HC GX XD Ma HF6
    go_wp2_with (first | (with_reducible refine eQ (some 32) rfl ?_;refine aA ?_;refine wpList_load_mid rfl 28 (.tmp 6) rfl w2.heap.size 0 rfl (jF s) _ HX7.out bA rfl Ju.out ?_) | (refine dQ rfl 28 (.tmp 2) (.tmp 32) rfl w.heap.size _ _ (jF s).toArray rfl rfl WY.out XB.out TH.out HO6.out ?_))
    refine aO (v:=.tuple #[.agg (jF s).toArray,.int .i64 0]) (iE rfl _ _ w.heap.size rfl (.int .i64 0) rfl 28 (jF s).toArray _ (setRow_heap _ _ _ _ _ _ WY.out) bA rfl XB.out) rfl ?_
    refine ⟨⟨s,by rw [HDK.out];rfl,?_,by rw [HDK.out];rfl⟩,Below.row Us.out (aB _) _⟩
    have hrw:∀ {t:TypeId},t≠28→Rows t w6 (w6.setRow w.heap.size (jF s).toArray):=fun hne g cur hg=>by
     rw [setRow_other _ _ _ _ (fun e=>by
      subst e
      have:=WY.out
      unfold dR at this
      rw [this] at hg
      cases hg
      exact hne rfl)]
     exact hg
    exact HF7.out.rows (hrw (by decide)) (hrw (by decide)) (hrw (by decide))
  ·have HDK:=aA (Dk TM.out (BN.out.2 hz))
   clear BN TM
   go_wp2_with (rw [LM.out])
   clear c18 f18 LM
   refine Fy.out.mono ?_
   rintro e w5 ⟨rfl,hb⟩
   have GX:=aA (show dR 28 w.heap.size #[.int .i64 0,.int .i64 0,.int .i64 0,.int .i64 0,.int .i64 0,.int .i64 0,.int .i64 0,.int .i64 0,.int .i64 0,.int .i64 0,.int .i64 0,.int .i64 0,.int .i64 0,.int .i64 0,.int .i64 0,.int .i64 0,.int .i64 0,.int .i64 0,.slice none 0 0] w5 from dV hb GQ.out)
   have XD:=aA (dY CB.out hb)
   clear hb Fy GQ CB
   go_wp2_with (first | (with_reducible refine eQ (some 25) rfl ?_;refine aA ?_;refine fP rfl (.agg (fZ gJ)) w5 (by kernel_rfl) ?_) | (refine dQ rfl 28 (.tmp 2) (.tmp 25) rfl w.heap.size _ _ (fZ gJ) rfl rfl GX.out hiz.out hsz.out Bz.out ?_))
   refine aO (v:=.tuple #[.agg (fZ gJ),.int .i64 70]) (iE rfl _ _ w.heap.size rfl (.int .i64 70) rfl 28 (fZ gJ) _ (setRow_heap _ _ _ _ _ _ GX.out) bA rfl hiz.out) rfl ?_
   exact OV.out 70 _ HDK.out (Below.row XD.out (aB _) _)
theorem MG (o:Option Addr) (c:Nat) (l:List Nat) (p a:Nat) (lost:Bool) (w:World) (k:iA l a) (h:PR o c l p a lost w) :
  Calls Tryz.prog 51 #[.pointer (some ⟨p,0,none⟩)] w fun e w'=>e=.returned (.bool lost)∧Below w.heap.size w w':=by
 have HL:=aA (Pk.sN o c l p a lost w k h)
 have HH:=aA h
 have HK:=aA k
 have ha:=k.at'
 cases lost
 ·by_cases hn:a=l.length
  ·have h1:Pk.GR false l a=0:=by simp [Pk.GR,hn]
   rw [h1] at HL
   clear h k h1 ha
   go_enter Tryz.func51,Tryz.ntmps51
   go_wp2_with fail
   refine HL.out.mono ?_
   rintro e w1 ⟨rfl,hb⟩
   have HE:=aA (Pk.zA o c l p a false w1 HK.out (HH.out.below hb))
   rw [show Pk.pY false l.length a=0 by simp [Pk.pY,hn]] at HE
   have HB:=aA hb
   clear hb HL HH hn
   go_wp2_with fail
   refine HE.out.mono ?_
   rintro e w2 ⟨rfl,hb⟩
   have HB2:=aA (dY HB.out hb)
   clear hb HE HB
   go_wp2_with fail
   go_ret
   exact ⟨rfl,HB2.out⟩
  ·obtain ⟨n,hn2⟩:∃ n:Nat,Pk.GR false l a=n:=⟨_,rfl⟩
   have VH:0 < n:=by rw [←hn2];simp [Pk.GR];omega
   rw [hn2] at HL
   have Js:¬ ((n:Int)=0):=by omega
   have hn5:decide ((n:Int)=0)=false:=by simpa using Js
   clear h k ha hn hn2
   go_enter Tryz.func51,Tryz.ntmps51
   go_wp2_with fail
   refine HL.out.mono ?_
   rintro e w1 ⟨rfl,hb⟩
   have HB:=aA hb
   clear hb HL HH
   go_wp2_with fail
   go_ret
   exact ⟨rfl,HB.out⟩
 ·have h1:Pk.GR true l a=0:=by simp [Pk.GR]
  rw [h1] at HL
  clear h k h1 ha
  go_enter Tryz.func51,Tryz.ntmps51
  go_wp2_with fail
  refine HL.out.mono ?_
  rintro e w1 ⟨rfl,hb⟩
  have HE:=aA (Pk.zA o c l p a true w1 HK.out (HH.out.below hb))
  rw [show Pk.pY true l.length a=50 by simp [Pk.pY]] at HE
  have HB:=aA hb
  clear hb HL HH
  go_wp2_with fail
  refine HE.out.mono ?_
  rintro e w2 ⟨rfl,hb⟩
  have HB2:=aA (dY HB.out hb)
  clear hb HE HB
  go_wp2_with fail
  go_ret
  exact ⟨rfl,HB2.out⟩
theorem pV {fn:Func} {t u v x:Tmp} (h:fn.results=#[.tmp t,.tmp u,.tmp v,.tmp x]) (tmps:Array Value) (P:Program) (w:World) :
  (results fn tmps).run P w=.ok (.tuple #[tmps.getD t undef,tmps.getD u undef,tmps.getD v undef,tmps.getD x undef]) w:=by
 simp [results,h,Sem.run_bind,Result.andThen,Sem.run_pure]
def lC (l:List Nat):Int×Int×Int×Int:=match behind gT l with
 | none=>(0,0,0,jZ gT l)
 | some r=>match lJ jV (pU 16) r 0 with
  | none=>(0,0,0,70)
  | some ((f,n),_)=>(f.1,f.2.1,n,0)
def Eo (l:List Nat) (w:World) (e:Ending) (w':World):Prop:=e=.returned (.tuple #[.int .i64 (lC l).1,.int .i64 (lC l).2.1,.int .i64 (lC l).2.2.1,.int .i64 (lC l).2.2.2])∧Below w.heap.size w w'
theorem UY (l:List Nat) (o:Option Addr) (c:Nat) (w:World) (hl:By l) (hlen:l.length≤900000) (hc:l.length≤c) (hc2:c≤9223372036854775807) (hb:Bs w o l) :
  Calls Tryz.prog 18 #[.slice o l.length c] w (Eo l w):=by
 have HO:=aA (wV gT uZ (by decide) l o c w hl hlen hc hc2 hb)
 rw [show Pk.iP gT=⟨#[109,117,108,49]⟩ from rfl] at HO
 have yH:=aA (show ∀ r,behind gT l=some r→By r∧r.length≤900000 from fun r hr=>by
  unfold behind at hr
  cases ho:Cx.opened l with
  | none=>rw [ho] at hr;cases hr
  | some m =>
   rw [ho] at hr
   dsimp only at hr
   split at hr
   ·cases hr
    obtain ⟨h1,h2⟩:=sP hl ho
    exact ⟨fun x hx=>h1 x (List.mem_of_mem_drop hx),by rw [dD];omega⟩
   ·cases hr)
 clear hl hlen hc hc2 hb
 have OV:Hid (∀ (k:Int×Int×Int×Int) (X:World),lC l=k→Below w.heap.size w X→Eo l w (.returned (.tuple #[.int .i64 k.1,.int .i64 k.2.1,.int .i64 k.2.2.1,.int .i64 k.2.2.2])) X):=aA (fun k X hd hb=>by subst hd;exact ⟨rfl,hb⟩)
 unfold EF at HO
 cases nN:behind gT l with
 | none =>
  have HD:Hid (lC l=(0,0,0,jZ gT l)):=aA (by unfold lC;rw [nN])
  have Fb:Hid (jZ gT l≠0):=aA (by
   unfold behind at nN
   unfold jZ
   cases ho:Cx.opened l with
   | none=>simp
   | some m =>
    rw [ho] at nN
    dsimp only at nN ⊢
    split at nN
    ·cases nN
    ·rename_i hh
     rw [aX hh]
     decide)
  simp only [nN] at HO
  have hnz:=Fb.out
  generalize jZ gT l=ec at HO HD hnz
  clear nN Fb
  go_enter Tryz.func18,Tryz.ntmps18
  go_wp2_with fail
  refine HO.out.mono ?_
  rintro e w1 ⟨hb1,rfl⟩
  have HB1:=aA hb1
  clear hb1 HO
  go_wp2_with fail
  (try simp only [Exit.inBlock,Exit.then])
  refine aO (pV rfl _ _ _) rfl ?_
  exact OV.out (0,0,0,ec) _ HD.out HB1.out
 | some r =>
  have hbr:=yH.out r nN
  simp only [nN] at HO
  have hkb:=aA hbr
  have HD:Hid (lC l=match lJ jV (pU 16) r 0 with
   | none=>(0,0,0,70)
   | some ((f,n),_)=>(f.1,f.2.1,n,0)):=aA (by unfold lC;rw [nN])
  clear hbr yH nN
  go_enter Tryz.func18,Tryz.ntmps18
  go_wp2_with fail
  refine HO.out.mono ?_
  rintro e w1 ⟨hb1,p,o1,c1,rfl,hpr,hp,iQ⟩
  have hs1:=hb1.size
  have k0:iA r 0:=⟨hkb.out.1,by have:=hkb.out.2;omega,by omega⟩
  have HF:=aA (DC o1 c1 r p 0 false w1 k0 hpr (GL hpr))
  have HK:=aA k0
  have jJ:=aA (show ∀ b off,o1=some ⟨b,off,none⟩→0 < r.length→b < w1.heap.size from GL hpr)
  have qV:=aA (show w.heap.size≤p∧p < w1.heap.size from ⟨by omega,hpr.lt⟩)
  have HB1:=aA hb1
  clear hb1 hpr hp iQ hs1 k0 HO
  go_wp2_with fail
  refine HF.out.mono ?_
  rintro e w2 h2
  obtain ⟨hg2,f,a1,lo1,rfl,hn2,hp2,hl2,JZ⟩:=lF.use h2
  obtain ⟨hp0,hp1⟩:=qV.out
  have hs2:=hg2.size
  have hb2:Below w.heap.size w w2:=gW (aB _) HB1.out hg2 (fun k e=>by cases e;omega)
  obtain ⟨V2,hV2⟩:∃ V,w2.alloc (.cells #[.int .i64 0,.int .i64 0,.int .i64 0,.int .i64 0,.int .i64 0,.int .i64 0,.int .i64 0,.int .i64 0,.int .i64 0,.int .i64 0,.int .i64 0,.int .i64 0,.int .i64 0,.int .i64 0,.int .i64 0,.int .i64 0,.int .i64 0,.int .i64 0,.slice none 0 0] 28)=V:=⟨_,rfl⟩
  obtain ⟨V3,sS⟩:∃ V,V2.setRow w2.heap.size (mV f (.slice none 0 0)).toArray=V:=⟨_,rfl⟩
  have hx2:V2.heap[w2.heap.size]?=some (.cells #[.int .i64 0,.int .i64 0,.int .i64 0,.int .i64 0,.int .i64 0,.int .i64 0,.int .i64 0,.int .i64 0,.int .i64 0,.int .i64 0,.int .i64 0,.int .i64 0,.int .i64 0,.int .i64 0,.int .i64 0,.int .i64 0,.int .i64 0,.int .i64 0,.slice none 0 0] 28 (0,0)):=by rw [←hV2];exact aG _ _
  have hx3:V3.heap[w2.heap.size]?=some (.cells (mV f (.slice none 0 0)).toArray 28 (0,0)):=by rw [←sS];exact setRow_heap _ _ _ _ _ _ hx2
  have wY:Below w2.heap.size w2 V3:=by rw [←sS,←hV2];exact Below.row ((aI _ _).alloc (aB _) _) (aB _) _
  have hb3:Below w.heap.size w V3:=dY hb2 wY
  have mP:∀ b off,o1=some ⟨b,off,none⟩→0 < r.length→b < w2.heap.size:=fun b off e hm=>aM (jJ.out b off e hm) hs2
  have hp3:=nP hp2 (by omega) mP wY
  have HM:=aA (nH 16 (by omega) o1 c1 r p a1 lo1 V3 (iO HK.out hl2) hp3)
  have hfl:=hn2.2.2.1
  have hi2:=aA (show (Tryz.prog.info? 28).map (·.size)=some (mV f (.slice none 0 0)).toArray.size by rw [aL,yA hfl];kernel_rfl)
  have Bu:=aA (show 19=(mV f (.slice none 0 0)).toArray.size by rw [aL,yA hfl])
  have ho2:=aA (FV f (v:=.slice none 0 0) rfl)
  have WV:=aA hx2
  have Ew:=aA hx3
  have HB3:=aA hb3
  have Ez:=aA JZ
  have uJ:=aA hV2
  have LP:=aA sS
  have WW:=aA (show w.heap.size≤p∧p < w2.heap.size from ⟨hp0,by omega⟩)
  clear h2 hg2 hn2 hp2 hl2 JZ hp0 hp1 hs2 hb2 hx2 hx3 wY hb3 mP hp3 hfl hV2 sS HF qV HB1 jJ
  go_wp2_with (first | (rw [uJ.out]) | (refine dQ rfl 28 (.tmp 7) (.tmp 17) rfl w2.heap.size _ _ (mV f (.slice none 0 0)).toArray rfl rfl WV.out hi2.out Bu.out ho2.out ?_) | (rw [LP.out]))
  refine HM.out.mono ?_
  rintro e w4 h4
  obtain ⟨hg4,n,a2,lo2,rfl,Js,NQ,hl4,JY⟩:=lF.use h4
  obtain ⟨q1,q2⟩:=WW.out
  have hx4:w4.heap[w2.heap.size]?=some (.cells (mV f (.slice none 0 0)).toArray 28 (0,0)):=fI Ew.out hg4 (by omega)
  have hb4:Below w.heap.size w w4:=gW (aB _) HB3.out hg4 (fun k e=>by cases e;omega)
  have HS:=aA (MG o1 c1 r p a2 lo2 w4 (iO HK.out hl4) NQ)
  have hrun:=gG Ez.out JY
  rw [show fQ false (lJ jV (pU 16)) r 0=lJ jV (pU 16) r 0 from rfl] at hrun
  rw [hrun] at HD
  have Ox:=aA hx4
  have Ha:=aA hb4
  clear h4 hg4 Js NQ hl4 JY q1 q2 hx4 hb4 hrun HM WV Ew HB3 Ez uJ LP WW hi2 Bu ho2 HK hkb
  cases lo2
  ·simp only [opt,bE,if_false] at HD
   go_wp2_with fail
   refine HS.out.mono ?_
   rintro e w5 ⟨rfl,hb⟩
   have hx5:=dV hb Ox.out
   have c0:w5.cell? ⟨w2.heap.size,0,none⟩=some (.int .i64 f.1):=by rw [aF _ _ _ _ _ _ hx5];rfl
   have c1:w5.cell? ⟨w2.heap.size,1,none⟩=some (.int .i64 f.2.1):=by rw [aF _ _ _ _ _ _ hx5];rfl
   have CB:=aA (dY Ha.out hb)
   clear hb hx5 HS Ox Ha
   go_wp2_with fail
   go_quiet (fail)
   go_wp2_with fail
   (try simp only [Exit.inBlock,Exit.then])
   refine aO (pV rfl _ _ _) rfl ?_
   exact OV.out (f.1,f.2.1,n,0) _ HD.out (below_drewN CB.out _)
  ·simp only [opt,if_true] at HD
   go_wp2_with fail
   refine HS.out.mono ?_
   rintro e w5 ⟨rfl,hb⟩
   have CB:=aA (dY Ha.out hb)
   clear hb HS Ox Ha
   go_wp2_with fail
   (try simp only [Exit.inBlock,Exit.then])
   refine aO (pV rfl _ _ _) rfl ?_
   exact OV.out (0,0,0,70) _ HD.out CB.out
end Fx
namespace Fx
open Go Go.RowKit
open Pk (By)
theorem JU (n:Nat):(Cx.pM n).length=4:=by simp [Cx.pM]
theorem JL (l:List Nat):Cx.opened (nE l)=some l:=by
 have hl:(nE l).length - 4=l.length:=by unfold nE;rw [aY,JU];omega
 have h4:4≤(nE l).length:=by unfold nE;rw [aY,JU];omega
 have ht:(nE l).take l.length=l:=by unfold nE;rw [List.take_left]
 have hd:(nE l).drop l.length=Cx.pM (Cx.more 0 l):=by unfold nE;rw [List.drop_left]
 unfold Cx.opened
 rw [hl,ht,hd,aT ⟨h4,rfl⟩]
theorem IR {l m:List Nat} (h:Cx.opened l=some m):nE m=l:=by
 unfold Cx.opened at h
 split at h
 ·rename_i hc
  cases h
  unfold nE
  rw [←hc.2,List.take_append_drop]
 ·cases h
end Fx
namespace Fx
open Go Go.RowKit Go.Lib
open Pk (Bs By Own)
end Fx
end Go.Proofs.YtbbhmhihpdmoiaaGreat
