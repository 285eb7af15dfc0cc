import Derived.Test.YtbbhmhihpdmoiaaGreatJr38
set_option linter.unusedVariables false
set_option linter.unusedSimpArgs false
set_option maxRecDepth 100000
set_option maxHeartbeats 32000000
namespace Go.Proofs.YtbbhmhihpdmoiaaGreat
namespace Fx
open Go Go.RowKit
def mK (k:IntKind) (W:World) (b j:Nat):Prop:=((∃ z,W.cell? ⟨b,j,none⟩=some (.int k z))∧b < W.heap.size)∧W.frozen? ⟨b,j,none⟩=false
theorem mK.below {k:IntKind} {W X:World} {b j:Nat} (hb:Below W.heap.size W X) (h:mK k W b j):mK k X b j:=by
 obtain ⟨⟨⟨z,hz⟩,hl⟩,hf⟩:=h
 exact ⟨⟨⟨z,dN hb hz⟩,aM hl hb.size⟩,dS hb hl hf⟩
theorem mK.put {k q:IntKind} {W:World} {b j b2 j2:Nat} (h:mK k W b j) (h2:mK q W b2 j2) (z:Int):mK k (W.setCell ⟨b2,j2,none⟩ (.int q z)) b j:=by
 obtain ⟨⟨⟨y,hy⟩,hl⟩,hf⟩:=h
 obtain ⟨⟨⟨y2,hy2⟩,hl2⟩,hf2⟩:=h2
 refine ⟨⟨?_,by simpa using hl⟩,by rw [World.frozen?_setCell];exact hf⟩
 by_cases e:(⟨b2,j2,none⟩:Addr)=⟨b,j,none⟩
 ·cases e
  rw [hy2] at hy
  cases hy
  exact ⟨z,World.cell?_setCell_same _ _ _ hy2⟩
 ·exact ⟨y,by rw [World.cell?_setCell_other _ _ _ _ e];exact hy⟩
theorem sK {q:IntKind} {W:World} {a:Addr} {b2 j2 n c:Nat} {o:Option Addr} (h:W.cell? a=some (.slice o n c)) (h2:mK q W b2 j2) (z:Int):(W.setCell ⟨b2,j2,none⟩ (.int q z)).cell? a=some (.slice o n c):=by
 obtain ⟨⟨⟨y2,hy2⟩,hl2⟩,hf2⟩:=h2
 by_cases e:(⟨b2,j2,none⟩:Addr)=a
 ·subst e
  rw [hy2] at h
  cases h
 ·rw [World.cell?_setCell_other _ _ _ _ e]
  exact h
structure Gl (B bc:Nat) (c:fH) (V W:World):Prop where
 below:Below B V W
 le:B≤bc
 box:W.heap[bc]?=some (.cells (fZ c) 28 (0,0))
 id:∀ k x,c.os[k]?=some x→∃ g off,c.oo=some ⟨g,off,none⟩∧B≤g∧g≠bc∧mK .i64 W g (off + k * 19)∧W.cell? ⟨g,off + k * 19 + 17,none⟩=some (.slice x.vo x.vs.length x.vc)∧W.cell? ⟨g,off + k * 19 + 18,none⟩=some (.slice x.tq x.ts.length x.tc)
 vs:∀ x∈c.os,∀ j,j < x.vs.length→∃ g off,x.vo=some ⟨g,off,none⟩∧B≤g∧g≠bc∧mK .i64 W g (off + j * 3)
 ts:∀ x∈c.os,∀ j,j < x.ts.length→∃ g off,x.tq=some ⟨g,off,none⟩∧B≤g∧g≠bc∧mK .i64 W g (off + j * 4)
theorem Gl.up {B bc:Nat} {c:fH} {V W X:World} (hb:Below W.heap.size W X) (hB:B≤W.heap.size) (i:Gl B bc c V W):Gl B bc c V X:=by
 refine ⟨i.below.trans (hb.mono hB),i.le,dV hb i.box,fun k x hk=>?_,fun x hx j hj=>?_,fun x hx j hj=>?_⟩
 ·obtain ⟨g,off,e,h1,h2,h3,h4,h5⟩:=i.id k x hk
  exact ⟨g,off,e,h1,h2,h3.below hb,dN hb h4,dN hb h5⟩
 ·obtain ⟨g,off,e,h1,h2,h3⟩:=i.vs x hx j hj
  exact ⟨g,off,e,h1,h2,h3.below hb⟩
 ·obtain ⟨g,off,e,h1,h2,h3⟩:=i.ts x hx j hj
  exact ⟨g,off,e,h1,h2,h3.below hb⟩
theorem Gl.lt {B bc:Nat} {c:fH} {V W:World} (i:Gl B bc c V W):B≤W.heap.size:=by
 have:=(aC.1 i.box).1
 have:=i.le
 omega
theorem Gl.put {B bc:Nat} {c:fH} {V W:World} (i:Gl B bc c V W) {g j:Nat} (hg:B≤g) (hn:g≠bc) (h:mK .i64 W g j) (z:Int):Gl B bc c V (W.setCell ⟨g,j,none⟩ (.int .i64 z)):=by
 refine ⟨i.below.setCell (p:=⟨g,j,none⟩) hg _,i.le,?_,fun k x hk=>?_,fun x hx j hj=>?_,fun x hx j hj=>?_⟩
 ·rw [aH _ _ _ _ (by exact fun e=>hn e.symm)]
  exact i.box
 ·obtain ⟨g,off,e,h1,h2,h3,h4,h5⟩:=i.id k x hk
  exact ⟨g,off,e,h1,h2,h3.put h z,sK h4 h z,sK h5 h z⟩
 ·obtain ⟨g,off,e,h1,h2,h3⟩:=i.vs x hx j hj
  exact ⟨g,off,e,h1,h2,h3.put h z⟩
 ·obtain ⟨g,off,e,h1,h2,h3⟩:=i.ts x hx j hj
  exact ⟨g,off,e,h1,h2,h3.put h z⟩
theorem sQ {t:TypeId} {W:World} {g j:Nat} {cur:Array Value} {k:IntKind} {z:Int} (h:W.heap[g]?=some (.cells cur t (0,0))) (hc:W.cell? ⟨g,j,none⟩=some (.int k z)):mK k W g j:=⟨⟨⟨z,hc⟩,(aC.1 h).1⟩,dU h⟩
theorem Gl.new {B C bc:Nat} {c:fH} {V W:World} (hC:B≤C) (s:iC C c W) (hb:Below B V W) (hle:B≤bc) (hbc:W.heap[bc]?=some (.cells (fZ c) 28 (0,0))):Gl B bc c V W:=by
 have hne:∀ {t:TypeId} {g:Nat} {cur:Array Value},W.heap[g]?=some (.cells cur t (0,0))→t≠28→g≠bc:=fun h ht e=>by
  subst e
  rw [hbc] at h
  cases h
  exact ht rfl
 refine ⟨hb,hle,hbc,fun k x hk=>?_,fun x hx j hj=>?_,fun x hx j hj=>?_⟩
 ·obtain ⟨g,cur,e,h1,h2,_,h3⟩:=s.objs.at_ k x hk
  have hw:=(s.each x (bJ hk)).wf
  refine ⟨g,0,e,by omega,hne h2 (by decide),sQ h2 (z:=x.id) ?_,?_,?_⟩
  ·exact h3 0 _ (FC x)
  ·exact h3 17 _ (uS hw)
  ·exact h3 18 _ (uT hw)
 ·have hw:=s.each x hx
  obtain ⟨v,hv⟩:∃ v,x.vs[j]?=some v:=⟨_,aJ hj⟩
  obtain ⟨g,cur,e,h1,h2,_,h3⟩:=hw.v.at_ j v hv
  have hvl:=(hw.vw v (bJ hv)).len
  obtain ⟨z,hz⟩:∃ z,v[0]?=some z:=⟨_,aJ (by omega)⟩
  refine ⟨g,0,e,by omega,hne h2 (by decide),sQ h2 (z:=z) ?_⟩
  exact h3 0 _ (by rw [cO,hz];rfl)
 ·have hw:=s.each x hx
  obtain ⟨v,hv⟩:∃ v,x.ts[j]?=some v:=⟨_,aJ hj⟩
  obtain ⟨g,cur,e,h1,h2,_,h3⟩:=hw.t.at_ j v hv
  refine ⟨g,0,e,by omega,hne h2 (by decide),sQ h2 (z:=v.a) ?_⟩
  exact h3 0 _ rfl
theorem CG {n:Nat} {P:Program} {o:Oper} {a:Act} {w:World} {K:Act→World→Prop} {Q:Exit→Act→World→Prop} (f:FuncId) (args:Array Value) (hrun:(execOp a.eval o).run P w=.ok (.enter f args) w) (c:Callee) (ps:Array Operand) (ts:Array TypeId) (ho:o.op=.call { callee:=c,args:=ps,argTypes:=ts })
  {post:Ending→World→Prop} (hc:Calls P f args w post) (h:∀ e w',post e w'→∃ v,e=.returned v∧K (a.put o.dst v) w'):Oper.wpIn Fence.wide n P o a w K Q:=by
 unfold Oper.wpIn
 refine ⟨fun f _=>trivial,?_⟩
 rw [Oper.semAt_plain _ _ _ (by rw [ho];intro c hc';cases hc'),hrun]
 refine ⟨fun h=>(by cases h),aW.2 (hc.mono ?_)⟩
 intro e w' hp
 obtain ⟨v,rfl,hk⟩:=h e w' hp
 exact hk
end Fx
namespace Fx
open Go Go.RowKit Go.Shelf
theorem CW (a b:fH) (w:World) (ha:jE a) (hb:jE b) (h:fM w a.oo a.os) (h2:fM w b.oo b.os) :
  Calls Tryz.prog 15 #[.agg (fZ a),.agg (fZ b)] w (gH (decide (wU a b)) w):=by
 by_cases hno:a.w=b.w∧a.h=b.h∧a.jK=b.jK∧a.os.length=b.os.length
 ·obtain ⟨h1,h3,h4,hl⟩:=hno
  have:=TS a b w ha hb h h2 h1 h3 h4 hl
  have e:decide (wU a b)=decide (a.os.map jC=b.os.map jC):=by
   unfold wU
   simp [h1,h3,h4]
  rw [e]
  exact this
 ·have e:decide (wU a b)=false:=aN (fun hs=>hno ⟨hs.1,hs.2.1,hs.2.2.1,by have:=congrArg List.length hs.2.2.2;simpa using this⟩)
  rw [e]
  exact XU a b w ha hb h h2 hno
end Fx
namespace Fx
open Go Go.RowKit Go.Lib
open Pk (Bs By iK)
theorem EA {o:Oper} {a:Act} {W:World} (x y:Operand) (ho:o.op=.slice 31 x none (some y) none) (oa:Option Addr) (n c h:Nat) (j:Int) (hj:j=(h:Int)) (hx:a.eval x=.slice oa n c) (hy:a.eval y=.int .i64 j)
  (hh:h≤c) (hn:oa=none→c=0) (hs:0 < c→∀ a,oa=some a→a.spot=none) :
  (execOp a.eval o).run Tryz.prog W=.ok (.value (.slice (iK oa c 0) h c)) W:=by
 subst hj
 have ht':Tryz.prog.underlying 31=some (.slice (Tryz.prog.elem 31)):=by simp [Program.elem,bS]
 have h1:=Pk.PP W oa n c 0 h (dF _) hh hn hs
 have h2:=run_slice_h W 31 oa n c ht' .i64 (h:Int) (by omega) (by omega)
 have h3:=run_slice_lh W 31 oa n c ht' .i64 .i64 ((0:Nat):Int) (h:Int) (by omega) (by omega) (by omega)
 have h4:(Instr.slice 31 (.slice oa n c) none (some (.int .i64 (h:Int))) none).run Tryz.prog W=.ok (.slice (iK oa c 0) h c) W:=by
  have e:(Instr.slice 31 (.slice oa n c) none (some (.int .i64 (h:Int))) none).run Tryz.prog W=(Instr.slice 31 (.slice oa n c) (some (.int .i64 ((0:Nat):Int))) (some (.int .i64 (h:Int))) none).run Tryz.prog W:=by
   rw [h2,h3]
   simp
  rw [e,h1]
  simp
 unfold execOp
 simp only [ho,hx,hy,Option.map_some,Option.map_none,Sem.run_bind,run_sliceAt_slice W 31 _ _ _ _ ht',h4,Result.andThen_ok,Sem.run_pure]
structure BkI (s:fH) (l:List Nat) (o:Option Addr) (w W:World):Prop where
 box:gF w.heap.size s W
 oa:fM W s.oo s.os
 bs:Bs W o l
 jI:Below w.heap.size w W
theorem BkI.up {s:fH} {l:List Nat} {o:Option Addr} {w W X:World} (i:BkI s l o w W) (h:Below W.heap.size W X):BkI s l o w X:=⟨i.box.below h,i.oa.below h,i.bs.below h,dY i.jI h⟩
end Fx
namespace Cx
open Go Go.RowKit
def num:List Nat→Nat
 | []=>0
 | c :: l=>c + 256 * num l
theorem SN (a b i:Nat) (hb:b < 2 ^ i):b + 2 ^ i * a=b ^^^ 2 ^ i * a:=by
 apply Nat.eq_of_testBit_eq
 intro j
 rw [Nat.add_comm,Nat.testBit_two_pow_mul_add a hb,Nat.testBit_xor,Nat.testBit_two_pow_mul]
 by_cases h:j < i
 ·have : ¬ i≤j:=by omega
  simp [h,this]
 ·have h2:b.testBit j=false:=Nat.testBit_lt_two_pow (aM hb (Nat.pow_le_pow_right (by omega) (by omega)))
  have : i≤j:=by omega
  simp [h,h2,this]
theorem QK (i a b:Nat):2 ^ i * (a ^^^ b)=2 ^ i * a ^^^ 2 ^ i * b:=by
 apply Nat.eq_of_testBit_eq
 intro j
 rw [Nat.testBit_xor,Nat.testBit_two_pow_mul,Nat.testBit_two_pow_mul,Nat.testBit_two_pow_mul,Nat.testBit_xor]
 by_cases h:i≤j <;> simp [h]
theorem JW (k m:Nat):it k (2 ^ k * m)=m:=by
 induction k with
 | zero=>simp [it]
 | succ k ih =>
  simp only [it]
  rw [show 2 ^ (k + 1) * m=2 * (2 ^ k * m) by rw [bM,bN (2 ^ k) 2,Nat.mul_assoc],DF,ih]
theorem By.tail {c:Nat} {l:List Nat} (h:By (c :: l)):By l:=fun d hd=>h d (List.mem_cons_of_mem _ hd)
theorem By.head {c:Nat} {l:List Nat} (h:By (c :: l)):c < 256:=h c (List.mem_cons_self ..)
theorem rE {c:Nat} {l:List Nat} (h:c < 256):num (c :: l)=c ^^^ 2 ^ 8 * num l:=SN (num l) c 8 h
theorem ER {l:List Nat} (h:By l) (x:Nat):reg l x=it (8 * l.length) (x ^^^ num l):=by
 induction l generalizing x with
 | nil=>simp [reg,num,it]
 | cons c l ih =>
  rw [JC,ih h.tail,rE h.head,bK,show 8 * (l.length + 1)=8 + 8 * l.length by omega,NL,←Nat.xor_assoc,FK 8 (x ^^^ c) (2 ^ 8 * num l),JW]
theorem Qr {l:List Nat} (h:By l):num l < 2 ^ (8 * l.length):=by
 induction l with
 | nil=>simp [num]
 | cons c l ih =>
  have a:=ih h.tail
  have b:=h.head
  rw [num,bK,show 8 * (l.length + 1)=8 + 8 * l.length by omega,Nat.pow_add]
  generalize 2 ^ (8 * l.length)=P at *
  omega
theorem uV {l:List Nat} (h:By l) (j b:Nat) (hj:j < l.length) (hb:b < 256):num (l.set j (l.getD j 0 ^^^ b))=num l ^^^ 2 ^ (8 * j) * b:=by
 induction l generalizing j with
 | nil=>simp at hj
 | cons c l ih =>
  have hc:=h.head
  cases j with
  | zero =>
   have hx:c ^^^ b < 256:=Nat.xor_lt_two_pow (n:=8) hc hb
   show num ((c ^^^ b) :: l)=_
   rw [rE hx,rE hc,Nat.mul_zero,Nat.pow_zero,Nat.one_mul,Nat.xor_assoc,Nat.xor_comm b,←Nat.xor_assoc]
  | succ j =>
   show num (c :: l.set j (l.getD j 0 ^^^ b))=_
   rw [rE hc,rE hc,ih h.tail j (by simpa using hj),QK,Nat.xor_assoc,←Nat.mul_assoc,←Nat.pow_add,show 8 + 8 * j=8 * (j + 1) by omega]
theorem QD:∀ {l m:List Nat},By l→By m→l.length=m.length→num l=num m→l=m
 | [],[],_,_,_,_=>rfl
 | c :: l,d :: m,h1,h2,hl,hn=>by
  have a:=h1.head
  have b:=h2.head
  simp only [num] at hn
  have e1:c=d:=by omega
  have e2:num l=num m:=by omega
  rw [e1,QD h1.tail h2.tail (by simpa using hl) e2]
 | [],_ :: _,_,_,h,_=>by simp at h
 | _ :: _,[],_,_,h,_=>by simp at h
theorem Rf {k a b:Nat} (ha:a < 4294967296) (hb:b < 4294967296) (h:it k a=it k b):a=b:=by
 apply wS
 apply zJ k (qX ha hb)
 rw [FK,h,Nat.xor_self]
theorem QB:ones < 4294967296:=by rw [xS];omega
theorem VE (l:List Nat):more 0 l=reg l ones ^^^ ones:=by
 unfold more
 rw [show nt 0=ones by decide]
 rfl
theorem num4 (c0 c1 c2 c3:Nat):num [c0,c1,c2,c3]=c0 + 256 * c1 + 65536 * c2 + 16777216 * c3:=by
 simp only [num]
 omega
theorem yR {t:List Nat} {c0 c1 c2 c3:Nat} (h:By (t ++ [c0,c1,c2,c3])):[c0,c1,c2,c3]=pM (more 0 t)↔reg (t ++ [c0,c1,c2,c3]) ones=it 32 ones:=by
 have ht:By t:=fun c hc=>h c (List.mem_append_left _ hc)
 have h4:By [c0,c1,c2,c3]:=fun c hc=>h c (List.mem_append_right _ hc)
 have k0:=h4 c0 (by simp)
 have k1:=h4 c1 (by simp)
 have k2:=h4 c2 (by simp)
 have k3:=h4 c3 (by simp)
 have hr:=ES ht QB
 rw [←QO k0 k1 k2 k3 (FE ht (by omega)),←num4,yU,ER h4,VE]
 have hn:num [c0,c1,c2,c3] < 4294967296:=by have:=Qr h4;simpa using this
 generalize num [c0,c1,c2,c3]=z at *
 generalize reg t ones=r at *
 constructor
 ·intro e
  rw [e,vU]
  rfl
 ·intro e
  have:=Rf (qX hr hn) QB e
  rw [←this,vU]
def cut (mask jS i T:Nat):Nat:=mask % 2 ^ (min i (T - jS))
theorem Sm {mask:Nat} (jS i T:Nat) (h:mask < 4294967296):cut mask jS i T < 4294967296:=Nat.lt_of_le_of_lt (Nat.mod_le _ _) h
theorem KP {mask jS i T:Nat} (h:T≤jS + i):cut mask jS (i + 1) T=cut mask jS i T:=by
 unfold cut
 rw [show min (i + 1) (T - jS)=min i (T - jS) by omega]
theorem Dp {mask jS i T:Nat} (h:jS + i < T):cut mask jS (i + 1) T=cut mask jS i T + (if mask / 2 ^ i % 2=1 then 2 ^ i else 0):=by
 unfold cut
 rw [show min (i + 1) (T - jS)=i + 1 by omega,show min i (T - jS)=i by omega,JP]
theorem Ky {mask jS i T:Nat} (h:¬ mask / 2 ^ i % 2=1):cut mask jS (i + 1) T=cut mask jS i T:=by
 by_cases hT:jS + i < T
 ·rw [Dp hT,aX h,Nat.add_zero]
 ·exact KP (by omega)
theorem Kz {mask jS i T:Nat} (h:jS + i < T) (hb:mask / 2 ^ i % 2=1):cut mask jS (i + 1) T≠0∧2 ^ jS * cut mask jS i T ^^^ 2 ^ (jS + i)=2 ^ jS * cut mask jS (i + 1) T:=by
 rw [Dp h,aT hb]
 have hp:0 < 2 ^ i:=Nat.pow_pos (by omega)
 refine ⟨by omega,?_⟩
 have hlt:cut mask jS i T < 2 ^ i:=by
  unfold cut
  rw [show min i (T - jS)=i by omega]
  exact cK _ hp
 have:=SN 1 (cut mask jS i T) i hlt
 rw [Nat.mul_one] at this
 rw [this,QK,Nat.pow_add]
theorem OD {b s':List Nat} {m jS:Nat} (hb:By b) (hs:By s') (hl:s'.length=b.length + 4) (hf:jS≤8 * (b.length + 4)) (hm:m < 4294967296)
  (hn:num s'=num (b ++ pM (more 0 b)) ^^^ 2 ^ jS * m):opened s'=if m=0 then some b else none:=by
 have hbs:By (b ++ pM (more 0 b)):=hb.append (Rc _)
 have hle:(b ++ pM (more 0 b)).length=b.length + 4:=by rw [aY];rfl
 have r1:reg (b ++ pM (more 0 b)) ones=it 32 ones:=(yR (t:=b) hbs).1 rfl
 have r2:reg s' ones=it 32 ones ^^^ it (8 * (b.length + 4) - jS) m:=by
  rw [ER hs,hl,hn,←Nat.xor_assoc,FK,←hle,←ER hbs,r1,hle]
  congr 1
  rw [show 8 * (b.length + 4)=jS + (8 * (b.length + 4) - jS) by omega,NL,JW]
  congr 1
  omega
 have hf4:=FW hl
 rw [rD hf4]
 have hs4:=hs
 rw [hf4] at hs4
 have key:=yR hs4
 rw [←hf4,r2] at key
 by_cases h0:m=0
 ·rw [aT h0]
  subst h0
  rw [QP,Nat.xor_zero] at key
  rw [Nat.mul_zero,Nat.xor_zero] at hn
  have he:=QD hs hbs (hl.trans hle.symm) hn
  rw [aT (by rw [key.2 rfl];exact beq_self_eq_true _),he,List.take_left]
 ·rw [aX h0,aX]
  intro h
  have e:=key.1 (by simpa using h)
  apply h0
  apply zJ (8 * (b.length + 4) - jS) hm
  have : it 32 ones ^^^ (it 32 ones ^^^ it (8 * (b.length + 4) - jS) m)=it 32 ones ^^^ it 32 ones:=by rw [e]
  rwa [vU,Nat.xor_self] at this
end Cx
namespace Fx
open Go Go.RowKit Go.Lib
open Pk (Bs By iK)
structure TB (W0:World) (B n gs cs mask jS Q i:Nat) (wx:World):Prop where
 rows:∃ ls,ls.length=n∧By ls∧Cx.Own wx B (.slice (some ⟨gs,0,none⟩) n cs) ls∧Cx.num ls=Q ^^^ 2 ^ jS * Cx.cut mask jS i (8 * n)
 grown:W0.grownBy wx (some gs)
theorem TB.past {W0 wx:World} {B n gs cs mask jS Q i:Nat} (h:TB W0 B n gs cs mask jS Q i wx) (hT:8 * n≤jS + i):∀ k,TB W0 B n gs cs mask jS Q (i + k) wx
 | 0=>h
 | k + 1=>by
  obtain ⟨a,d⟩:=h.past hT k
  refine ⟨?_,d⟩
  rw [←Nat.add_assoc,Cx.KP (by omega)]
  exact a
theorem TB.off {W0 wx:World} {B n gs cs mask jS Q i:Nat} (h:TB W0 B n gs cs mask jS Q i wx) (hb:¬ mask / 2 ^ i % 2=1):TB W0 B n gs cs mask jS Q (i + 1) wx:=by
 obtain ⟨a,d⟩:=h
 refine ⟨?_,d⟩
 rw [Cx.Ky hb]
 exact a
theorem TB.on {W0 wx:World} {B n gs cs mask jS Q i j r:Nat} (h:TB W0 B n gs cs mask jS Q i wx) (hT:jS + i < 8 * n) (hb:mask / 2 ^ i % 2=1) (hj:8 * j + r=jS + i) (hr:r < 8) :
  ∃ c,c < 256∧wx.cell? ⟨gs,j,none⟩=some (.int .u8 ((c:Nat):Int))∧wx.frozen? ⟨gs,j,none⟩=false ∧
   TB W0 B n gs cs mask jS Q (i + 1) (wx.setCell ⟨gs,j,none⟩ (.int .u8 ((c ^^^ 2 ^ r:Nat):Int))):=by
 obtain ⟨⟨ls,hl,hby,hown,Rk⟩,hg⟩:=h
 obtain ⟨_,_,e,hbs,_,_,_,hfr⟩:=hown.open
 rw [hl] at e
 cases e
 have hjl:j < ls.length:=by omega
 have hc:=Cx.tO hbs hjl
 rw [bB] at hc
 obtain ⟨g2,e2,_,_,hf⟩:=hfr _ rfl
 cases e2
 have h2r:2 ^ r < 256:=by
  have : 2 ^ r < 2 ^ 8:=Nat.pow_lt_pow_right (by omega) hr
  simpa using this
 have hown':=hown
 rw [←hl] at hown'
 have FR:=Cx.bump (k:=j) hown' (ls.getD j 0 ^^^ 2 ^ r)
 rw [hl] at FR
 have hcb:=Cx.Kz (mask:=mask) (jS:=jS) (i:=i) hT hb
 refine ⟨ls.getD j 0,Cx.By.get hby j,hc,hf j,⟨ls.set j (ls.getD j 0 ^^^ 2 ^ r),by simpa using hl,?_,FR.1,?_⟩,Cx.rV hg FR.2⟩
 ·intro c hc2
  rcases List.mem_or_eq_of_mem_set hc2 with h | rfl
  ·exact hby c h
  ·exact Nat.xor_lt_two_pow (n:=8) (Cx.By.get hby j) h2r
 ·rw [Cx.uV hby j (2 ^ r) hjl h2r,Rk,←Nat.pow_add,hj,Nat.xor_assoc,hcb.2]
theorem TB.last {W0 wx:World} {B n gs cs mask jS i:Nat} {m:List Nat} (hm:By m) (hn:m.length + 4=n) (hk:mask < 4294967296) (hf:jS≤8 * n) (h:TB W0 B n gs cs mask jS (Cx.num (nE m)) i wx) (hi:i=32∨8 * n≤jS + i∧i≤32) :
  ∃ ls,ls.length=n∧By ls∧Cx.Own wx B (.slice (some ⟨gs,0,none⟩) n cs) ls∧W0.grownBy wx (some gs)∧(ls=nE m∨ls≠nE m∧Cx.opened ls=none):=by
 have h32:TB W0 B n gs cs mask jS (Cx.num (nE m)) 32 wx:=by
  rcases hi with rfl | ⟨h1,h2⟩
  ·exact h
  ·have:=h.past h1 (32 - i)
   rwa [show i + (32 - i)=32 by omega] at this
 obtain ⟨⟨ls,hl,hby,hown,Rk⟩,hg⟩:=h32
 refine ⟨ls,hl,hby,hown,hg,?_⟩
 have hb:=Cx.OD (b:=m) (s':=ls) (jS:=jS) hm hby (by omega) (by omega) (Cx.Sm jS 32 (8 * n) hk) Rk
 by_cases h0:Cx.cut mask jS 32 (8 * n)=0
 ·rw [aT h0] at hb
  exact Or.inl (IR hb).symm
 ·rw [aX h0] at hb
  exact Or.inr ⟨fun e=>(by rw [e,JL] at hb;cases hb),hb⟩
end Fx
namespace Fx
open Go Go.RowKit Go.Lib
open Pk (Bs By iK AU sO)
structure SkI (s:fH) (w W:World):Prop where
 box:gF w.heap.size s W
 oa:fM W s.oo s.os
 jI:Below w.heap.size w W
theorem SkI.up {s:fH} {w W X:World} (i:SkI s w W) (h:Below W.heap.size W X):SkI s w X:=⟨i.box.below h,i.oa.below h,dY i.jI h⟩
end Fx
namespace Fx
open Go Go.RowKit
open Pk (iA Bs By qU XJ XI rq)
def kU {α κ:Type} (P:nV κ) (key:α→κ) (El:α→World→Prop) (val:α→Value) (o:Option Addr) (c:Nat) (l:List Nat) (p a:Nat) (lost:Bool) (w:World) (e:Ending) (w':World):Prop :=
 w.grownBy w' (some p)∧∃ x,e=.returned (val x)∧El x w'∧match fQ lost P l a with
  | some (k,b)=>key x=k∧b≤l.length∧Pk.ZR o c l p b false w'
  | none=>∃ b,b≤l.length∧Pk.ZR o c l p b true w'
theorem kU.use {α κ:Type} {P:nV κ} {key:α→κ} {El:α→World→Prop} {val:α→Value} {o:Option Addr} {c:Nat} {l:List Nat} {p a:Nat} {lost:Bool} {w:World} {e:Ending} {w':World} (h:kU P key El val o c l p a lost w e w') :
  w.grownBy w' (some p)∧∃ x b gP,e=.returned (val x)∧El x w'∧Pk.ZR o c l p b gP w'∧b≤l.length∧fQ lost P l a=opt gP (key x,b):=by
 obtain ⟨hg,x,he,hx,hm⟩:=h
 refine ⟨hg,x,?_⟩
 cases hr:fQ lost P l a with
 | none =>
  rw [hr] at hm
  obtain ⟨b,hb,hp⟩:=hm
  exact ⟨b,true,he,hx,hp,hb,rfl⟩
 | some q =>
  obtain ⟨k,b⟩:=q
  rw [hr] at hm
  obtain ⟨rfl,hb,hp⟩:=hm
  exact ⟨b,false,he,hx,hp,hb,rfl⟩
theorem kU.make {α κ:Type} {P:nV κ} {key:α→κ} {El:α→World→Prop} {val:α→Value} {o:Option Addr} {c:Nat} {l:List Nat} {p a:Nat} {lost:Bool} {w:World} {w':World} {x:α} {b:Nat} {gP:Bool}
  (hg:w.grownBy w' (some p)) (hx:El x w') (hp:Pk.ZR o c l p b gP w') (hb:b≤l.length) (hr:fQ lost P l a=opt gP (key x,b)):kU P key El val o c l p a lost w (.returned (val x)) w':=by
 refine ⟨hg,x,rfl,hx,?_⟩
 rw [hr]
 cases gP
 ·exact ⟨rfl,hb,hp⟩
 ·exact ⟨b,hb,hp⟩
theorem uF {o:Option Addr} {c:Nat} {l:List Nat} {p a B:Nat} {lost:Bool} {W X:World} (h:Pk.ZR o c l p a lost W) (hp:p < B) (iQ:∀ b off,o=some ⟨b,off,none⟩→0 < l.length→b < B) (hb:Below B W X):Pk.ZR o c l p a lost X :=
 ⟨by rw [hb.block p hp];exact h.row,fun j hj=>by
  obtain ⟨b,off,e,hc⟩:=h.bs j hj
  exact ⟨b,off,e,by rw [dG (w:=W) (hb.block b (iQ b off e (by omega)))];exact hc⟩⟩
theorem xI (o:Option Addr) (c:Nat) (l:List Nat) (p a:Nat) (lost:Bool) (w:World) (k:iA l a) (h:Pk.ZR o c l p a lost w) :
  Calls Tryz.prog 87 #[.pointer (some ⟨p,0,none⟩)] w (kU pI (fun z:Int=>z) (fun z _=>Num z) (fun z=>.int .i64 z) o c l p a lost w):=by
 refine (Pk.TT o c l p a lost w k h).mono ?_
 rintro e w' ⟨rfl,hr,hg⟩
 have hlt:qU (rq lost 18446744073709551615 (l.drop a)) < 18446744073709551616:=by have:=Pk.IU (lost:=lost) (most:=18446744073709551615) (s:=l.drop a);omega
 refine ⟨hg,_,rfl,PE hlt,?_⟩
 have e1:fQ lost pI l a=(rq lost 18446744073709551615 (l.drop a)).map (fun q=>(Pk.BP q.1,a + q.2)):=by
  unfold fQ pI rq
  cases lost <;> rfl
 rw [e1]
 cases hq:rq lost 18446744073709551615 (l.drop a) with
 | none =>
  rw [hq] at hr
  exact ⟨a,k.at',hr⟩
 | some q =>
  rw [hq] at hr
  refine ⟨rfl,?_,hr⟩
  unfold rq at hq
  split at hq
  ·cases hq
  ·have:=Pk.tJ hq
   have hdl:(l.drop a).length=l.length - a:=by simp
   omega
theorem kE (most:Nat) (hm:most < 9223372036854775808) (o:Option Addr) (c:Nat) (l:List Nat) (p a:Nat) (lost:Bool) (w:World) (k:iA l a) (h:Pk.ZR o c l p a lost w) :
  Calls Tryz.prog 46 #[.pointer (some ⟨p,0,none⟩),.int .i64 (most:Int)] w (kU (pU most) (fun z:Int=>z) (fun z _=>0≤z∧z≤most) (fun z=>.int .i64 z) o c l p a lost w):=by
 refine (Pk.GZ o c l p a most lost w k (by omega) h).mono ?_
 rintro e w' ⟨rfl,hr,hg⟩
 have hle:=Pk.ZM (lost:=lost) (most:=(most:Int)) (s:=l.drop a)
 refine ⟨hg,_,rfl,⟨by omega,by omega⟩,?_⟩
 rw [←nD]
 cases hq:Pk.rz lost (most:Int) (l.drop a) with
 | none =>
  rw [hq] at hr
  exact ⟨a,k.at',hr⟩
 | some q =>
  rw [hq] at hr
  refine ⟨rfl,?_,hr⟩
  have:=nD (lost:=lost) (most:=most) (l:=l) (a:=a)
  rw [hq] at this
  simp only [Option.map_some] at this
  unfold fQ at this
  split at this
  ·cases this
  ·exact (JJ k.at' this.symm).2.2
structure ZnS (o:Option Addr) (c:Nat) (l:List Nat) (p a:Nat) (lost:Bool) (zs:List Int) (b:Nat) (lo:Bool) (w W:World):Prop where
 res:dR 25 w.heap.size #[.int .i64 0,.int .i64 0,.int .i64 0,.int .i64 0,.int .i64 0,.int .i64 0,.int .i64 0,.int .i64 0,.int .i64 0,.int .i64 0,.int .i64 0,.int .i64 0,.int .i64 0,.int .i64 0,.int .i64 0,.int .i64 0] W
 BQ:dR 25 (w.heap.size + 1) (mC (zs ++ List.replicate (16 - zs.length) 0)) W
 rd:Pk.ZR o c l p b lo W
 grow:w.grownBy W (some p)
 le:b≤l.length
 num:∀ z∈zs,Num z
 run:fQ lost (gK pI zs.length) l a=opt lo (zs,b)
def ZMat (p a:Nat) (lost:Bool) (o:Option Addr) (c:Nat) (l:List Nat) (w:World):Ending→World→Prop:=kU EX (fun m:List Int=>m) (fun m _=>Dl 16 m) (fun m=>.agg (mC m)) o c l p a lost w
theorem vT (o:Option Addr) (c:Nat) (l:List Nat) (p a:Nat) (lost:Bool) (w:World) (k:iA l a) (h:Pk.ZR o c l p a lost w) (iQ:∀ b off,o=some ⟨b,off,none⟩→0 < l.length→b < w.heap.size) :
  Calls Tryz.prog 47 #[.pointer (some ⟨p,0,none⟩)] w (ZMat p a lost o c l w):=by
 have hlt:=h.lt
 obtain ⟨W1,hW1⟩:∃ V,(w.alloc (.cells #[.int .i64 0,.int .i64 0,.int .i64 0,.int .i64 0,.int .i64 0,.int .i64 0,.int .i64 0,.int .i64 0,.int .i64 0,.int .i64 0,.int .i64 0,.int .i64 0,.int .i64 0,.int .i64 0,.int .i64 0,.int .i64 0] 25)).alloc (.cells #[.int .i64 0,.int .i64 0,.int .i64 0,.int .i64 0,.int .i64 0,.int .i64 0,.int .i64 0,.int .i64 0,.int .i64 0,.int .i64 0,.int .i64 0,.int .i64 0,.int .i64 0,.int .i64 0,.int .i64 0,.int .i64 0] 25)=V:=⟨_,rfl⟩
 have b1:Below w.heap.size w W1:=by rw [←hW1];exact ((aI _ w).alloc (aB _) _).alloc (by simp) _
 have F0:ZnS o c l p a lost [] a lost w W1:=by
  refine ⟨?_,?_,h.below b1,Pk.below_grown b1 (some p),k.at',fun z hz=>by simp at hz,nG _ _ _ _⟩
  ·rw [←hW1];exact dW (aG _ _)
  ·rw [←hW1]
   have:=aG (w.alloc (.cells #[.int .i64 0,.int .i64 0,.int .i64 0,.int .i64 0,.int .i64 0,.int .i64 0,.int .i64 0,.int .i64 0,.int .i64 0,.int .i64 0,.int .i64 0,.int .i64 0,.int .i64 0,.int .i64 0,.int .i64 0,.int .i64 0] 25)) (.cells #[.int .i64 0,.int .i64 0,.int .i64 0,.int .i64 0,.int .i64 0,.int .i64 0,.int .i64 0,.int .i64 0,.int .i64 0,.int .i64 0,.int .i64 0,.int .i64 0,.int .i64 0,.int .i64 0,.int .i64 0,.int .i64 0] 25)
   rw [aR] at this
   exact this
 have Pj:=aA F0
 have HW1:=aA hW1
 have HP:=aA hlt
 have jJ:=aA iQ
 have HKK:=aA k
 clear F0 b1 hW1 hlt h iQ k
 go_enter Tryz.func47,Tryz.ntmps47
 go_wp2_with (rw [HW1.out])
 clear HW1
 go_loopg [4] 16 (fun g s4 wx=>∃ (zs:List Int) (b:Nat) (lo:Bool),g=16 - zs.length∧s4=.int .i64 (zs.length:Int)∧zs.length≤16∧ZnS o c l p a lost zs b lo w wx)
 case atStart=>exact ⟨[],a,lost,rfl,rfl,by simp,Pj.out⟩
 case round =>
  obtain ⟨zs,b,lo,rfl,rfl,hk,hi⟩:=hrel
  have HI:=aA hi
  clear hi Pj
  obtain ⟨k,hkz⟩:∃ k,zs.length=k:=⟨_,rfl⟩
  have TK:=aA hkz
  rw [hkz] at hk ⊢
  have k0:(0:Int)≤(k:Int):=by omega
  by_cases hk16:k < 16
  ·have t2:(k:Int) < 16:=by omega
   obtain ⟨i,hii⟩:∃ i,k / 4=i:=⟨_,rfl⟩
   obtain ⟨r,hrr⟩:∃ r,k % 4=r:=⟨_,rfl⟩
   have hir:i * 4 + r=k:=by omega
   have i0:(0:Int)≤(i:Int):=by omega
   have i4:(i:Int) < 4:=by omega
   have r0:(0:Int)≤(r:Int):=by omega
   have r4:(r:Int) < 4:=by omega
   have e1:(k:Int).tdiv 4=(i:Int):=by rw [Int.tdiv_eq_ediv_of_nonneg (by omega)];omega
   have e2:(k:Int).tmod 4=(r:Int):=by rw [Int.tmod_eq_emod_of_nonneg (by omega)];omega
   have e3:(k:Int) / 4=(i:Int):=by omega
   have e4:(k:Int) % 4=(r:Int):=by omega
   have HIR:=aA hir
   have HWI:Hid (IntKind.i64.wrap (i:Int)=(i:Int)):=aA (by rw [aZ];omega)
   have HWR:Hid (IntKind.i64.wrap (r:Int)=(r:Int)):=aA (by rw [aZ];omega)
   have HM:=aA (show dR 25 (w.heap.size + 1) _ wr.drew from HI.out.BQ)
   have HC:=aA (xI o c l p b lo wr.drew (iO HKK.out HI.out.le) (HI.out.rd.below (oM _ (aI _ _))))
   clear hii hrr hkz
   go_wp2_with fail
   refine (bG (n:=5)).1 ?_
   refine jT (S:=fun _=>True) (Z:=[]) (by kernel_rfl) ?_
   refine gQ (fun _=>trivial) [] 0 (?_) (by kernel_rfl) rfl (by kernel_rfl) (fun _ _ _ h=>h) trivial (by kernel_rfl) ?_ ?_
   rotate_left
   ·intro wz hSw;(first | (go_simp;done) | (go_simp;with_reducible rfl))
   try simp only [aQ]
   refine gQ (fun _=>trivial) [] 1 (?_) (by kernel_rfl) rfl (by kernel_rfl) (fun _ _ _ h=>h) trivial (by kernel_rfl) ?_ ?_
   rotate_left
   ·intro wz hSw;(first | (go_simp;done) | (go_simp;with_reducible rfl))
   try simp only [aQ]
   refine gQ (fun _=>trivial) [] 2 (?_) (by kernel_rfl) rfl (by kernel_rfl) (fun _ _ _ h=>h) trivial (by kernel_rfl) ?_ ?_
   rotate_left
   ·intro wz hSw;(first | (go_simp;done) | (go_simp;with_reducible rfl))
   try simp only [aQ]
   refine gQ (fun _=>trivial) [] 3 (?_) (by kernel_rfl) rfl (by kernel_rfl) (fun _ _ _ h=>h) trivial (by kernel_rfl) ?_ ?_
   rotate_left
   ·intro wz hSw;(first | (go_simp;done) | (go_simp;with_reducible rfl))
   try simp only [aQ]
   refine gQ (fun _=>trivial) [] 4 (?_) (by kernel_rfl) rfl (by kernel_rfl) (fun _ _ _ h=>h) trivial (by kernel_rfl) ?_ ?_
   rotate_left
   ·intro wz hSw;(first | (go_simp;done) | (go_simp;with_reducible rfl))
   try simp only [aQ]
   refine gQ (fun _=>trivial) [] 6 (.pointer (some ⟨w.heap.size + 1,i * 4,none⟩)) (by kernel_rfl) rfl (by kernel_rfl) (fun _ _ _ h=>h) trivial (by kernel_rfl) ?_ ?_
   ·intro wz hSw;(go_simp;rw [HWI.out,aT ⟨i0,i4⟩];(try first | rfl | simp))
   try simp only [aQ]
   refine iZ (fun _=>trivial) 5 (by kernel_rfl) rfl (fun K hK=>?_)
   rw [aT (by kernel_rfl)]
   refine CG 87 #[.pointer (some ⟨p,0,none⟩)] (by first | (go_simp;done) | (go_simp;with_reducible rfl)) _ _ _ rfl HC.out (fun e wb hp=>?_)
   obtain ⟨hg,z,b2,lo2,rfl,hn,hr,hl,hrun⟩:=kU.use hp
   have hrow:=fI HM.out hg (by have:=HP.out;omega)
   refine ⟨_,rfl,hK.out _ _ (fun _=>trivial) ?_⟩
   clear hK K
   try simp only [aQ]
   refine gQ (fun _=>trivial) [] 7 (.pointer (some ⟨w.heap.size + 1,i * 4 + r,none⟩)) (by kernel_rfl) rfl (by kernel_rfl) (fun _ _ _ h=>h) trivial (by kernel_rfl) ?_ ?_
   ·intro wz hSw;first | (go_simp;done) | (go_simp;rw [HWR.out,aT ⟨r0,r4⟩];(try first | rfl | simp))
   try simp only [aQ]
   refine iZ (fun _=>trivial) 8 (by kernel_rfl) rfl (fun K hK=>?_)
   rw [aT (by kernel_rfl)]
   have Bl:(zs ++ List.replicate (16 - zs.length) (0:Int))[k]?=some 0:=by rw [List.getElem?_append_right (by have:=TK.out;omega),TK.out,Nat.sub_self,List.getElem?_replicate,aT (by omega)]
   have hcell:wb.cell? ⟨w.heap.size + 1,k,none⟩=some (.int .i64 0):=by rw [aF _ _ _ _ _ _ hrow];unfold mC;rw [List.getElem?_toArray,cO,Bl];rfl
   have hfrz:wb.frozen? ⟨w.heap.size + 1,k,none⟩=false:=dU hrow
   go_simp
   refine hK.out _ _ (fun _=>trivial) ?_
   clear hK K
   try simp only [aQ]
   refine lS (by kernel_rfl) ?_ _
   have HN:Hid (ZnS o c l p a lost (zs ++ [z]) b2 lo2 w (wb.setCell ⟨w.heap.size + 1,k,none⟩ (.int .i64 z))):=aA (by
    have hbX:Below w.heap.size wb (wb.setCell ⟨w.heap.size + 1,k,none⟩ (.int .i64 z)):=Below.setCell (p:=⟨w.heap.size + 1,k,none⟩) ⟨rfl,rfl,rfl,aB _,fun _ _=>rfl⟩ (by show _≤w.heap.size + 1;omega) _
    have hres:=fI (show dR 25 w.heap.size #[.int .i64 0,.int .i64 0,.int .i64 0,.int .i64 0,.int .i64 0,.int .i64 0,.int .i64 0,.int .i64 0,.int .i64 0,.int .i64 0,.int .i64 0,.int .i64 0,.int .i64 0,.int .i64 0,.int .i64 0,.int .i64 0] wr.drew from HI.out.res) hg (by have:=HP.out;omega)
    have hgr:w.grownBy wr.drew (some p):=HI.out.grow.trans (Pk.below_grown (oM _ (aI _ _)) (some p))
    refine ⟨by unfold dR;rw [aH _ _ _ _ (by show w.heap.size≠w.heap.size + 1;omega)];exact hres,?_,uF hr HP.out jJ.out hbX,iI (hgr.trans hg) hbX,hl,fun y hy=>?_,?_⟩
    ·have h1:=aK _ _ k _ _ (.int .i64 z) hrow
     rw [←TK.out] at h1
     rw [Be (by rw [TK.out];exact hk16)] at h1
     rw [TK.out] at h1
     exact h1
    ·rcases bU.1 hy with hy | hy
     ·exact HI.out.num y hy
     ·simp at hy
      subst hy
      exact hn
    ·rw [aY]
     exact iV HI.out.run hrun)
   clear hcell hfrz Bl hrow hr hl hn hrun hg
   go_wp2_with fail
   go_roundg (16 - (k + 1))
   case measure=>(have:=TK.out;omega)
   case rel=>exact ⟨zs ++ [z],b2,lo2,by simp [TK.out],by rw [aY,TK.out];go_num,by rw [aY,TK.out];simp;omega,HN.out⟩
  ·obtain rfl:k=16:=by omega
   have t2:¬ ((16:Nat):Int) < 16:=by omega
   have hzs:mC (zs ++ List.replicate (16 - zs.length) 0)=mC zs:=by rw [TK.out];simp
   have HM:=aA (show dR 25 (w.heap.size + 1) (mC zs) wr by rw [←hzs];exact HI.out.BQ)
   have HR:=aA (show dR 25 w.heap.size #[.int .i64 0,.int .i64 0,.int .i64 0,.int .i64 0,.int .i64 0,.int .i64 0,.int .i64 0,.int .i64 0,.int .i64 0,.int .i64 0,.int .i64 0,.int .i64 0,.int .i64 0,.int .i64 0,.int .i64 0,.int .i64 0] wr from HI.out.res)
   have hln:(mC zs).size=16:=by simp [mC,TK.out]
   have hi1:=aA (show (Tryz.prog.info? 25).map (·.size)=some (mC zs).size by rw [hln];kernel_rfl)
   have hi2:=aA (show (Tryz.prog.info? 25).map (·.size)=some (zs.map encI).length by rw [bI,TK.out];kernel_rfl)
   have hi3:=aA (show 16=(mC zs).size from hln.symm)
   have hi4:Hid ((mC zs).all (·.oneCell')=true):=aA (by unfold mC;rw [List.all_toArray,bL];exact fun u hu=>by obtain ⟨z,_,rfl⟩:=List.mem_map.1 hu;rfl)
   have HX:=aA (show wr.rangeAt (w.heap.size + 1) 0 (zs.map encI) from fun j u hj=>by rw [bB,aF _ _ _ _ _ _ HM.out];simpa [mC] using hj)
   obtain ⟨Y,hY⟩:∃ V,wr.setRow w.heap.size (mC zs)=V:=⟨_,rfl⟩
   have BI:=aA (show dR 25 w.heap.size (mC zs) Y by rw [←hY];exact HR.out.row _)
   have HE:Hid (ZMat p a lost o c l w (.returned (.agg (mC zs))) Y):=aA (by
    have hbX:Below w.heap.size wr Y:=by rw [←hY];exact Below.row ⟨rfl,rfl,rfl,aB _,fun _ _=>rfl⟩ (aB _) _
    refine kU.make (iI HI.out.grow hbX) ⟨TK.out,HI.out.num⟩ (uF HI.out.rd HP.out jJ.out hbX) HI.out.le ?_
    have:=HI.out.run
    rw [TK.out] at this
    exact this)
   have HYY:=aA hY
   clear hzs hln hY HI
   go_wp2_with (first | (rw [HYY.out]) | (with_reducible refine eQ (some 17) rfl ?_;refine aA ?_;refine wpList_load_mid rfl 25 (.tmp 3) rfl (w.heap.size + 1) 0 rfl (zs.map encI) _ HX.out aP rfl hi2.out ?_) | (refine dQ rfl 25 (.tmp 2) (.tmp 17) rfl w.heap.size _ _ (mC zs) rfl rfl HR.out hi1.out hi3.out hi4.out ?_))
   refine aO (v:=.agg (mC zs)) (results_cell_row rfl _ _ w.heap.size _ (mC zs) _ _ rfl BI.out aP rfl hi1.out) rfl ?_
   exact HE.out
end Fx
namespace Pk
open Go Go.RowKit
end Pk
end Go.Proofs.YtbbhmhihpdmoiaaGreat
