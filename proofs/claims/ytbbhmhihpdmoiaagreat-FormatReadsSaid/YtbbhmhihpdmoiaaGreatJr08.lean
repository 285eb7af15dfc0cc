import Derived.Test.YtbbhmhihpdmoiaaGreatJr07
set_option linter.unusedVariables false
set_option linter.unusedSimpArgs false
set_option maxRecDepth 100000
set_option maxHeartbeats 32000000
namespace Go.Proofs.YtbbhmhihpdmoiaaGreat
namespace Pk
open Go Go.RowKit
def Tw (o:Option Addr) (c:Nat) (l:List Nat) (p eH:Nat) (r:Option (Nat×Nat)) (v:Value) (w:World) (e:Ending) (w':World):Prop :=
 e=.returned v∧PR o c l p (XJ r eH) (XI r) w'∧w.grownBy w' (some p)
theorem ask_u (n left:Nat) (w:World):Calls Tryz.prog 137 #[.int .u64 (n:Int),.int .i64 (left:Int)] w fun e w'=>e=.returned (.bool true)∧w=w':=by
 go_enter Tryz.func137,Tryz.ntmps137
 go_wp2_with fail
 go_ret
 exact ⟨rfl,rfl⟩
theorem tk_u (lost:Bool) (l:List Nat) (eH:Nat):LF lost (fun _ _=>true) l eH=rq lost 18446744073709551615 (l.drop eH):=by
 unfold LF rq
 cases lost
 ·show (match rd nW (l.drop eH) with | none=>none | some (n,j)=>if true=true then some (n,j) else none)=rd nW (l.drop eH)
  cases rd nW (l.drop eH) with
  | none=>rfl
  | some r=>rfl
 ·rfl
theorem yZ (o:Option Addr) (c:Nat) (l:List Nat) (p eH:Nat) (lost:Bool) (w:World) (k:iA l eH) (h:PR o c l p eH lost w) :
  Calls Tryz.prog 111 #[.pointer (some ⟨p,0,none⟩)] w (Tw o c l p eH (rq lost 18446744073709551615 (l.drop eH)) (.int .u64 ((qU (rq lost 18446744073709551615 (l.drop eH)):Nat):Int)) w):=by
 have HU:=Px o c l p eH lost w k h (fun _ _=>true) (aA (fun n left W _ _ _=>ask_u n left W))
 rw [tk_u] at HU
 have HU:=aA HU
 clear k h
 generalize rq lost 18446744073709551615 (l.drop eH)=r at *
 obtain ⟨a,ha⟩:∃ a,qU r=a:=⟨_,rfl⟩
 have HA:=aA ha
 rw [ha]
 clear ha
 go_enter Tryz.func111,Tryz.ntmps111
 go_wp2_with fail
 refine HU.out.mono ?_
 rintro e w1 ⟨rfl,hz,hg⟩
 rw [HA.out]
 have HZ:=aA hz
 have HG:=aA hg
 clear hz hg HU
 go_wp2_with fail
 go_ret
 exact ⟨rfl,HZ.out,HG.out⟩
theorem MK (n:Nat) (hn:n < 18446744073709551616) (w:World) :
  Calls Tryz.prog 110 #[.int .u64 (n:Int)] w fun e w'=>e=.returned (.int .i64 (BP n))∧w=w':=by
 obtain ⟨m,hm⟩:∃ m,n / 2=m:=⟨_,rfl⟩
 have e1:((n:Int) / 2)=(m:Int):=by omega
 have m0:(0:Int)≤(m:Int):=by omega
 have m1:(m:Int)≤9223372036854775807:=by omega
 have hw:IntKind.i64.wrap (m:Int)=(m:Int):=by rw [aZ];omega
 have HM:=aA hm
 by_cases h:n % 2=0
 ·have hu:BP n=(m:Int):=by unfold BP;rw [aT h,hm]
  have t1:¬ (n:Int) % 2=1:=by omega
  rw [hu]
  clear hm hn h hu
  go_enter Tryz.func110,Tryz.ntmps110
  go_wp2_with fail
  go_ret
  exact ⟨rfl,rfl⟩
 ·have hu:BP n=-(m:Int) - 1:=by unfold BP;rw [aX h,hm]
  have t1:(n:Int) % 2=1:=by omega
  have hw1:IntKind.i64.wrap (-(m:Int))=-(m:Int):=by rw [aZ];omega
  have hw2:IntKind.i64.wrap (-(m:Int) - 1)=-(m:Int) - 1:=by rw [aZ];omega
  rw [hu]
  clear hm hn h hu
  go_enter Tryz.func110,Tryz.ntmps110
  go_wp2_with fail
  go_ret
  exact ⟨rfl,rfl⟩
theorem UV (o:Option Addr) (c:Nat) (l:List Nat) (p eH:Nat) (lost:Bool) (w:World) (k:iA l eH) (h:PR o c l p eH lost w) :
  Calls Tryz.prog 80 #[.pointer (some ⟨p,0,none⟩)] w (Tw o c l p eH (rq lost 18446744073709551615 (l.drop eH)) (.int .i64 (BP (qU (rq lost 18446744073709551615 (l.drop eH))))) w):=by
 have HU:=aA (yZ o c l p eH lost w k h)
 have hle:qU (rq lost 18446744073709551615 (l.drop eH))≤18446744073709551615:=IU
 clear k h
 generalize rq lost 18446744073709551615 (l.drop eH)=r at *
 have HN:=aA (fun w=>MK (qU r) (by omega) w)
 clear hle
 obtain ⟨a,ha⟩:∃ a,qU r=a:=⟨_,rfl⟩
 have HA:=aA ha
 rw [ha] at HU HN ⊢
 clear ha
 go_enter Tryz.func80,Tryz.ntmps80
 go_wp2_with fail
 refine HU.out.mono ?_
 rintro e w1 ⟨rfl,hz,hg⟩
 have HZ:=aA hz
 have HG:=aA hg
 clear hz hg HU
 go_wp2_with fail
 refine (HN.out _).mono ?_
 rintro e w2 ⟨rfl,rfl⟩
 go_wp2_with fail
 go_ret
 exact ⟨rfl,HZ.out,HG.out⟩
def YG (most:Int) (n:Nat):Bool:=decide (0≤most∧(n:Int)≤most)
theorem YF (most:Int) (n:Nat) (w:World) (hn:n < 18446744073709551616) (h1:most≤9223372036854775807) :
  Calls Tryz.prog 91 #[.int .u64 (n:Int),.int .i64 most] w fun e w'=>e=.returned (.bool (YG most n))∧w=w':=by
 by_cases h0:0≤most
 ·have hw:IntKind.u64.wrap most=most:=by rw [aU];omega
  by_cases hle:(n:Int)≤most
  ·rw [show YG most n=true from aV ⟨h0,hle⟩]
   go_enter Tryz.func91,Tryz.ntmps91
   go_wp2_with fail
   go_ret
   exact ⟨rfl,rfl⟩
  ·rw [show YG most n=false from aN (by omega)]
   have d1:decide ((n:Int)≤most)=false:=aN hle
   go_enter Tryz.func91,Tryz.ntmps91
   go_wp2_with fail
   go_ret
   exact ⟨rfl,rfl⟩
 ·rw [show YG most n=false from aN (by omega)]
  have d0:decide (0≤most)=false:=aN h0
  go_enter Tryz.func91,Tryz.ntmps91
  go_wp2_with fail
  go_ret
  exact ⟨rfl,rfl⟩
theorem ask_s (most:Int) (q n left:Nat) (w:World) (hn:n < 18446744073709551616) (h1:most≤9223372036854775807) (hc:w.cell? ⟨q,0,none⟩=some (.int .i64 most)) :
  Calls Tryz.prog 90 #[.int .u64 (n:Int),.int .i64 (left:Int),.pointer (some ⟨q,0,none⟩)] w fun e w'=>e=.returned (.bool (YG most n))∧w=w':=by
 have HU:=aA (YF most n w hn h1)
 clear hn h1
 generalize YG most n=b at *
 go_enter Tryz.func90,Tryz.ntmps90
 go_wp2_with fail
 refine HU.out.mono ?_
 rintro e w1 ⟨rfl,rfl⟩
 go_wp2_with fail
 go_ret
 exact ⟨rfl,rfl⟩
theorem tk_s (lost:Bool) (most:Int) (l:List Nat) (eH:Nat) (h1:most≤9223372036854775807):LF lost (fun n _=>YG most n) l eH=rz lost most (l.drop eH):=by
 unfold LF rz
 cases lost
 ·by_cases h0:most < 0
  ·rw [aX (by simp),aT (Or.inr h0)]
   have hu:∀ n,YG most n=false:=fun n=>aN (by omega)
   cases rd nW (l.drop eH) with
   | none=>rfl
   | some r=>simp [hu]
  ·rw [aX (by simp),aX (by simp;omega),uP _ (show most.toNat≤nW by unfold nW;omega)]
   cases rd nW (l.drop eH) with
   | none=>rfl
   | some r =>
    obtain ⟨n,j⟩:=r
    dsimp only
    by_cases hle:n≤most.toNat
    ·rw [aT hle,aT (show YG most n=true from aV (by omega))]
    ·rw [aX hle,aX (by rw [show YG most n=false from aN (by omega)];simp)]
 ·rw [aT rfl,aT (Or.inl rfl)]
theorem ZM {lost:Bool} {most:Int} {s:List Nat}:qU (rz lost most s)≤most.toNat:=by
 unfold rz
 split
 ·exact dF _
 ·cases h:rd most.toNat s with
  | none=>exact dF _
  | some r=>obtain ⟨a,j⟩:=r;exact (tJ h).1
theorem oC (o:Option Addr) (c:Nat) (l:List Nat) (p eH:Nat) (most:Int) (lost:Bool) (w:World) (k:iA l eH) (h1:most≤9223372036854775807) (h:PR o c l p eH lost w) :
  Calls Tryz.prog 50 #[.pointer (some ⟨p,0,none⟩),.int .i64 most] w (Tw o c l p eH (rz lost most (l.drop eH)) (.int .i64 ((qU (rz lost most (l.drop eH)):Nat):Int)) w):=by
 obtain ⟨W1,hW1⟩:∃ W1,w.alloc (.cells #[.int .i64 most] 3)=W1:=⟨_,rfl⟩
 have hb:Below w.heap.size w W1:=by rw [←hW1];exact (aI _ w).alloc (aB _) _
 have hq:W1.cell? ⟨w.heap.size,0,none⟩=some (.int .i64 most):=by rw [←hW1,aF _ _ _ _ _ _ (aG _ _)];rfl
 have HU:=Py o c l p eH lost W1 k (h.below hb) w.heap.size (fun n _=>YG most n) (aA (fun n left W hB hn _=>ask_s most w.heap.size n left W hn h1 (dN hB hq)))
 rw [tk_s lost most l eH h1] at HU
 have HU:=aA HU
 have hle:qU (rz lost most (l.drop eH))≤most.toNat:=ZM
 have HB:=aA hb
 have HW1:=aA hW1
 clear k h hb hW1 hq
 generalize rz lost most (l.drop eH)=r at *
 obtain ⟨a,ha⟩:∃ a,qU r=a:=⟨_,rfl⟩
 have HA:=aA ha
 rw [ha] at hle ⊢
 have hw2:IntKind.i64.wrap (a:Int)=(a:Int):=by rw [aZ];omega
 clear ha hle h1
 go_enter Tryz.func50,Tryz.ntmps50
 go_wp2_with fail
 rw [HW1.out]
 refine HU.out.mono ?_
 rintro e w1 ⟨rfl,hz,hg⟩
 rw [HA.out]
 have HZ:=aA hz
 have HG:=aA ((below_grown HB.out (some p)).trans hg)
 clear hz hg HU HB
 go_wp2_with fail
 go_ret
 exact ⟨rfl,HZ.out,HG.out⟩
theorem zA (o:Option Addr) (c:Nat) (l:List Nat) (p eH:Nat) (lost:Bool) (w:World) (k:iA l eH) (h:PR o c l p eH lost w) :
  Calls Tryz.prog 44 #[.pointer (some ⟨p,0,none⟩)] w fun e w'=>e=.returned (.int .i64 (pY lost l.length eH))∧Below w.heap.size w w':=by
 have HL:=aA (sN o c l p eH lost w k h)
 have HH:=aA h
 have k2:=k.at'
 have HV:Hid (pY lost l.length eH=if 0 < GR lost l eH then 50 else fl true lost):=aA (by
  unfold pY GR fl
  cases lost
  ·simp
   split <;> split <;> first | rfl | omega
  ·simp)
 rw [HV.out]
 clear h k HV
 by_cases g:0 < GR lost l eH
 ·rw [aT g]
  have g2:(0:Int) < ((GR lost l eH:Nat):Int):=by omega
  generalize GR lost l eH=z at *
  go_enter Tryz.func44,Tryz.ntmps44
  go_wp2_with fail
  refine HL.out.mono ?_
  rintro e w1 ⟨rfl,hb⟩
  have HB:=aA hb
  clear hb HL
  go_wp2_with fail
  go_ret
  exact ⟨rfl,HB.out⟩
 ·rw [aX g]
  have g2:¬ (0:Int) < ((GR lost l eH:Nat):Int):=by omega
  generalize GR lost l eH=z at *
  generalize hfl:fl true lost=y at *
  have HFL:=aA hfl
  clear hfl
  go_enter Tryz.func44,Tryz.ntmps44
  go_wp2_with fail
  refine HL.out.mono ?_
  rintro e w1 ⟨rfl,hb⟩
  obtain ⟨c0,c1,_,_,_,_⟩:=(HH.out.below hb).facts
  have HF:=gU p true lost w1 c0 c1
  rw [HFL.out] at HF
  have HF:=aA HF
  have HB:=aA hb
  clear hb HL c0 c1
  go_wp2_with fail
  refine HF.out.mono ?_
  rintro e w2 ⟨rfl,rfl⟩
  go_wp2_with fail
  go_ret
  exact ⟨rfl,HB.out⟩
theorem NH (o:Option Addr) (c:Nat) (l:List Nat) (w:World) (hc:o=none→c=0) (hlen:l.length≤1000000000) (hb:Bs w o l) :
  Calls Tryz.prog 73 #[.slice o l.length c] w fun e w'=>∃ p o2 c2,e=.returned (.pointer (some ⟨p,0,none⟩))∧PR o2 c2 l p 0 false w'∧w.heap.size≤p∧(∀ b off,o2=some ⟨b,off,none⟩→w.heap.size≤b)∧Below w.heap.size w w':=by
 have HC:=aA (wM o c l w hc hlen hb)
 clear hc hlen hb
 go_enter Tryz.func73,Tryz.ntmps73
 go_wp2_with fail
 refine HC.out.mono ?_
 rintro e w1 ⟨⟨v,rfl,ho⟩,hb⟩
 obtain ⟨o2,c2,rfl,hbs,hle,hup,hn0,hblk⟩:=ho.open
 have jY:Hid (Sok o2 c2 l∧(∀ b off,o2=some ⟨b,off,none⟩→w.heap.size≤b)):=aA ⟨⟨hle,hup,hn0,fun a ha=>by obtain ⟨g,rfl,_⟩:=hblk a ha;rfl⟩,fun b off hx=>by obtain ⟨g,e,h1,_⟩:=hblk _ hx;cases e;exact h1⟩
 have HB:=aA hb
 have XQ:=aA hbs
 clear hb hbs hle hup hn0 hblk ho HC
 go_wp2_with fail
 go_ret
 refine ⟨w1.heap.size,o2,c2,rfl,⟨aG _ _,XQ.out.below ((aI _ _).alloc (aB _) _),jY.out.1⟩,HB.out.size,jY.out.2,HB.out.alloc HB.out.size _⟩
end Pk
namespace Pk
open Fx (eU fF kG dO fA iB)
open Go Go.RowKit
end Pk
namespace Pk
open Fx (eU fF dO fA iB)
open Go Go.RowKit
end Pk
namespace Pk
open Go Go.RowKit
end Pk
namespace Pk
open Go Go.RowKit Go.ChangeShapes Go.WideShapes
structure OpR where
 kind:Int
 u:Int
 i:Int
 n:Int
 most:Int
 is:Bool
 bo:Option Addr
 bl:List Nat
 bc:Nat
structure Lu (W:World) (b j:Nat) (x:OpR):Prop where
 c0:W.cell? ⟨b,j,none⟩=some (.int .i64 x.kind)
 c1:W.cell? ⟨b,j + 1,none⟩=some (.int .u64 x.u)
 c2:W.cell? ⟨b,j + 2,none⟩=some (.int .i64 x.i)
 c3:W.cell? ⟨b,j + 3,none⟩=some (.int .i64 x.n)
 c4:W.cell? ⟨b,j + 4,none⟩=some (.int .i64 x.most)
 c5:W.cell? ⟨b,j + 5,none⟩=some (.bool x.is)
 c6:W.cell? ⟨b,j + 6,none⟩=some (.slice x.bo x.bl.length x.bc)
 bs:Bs W x.bo x.bl
structure OpWf (x:OpR):Prop where
 kind:-9223372036854775808≤x.kind∧x.kind≤9223372036854775807
 u:0≤x.u∧x.u < 18446744073709551616
 i:-9223372036854775808≤x.i∧x.i≤9223372036854775807
 n:-9223372036854775808≤x.n∧x.n≤9223372036854775807
 most:-9223372036854775808≤x.most∧x.most≤9223372036854775807
 by':By x.bl
 len:x.bl.length≤x.bc∧x.bc≤9223372036854775807
 none':x.bo=none→x.bc=0
 spot:0 < x.bc→∀ a,x.bo=some a→a.spot=none
def Er (W:World) (o:Option Addr) (xs:List OpR):Prop:=∀ k x,xs[k]?=some x→∃ b off,o=some ⟨b,off,none⟩∧Lu W b (off + k * 7) x∧OpWf x
theorem Lu.below {w W:World} {b j:Nat} {x:OpR} (hb:Below w.heap.size w W) (h:Lu w b j x):Lu W b j x :=
 ⟨dN hb h.c0,dN hb h.c1,dN hb h.c2,dN hb h.c3,dN hb h.c4,dN hb h.c5,dN hb h.c6,h.bs.below hb⟩
theorem Er.below {w W:World} {o:Option Addr} {xs:List OpR} (hb:Below w.heap.size w W) (h:Er w o xs):Er W o xs:=fun k x hk=>by
 obtain ⟨b,off,e,ha,hw⟩:=h k x hk
 exact ⟨b,off,e,ha.below hb,hw⟩
theorem laidOut:laidOutB Tryz.prog=true:=by kernel_rfl
section
variable {H:Type} {enc:TypeId×Value→H} {w:World} {base:Nat} {held:Bool}
theorem YI:∀ (zs:List Int),(∀ n∈zs,(Lit.int .u8 n).wf=true)→∃ l:List Nat,zs=l.map (fun x:Nat=>(x:Int))∧By l
 | [],_=>⟨[],rfl,by intro c hc;cases hc⟩
 | z :: zs,h=>by
  have hz:=h z (by simp)
  have hz2:0≤z∧z < 256:=by
   simp [Lit.wf,IntKind.min,IntKind.max,IntKind.signed,IntKind.bits] at hz
   omega
  obtain ⟨l,rfl,hl⟩:=YI zs fun n hn=>h n (by simp [hn])
  refine ⟨z.toNat :: l,by simp;omega,fun c hc=>?_⟩
  rcases List.mem_cons.1 hc with rfl | hc
  ·omega
  ·exact hl c hc
theorem OC {fuel:Nat} {v:Value} {x:DataW H×List MemPlace} (h:DataW.trod enc Tryz.prog w base (fun _=>true) held fuel 31 [v]=some x) :
  ∃ (o:Option Addr) (l:List Nat) (c:Nat),v=.slice o l.length c∧Bs w o l∧By l∧(l.length≤c∧c≤9223372036854775807)∧(o=none→c=0)∧(0 < c→∀ a,o=some a→a.spot=none):=by
 rcases open_ints bS dM (by kernel_rfl) h with ⟨hcs,hx⟩ | ⟨a,len,cap,zs,hcs,_,hl,hm,hz,hx,hcell,hwz⟩
 ·simp at hcs
  subst hcs
  exact ⟨none,[],0,rfl,fun j hj=>absurd hj (by simp),(by intro c hc;cases hc),by simp,fun _=>rfl,fun h=>absurd h (by omega)⟩
 ·simp at hcs
  subst hcs
  simp only [if_true] at hz
  obtain ⟨m,rfl,hby⟩:=YI zs hwz
  rw [bI] at hz
  have hlen:(m.take len).length=len:=by simp;omega
  obtain ⟨ab,ao,spot⟩:=a
  have hsp:0 < cap→spot=none:=fun h=>by simpa [Addr.add] using World.cell?_spot (hcell 0 (by rw [bI];omega))
  refine ⟨some ⟨ab,ao,spot⟩,m.take len,cap,by rw [hlen],fun j hj=>?_,hby.take _,⟨by rw [hlen];exact hl,by unfold maxLen at hm;omega⟩,fun h=>(by cases h),fun h a e=>(by cases e;exact hsp h)⟩
  rw [hlen] at hj
  obtain rfl:=hsp (by omega)
  have hcj:=hcell j (by rw [bI];omega)
  rw [Addr.add_lit] at hcj
  refine ⟨ab,ao,rfl,hcj.trans ?_⟩
  have e1:(m.map (fun x:Nat=>(x:Int))).getD j 0=((m[j]'(by omega):Nat):Int):=by simp [List.getD,aJ (show j < m.length by omega)]
  have e2:(m.take len).getD j 0=m[j]'(by omega):=by simp [List.getD,hj,aJ (show j < m.length by omega)]
  rw [e1,e2]
theorem JM {r:Reach} {b0:Nat} {v:Value} {d:DataW H} {ps:List MemPlace}
  (hv:Value.okWide Tryz.prog w r b0 31 v) (h:DataW.Trod enc Tryz.prog w base (fun _=>true) held 31 v d ps) :
  ∃ (l:List Nat) (o:Option Addr) (c:Nat),v=.slice o l.length c∧By l∧(l.length≤c∧c≤9223372036854775807)∧(o=none→c=0)∧(0 < c→∀ a,o=some a→a.spot=none)∧Bs w o l:=by
 obtain ⟨a1,len,cap,rfl⟩:=okWide_slice bS hv
 obtain ⟨fuel,hf⟩:=h
 obtain ⟨o,l,c,e,h1,h2,h3,h4,h5⟩:=OC (v:=.slice a1 len cap) hf
 exact ⟨l,o,c,e,h2,h3,h4,h5,h1⟩
end
end Pk
namespace Pk
open Go Go.RowKit
theorem Turn.below {p:Nat} {v v':Value} {l:List Nat} {lost:Bool} {w W X:World} (t:Turn p v v' W X) (hb:Below w.heap.size w W) (hp:w.heap.size≤p) (hw:PW w.heap.size p v l lost W):Below w.heap.size w X :=
 ⟨t.os.trans hb.os,t.tape.trans hb.tape,t.output.trans hb.output,bH hb.size t.size,fun k hk=>(t.block k (aM hk hb.size) (by omega) (fun h=>by have:=hw.own.blk k h;omega)).trans (hb.block k hk)⟩
theorem PW.mono {B C p:Nat} {v:Value} {l:List Nat} {lost:Bool} {W:World} (hB:B≤C) (h:PW C p v l lost W):PW B p v l lost W:=⟨h.row,h.own.mono hB⟩
end Pk
namespace Pk
open Fx (eU fF dO fA)
open Go Go.RowKit
theorem PW.grown {B p:Nat} {v:Value} {l:List Nat} {lost:Bool} {W X:World} {row:Option Nat} (h:PW B p v l lost W) (hg:W.grownBy X row) (hp:some p≠row) (hr:∀ k,v.ownBlock=some k→some k≠row):PW B p v l lost X :=
 ⟨by rw [hg.block p h.lt hp];exact h.row,h.own.grown hg hr⟩
theorem PR.turn {o:Option Addr} {c:Nat} {l:List Nat} {pr eH p:Nat} {lost:Bool} {v v':Value} {W X:World} (h:PR o c l pr eH lost W) (t:Turn p v v' W X) (hp:pr≠p) (hv:v.ownBlock≠some pr) (hb:∀ b off,o=some ⟨b,off,none⟩→0 < l.length→b≠p∧v.ownBlock≠some b):PR o c l pr eH lost X :=
 ⟨by rw [t.block pr h.lt hp hv];exact h.row,h.bs.turn t hb,h.ok⟩
def AW (o2:Option Addr) (n p:Nat) (l:List Nat) (B:Nat) (W:World):Prop:=∃ v,PW B p v l false W∧∀ b off,o2=some ⟨b,off,none⟩→0 < n→v.ownBlock≠some b
theorem AW.below {o2:Option Addr} {n p B:Nat} {l:List Nat} {W X:World} (h:AW o2 n p l B W) (hb:Below W.heap.size W X):AW o2 n p l B X:=by
 obtain ⟨v,h1,h2⟩:=h
 exact ⟨v,h1.below hb,h2⟩
theorem AW.read {o2:Option Addr} {c2 n p B pr eH:Nat} {l a0:List Nat} {lost:Bool} {W X:World} (h:AW o2 n p l B W) (hr:PR o2 c2 a0 pr eH lost W) (hg:W.grownBy X (some pr)) (hne:pr≠p):AW o2 n p l B X:=by
 obtain ⟨v,h1,h2⟩:=h
 exact ⟨v,h1.grown hg (fun e=>hne (bF e).symm) (fun k hk e=>h1.own.apart hr.row (by decide) k hk (bF e)),h2⟩
end Pk
namespace Pk
open Go Go.RowKit
def Ll (p:Nat) (w w':World):Prop:=∀ v x,w.heap[p]?=some (.cells #[v,x] 81 (0,0))→∃ v' x',w'.heap[p]?=some (.cells #[v',x'] 81 (0,0))∧(v'=v∨∀ k,v'.ownBlock=some k→w.heap.size≤k)
theorem Ll.below {p:Nat} {w w1 w2:World} (h:Ll p w1 w2) (hb:Below w.heap.size w w1) (hp:p < w.heap.size):Ll p w w2:=fun v x hx=>by
 obtain ⟨v',x',h1,h2⟩:=h v x (dV hb hx)
 exact ⟨v',x',h1,h2.imp id (fun g k hk=>bH hb.size (g k hk))⟩
def Ee (B p:Nat) (l:List Nat) (lost:Bool) (w:World) (e:Ending) (w':World):Prop:=e=.returned undef∧ZW B p l lost w'∧w.grownBy w' (some p)∧Ll p w w'
theorem Own.lt {W:World} {B:Nat} {v:Value} {l:List Nat} (s:Own W B v l):∀ k,v.ownBlock=some k→k < W.heap.size:=by
 intro k hk
 obtain ⟨_,h2⟩:=s
 rcases h2 with ⟨rfl,_⟩ | ⟨g,cap,cur,rfl,hb,hg,_⟩
 ·cases hk
 ·cases hk
  exact (aC.1 hg).1
theorem Own.turn {W X:World} {B p:Nat} {u v v':Value} {l:List Nat} (s:Own W B u l) (t:Turn p v v' W X) (hp:∀ k,u.ownBlock=some k→k≠p∧v.ownBlock≠some k):Own X B u l:=by
 obtain ⟨h1,h2⟩:=s
 refine ⟨h1,?_⟩
 rcases h2 with h2 | ⟨g,cap,cur,rfl,hb,hg,h3⟩
 ·exact .inl h2
 ·obtain ⟨a,b⟩:=hp g rfl
  exact .inr ⟨g,cap,cur,rfl,hb,by rw [t.block g (aC.1 hg).1 a b];exact hg,h3⟩
structure TW (B p z:Nat) (v vz vo:Value) (l l2 m:List Nat) (lost gP:Bool) (W:World):Prop where
 pw:PW B p v l lost W
 EG:W.heap[z]?=some (.cells #[vz,.bool gP] 81 (0,0))
 LW:Own W B vz l2
 own:Own W B vo m
 d1:∀ k,v.ownBlock=some k→vz.ownBlock≠some k
 d2:∀ k,vo.ownBlock=some k→v.ownBlock≠some k∧vz.ownBlock≠some k
 ne:p≠z
def WI (B p z:Nat) (vo:Value) (l m:List Nat) (lost:Bool) (W:World):Prop:=∃ v vz,TW B p z v vz vo l l m lost lost W
def WM (B p z:Nat) (vo:Value) (l l2 m:List Nat) (lost gP:Bool) (W:World):Prop:=∃ v vz,TW B p z v vz vo l l2 m lost gP W
theorem TW.below {B p z:Nat} {v vz vo:Value} {l l2 m:List Nat} {lost gP:Bool} {W X:World} (s:TW B p z v vz vo l l2 m lost gP W) (h:Below W.heap.size W X):TW B p z v vz vo l l2 m lost gP X :=
 ⟨s.pw.below h,dV h s.EG,s.LW.below h,s.own.below h,s.d1,s.d2,s.ne⟩
theorem WI.below {B p z:Nat} {vo:Value} {l m:List Nat} {lost:Bool} {W X:World} (s:WI B p z vo l m lost W) (h:Below W.heap.size W X):WI B p z vo l m lost X:=by
 obtain ⟨v,vz,s⟩:=s
 exact ⟨v,vz,s.below h⟩
theorem TW.one {B p z:Nat} {v vz vo:Value} {l l2 l3 m:List Nat} {lost gP vC:Bool} {W X:World} {e:Ending} (s:TW B p z v vz vo l l2 m lost gP W) (h:KW B p v l3 vC W e X):WM B p z vo l3 l2 m vC gP X:=by
 obtain ⟨_,v',hp,t⟩:=h
 have a1:=s.LW.apart s.pw.row (by decide)
 have hown:=s.own
 have a2:=hown.apart s.pw.row (by decide)
 have a3:=s.pw.own.apart s.EG (by decide)
 refine ⟨v',vz,hp,?_,s.LW.turn t (fun k hk=>⟨a1 k hk,fun h=>s.d1 k h hk⟩),hown.turn t (fun k hk=>⟨a2 k hk,(s.d2 k hk).1⟩),fun k hk=>?_,fun k hk=>⟨fun h=>?_,(s.d2 k hk).2⟩,s.ne⟩
 ·rw [t.block z (aC.1 s.EG).1 (Ne.symm s.ne) (fun h=>a3 z h rfl)]
  exact s.EG
 ·rcases t.own k hk with h | h
  ·exact s.d1 k h
  ·intro h2
   have:=s.LW.lt k h2
   omega
 ·rcases t.own k h with h | h
  ·exact (s.d2 k hk).1 h
  ·have:=hown.lt k hk
   omega
theorem TW.two {B p z:Nat} {v vz vo:Value} {l l2 l3 m:List Nat} {lost gP vC:Bool} {W X:World} {e:Ending} (s:TW B p z v vz vo l l2 m lost gP W) (h:Ee B z l3 vC W e X):WM B p z vo l l3 m lost vC X:=by
 obtain ⟨_,⟨v1,hr,ho⟩,hg,hn⟩:=h
 obtain ⟨v2,x2,hr2,hv⟩:=hn _ _ s.EG
 rw [hr] at hr2
 obtain rfl:v1=v2:=by
  simp at hr2
  exact hr2.1
 have a1:=s.pw.own.apart s.EG (by decide)
 have hown:=s.own
 have a2:=hown.apart s.EG (by decide)
 refine ⟨v,v1,s.pw.grown hg (fun e=>s.ne (bF e)) (fun k hk e=>a1 k hk (bF e)),hr,ho,hown.grown hg (fun k hk e=>a2 k hk (bF e)),fun k hk=>?_,fun k hk=>⟨(s.d2 k hk).1,?_⟩,s.ne⟩
 ·rcases hv with rfl | hv
  ·exact s.d1 k hk
  ·intro h
   have h1:=hv k h
   have h2:=s.pw.own.lt k hk
   omega
 ·rcases hv with rfl | hv
  ·exact (s.d2 k hk).2
  ·intro h
   have h1:=hv k h
   have h2:=hown.lt k hk
   omega
theorem WI.both {B p z:Nat} {vo:Value} {l l3 m:List Nat} {lost vC:Bool} {w W:World} {f g:FuncId} {xs ys:Array Value} (s:WI B p z vo l m lost W) (hb:Below w.heap.size w W) (hB:B=w.heap.size) (hp:w.heap.size≤p) (hz:w.heap.size≤z)
  (h1:∀ v,PW B p v l lost W→(∀ k,vo.ownBlock=some k→k≠p∧v.ownBlock≠some k)→Own W B vo m→Calls Tryz.prog f xs W (KW B p v l3 vC W))
  (h2:∀ X,Below w.heap.size w X→ZW B z l lost X→Calls Tryz.prog g ys X (Ee B z l3 vC X)) :
  Calls Tryz.prog f xs W fun e X=>e=.returned undef∧Below w.heap.size w X∧(∀ q cs t fr,W.heap[q]?=some (.cells cs t fr)→t≠5→q≠p→X.heap[q]?=some (.cells cs t fr)) ∧
   Calls Tryz.prog g ys X fun e Y=>e=.returned undef∧WI B p z vo l3 m vC Y∧Below w.heap.size w Y∧(∀ q cs t fr,W.heap[q]?=some (.cells cs t fr)→t≠5→q≠p→q≠z→Y.heap[q]?=some (.cells cs t fr)):=by
 obtain ⟨v,vz,s⟩:=s
 have hown:=s.own
 have a2:=hown.apart s.pw.row (by decide)
 refine (h1 v s.pw (fun k hk=>⟨a2 k hk,(s.d2 k hk).1⟩) s.own).mono ?_
 intro e X hX
 have s2:=s.one hX
 obtain ⟨he,v',hp',t⟩:=hX
 have hbX:Below w.heap.size w X:=t.below hb hp (hB▸s.pw)
 obtain ⟨v2,vz2,s2⟩:=s2
 have kx:∀ q cs t fr,W.heap[q]?=some (.cells cs t fr)→t≠5→q≠p→X.heap[q]?=some (.cells cs t fr):=fun q cs ty fr hq ht Bv=>by
  rw [t.block q (aC.1 hq).1 Bv (fun h=>s.pw.own.apart hq ht q h rfl)]
  exact hq
 refine ⟨he,hbX,kx,(h2 X hbX ⟨vz2,s2.EG,s2.LW⟩).mono ?_⟩
 intro e Y hY
 have s3:=s2.two hY
 obtain ⟨he,_,hg,_⟩:=hY
 refine ⟨he,s3,hbX.grown hg hbX.size (fun k hk=>by cases hk;exact hz),fun q cs ty fr hq ht Bv hqz=>?_⟩
 have hx:=kx q cs ty fr hq ht Bv
 rw [hg.block q (aC.1 hx).1 (fun e=>hqz (bF e))]
 exact hx
def GG (W:World) (o:Option Addr) (n:Nat):Prop:=∀ i,i < n→∃ g,o=some ⟨g,0,none⟩∧(∃ y:Int,W.cell? ⟨g,i,none⟩=some (.int .u8 y))∧W.frozen? ⟨g,i,none⟩=false
theorem GG.set {W:World} {g n j:Nat} (y:Int) (h:GG W (some ⟨g,0,none⟩) n):GG (W.setCell ⟨g,j,none⟩ (.int .u8 y)) (some ⟨g,0,none⟩) n:=by
 intro i hi
 obtain ⟨g2,e,⟨x,hx⟩,hf⟩:=h i hi
 cases e
 refine ⟨g,rfl,?_,by rw [World.frozen?_setCell];exact hf⟩
 by_cases hij:i=j
 ·subst hij
  exact ⟨y,World.cell?_setCell_same' _ _ _ (by rw [hx];rfl)⟩
 ·refine ⟨x,?_⟩
  rw [World.cell?_setCell_other]
  ·exact hx
  ·intro e
   cases e
   exact hij rfl
theorem TW.take {B p z:Nat} {v vz vo:Value} {l m:List Nat} {lost:Bool} {W X:World} (s:TW B p z v vz (.slice none 0 0) l l [] lost lost W) (hB:B≤W.heap.size) (hb:Below W.heap.size W X) (ho:Own X W.heap.size vo m):TW B p z v vz vo l l m lost lost X :=
 ⟨s.pw.below hb,dV hb s.EG,s.LW.below hb,ho.mono hB,s.d1,fun k hk=>⟨fun h=>by have h1:=s.pw.own.lt k h;have h2:=ho.blk k hk;omega,fun h=>by have h1:=s.LW.lt k h;have h2:=ho.blk k hk;omega⟩,s.ne⟩
theorem GG.grown {W X:World} {o:Option Addr} {n:Nat} {row:Option Nat} (h:GG W o n) (hg:W.grownBy X row) (hr:∀ g,o=some ⟨g,0,none⟩→0 < n→some g≠row):GG X o n:=by
 intro i hi
 obtain ⟨g,e,⟨y,hy⟩,hf⟩:=h i hi
 have hne:=hr g e (by omega)
 refine ⟨g,e,⟨y,hg.cell hy hne⟩,?_⟩
 have hlt:=block_lt_of_cell hy
 have hb:=hg.block g hlt hne
 simp only [World.frozen?,hb] at hf ⊢
 exact hf
theorem GG.below {W X:World} {o:Option Addr} {n:Nat} (h:GG W o n) (hb:Below W.heap.size W X):GG X o n:=h.grown (below_grown hb none) (fun g _ _ h=>by cases h)
theorem rV {w w1 w2:World} {g:Option Nat} (h:w.grownBy w1 g) (k:w1.grownBy w2 g):w.grownBy w2 g:=h.trans k
theorem pG.open {W:World} {B:Nat} {v:Value} {l:List Int} (s:pG W B v l):∃ o cap,v=.slice o l.length cap:=by
 obtain ⟨h1,h2⟩:=s
 rcases h2 with ⟨rfl,h0⟩ | ⟨g,cap,cur,rfl,hb,hg,hc,hm,hs,ht⟩
 ·exact ⟨none,0,by rw [h0]⟩
 ·exact ⟨_,cap,rfl⟩
structure MS (o:Option Addr) (c:Nat) (l:List Nat) (p a:Nat) (lost:Bool) (v:Value) (zs:List Int) (w W:World):Prop where
 box:W.heap[w.heap.size]?=some (.cells #[.pointer (some ⟨p,0,none⟩)] 90 (0,0))
 res:W.heap[w.heap.size + 1]?=some (.cells #[v] 196 (0,0))
 rd:PR o c l p a lost W
 own:pG W (w.heap.size + 2) v zs
 grow:w.grownBy W (some p)
theorem MS.facts {o:Option Addr} {c:Nat} {l:List Nat} {p a:Nat} {lost:Bool} {v:Value} {zs:List Int} {w W:World} (s:MS o c l p a lost v zs w W) :
  W.cell? ⟨w.heap.size,0,none⟩=some (.pointer (some ⟨p,0,none⟩))∧W.cell? ⟨w.heap.size + 1,0,none⟩=some v∧W.frozen? ⟨w.heap.size + 1,0,none⟩=false :=
 ⟨(aF _ _ 0 _ _ _ s.box).trans rfl,(aF _ _ 0 _ _ _ s.res).trans rfl,dU s.res⟩
theorem MS.read {o:Option Addr} {c:Nat} {l:List Nat} {p a a2:Nat} {lost gP:Bool} {v:Value} {zs:List Int} {w W X:World} (s:MS o c l p a lost v zs w W) (hp:p < w.heap.size) (hr:PR o c l p a2 gP X) (hg:W.grownBy X (some p)):MS o c l p a2 gP v zs w X:=by
 refine ⟨?_,?_,hr,s.own.grown hg (fun k hk e=>s.own.apart s.rd.row (by decide) k hk (bF e)),s.grow.trans hg⟩
 ·rw [hg.block _ (aC.1 s.box).1 (fun e=>by have:=bF e;omega)]
  exact s.box
 ·rw [hg.block _ (aC.1 s.res).1 (fun e=>by have:=bF e;omega)]
  exact s.res
theorem MS.alloc {o:Option Addr} {c:Nat} {l:List Nat} {p a:Nat} {lost:Bool} {v:Value} {zs:List Int} {w W:World} (s:MS o c l p a lost v zs w W) (ob:Obj):MS o c l p a lost v zs w (W.alloc ob) :=
 ⟨dW s.box,dW s.res,s.rd.below ((aI _ _).alloc (aB _) _),s.own.alloc _,s.grow.trans (below_grown ((aI _ _).alloc (aB _) _) (some p))⟩
theorem MS.app {o:Option Addr} {c:Nat} {l:List Nat} {p a:Nat} {lost:Bool} {v v':Value} {zs zs':List Int} {w W X:World} (s:MS o c l p a lost v zs w W) (hp:p < w.heap.size) (iQ:∀ b off,o=some ⟨b,off,none⟩→0 < l.length→b < w.heap.size) (ho:pG X (w.heap.size + 2) v' zs') (hg:W.grownBy X v.ownBlock) :
  X.heap[w.heap.size + 1]?=some (.cells #[v] 196 (0,0))∧MS o c l p a lost v' zs' w (X.setCell ⟨w.heap.size + 1,0,none⟩ v'):=by
 have hv:=s.own.blk
 have hres:X.heap[w.heap.size + 1]?=some (.cells #[v] 196 (0,0)):=by
  rw [hg.block _ (aC.1 s.res).1 (fun e=>by have:=hv _ e.symm;omega)]
  exact s.res
 have zN:X.heap[w.heap.size]?=some (.cells #[.pointer (some ⟨p,0,none⟩)] 90 (0,0)):=by
  rw [hg.block _ (aC.1 s.box).1 (fun e=>by have:=hv _ e.symm;omega)]
  exact s.box
 have hrd:PR o c l p a lost X:=s.rd.grown hg (fun e=>by have:=hv _ e.symm;omega) (fun b off e hm h=>by have:=hv b h.symm;have:=iQ b off e hm;omega)
 have hgx:w.grownBy X (some p):=⟨hg.os.trans s.grow.os,hg.tape.trans s.grow.tape,hg.output.trans s.grow.output,bH s.grow.size hg.size,fun q hq Bv=>by
  rw [hg.block q (aM hq s.grow.size) (fun e=>by have:=hv q e.symm;omega)]
  exact s.grow.block q hq Bv⟩
 have hc:=fO X (w.heap.size + 1) 0 v'
 refine ⟨hres,by rw [aH _ _ _ _ (by show _≠w.heap.size + 1;omega)];exact zN,aK _ _ 0 _ _ v' hres,hrd.grown hc (fun e=>by have:=bF e;omega) (fun b off e hm h=>by have:=bF h;have:=iQ b off e hm;omega),
  ho.grown hc (fun k hk e=>by have:=ho.blk k hk;have:=bF e;omega),?_⟩
 exact ⟨hc.os.trans hgx.os,hc.tape.trans hgx.tape,hc.output.trans hgx.output,bH hgx.size hc.size,fun q hq Bv=>by
  rw [hc.block q (aM hq hgx.size) (fun e=>by have:=bF e;omega)]
  exact hgx.block q hq Bv⟩
theorem MS.strike {o:Option Addr} {c:Nat} {l:List Nat} {p a:Nat} {lost:Bool} {v:Value} {zs:List Int} {w W:World} (s:MS o c l p a lost v zs w W) (hp:p < w.heap.size) (iQ:∀ b off,o=some ⟨b,off,none⟩→0 < l.length→b < w.heap.size):MS o c l p a lost (.slice none 0 0) [] w (W.setCell ⟨w.heap.size + 1,0,none⟩ (.slice none 0 0)) :=
 (s.app (v':=.slice none 0 0) (zs':=[]) hp iQ (dJ _ _ _ _) (cB _ _)).2
theorem pG.mono {W:World} {B C:Nat} {v:Value} {l:List Int} (hB:B≤C) (s:pG W C v l):pG W B v l:=by
 obtain ⟨h1,h2⟩:=s
 refine ⟨h1,?_⟩
 rcases h2 with h2 | ⟨g,cap,cur,e,hb,h3⟩
 ·exact Or.inl h2
 ·exact Or.inr ⟨g,cap,cur,e,bH hB hb,h3⟩
end Pk
end Go.Proofs.YtbbhmhihpdmoiaaGreat
