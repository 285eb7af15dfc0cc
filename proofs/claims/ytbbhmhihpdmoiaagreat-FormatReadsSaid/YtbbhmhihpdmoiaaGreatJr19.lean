import Derived.Test.YtbbhmhihpdmoiaaGreatJr18
set_option linter.unusedVariables false
set_option linter.unusedSimpArgs false
set_option maxRecDepth 100000
set_option maxHeartbeats 32000000
namespace Go.Proofs.YtbbhmhihpdmoiaaGreat
namespace Fx
open Go Go.RowKit
def gF (B:Nat) (s:fH) (W:World):Prop:=W.heap[B]?=some (.cells (fZ s) 28 (0,0))
theorem gF.new (w:World) (s:fH):gF w.heap.size s (w.alloc (.cells (fZ s) 28)):=aG _ _
theorem gF.below {B:Nat} {s:fH} {w W:World} (hb:Below w.heap.size w W) (h:gF B s w):gF B s W:=dV hb h
theorem gF.at {B j:Nat} {s:fH} {W:World} (h:gF B s W):W.cell? ⟨B,j,none⟩=(jF s)[j]?:=by
 rw [aF _ _ _ _ _ _ h]
 simp [fZ]
theorem gF.c0 {B:Nat} {s:fH} {W:World} (h:gF B s W):W.cell? ⟨B,0,none⟩=some (.int .i64 s.w):=h.at
theorem gF.c1 {B:Nat} {s:fH} {W:World} (h:gF B s W):W.cell? ⟨B,1,none⟩=some (.int .i64 s.h):=h.at
theorem gF.c18 {B:Nat} {s:fH} {W:World} (h:gF B s W) (hs:jE s):W.cell? ⟨B,18,none⟩=some (.slice s.oo s.os.length s.oc):=h.at.trans (Qd hs)
theorem gF.jK {B:Nat} {s:fH} {W:World} (h:gF B s W):W.rangeAt B 2 (s.jK.map encI):=fun j v hj=>h.at.trans (Il hj)
theorem nQ.c0 {W:World} {b j:Nat} {x:fE} (h:nQ W b j x):W.cell? ⟨b,j,none⟩=some (.int .i64 x.id):=h.cells 0 _ (FC x)
theorem nQ.c17 {W:World} {b j:Nat} {x:fE} (h:nQ W b j x):W.cell? ⟨b,j + 17,none⟩=some (.slice x.vo x.vs.length x.vc):=h.cells 17 _ (uS h.wf)
theorem nQ.c18 {W:World} {b j:Nat} {x:fE} (h:nQ W b j x):W.cell? ⟨b,j + 18,none⟩=some (.slice x.tq x.ts.length x.tc):=h.cells 18 _ (uT h.wf)
theorem nQ.BQ {W:World} {b j:Nat} {x:fE} (h:nQ W b j x):W.rangeAt b (j + 1) (x.m.map encI):=fun i v hi=>by
 rw [Nat.add_assoc]
 exact h.cells (1 + i) _ (NF hi)
def kR (l:List fE) (id:Int):Option Nat:=l.findIdx? fun x=>decide (x.id=id)
def TA (o:Option Nat) (w:World) (e:Ending) (w':World):Prop:=e=.returned (.tuple #[.int .i64 ((o.getD 0:Nat):Int),.bool o.isSome])∧Below w.heap.size w w'
def mQ (n:Int):Bool:=decide (1073741824 < n) || decide (n < -1073741824)
theorem yJ (n:Int) (w:World):Calls Tryz.prog 134 #[.int .i64 n] w fun e w'=>e=.returned (.bool (mQ n))∧w'=w:=by
 by_cases h1:1073741824 < n
 ·have e:mQ n=true:=by unfold mQ;rw [aV h1];rfl
  rw [e]
  clear e
  go_enter Tryz.func134,Tryz.ntmps134
  go_wp2_with fail
  go_ret
  exact ⟨rfl,rfl⟩
 ·by_cases h2:n < -1073741824
  ·have e:mQ n=true:=by unfold mQ;rw [aV h2,Bool.or_true]
   rw [e]
   clear e
   go_enter Tryz.func134,Tryz.ntmps134
   go_wp2_with fail
   go_ret
   exact ⟨rfl,rfl⟩
  ·have e:mQ n=false:=by unfold mQ;rw [aN h1,aN h2];rfl
   rw [e]
   clear e
   go_enter Tryz.func134,Tryz.ntmps134
   go_wp2_with fail
   go_ret
   exact ⟨rfl,rfl⟩
theorem mF (x:fE):(eF x).toArray.all (·.oneCell')=true:=by
 rw [List.all_toArray,bL]
 intro v hv
 unfold eF at hv
 rcases List.mem_cons.1 hv with rfl | hv
 ·rfl
 rcases bU.1 hv with hv | hv
 ·obtain ⟨z,_,rfl⟩:=List.mem_map.1 hv
  rfl
 ·rcases List.mem_cons.1 hv with rfl | hv
  ·rfl
  rcases List.mem_cons.1 hv with rfl | hv
  ·rfl
  cases hv
structure uI (s:fH) (x:fE) (w V:World):Prop where
 sc:gF w.heap.size s V
 xr:V.heap[w.heap.size + 1]?=some (.cells (eF x).toArray 73 (0,0))
 ob:fM V s.oo s.os
 vs:gN V x.vo x.vs
 ts:iL V x.tq x.ts
 jI:Below w.heap.size w V
theorem uI.up {s:fH} {x:fE} {w V X:World} (i:uI s x w V) (hb:Below V.heap.size V X):uI s x w X :=
 ⟨i.sc.below hb,dV hb i.xr,i.ob.below hb,i.vs.below hb,i.ts.below hb,dY i.jI hb⟩
theorem uI.new {s:fH} {x:fE} {k:Nat} {w:World} (hs:jE s) (h:fM w s.oo s.os) (hx:s.os[k]?=some x):uI s x w ((w.alloc (.cells (fZ s) 28)).alloc (.cells (eF x).toArray 73)):=by
 have hB:Below w.heap.size w ((w.alloc (.cells (fZ s) 28)).alloc (.cells (eF x).toArray 73)):=by go_grown
 obtain ⟨b,off,e,hat⟩:=h k x hx
 refine ⟨dW (gF.new w s),?_,h.below hB,hat.wT.below hB,hat.IG.below hB,hB⟩
 have:=aG (w.alloc (.cells (fZ s) 28)) (.cells (eF x).toArray 73)
 rw [aR] at this
 exact this
theorem uI.at {s:fH} {x:fE} {w V:World} {j:Nat} (i:uI s x w V):V.cell? ⟨w.heap.size + 1,j,none⟩=(eF x)[j]?:=by
 rw [aF _ _ _ _ _ _ i.xr]
 simp
theorem uI.x0 {s:fH} {x:fE} {w V:World} (i:uI s x w V):V.cell? ⟨w.heap.size + 1,0,none⟩=some (.int .i64 x.id):=i.at
theorem uI.x17 {s:fH} {x:fE} {w V:World} (i:uI s x w V) (hw:kD x):V.cell? ⟨w.heap.size + 1,17,none⟩=some (.slice x.vo x.vs.length x.vc):=i.at.trans (uS hw)
theorem uI.x18 {s:fH} {x:fE} {w V:World} (i:uI s x w V) (hw:kD x):V.cell? ⟨w.heap.size + 1,18,none⟩=some (.slice x.tq x.ts.length x.tc):=i.at.trans (uT hw)
theorem uI.BQ {s:fH} {x:fE} {w V:World} (i:uI s x w V):V.rangeAt (w.heap.size + 1) 1 (x.m.map encI):=fun j v hj=>i.at.trans (NF hj)
theorem uI.jK {s:fH} {x:fE} {w V:World} (i:uI s x w V):V.rangeAt w.heap.size 2 (s.jK.map encI):=i.sc.jK
def oZ (v:List Int):Bool:=!(mQ (v.getD 0 0) || mQ (v.getD 1 0) || mQ (v.getD 2 0))
def qH (n:Int) (t:iH):Bool:=!(decide (t.a < 0) || decide (t.b < 0) || decide (t.c < 0) || decide (n≤t.a) || decide (n≤t.b) || decide (n≤t.c))
def qG (s:fH) (x:fE) (k:Nat):Bool:=(s.os.take k).all (fun y=>decide (y.id≠x.id)) && (decide (1≤x.id) && decide (x.id≤65535))
def tN (s:fH) (x:fE) (k:Nat):Bool:=x.vs.all oZ && decide ((x.vs.length:Int)≤64)
def tL (s:fH) (x:fE) (k:Nat):Bool:=x.ts.all (qH (x.vs.length:Int)) && decide ((x.ts.length:Int)≤64)
theorem AX {α:Type} {l:List α} {p:α→Bool} {k:Nat} {x:α} (hx:l[k]?=some x) (h:(l.take k).all p=true):(l.take (k + 1)).all p=p x:=by
 rw [dH,hx,List.all_append,h]
 simp
theorem OH {α:Type} {l:List α} {p:α→Bool} {k:Nat} {x:α} (hx:l[k]?=some x) (h:p x=false):l.all p=false:=by
 rw [List.all_eq_false]
 exact ⟨x,bJ hx,by simp [h]⟩
theorem He (s:fH) (x:fE) (k:Nat) (w:World) (hs:jE s) (h:fM w s.oo s.os) (hx:s.os[k]?=some x) :
  Calls Tryz.prog 105 #[.agg (fZ s),.int .i64 (k:Int),.int .i64 7] w (gH (tN s x k) w):=by
 have HI:Hid (uI s x w ((w.alloc (.cells (fZ s) 28)).alloc (.cells (eF x).toArray 73))):=aA (uI.new hs h hx)
 have HS:=aA hs
 have Fj:=aA hx
 obtain ⟨b,off,e,vH⟩:=h k x hx
 have hat:=vH.below (show Below w.heap.size w (w.alloc (.cells (fZ s) 28)) by go_grown)
 have HR:=aA hat.cells
 have HX:=aA hat.wf
 have kZ:=aA (show (Tryz.prog.info? 73).map (·.size)=some (eF x).length by rw [eZ hat.wf];kernel_rfl)
 have nM:=aA (show (Tryz.prog.info? 73).map (·.size)=some (eF x).toArray.size by rw [aL,eZ hat.wf];kernel_rfl)
 have HL:=aA (show 19=(eF x).toArray.size by rw [aL,eZ hat.wf])
 have mY:=aA (mF x)
 have c18:(w.alloc (.cells (fZ s) 28)).cell? ⟨w.heap.size,18,none⟩=some (.slice s.oo s.os.length s.oc):=(gF.new w s).c18 hs
 have hkl:k < s.os.length:=(bD.1 hx).1
 have hcap:=hs.cap.1
 rw [e] at c18
 obtain ⟨n,hn⟩:∃ n,s.os.length=n:=⟨_,rfl⟩
 have HN:=aA hn
 rw [hn] at c18 hcap hkl
 have n0:(0:Int)≤(n:Int):=by omega
 have n1:(n:Int)≤9223372036854775807:=by omega
 have k0:(0:Int)≤(k:Int):=by omega
 have k1:(k:Int) < (n:Int):=by omega
 have EO:=aA e
 clear hn hs h hx hat vH hkl hcap e
 go_enter Tryz.func105,Tryz.ntmps105
 go_wp2_with (first | (refine wpList_load_mid rfl 73 (.tmp 22) rfl b (off + k * 19) rfl (eF x) _ HR.out bV rfl kZ.out ?_) | (refine fB rfl 73 (.tmp 7) (.tmp 23) rfl (w.heap.size + 1) _ _ (eF x).toArray rfl (aR _ _) rfl nM.out HL.out mY.out ?_;generalize ((w.alloc (.cells (fZ s) 28)).alloc (.cells (eF x).toArray 73))=V at HI ⊢;clear c18 HR;have c17:=HI.out.x17 HX.out))
 have Yf:=HX.out.UA.1
 obtain ⟨m,hm⟩:∃ m,x.vs.length=m:=⟨_,rfl⟩
 have HM:=aA hm
 rw [hm] at c17 Yf
 have m0:(0:Int)≤(m:Int):=by omega
 have m1:(m:Int)≤9223372036854775807:=by omega
 clear hm Yf
 go_loop [12] (fun u=>∃ i:Nat,u=.int .i64 (i:Int)∧i≤m∧(x.vs.take i).all oZ=true) (fun u=>m - (intOf u).toNat)
 case atStart=>exact ⟨0,rfl,by omega,rfl⟩
 case round =>
  obtain ⟨i,rfl,hi,ha⟩:=hrel
  have HA:=aA ha
  clear ha
  have i0:(0:Int)≤(i:Int):=by omega
  by_cases him:i < m
  ·have t2:(i:Int) < (m:Int):=by omega
   have hil:i < x.vs.length:=by rw [HM.out];exact him
   obtain ⟨v,hv⟩:∃ v,x.vs[i]?=some v:=⟨_,aJ hil⟩
   obtain ⟨b2,off2,e2,hrg,hvw⟩:=HI.out.vs i v hv
   have hl:=hvw.len
   have d0:V.cell? ⟨b2,off2 + i * 3,none⟩=some (.int .i64 (v.getD 0 0)):=hrg 0 _ (by rw [cO,aJ (by omega)];simp [encI,List.getD,aJ (show 0 < v.length by omega)])
   have d1:V.cell? ⟨b2,off2 + i * 3 + 1,none⟩=some (.int .i64 (v.getD 1 0)):=hrg 1 _ (by rw [cO,aJ (by omega)];simp [encI,List.getD,aJ (show 1 < v.length by omega)])
   have d2:V.cell? ⟨b2,off2 + i * 3 + 2,none⟩=some (.int .i64 (v.getD 2 0)):=hrg 2 _ (by rw [cO,aJ (by omega)];simp [encI,List.getD,aJ (show 2 < v.length by omega)])
   have HF:Hid (oZ v = !(mQ (v.getD 0 0) || mQ (v.getD 1 0) || mQ (v.getD 2 0))):=aA rfl
   have HT:=aA (AX hv HA.out)
   have pJ:Hid (oZ v=false→tN s x k=false):=aA (fun h=>by unfold tN;rw [OH hv h];rfl)
   rw [e2] at c17
   clear hv hrg hvw hl e2
   generalize v.getD 0 0=z0 at d0 HF
   generalize v.getD 1 0=z1 at d1 HF
   generalize v.getD 2 0=z2 at d2 HF
   obtain ⟨f0,hf0⟩:∃ f,mQ z0=f:=⟨_,rfl⟩
   obtain ⟨f1,hf1⟩:∃ f,mQ z1=f:=⟨_,rfl⟩
   obtain ⟨f2,hf2⟩:∃ f,mQ z2=f:=⟨_,rfl⟩
   have F0:=aA (fun W=>hf0▸yJ z0 W)
   have F1:=aA (fun W=>hf1▸yJ z1 W)
   have F2:=aA (fun W=>hf2▸yJ z2 W)
   rw [hf0,hf1,hf2] at HF
   clear hf0 hf1 hf2
   go_wp2_with fail
   refine (F0.out _).mono ?_
   rintro e w1 ⟨rfl,rfl⟩
   go_wp2_with fail
   refine (F1.out _).mono ?_
   rintro e w1 ⟨rfl,rfl⟩
   go_wp2_with fail
   refine (F2.out _).mono ?_
   rintro e w1 ⟨rfl,rfl⟩
   cases hc:(f0 || f1 || f2)
   ·obtain ⟨⟨rfl,rfl⟩,rfl⟩:(f0=false∧f1=false)∧f2=false:=by simpa using hc
    go_wp2_with fail
    go_round
    case rel=>exact ⟨i + 1,by go_num,by omega,by rw [HT.out,HF.out];rfl⟩
    case measure=>simp [intOf];omega
   ·have hff:oZ v=false:=by rw [HF.out,hc];rfl
    have HR2:=aA (pJ.out hff)
    clear hff HF HT pJ
    rcases f0 with _ | _ <;> rcases f1 with _ | _ <;> rcases f2 with _ | _ <;> first | (simp at hc;done) | (clear hc;go_wp2_with fail;go_ret;exact ⟨by rw [HR2.out];rfl,HI.out.jI⟩)
  ·obtain rfl:i=m:=by omega
   have t2:¬ (i:Int) < (i:Int):=by omega
   have HE:Hid (x.vs.all oZ=true):=aA (by have:=HA.out;rw [bO (by rw [HM.out];omega)] at this;exact this)
   by_cases h64:(i:Int)≤64
   ·go_wp2_with fail
    go_ret
    exact ⟨by unfold tN;rw [HE.out,HM.out,aV h64];rfl,HI.out.jI⟩
   ·go_wp2_with fail
    go_ret
    exact ⟨by unfold tN;rw [HE.out,HM.out,aN (show ¬ (i:Int)≤64 by omega)];rfl,HI.out.jI⟩
def T8Rel (s:fH) (x:fE) (w:World) (m:Nat) (g:Nat) (u:Value) (W:World):Prop :=
 ∃ i,g=m - i∧u=.int .i64 (i:Int)∧i≤m∧(x.ts.take i).all (qH (x.vs.length:Int))=true∧uI s x w W
def T4Rel (s:fH) (x:fE) (w:World) (k:Nat) (g:Nat) (u:Value) (W:World):Prop :=
 ∃ i,g=k - i∧u=.int .i64 (i:Int)∧i≤k∧(s.os.take i).all (fun y=>decide (y.id≠x.id))=true∧uI s x w W
theorem Hd (s:fH) (x:fE) (k:Nat) (w:World) (hs:jE s) (h:fM w s.oo s.os) (hx:s.os[k]?=some x) :
  Calls Tryz.prog 105 #[.agg (fZ s),.int .i64 (k:Int),.int .i64 8] w (gH (tL s x k) w):=by
 have HI:Hid (uI s x w ((w.alloc (.cells (fZ s) 28)).alloc (.cells (eF x).toArray 73))):=aA (uI.new hs h hx)
 have HS:=aA hs
 have Fj:=aA hx
 obtain ⟨b,off,e,vH⟩:=h k x hx
 have hat:=vH.below (show Below w.heap.size w (w.alloc (.cells (fZ s) 28)) by go_grown)
 have HR:=aA hat.cells
 have HX:=aA hat.wf
 have kZ:=aA (show (Tryz.prog.info? 73).map (·.size)=some (eF x).length by rw [eZ hat.wf];kernel_rfl)
 have nM:=aA (show (Tryz.prog.info? 73).map (·.size)=some (eF x).toArray.size by rw [aL,eZ hat.wf];kernel_rfl)
 have HL:=aA (show 19=(eF x).toArray.size by rw [aL,eZ hat.wf])
 have mY:=aA (mF x)
 have c18:(w.alloc (.cells (fZ s) 28)).cell? ⟨w.heap.size,18,none⟩=some (.slice s.oo s.os.length s.oc):=(gF.new w s).c18 hs
 have hkl:k < s.os.length:=(bD.1 hx).1
 have hcap:=hs.cap.1
 rw [e] at c18
 obtain ⟨n,hn⟩:∃ n,s.os.length=n:=⟨_,rfl⟩
 have HN:=aA hn
 rw [hn] at c18 hcap hkl
 have n0:(0:Int)≤(n:Int):=by omega
 have n1:(n:Int)≤9223372036854775807:=by omega
 have k0:(0:Int)≤(k:Int):=by omega
 have k1:(k:Int) < (n:Int):=by omega
 have EO:=aA e
 clear hn hs h hx hat vH hkl hcap e
 go_enter Tryz.func105,Tryz.ntmps105
 go_wp2_with (first | (refine wpList_load_mid rfl 73 (.tmp 22) rfl b (off + k * 19) rfl (eF x) _ HR.out bV rfl kZ.out ?_) | (refine fB rfl 73 (.tmp 7) (.tmp 23) rfl (w.heap.size + 1) _ _ (eF x).toArray rfl (aR _ _) rfl nM.out HL.out mY.out ?_;generalize ((w.alloc (.cells (fZ s) 28)).alloc (.cells (eF x).toArray 73))=V at HI ⊢;clear c18 HR;have c17:=HI.out.x17 HX.out))
 have Yf:=HX.out.UA.1
 have htc:=HX.out.YV.1
 obtain ⟨m,hm⟩:∃ m,x.ts.length=m:=⟨_,rfl⟩
 obtain ⟨q,hq⟩:∃ q,x.vs.length=q:=⟨_,rfl⟩
 have HM:=aA hm
 have HQ:=aA hq
 rw [hm] at htc
 rw [hq] at c17 Yf
 have m0:(0:Int)≤(m:Int):=by omega
 have m1:(m:Int)≤9223372036854775807:=by omega
 have q0:(0:Int)≤(q:Int):=by omega
 have q1:(q:Int)≤9223372036854775807:=by omega
 clear hm hq Yf htc
 go_wp2_with fail
 rw [HQ.out]
 go_wp2_with fail
 clear c17
 go_loopg [17] m (T8Rel s x w m)
 case atStart=>exact ⟨0,rfl,rfl,by omega,rfl,HI.out⟩
 case round =>
  clear HI
  obtain ⟨i,hg,rfl,hi,ha,I⟩:=hrel
  have HI:=aA I
  have HA:=aA ha
  subst hg
  have c18:=I.x18 HX.out
  rw [HM.out] at c18
  clear ha I
  have i0:(0:Int)≤(i:Int):=by omega
  by_cases him:i < m
  ·have t2:(i:Int) < (m:Int):=by omega
   have hil:i < x.ts.length:=by rw [HM.out];exact him
   obtain ⟨t,ht⟩:∃ t,x.ts[i]?=some t:=⟨_,aJ hil⟩
   obtain ⟨b2,off2,e2,hrg,LH⟩:=HI.out.ts i t ht
   have d0:wr.cell? ⟨b2,off2 + i * 4,none⟩=some (.int .i64 t.a):=hrg 0 _ rfl
   have d1:wr.cell? ⟨b2,off2 + i * 4 + 1,none⟩=some (.int .i64 t.b):=hrg 1 _ rfl
   have d2:wr.cell? ⟨b2,off2 + i * 4 + 2,none⟩=some (.int .i64 t.c):=hrg 2 _ rfl
   have d3:wr.cell? ⟨b2,off2 + i * 4 + 3,none⟩=some (.int .u32 t.col):=hrg 3 _ rfl
   have HF:Hid (qH (q:Int) t = !(decide (t.a < 0) || decide (t.b < 0) || decide (t.c < 0) || decide ((q:Int)≤t.a) || decide ((q:Int)≤t.b) || decide ((q:Int)≤t.c))):=aA rfl
   have HT:=aA (AX ht HA.out)
   have pJ:Hid (qH (q:Int) t=false→tL s x k=false):=aA (fun h=>by unfold tL;rw [HQ.out,OH ht h];rfl)
   rw [HQ.out] at HT
   rw [e2] at c18
   clear ht hrg LH e2
   generalize t.a=ta at d0 HF
   generalize t.b=tb at d1 HF
   generalize t.c=tc at d2 HF
   generalize t.col=tl at d3
   have HI2:Hid (uI s x w (wr.alloc (.cells #[.int .i64 ta,.int .i64 tb,.int .i64 tc,.int .u32 tl] 87))):=aA (HI.out.up (by go_grown))
   by_cases h1:ta < 0
   ·have HR2:=aA (pJ.out (by rw [HF.out];simp [h1]));clear HF HT pJ;go_wp2_with fail;go_ret;exact ⟨by rw [HR2.out];rfl,HI2.out.jI⟩
   ·by_cases h2:tb < 0
    ·have HR2:=aA (pJ.out (by rw [HF.out];simp [h2]));clear HF HT pJ;go_wp2_with fail;go_ret;exact ⟨by rw [HR2.out];rfl,HI2.out.jI⟩
    ·by_cases h3:tc < 0
     ·have HR2:=aA (pJ.out (by rw [HF.out];simp [h3]));clear HF HT pJ;go_wp2_with fail;go_ret;exact ⟨by rw [HR2.out];rfl,HI2.out.jI⟩
     ·by_cases h4:(q:Int)≤ta
      ·have HR2:=aA (pJ.out (by rw [HF.out];simp [h4]));clear HF HT pJ;go_wp2_with fail;go_ret;exact ⟨by rw [HR2.out];rfl,HI2.out.jI⟩
      ·by_cases h5:(q:Int)≤tb
       ·have HR2:=aA (pJ.out (by rw [HF.out];simp [h5]));clear HF HT pJ;go_wp2_with fail;go_ret;exact ⟨by rw [HR2.out];rfl,HI2.out.jI⟩
       ·by_cases h6:(q:Int)≤tc
        ·have HR2:=aA (pJ.out (by rw [HF.out];simp [h6]));clear HF HT pJ;go_wp2_with fail;go_ret;exact ⟨by rw [HR2.out];rfl,HI2.out.jI⟩
        ·have HY:=aA (HT.out.trans (HF.out.trans (show _=true by simp [h1,h2,h3,h4,h5,h6])))
         clear HF HT pJ
         go_wp2_with fail
         go_roundg (m - (i + 1))
         case measure=>omega
         case rel=>exact ⟨i + 1,rfl,by go_num,by omega,by rw [HQ.out];exact HY.out,HI2.out⟩
  ·obtain rfl:i=m:=by omega
   have t2:¬ (i:Int) < (i:Int):=by omega
   have HE:Hid (x.ts.all (qH (x.vs.length:Int))=true):=aA (by have:=HA.out;rw [bO (by rw [HM.out];omega)] at this;exact this)
   by_cases h64:(i:Int)≤64
   ·go_wp2_with fail
    go_ret
    exact ⟨by unfold tL;rw [HE.out,HM.out,aV h64];rfl,HI.out.jI⟩
   ·go_wp2_with fail
    go_ret
    exact ⟨by unfold tL;rw [HE.out,HM.out,aN (show ¬ (i:Int)≤64 by omega)];rfl,HI.out.jI⟩
theorem Hl (s:fH) (x:fE) (k:Nat) (w:World) (hs:jE s) (h:fM w s.oo s.os) (hx:s.os[k]?=some x) :
  Calls Tryz.prog 105 #[.agg (fZ s),.int .i64 (k:Int),.int .i64 4] w (gH (qG s x k) w):=by
 have HI:Hid (uI s x w ((w.alloc (.cells (fZ s) 28)).alloc (.cells (eF x).toArray 73))):=aA (uI.new hs h hx)
 have HS:=aA hs
 have Fj:=aA hx
 obtain ⟨b,off,e,vH⟩:=h k x hx
 have hat:=vH.below (show Below w.heap.size w (w.alloc (.cells (fZ s) 28)) by go_grown)
 have HR:=aA hat.cells
 have HX:=aA hat.wf
 have kZ:=aA (show (Tryz.prog.info? 73).map (·.size)=some (eF x).length by rw [eZ hat.wf];kernel_rfl)
 have nM:=aA (show (Tryz.prog.info? 73).map (·.size)=some (eF x).toArray.size by rw [aL,eZ hat.wf];kernel_rfl)
 have HL:=aA (show 19=(eF x).toArray.size by rw [aL,eZ hat.wf])
 have mY:=aA (mF x)
 have c18:(w.alloc (.cells (fZ s) 28)).cell? ⟨w.heap.size,18,none⟩=some (.slice s.oo s.os.length s.oc):=(gF.new w s).c18 hs
 have hkl:k < s.os.length:=(bD.1 hx).1
 have hcap:=hs.cap.1
 rw [e] at c18
 obtain ⟨n,hn⟩:∃ n,s.os.length=n:=⟨_,rfl⟩
 have HN:=aA hn
 rw [hn] at c18 hcap hkl
 have n0:(0:Int)≤(n:Int):=by omega
 have n1:(n:Int)≤9223372036854775807:=by omega
 have k0:(0:Int)≤(k:Int):=by omega
 have k1:(k:Int) < (n:Int):=by omega
 have EO:=aA e
 clear hn hs h hx hat vH hkl hcap e
 go_enter Tryz.func105,Tryz.ntmps105
 go_wp2_with (first | (refine wpList_load_mid rfl 73 (.tmp 22) rfl b (off + k * 19) rfl (eF x) _ HR.out bV rfl kZ.out ?_) | (refine fB rfl 73 (.tmp 7) (.tmp 23) rfl (w.heap.size + 1) _ _ (eF x).toArray rfl (aR _ _) rfl nM.out HL.out mY.out ?_;generalize ((w.alloc (.cells (fZ s) 28)).alloc (.cells (eF x).toArray 73))=V at HI ⊢;clear c18 HR))
 go_loopg [8] k (T4Rel s x w k)
 case atStart=>exact ⟨0,rfl,rfl,by omega,rfl,HI.out⟩
 case round =>
  clear HI
  obtain ⟨i,hg,rfl,hi,ha,I⟩:=hrel
  have HI:=aA I
  have HA:=aA ha
  subst hg
  have c18:=I.sc.c18 HS.out
  have x0:=I.x0
  rw [HN.out,EO.out] at c18
  clear ha I
  have i0:(0:Int)≤(i:Int):=by omega
  by_cases him:i < k
  ·have t2:(i:Int) < (k:Int):=by omega
   have t3:(i:Int) < (n:Int):=by omega
   have hil:i < s.os.length:=by rw [HN.out];omega
   obtain ⟨y,hy⟩:∃ y,s.os[i]?=some y:=⟨_,aJ hil⟩
   obtain ⟨b2,off2,e2,hyt⟩:=HI.out.ob i y hy
   have d0:=hyt.c0
   rw [EO.out] at e2
   obtain ⟨rfl,rfl⟩:b=b2∧off=off2:=by injection e2 with e2;injection e2 with e3 e4;exact ⟨e3,e4⟩
   have HT:=aA (AX hy HA.out)
   have pJ:Hid (y.id=x.id→qG s x k=false):=aA (fun h=>by
    unfold qG
    have : (s.os.take k).all (fun y=>decide (y.id≠x.id))=false:=by
     refine OH (k:=i) (x:=y) ?_ (by simp [h])
     rw [List.getElem?_take,aT him]
     exact hy
    rw [this]
    rfl)
   clear hy hyt e2
   generalize y.id=yi at d0 HT pJ
   obtain ⟨xi,hxi⟩:∃ z,x.id=z:=⟨_,rfl⟩
   have HXI:=aA hxi
   rw [hxi] at x0 HT pJ
   clear hxi
   by_cases h1:yi=xi
   ·have HR2:=aA (pJ.out h1)
    clear HT pJ
    go_wp2_with fail
    go_quiet (fail)
    go_wp2_with fail
    go_ret
    exact ⟨by rw [HR2.out];rfl,oM _ HI.out.jI⟩
   ·have HY:=aA (HT.out.trans (show decide (yi≠xi)=true by simp [h1]))
    clear HT pJ
    go_wp2_with fail
    go_quiet (fail)
    go_wp2_with fail
    go_roundg (k - (i + 1))
    case measure=>omega
    case rel=>exact ⟨i + 1,rfl,by go_num,by omega,by rw [HXI.out];exact HY.out,HI.out.up (oM _ (aI _ _))⟩
  ·obtain rfl:i=k:=by omega
   have t2:¬ (i:Int) < (i:Int):=by omega
   by_cases h1:1≤x.id
   ·by_cases h2:x.id≤65535
    ·go_wp2_with fail
     go_ret
     exact ⟨by unfold qG;rw [HA.out,aV h1,aV h2];rfl,HI.out.jI⟩
    ·go_wp2_with fail
     go_ret
     exact ⟨by unfold qG;rw [HA.out,aV h1,aN (show ¬ x.id≤65535 by omega)];rfl,HI.out.jI⟩
   ·go_wp2_with fail
    go_ret
    exact ⟨by unfold qG;rw [HA.out,aN (show ¬ 1≤x.id by omega)];rfl,HI.out.jI⟩
end Fx
namespace Fx
open Go Go.RowKit Go.Shelf Wm
theorem eO {P:Program} {o:Oper} {a:Act} {w:World} (ty:TypeId) (x:Operand) (ho:o.op=.load ty x)
  (g:Nat) (hx:a.eval x=.pointer (some ⟨g,0,none⟩)) (t:TypeId) (cs:Array Value) (fr:Nat×Nat) (d:TypeDesc) (hg:w.heap[g]?=some (.cells cs t fr))
  (hu:P.underlying ty=some d) (hd:(match d with | .struct _ | .array _ _=>true | _=>false)=true) (hi:(P.info? ty).map (·.size)=some cs.size) :
  (execOp a.eval o).run P w=.ok (.value (.agg cs)) w:=by
 unfold execOp
 simp only [ho,hx,Instr.loadAt,Instr.sureAddr,Sem.run_bind,Sem.run_pure,Result.andThen_ok,run_loadVar_row w g t ty cs fr d hg hu hd hi]
def pO (f:Nat) (args:Array Value) (v:Value):Prop:=∀ w,Calls Tryz.prog f args w fun e w'=>e=.returned v∧Below w.heap.size w w'
theorem eY {F:Fence} {n:Nat} {P:Program} {o:Oper} {a:Act} {w:World} {K:Act→World→Prop} {Q:Exit→Act→World→Prop} (hF:∀ f,F.fn f) (ty:TypeId) (x y:Operand) (ho:o.op=.store ty x y)
  (g:Nat) (t:TypeId) (c c':Array Value) (hx:a.eval x=.pointer (some ⟨g,0,none⟩)) (hy:a.eval y=.agg c') (hg:w.heap[g]?=some (.cells c t (0,0)))
  (hi:(P.info? ty).map (·.size)=some c'.size) (hs:c.size=c'.size) (h1:c'.all (·.oneCell')=true) (h:K (a.put o.dst undef) (w.setRow g c')):Oper.wpIn F n P o a w K Q:=by
 unfold Oper.wpIn
 rw [Oper.semAt_plain F _ _ (by intro c e;rw [ho] at e;cases e)]
 unfold execOp
 simp only [ho,hx,hy,Instr.storeAt,Instr.sureAddr,Sem.run_bind,Sem.run_pure,Result.andThen_ok,run_storeVar_row w g t ty c c' hg hi hs h1,Oper.uponIn]
 exact ⟨fun f _=>hF f,h⟩
end Fx
end Go.Proofs.YtbbhmhihpdmoiaaGreat
