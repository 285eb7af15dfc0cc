import Derived.Test.YtbbhmhihpdmoiaaGreatJr23
set_option linter.unusedVariables false
set_option linter.unusedSimpArgs false
set_option maxRecDepth 100000
set_option maxHeartbeats 32000000
namespace Go.Proofs.YtbbhmhihpdmoiaaGreat
namespace Fx
open Go Go.RowKit
def vF (s:fH) (x:fE) (k:Nat):Bool:=wB 16777216 x.m 16
def Jk (o:Option (List Int)):Bool:=match o with
 | none=>false
 | some m=>wB 67108864 m 16
def zI (s:fH) (x:fE) (k:Nat):Bool:=Jk (oU s.jK x.m)
theorem nY {m:List Int} (h:m.length=16):(Tryz.prog.info? 25).map (·.size)=some (m.map encI).length:=by rw [iW,bI,h]
theorem yX {V:World} {b:Nat} {m:List Int} {t:TypeId} {fr:Nat×Nat} (h:V.heap[b]?=some (.cells (mC m) t fr)):V.rangeAt b 0 (m.map encI):=fun j v hj=>by
 rw [aF _ _ _ _ _ _ h,bB]
 simpa [mC] using hj
theorem uX {a b m:List Int} (h:oU a b=some m):m.length=16:=by
 unfold oU at h
 split at h
 ·cases h;rfl
 ·cases h
theorem Hg (s:fH) (x:fE) (k:Nat) (w:World) (hs:jE s) (h:fM w s.oo s.os) (hx:s.os[k]?=some x) :
  Calls Tryz.prog 105 #[.agg (fZ s),.int .i64 (k:Int),.int .i64 5] w (gH (vF s x k) w):=by
 have HI:Hid (uI s x w ((w.alloc (.cells (fZ s) 28)).alloc (.cells (eF x).toArray 73))):=aA (uI.new hs h hx)
 have HS:=aA hs
 have Fj:=aA hx
 obtain ⟨b,off,e,vH⟩:=h k x hx
 have hat:=vH.below (show Below w.heap.size w (w.alloc (.cells (fZ s) 28)) by go_grown)
 have HR:=aA hat.cells
 have HX:=aA hat.wf
 have kZ:=aA (show (Tryz.prog.info? 73).map (·.size)=some (eF x).length by rw [eZ hat.wf];kernel_rfl)
 have nM:=aA (show (Tryz.prog.info? 73).map (·.size)=some (eF x).toArray.size by rw [aL,eZ hat.wf];kernel_rfl)
 have HL:=aA (show 19=(eF x).toArray.size by rw [aL,eZ hat.wf])
 have mY:=aA (mF x)
 have c18:(w.alloc (.cells (fZ s) 28)).cell? ⟨w.heap.size,18,none⟩=some (.slice s.oo s.os.length s.oc):=(gF.new w s).c18 hs
 have hkl:k < s.os.length:=(bD.1 hx).1
 have hcap:=hs.cap.1
 rw [e] at c18
 obtain ⟨n,hn⟩:∃ n,s.os.length=n:=⟨_,rfl⟩
 have HN:=aA hn
 rw [hn] at c18 hcap hkl
 have n0:(0:Int)≤(n:Int):=by omega
 have n1:(n:Int)≤9223372036854775807:=by omega
 have k0:(0:Int)≤(k:Int):=by omega
 have k1:(k:Int) < (n:Int):=by omega
 have EO:=aA e
 clear hn hs h hx hat vH hkl hcap e
 go_enter Tryz.func105,Tryz.ntmps105
 have hM:=aA (nY HX.out.len)
 go_wp2_with (first | (refine wpList_load_mid rfl 73 (.tmp 22) rfl b (off + k * 19) rfl (eF x) _ HR.out bV rfl kZ.out ?_) | (refine fB rfl 73 (.tmp 7) (.tmp 23) rfl (w.heap.size + 1) _ _ (eF x).toArray rfl (aR _ _) rfl nM.out HL.out mY.out ?_;generalize ((w.alloc (.cells (fZ s) 28)).alloc (.cells (eF x).toArray 73))=V at HI ⊢;clear c18 HR) | (refine wpList_load_mid rfl 25 (.tmp 51) rfl (w.heap.size + 1) 1 rfl (x.m.map encI) _ HI.out.BQ aP rfl hM.out ?_))
 refine (lZ x.m 16777216 V HX.out.len (by omega) (by omega)).mono ?_
 rintro e w1 ⟨rfl,hb⟩
 have HB1:=aA hb
 clear hb
 go_wp2_with fail
 go_ret
 exact ⟨rfl,dY HI.out.jI HB1.out⟩
theorem Hf (s:fH) (x:fE) (k:Nat) (w:World) (hs:jE s) (h:fM w s.oo s.os) (hx:s.os[k]?=some x) :
  Calls Tryz.prog 105 #[.agg (fZ s),.int .i64 (k:Int),.int .i64 6] w (gH (zI s x k) w):=by
 have HI:Hid (uI s x w ((w.alloc (.cells (fZ s) 28)).alloc (.cells (eF x).toArray 73))):=aA (uI.new hs h hx)
 have HS:=aA hs
 have Fj:=aA hx
 obtain ⟨b,off,e,vH⟩:=h k x hx
 have hat:=vH.below (show Below w.heap.size w (w.alloc (.cells (fZ s) 28)) by go_grown)
 have HR:=aA hat.cells
 have HX:=aA hat.wf
 have kZ:=aA (show (Tryz.prog.info? 73).map (·.size)=some (eF x).length by rw [eZ hat.wf];kernel_rfl)
 have nM:=aA (show (Tryz.prog.info? 73).map (·.size)=some (eF x).toArray.size by rw [aL,eZ hat.wf];kernel_rfl)
 have HL:=aA (show 19=(eF x).toArray.size by rw [aL,eZ hat.wf])
 have mY:=aA (mF x)
 have c18:(w.alloc (.cells (fZ s) 28)).cell? ⟨w.heap.size,18,none⟩=some (.slice s.oo s.os.length s.oc):=(gF.new w s).c18 hs
 have hkl:k < s.os.length:=(bD.1 hx).1
 have hcap:=hs.cap.1
 rw [e] at c18
 obtain ⟨n,hn⟩:∃ n,s.os.length=n:=⟨_,rfl⟩
 have HN:=aA hn
 rw [hn] at c18 hcap hkl
 have n0:(0:Int)≤(n:Int):=by omega
 have n1:(n:Int)≤9223372036854775807:=by omega
 have k0:(0:Int)≤(k:Int):=by omega
 have k1:(k:Int) < (n:Int):=by omega
 have EO:=aA e
 clear hn hs h hx hat vH hkl hcap e
 go_enter Tryz.func105,Tryz.ntmps105
 have hM:=aA (nY HX.out.len)
 have hC:=aA (nY HS.out.len)
 go_wp2_with (first | (refine wpList_load_mid rfl 73 (.tmp 22) rfl b (off + k * 19) rfl (eF x) _ HR.out bV rfl kZ.out ?_) | (refine fB rfl 73 (.tmp 7) (.tmp 23) rfl (w.heap.size + 1) _ _ (eF x).toArray rfl (aR _ _) rfl nM.out HL.out mY.out ?_;generalize ((w.alloc (.cells (fZ s) 28)).alloc (.cells (eF x).toArray 73))=V at HI ⊢;clear c18 HR) | (refine wpList_load_mid rfl 25 (.tmp 57) rfl w.heap.size 2 rfl (s.jK.map encI) _ HI.out.jK aP rfl hC.out ?_) | (refine wpList_load_mid rfl 25 (.tmp 59) rfl (w.heap.size + 1) 1 rfl (x.m.map encI) _ HI.out.BQ aP rfl hM.out ?_))
 refine (TU s.jK x.m V HS.out.len HX.out.len HS.out.num HX.out.num).mono ?_
 unfold SY
 obtain ⟨r,hr⟩:∃ r,oU s.jK x.m=r:=⟨_,rfl⟩
 have HK:Hid (zI s x k=Jk r):=aA (by unfold zI;rw [hr])
 have BU:Hid ((r.getD eX).length=16):=aA (by
  cases r with
  | none=>rfl
  | some m=>exact uX hr)
 have HE:Hid (Jk r=((if r.isSome then (0:Int) else 30) == 0 && wB 67108864 (r.getD eX) 16)):=aA (by
  cases r with
  | none=>rfl
  | some m=>rfl)
 rw [hr]
 clear hr
 generalize (r.getD eX)=u at BU HE ⊢
 generalize (if r.isSome then (0:Int) else 30)=er at HE ⊢
 rintro e w1 ⟨rfl,hb⟩
 have HB1:=aA (dY HI.out.jI hb)
 clear hb
 have hU:=aA (nY BU.out)
 have hUA:=aA (show (Tryz.prog.info? 25).map (·.size)=some (mC u).size by rw [iW,fT,BU.out])
 have hUL:=aA (show 16=(mC u).size by rw [fT,BU.out])
 have Ez:=aA (yX (aG w1 (.cells (mC u) 25)))
 have HB2:Hid (Below w.heap.size w (w1.alloc (.cells (mC u) 25))):=aA (Below.alloc HB1.out HB1.out.size _)
 go_wp2_with (first | (refine fB rfl 25 (.tmp 9) (.tmp 62) rfl w1.heap.size _ _ (mC u) rfl rfl rfl hUA.out hUL.out (iY _) ?_) | (refine wpList_load_mid rfl 25 (.tmp 9) rfl w1.heap.size 0 rfl (u.map encI) _ Ez.out aP rfl hU.out ?_))
 refine (lZ u 67108864 _ BU.out (by omega) (by omega)).mono ?_
 rintro e w2 ⟨rfl,hb⟩
 have HB3:=aA (dY HB2.out hb)
 clear hb
 obtain ⟨ok,hok⟩:∃ b,wB 67108864 u 16=b:=⟨_,rfl⟩
 rw [hok] at HE ⊢
 clear hok
 by_cases h0:er=0
 ·subst h0
  go_wp2_with fail
  go_ret
  exact ⟨by rw [HK.out,HE.out];rfl,HB3.out⟩
 ·go_wp2_with fail
  go_ret
  exact ⟨by rw [HK.out,HE.out,show (er == 0)=false by simpa using h0];rfl,HB3.out⟩
def vE (s:fH) (x:fE) (k r:Nat):Bool:=if r=4 then qG s x k else if r=5 then vF s x k else if r=6 then zI s x k else if r=7 then tN s x k else tL s x k
theorem LX (s:fH) (x:fE) (k r:Nat) (w:World) (hs:jE s) (h:fM w s.oo s.os) (hx:s.os[k]?=some x) (h4:4≤r) (h8:r≤8) :
  Calls Tryz.prog 105 #[.agg (fZ s),.int .i64 (k:Int),.int .i64 (r:Int)] w (gH (vE s x k r) w):=by
 obtain rfl | rfl | rfl | rfl | rfl:r=4∨r=5∨r=6∨r=7∨r=8:=by omega
 ·exact Hl s x k w hs h hx
 ·exact Hg s x k w hs h hx
 ·exact Hf s x k w hs h hx
 ·exact He s x k w hs h hx
 ·exact Hd s x k w hs h hx
def mW (s:fH) (r k:Nat):Bool:=match s.os[k]? with
 | some x=>!vE s x k r
 | none=>false
def lL (s:fH) (r:Nat):Option Nat:=(List.range s.os.length).find? (mW s r)
def rC (s:fH):Bool:=decide (s.w < 1) || decide (64 < s.w) || decide (s.h < 1) || decide (64 < s.h)
def gL (s:fH):Int×Int :=
 if rC s=true then (1,-1) else if wB 16777216 s.jK 16=false then (2,-1) else if 16 < s.os.length then (3,-1) else
 (([4,5,6,7,8]:List Nat).findSome? fun r=>(lL s r).map fun k=>((r:Int),(k:Int))).getD (0,-1)
theorem AP {s:fH} {r:Nat} (h:∀ k,k < s.os.length→mW s r k=false):lL s r=none:=by
 unfold lL
 rw [List.find?_eq_none]
 intro k hk
 rw [h k (by simpa using hk)]
 simp
theorem AO {s:fH} {r k:Nat} (hk:k < s.os.length) (h:∀ j,j < k→mW s r j=false) (hb:mW s r k=true):lL s r=some k:=by
 unfold lL
 rw [List.find?_eq_some_iff_append]
 refine ⟨hb,List.range k,(List.range (s.os.length - k - 1)).map (· + (k + 1)),?_,?_⟩
 ·rw [show s.os.length=k + (1 + (s.os.length - k - 1)) by omega,List.range_add,List.range_add]
  simp
  intro a ha
  omega
 ·intro j hj
  rw [h j (by simpa using hj)]
  rfl
theorem IE {s:fH} {r k:Nat} (h1:rC s=false) (h2:wB 16777216 s.jK 16=true) (h3:s.os.length≤16) (h4:4≤r) (h8:r≤8) (hn:∀ q,4≤q→q < r→lL s q=none) (hb:lL s r=some k):gL s=((r:Int),(k:Int)):=by
 unfold gL
 rw [aX (by simp [h1]),aX (by simp [h2]),aX (by omega)]
 obtain rfl | rfl | rfl | rfl | rfl:r=4∨r=5∨r=6∨r=7∨r=8:=by omega
 ·simp [List.findSome?,hb]
 ·simp [List.findSome?,hb,hn 4 (by omega) (by omega)]
 ·simp [List.findSome?,hb,hn 4 (by omega) (by omega),hn 5 (by omega) (by omega)]
 ·simp [List.findSome?,hb,hn 4 (by omega) (by omega),hn 5 (by omega) (by omega),hn 6 (by omega) (by omega)]
 ·simp [List.findSome?,hb,hn 4 (by omega) (by omega),hn 5 (by omega) (by omega),hn 6 (by omega) (by omega),hn 7 (by omega) (by omega)]
theorem CX {s:fH} (h1:rC s=false) (h2:wB 16777216 s.jK 16=true) (h3:s.os.length≤16) (hn:∀ q,4≤q→q < 9→lL s q=none):gL s=(0,-1):=by
 unfold gL
 rw [aX (by simp [h1]),aX (by simp [h2]),aX (by omega)]
 simp [List.findSome?,hn 4 (by omega) (by omega),hn 5 (by omega) (by omega),hn 6 (by omega) (by omega),hn 7 (by omega) (by omega),hn 8 (by omega) (by omega)]
structure XK (s:fH) (w V:World):Prop where
 sc:gF w.heap.size s V
 ob:fM V s.oo s.os
 jI:Below w.heap.size w V
theorem XK.up {s:fH} {w V X:World} (i:XK s w V) (hb:Below V.heap.size V X):XK s w X:=⟨i.sc.below hb,i.ob.below hb,dY i.jI hb⟩
theorem XK.new {s:fH} {w:World} (h:fM w s.oo s.os):XK s w (w.alloc (.cells (fZ s) 28)) :=
 ⟨gF.new w s,h.below (by go_grown),by go_grown⟩
theorem XK.all {s:fH} {w V:World} (i:XK s w V):V.rangeAt w.heap.size 0 (jF s):=fun j v hj=>by
 rw [bB]
 exact i.sc.at.trans hj
def WoRel (s:fH) (w:World) (g:Nat) (u:Value) (W:World):Prop :=
 ∃ r,g=9 - r∧u=.int .i64 (r:Int)∧4≤r∧r≤9∧(∀ q,4≤q→q < r→lL s q=none)∧XK s w W
def WiRel (s:fH) (w:World) (n r:Nat) (g:Nat) (u:Value) (W:World):Prop :=
 ∃ k,g=n - k∧u=.int .i64 (k:Int)∧k≤n∧(∀ j,j < k→mW s r j=false)∧XK s w W
def pF (p:Int×Int) (w:World) (e:Ending) (w':World):Prop:=e=.returned (.tuple #[.int .i64 p.1,.int .i64 p.2])∧Below w.heap.size w w'
theorem LU (s:fH) (w:World) (hs:jE s) (h:fM w s.oo s.os) :
  Calls Tryz.prog 65 #[.agg (fZ s)] w (pF (gL s) w):=by
 have HI:=aA (XK.new h)
 have HS:=aA hs
 have c0:(w.alloc (.cells (fZ s) 28)).cell? ⟨w.heap.size,0,none⟩=some (.int .i64 s.w):=(gF.new w s).c0
 have c1:(w.alloc (.cells (fZ s) 28)).cell? ⟨w.heap.size,1,none⟩=some (.int .i64 s.h):=(gF.new w s).c1
 have HZ:Hid (rC s=(decide (s.w < 1) || decide (64 < s.w) || decide (s.h < 1) || decide (64 < s.h))):=aA rfl
 have HBAD:Hid (rC s=true→gL s=(1,-1)):=aA (fun h=>by unfold gL;rw [aT h])
 clear h hs
 generalize s.w=sw at c0 HZ
 generalize s.h=sh at c1 HZ
 by_cases h1:sw < 1
 ·have HR:=aA (HBAD.out (by rw [HZ.out];simp [h1]))
  go_enter Tryz.func65,Tryz.ntmps65
  go_wp2_with fail
  go_ret2
  exact ⟨by rw [HR.out];rfl,HI.out.jI⟩
 by_cases h2:64 < sw
 ·have HR:=aA (HBAD.out (by rw [HZ.out];simp [h2]))
  go_enter Tryz.func65,Tryz.ntmps65
  go_wp2_with fail
  go_ret2
  exact ⟨by rw [HR.out];rfl,HI.out.jI⟩
 by_cases h3:sh < 1
 ·have HR:=aA (HBAD.out (by rw [HZ.out];simp [h3]))
  go_enter Tryz.func65,Tryz.ntmps65
  go_wp2_with fail
  go_ret2
  exact ⟨by rw [HR.out];rfl,HI.out.jI⟩
 by_cases h4:64 < sh
 ·have HR:=aA (HBAD.out (by rw [HZ.out];simp [h4]))
  go_enter Tryz.func65,Tryz.ntmps65
  go_wp2_with fail
  go_ret2
  exact ⟨by rw [HR.out];rfl,HI.out.jI⟩
 have HZ0:Hid (rC s=false):=aA (by rw [HZ.out];simp [h1,h2,h3,h4])
 have hC:=aA (nY HS.out.len)
 clear HBAD HZ
 go_enter Tryz.func65,Tryz.ntmps65
 go_wp2_with (refine wpList_load_mid rfl 25 (.tmp 25) rfl w.heap.size 2 rfl (s.jK.map encI) _ HI.out.sc.jK aP rfl hC.out ?_)
 clear c0 c1 h1 h2 h3 h4
 generalize (w.alloc (.cells (fZ s) 28))=V at HI ⊢
 refine (lZ s.jK 16777216 V HS.out.len (by omega) (by omega)).mono ?_
 obtain ⟨ok,hok⟩:∃ b,wB 16777216 s.jK 16=b:=⟨_,rfl⟩
 have jY:=aA hok
 rw [hok]
 clear hok
 rintro e w1 ⟨rfl,hb⟩
 have HI1:=aA (HI.out.up hb)
 clear hb HI
 cases ok
 ·have HR:Hid (gL s=(2,-1)):=aA (by unfold gL;rw [aX (by simp [HZ0.out]),aT jY.out])
  go_wp2_with fail
  go_ret2
  exact ⟨by rw [HR.out];rfl,HI1.out.jI⟩
 have c18:=HI1.out.sc.c18 HS.out
 have hcap:=HS.out.cap.1
 obtain ⟨n,hn⟩:∃ n,s.os.length=n:=⟨_,rfl⟩
 have HN:=aA hn
 rw [hn] at c18 hcap
 have n0:(0:Int)≤(n:Int):=by omega
 have n1:(n:Int)≤9223372036854775807:=by omega
 clear hn hcap
 by_cases h16:16 < n
 ·have t1:(16:Int) < (n:Int):=by omega
  have HR:Hid (gL s=(3,-1)):=aA (by unfold gL;rw [aX (by simp [HZ0.out]),aX (by simp [jY.out]),aT (by rw [HN.out];exact h16)])
  go_wp2_with fail
  go_ret2
  exact ⟨by rw [HR.out];rfl,HI1.out.jI⟩
 have t1:¬ (16:Int) < (n:Int):=by omega
 have H16:Hid (s.os.length≤16):=aA (by rw [HN.out];omega)
 clear h16
 go_wp2_with fail
 clear c18 t1
 go_loopg [5] 5 (WoRel s w)
 case atStart=>exact ⟨4,rfl,rfl,by omega,by omega,fun q h1 h2=>absurd h1 (by omega),HI1.out⟩
 case round =>
  clear HI1
  obtain ⟨r,hg,rfl,hr4,hr9,hq,I⟩:=hrel
  have HI:=aA I
  have HQ:=aA hq
  subst hg
  clear I hq
  have r0:(0:Int)≤(r:Int):=by omega
  by_cases hr:r < 9
  ·have t2:(r:Int)≤8:=by omega
   go_wp2_with fail
   go_loopg [6] n (WiRel s w n r)
   case atStart=>exact ⟨0,rfl,rfl,by omega,fun j hj=>absurd hj (by omega),HI.out⟩
   case round =>
    clear HI
    obtain ⟨k,hg,rfl,hkn,hj,I⟩:=hrel
    have HI:=aA I
    have HJ:=aA hj
    subst hg
    clear I hj
    have k0:(0:Int)≤(k:Int):=by omega
    have c18:=HI.out.sc.c18 HS.out
    rw [HN.out] at c18
    have hall:=aA (show (Tryz.prog.info? 28).map (·.size)=some (jF s).length by rw [uN HS.out];kernel_rfl)
    by_cases hk:k < n
    ·have t3:(k:Int) < (n:Int):=by omega
     obtain ⟨x,hx⟩:∃ x,s.os[k]?=some x:=⟨_,aJ (by rw [HN.out];exact hk)⟩
     have HBA:Hid (mW s r k = !vE s x k r):=aA (by unfold mW;rw [hx])
     have HC:=aA (LX s x k r _ HS.out HI.out.ob hx hr4 (by omega))
     clear hx
     go_wp2_with (refine wpList_load_mid rfl 28 (.tmp 1) rfl w.heap.size 0 rfl (jF s) _ HI.out.all bA rfl hall.out ?_)
     refine HC.out.mono ?_
     obtain ⟨kp,hkp⟩:∃ b,vE s x k r=b:=⟨_,rfl⟩
     rw [hkp] at HBA ⊢
     clear HC hkp
     rintro e w2 ⟨rfl,hb⟩
     have HI2:=aA (HI.out.up hb)
     clear hb
     cases kp
     ·have HR:Hid (gL s=((r:Int),(k:Int))):=aA (IE HZ0.out jY.out H16.out hr4 (by omega) HQ.out (AO (by rw [HN.out];exact hk) HJ.out HBA.out))
      go_wp2_with fail
      go_ret2
      exact ⟨by rw [HR.out];rfl,HI2.out.jI⟩
     ·go_wp2_with fail
      go_roundg (n - (k + 1))
      case measure=>omega
      case rel =>
       refine ⟨k + 1,rfl,by go_num,by omega,fun j hj=>?_,HI2.out⟩
       by_cases hjk:j < k
       ·exact HJ.out j hjk
       ·rw [show j=k by omega]
        exact HBA.out
    ·obtain rfl:k=n:=by omega
     have t3:¬ (k:Int) < (k:Int):=by omega
     have Fe:Hid (lL s r=none):=aA (AP fun j hj=>HJ.out j (by rw [HN.out] at hj;exact hj))
     go_wp2_with fail
     go_roundg (9 - (r + 1))
     case measure=>omega
     case rel =>
      refine ⟨r + 1,rfl,by go_num,by omega,by omega,fun q h1 h2=>?_,HI.out⟩
      by_cases hqr:q < r
      ·exact HQ.out q h1 hqr
      ·rw [show q=r by omega]
       exact Fe.out
  ·obtain rfl:r=9:=by omega
   have t2:¬ ((9:Nat):Int)≤8:=by omega
   have HR:Hid (gL s=(0,-1)):=aA (CX HZ0.out jY.out H16.out HQ.out)
   go_wp2_with fail
   go_ret2
   exact ⟨by rw [HR.out];rfl,HI.out.jI⟩
def JN (s:fH):Bool:=decide ((gL s).1=0)
theorem LY (s:fH) (w:World) (hs:jE s) (h:fM w s.oo s.os) :
  Calls Tryz.prog 34 #[.agg (fZ s)] w fun e w'=>e=.returned (.int .i64 (if JN s=true then 0 else 60))∧Below w.heap.size w w':=by
 have HI:=aA (XK.new h)
 have hall:=aA (show (Tryz.prog.info? 28).map (·.size)=some (jF s).length by rw [uN hs];kernel_rfl)
 have HC:=aA (LU s _ hs HI.out.ob)
 clear h hs
 cases hc:JN s
 ·have h0:¬ (gL s).1=0:=by simpa [JN] using hc
  have e:((if false=true then 0 else 60:Int))=60:=rfl
  rw [e]
  clear hc e
  unfold pF at HC
  generalize gL s=p at HC h0
  obtain ⟨p1,p2⟩:=p
  dsimp only at HC h0
  go_enter Tryz.func34,Tryz.ntmps34
  go_wp2_with (refine wpList_load_mid rfl 28 (.tmp 1) rfl w.heap.size 0 rfl (jF s) _ HI.out.all bA rfl hall.out ?_)
  refine HC.out.mono ?_
  rintro e w1 ⟨rfl,hb⟩
  have HB:=aA (dY HI.out.jI hb)
  clear hb
  go_wp2_with fail
  go_ret
  exact ⟨rfl,HB.out⟩
 ·have h0:(gL s).1=0:=by simpa [JN] using hc
  have e:((if true=true then 0 else 60:Int))=0:=rfl
  rw [e]
  clear hc e
  unfold pF at HC
  generalize gL s=p at HC h0
  obtain ⟨p1,p2⟩:=p
  dsimp only at HC h0
  subst h0
  go_enter Tryz.func34,Tryz.ntmps34
  go_wp2_with (refine wpList_load_mid rfl 28 (.tmp 1) rfl w.heap.size 0 rfl (jF s) _ HI.out.all bA rfl hall.out ?_)
  refine HC.out.mono ?_
  rintro e w1 ⟨rfl,hb⟩
  have HB:=aA (dY HI.out.jI hb)
  clear hb
  go_wp2_with fail
  go_ret
  exact ⟨rfl,HB.out⟩
def wQ (W:World) (B:Nat) (v:Value) (l:List Int):Prop:=W.ownsRow B 3 1 v l.length (l.map encI)
theorem wQ.below {w W:World} {B:Nat} {v:Value} {l:List Int} (h:Below w.heap.size w W) (s:wQ w B v l):wQ W B v l:=by
 obtain ⟨h1,h2⟩:=s
 refine ⟨h1,?_⟩
 rcases h2 with h2 | ⟨g,cap,cur,e,hb,hg,h3⟩
 ·exact Or.inl h2
 ·exact Or.inr ⟨g,cap,cur,e,hb,dV h hg,h3⟩
theorem wQ.alloc {w:World} {B:Nat} {v:Value} {l:List Int} (s:wQ w B v l) (o:Obj):wQ (w.alloc o) B v l:=by
 obtain ⟨h1,h2⟩:=s
 refine ⟨h1,?_⟩
 rcases h2 with h2 | ⟨g,cap,cur,e,hb,hg,h3⟩
 ·exact Or.inl h2
 ·exact Or.inr ⟨g,cap,cur,e,hb,dW hg,h3⟩
theorem wQ.blk {w:World} {B:Nat} {v:Value} {l:List Int} (s:wQ w B v l):∀ k,v.ownBlock=some k→B≤k:=by
 intro k hk
 obtain ⟨h1,h2⟩:=s
 rcases h2 with ⟨rfl,_⟩ | ⟨g,cap,cur,rfl,hb,_⟩
 ·cases hk
 ·cases hk
  exact hb
theorem wQ.base {w:World} {B C:Nat} {v:Value} {l:List Int} (hc:C≤B) (s:wQ w B v l):wQ w C v l:=by
 obtain ⟨h1,h2⟩:=s
 refine ⟨h1,?_⟩
 rcases h2 with h2 | ⟨g,cap,cur,e,hb,hg,h3⟩
 ·exact Or.inl h2
 ·exact Or.inr ⟨g,cap,cur,e,bH hc hb,hg,h3⟩
def oN (W:World) (o:Option Addr) (l:List Int):Prop:=∀ i,i < l.length→∃ b off,o=some ⟨b,off,none⟩∧W.cell? ⟨b,off + i,none⟩=some (.int .i64 (l.getD i 0))
theorem oN.below {w W:World} {o:Option Addr} {l:List Int} (hb:Below w.heap.size w W) (h:oN w o l):oN W o l:=fun i hi=>by
 obtain ⟨b,off,e,hc⟩:=h i hi
 exact ⟨b,off,e,dN hb hc⟩
theorem wQ.form {W:World} {B:Nat} {v:Value} {l:List Int} (s:wQ W B v l):∃ o cap,v=.slice o l.length cap∧oN W o l∧l.length≤maxLen:=by
 obtain ⟨h1,h2⟩:=s
 rcases h2 with ⟨rfl,h0⟩ | ⟨g,cap,cur,rfl,hb,hg,hle,hm,hsz,htk⟩
 ·exact ⟨none,0,by rw [h0],fun i hi=>by omega,by omega⟩
 ·refine ⟨some ⟨g,0,none⟩,cap,rfl,fun i hi=>⟨g,0,rfl,?_⟩,bH hle hm⟩
  rw [aF _ _ _ _ _ _ hg,bB]
  have h3:(l.map encI)[i]?=some (.int .i64 (l.getD i 0)):=by
   rw [cO,aJ hi]
   simp [encI,List.getD,aJ hi]
  rw [←htk,List.getElem?_take,aT (by omega)] at h3
  simpa using h3
theorem gW {B:Nat} {W X Y:World} {row:Option Nat} (hB:B≤W.heap.size) (hb:Below B W X) (hg:X.grownBy Y row) (hr:∀ k,row=some k→B≤k):Below B W Y :=
 ⟨hg.os.trans hb.os,hg.tape.trans hb.tape,hg.output.trans hb.output,bH hb.size hg.size,fun k hk=>(hg.block k (aM hk (bH hB hb.size)) (fun e=>by have:=hr k e.symm;omega)).trans (hb.block k hk)⟩
theorem gM {P:Program} {o:Oper} {a:Act} {w:World} (ty:TypeId) (x:Operand) (ho:o.op=.load ty x)
  (b off:Nat) (hx:a.eval x=.pointer (some ⟨b,off,none⟩)) (cs:List Value) (d:TypeDesc) (hc:w.rangeAt b off cs)
  (hu:P.underlying ty=some d) (hd:d.isRow=true) (hi:(P.info? ty).map (·.size)=some cs.length) :
  (execOp a.eval o).run P w=.ok (.value (.agg cs.toArray)) w:=by
 unfold execOp
 simp only [ho,hx,Instr.loadAt,Instr.sureAddr,Sem.run_bind,Sem.run_pure,Result.andThen_ok,run_loadVar_mid w b off ty cs d hc hu hd hi]
def mI (s:fH) (k:Int):Option (List Int):=if 0≤k∧k < (s.os.length:Int) then (s.os[k.toNat]?).bind fun x=>oU s.jK x.m else none
def TD (o:Option (List Int)) (w:World) (e:Ending) (w':World):Prop:=e=.returned (.tuple #[.agg (mC (o.getD eX)),.int .i64 (if o.isSome then 0 else 60)])∧Below w.heap.size w w'
structure Vt (s:fH) (w V:World):Prop where
 sc:gF w.heap.size s V
 rr:dR 25 (w.heap.size + 1) (mC eX) V
 ob:fM V s.oo s.os
 jI:Below w.heap.size w V
theorem Vt.up {s:fH} {w V X:World} (i:Vt s w V) (hb:Below V.heap.size V X):Vt s w X:=⟨i.sc.below hb,i.rr.below hb,i.ob.below hb,dY i.jI hb⟩
theorem Vt.new {s:fH} {w:World} (h:fM w s.oo s.os):Vt s w ((w.alloc (.cells (fZ s) 28)).alloc (.cells #[.int .i64 0,.int .i64 0,.int .i64 0,.int .i64 0,.int .i64 0,.int .i64 0,.int .i64 0,.int .i64 0,.int .i64 0,.int .i64 0,.int .i64 0,.int .i64 0,.int .i64 0,.int .i64 0,.int .i64 0,.int .i64 0] 25)):=by
 have hB:Below w.heap.size w ((w.alloc (.cells (fZ s) 28)).alloc (.cells #[.int .i64 0,.int .i64 0,.int .i64 0,.int .i64 0,.int .i64 0,.int .i64 0,.int .i64 0,.int .i64 0,.int .i64 0,.int .i64 0,.int .i64 0,.int .i64 0,.int .i64 0,.int .i64 0,.int .i64 0,.int .i64 0] 25)):=by go_grown
 refine ⟨dW (gF.new w s),?_,h.below hB,hB⟩
 have:=aG (w.alloc (.cells (fZ s) 28)) (.cells #[.int .i64 0,.int .i64 0,.int .i64 0,.int .i64 0,.int .i64 0,.int .i64 0,.int .i64 0,.int .i64 0,.int .i64 0,.int .i64 0,.int .i64 0,.int .i64 0,.int .i64 0,.int .i64 0,.int .i64 0,.int .i64 0] 25)
 rw [aR] at this
 exact this
theorem YW {α:Type} {a b:List α} {k:Nat} {x y:α} (hx:a[k]?=some x) (hy:b[k]?=some y) (h:a.take k=b.take k) (e:x=y):a.take (k + 1)=b.take (k + 1):=by
 rw [dH,dH,h,hx,hy,e]
theorem Vw {α:Type} [DecidableEq α] {a b:List α} {k:Nat} {x y:α} (hx:a[k]?=some x) (hy:b[k]?=some y) (e:x≠y):decide (a=b)=false :=
 aN fun h=>e (by rw [h] at hx;exact bF (hx.symm.trans hy))
theorem Pz {α:Type} [DecidableEq α] {a b:List α} {n:Nat} (ha:a.length=n) (hb:b.length=n) (h:a.take n=b.take n):decide (a=b)=true :=
 aV (by rw [bO (by omega),bO (by omega)] at h;exact h)
end Fx
end Go.Proofs.YtbbhmhihpdmoiaaGreat
