import Derived.Test.YtbbhmhihpdmoiaaGreatJr15
set_option linter.unusedVariables false
set_option linter.unusedSimpArgs false
set_option maxRecDepth 100000
set_option maxHeartbeats 32000000
namespace Go.Proofs.YtbbhmhihpdmoiaaGreat
namespace Fx
open Go Go.RowKit Go.Shelf Wm
theorem Lf {m v l:List Int} (h:sI m v=some l):l.length=4:=by
 unfold sI at h
 split at h
 ·cases h;rfl
 ·cases h
theorem WJ (m v:List Int) (w:World) (hm:m.length=16) (hv:v.length=4):Calls Tryz.prog 151 #[.agg (mC m),.agg (mC v)] w (OM (sI m v) w):=by
 rw [Bf hv]
 generalize v.getD 0 0=v0
 generalize v.getD 1 0=v1
 generalize v.getD 2 0=v2
 generalize v.getD 3 0=v3
 cases h1:wB 4611686018427387904 m 16 with
 | false =>
  rw [show sI m [v0,v1,v2,v3]=none from by unfold sI;rw [aX (by rw [h1];simp)]]
  exact WH m v0 v1 v2 v3 w hm h1
 | true =>
  cases h2:wB 4611686018427387904 [v0,v1,v2,v3] 4 with
  | false =>
   rw [show sI m [v0,v1,v2,v3]=none from by unfold sI;rw [aX (by rw [h2];simp)]]
   exact WG m v0 v1 v2 v3 w hm h1 h2
  | true=>exact Dy m v0 v1 v2 v3 w hm h1 h2
def oK (a b:List Int) (r:Nat):Option (List Int):=sI a (rowOf (tr b) r)
def VX (a b:List Int) (p:Nat):Int:=((oK a b (p / 4)).getD []).getD (p % 4) 0
def LJ (a b:List Int) (r:Nat):List Int:=(List.range 16).map fun p=>if p / 4 < r then VX a b p else 0
def EB (a b:List Int):List Int:=(List.range 16).map fun p=>VX a b p
theorem yC (a b:List Int) (r:Nat):(LJ a b r).length=16:=by simp [LJ]
theorem RZ (a b:List Int):(EB a b).length=16:=by simp [EB]
theorem La (a b:List Int):LJ a b 4=EB a b:=by
 unfold LJ EB
 refine List.map_congr_left fun p hp=>?_
 rw [List.mem_range] at hp
 rw [aT (by omega)]
theorem Dq (a b:List Int):LJ a b 0=List.replicate 16 0:=by
 unfold LJ
 simp only [Nat.not_lt_zero,if_false]
 rfl
theorem Dr {a b:List Int} {r:Nat} {q0 q1 q2 q3:Int} (h:r < 4) (hc:oK a b r=some [q0,q1,q2,q3]):((((LJ a b r).set (r * 4) q0).set (r * 4 + 1) q1).set (r * 4 + 2) q2).set (r * 4 + 3) q3=LJ a b (r + 1):=by
 refine List.ext_getElem (by simp [LJ]) fun p h1 h2=>?_
 have hp:p < 16:=by simpa [LJ] using h2
 simp only [List.getElem_set]
 simp only [LJ,List.getElem_map,List.getElem_range]
 by_cases e3:r * 4 + 3=p
 ·rw [aT e3,aT (by omega)]
  unfold VX
  rw [show p / 4=r by omega,show p % 4=3 by omega,hc]
  rfl
 rw [aX e3]
 by_cases e2:r * 4 + 2=p
 ·rw [aT e2,aT (by omega)]
  unfold VX
  rw [show p / 4=r by omega,show p % 4=2 by omega,hc]
  rfl
 rw [aX e2]
 by_cases e1:r * 4 + 1=p
 ·rw [aT e1,aT (by omega)]
  unfold VX
  rw [show p / 4=r by omega,show p % 4=1 by omega,hc]
  rfl
 rw [aX e1]
 by_cases e0:r * 4=p
 ·rw [aT e0,aT (by omega)]
  unfold VX
  rw [show p / 4=r by omega,show p % 4=0 by omega,hc]
  rfl
 rw [aX e0]
 by_cases e:p / 4 < r
 ·rw [aT e,aT (by omega)]
 ·rw [aX e,aX (by omega)]
def oU (a b:List Int):Option (List Int):=if (oK a b 0).isSome=true∧(oK a b 1).isSome=true∧(oK a b 2).isSome=true∧(oK a b 3).isSome=true then some (tr (EB a b)) else none
theorem DR {a b:List Int} {r:Nat} (hr:r < 4) (h:oK a b r=none):oU a b=none:=by
 unfold oU
 rw [aX]
 have hd:r=0∨r=1∨r=2∨r=3:=by omega
 rintro ⟨h0,h1,h2,h3⟩
 rcases hd with rfl | rfl | rfl | rfl
 ·rw [h] at h0;cases h0
 ·rw [h] at h1;cases h1
 ·rw [h] at h2;cases h2
 ·rw [h] at h3;cases h3
def eX:List Int:=[0,0,0,0,0,0,0,0,0,0,0,0,0,0,0,0]
def SY (o:Option (List Int)) (w:World) (e:Ending) (w':World):Prop:=e=.returned (.tuple #[.agg (mC (o.getD eX)),.int .i64 (if o.isSome then 0 else 30)])∧Below w.heap.size w w'
theorem uO {P:Program} {fn:Func} {p u:Tmp} {ty:TypeId} (h:fn.results=#[.cell p ty,.tmp u]) (tmps:Array Value) (w:World) (g:Nat) (t:TypeId) (cs:Array Value) (fr:Nat×Nat) (d:TypeDesc) (v:Value)
  (hp:tmps.getD p undef=.pointer (some ⟨g,0,none⟩)) (hv:tmps.getD u undef=v) (hg:w.heap[g]?=some (.cells cs t fr))
  (hu:P.underlying ty=some d) (hd:(match d with | .struct _ | .array _ _=>true | _=>false)=true) (hi:(P.info? ty).map (·.size)=some cs.size) :
  (results fn tmps).run P w=.ok (.tuple #[.agg cs,v]) w:=by
 have hp':tmps[p]?.getD undef=.pointer (some ⟨g,0,none⟩):=by simpa using hp
 have hv':tmps[u]?.getD undef=v:=by simpa using hv
 simp [results,h,hp',hv',asAddr,run_loadVar_row w g t ty cs fr d hg hu hd hi]
def lG (b:Nat) (m:List Int) (W:World):Prop:=W.heap[b]?=some (.cells (mC m) 25 (0,0))
theorem lG.below {b:Nat} {m:List Int} {w W:World} (hb:Below w.heap.size w W) (h:lG b m w):lG b m W:=dV hb h
theorem lG.lt {b:Nat} {m:List Int} {W:World} (h:lG b m W):b < W.heap.size:=(aC.1 h).1
theorem lG.cell {b j:Nat} {m:List Int} {W:World} (h:lG b m W) (hj:j < m.length):W.cell? ⟨b,j,none⟩=some (.int .i64 (m.getD j 0)):=by rw [aF _ _ _ _ _ _ h,wX _ _ hj]
theorem lG.set {b j:Nat} {m:List Int} {W:World} (h:lG b m W) (x:Int):lG b (m.set j x) (W.setCell ⟨b,j,none⟩ (.int .i64 x)):=by
 unfold lG
 rw [aK _ _ _ _ _ _ h,FH]
theorem lG.other {b c j:Nat} {m:List Int} {W:World} (h:lG b m W) (v:Value) (hn:b≠c):lG b m (W.setCell ⟨c,j,none⟩ v):=by
 unfold lG
 rw [aH _ _ _ _ hn]
 exact h
structure MI (a b:List Int) (r B:Nat) (w W:World):Prop where
 ba:lG w.heap.size a W
 br:lG (w.heap.size + 1 + 1) eX W
 bc:lG B (LJ a b r) W
 hB:w.heap.size + 1 + 1 < B
 below:Below w.heap.size w W
theorem MI.up {a b:List Int} {r B:Nat} {w W X:World} (h:MI a b r B w W) (hb:Below W.heap.size W X):MI a b r B w X :=
 ⟨h.ba.below hb,h.br.below hb,h.bc.below hb,h.hB,dY h.below hb⟩
theorem MI.next {a b:List Int} {r B:Nat} {w W:World} {q0 q1 q2 q3:Int} (h:MI a b r B w W) (hr:r < 4) (hc:oK a b r=some [q0,q1,q2,q3]) :
  MI a b (r + 1) B w ((((W.setCell ⟨B,r * 4,none⟩ (.int .i64 q0)).setCell ⟨B,r * 4 + 1,none⟩ (.int .i64 q1)).setCell ⟨B,r * 4 + 2,none⟩ (.int .i64 q2)).setCell ⟨B,r * 4 + 3,none⟩ (.int .i64 q3)):=by
 have hB:=h.hB
 refine ⟨?_,?_,?_,hB,?_⟩
 ·exact (((h.ba.other _ (by omega)).other _ (by omega)).other _ (by omega)).other _ (by omega)
 ·exact (((h.br.other _ (by omega)).other _ (by omega)).other _ (by omega)).other _ (by omega)
 ·rw [←Dr hr hc]
  exact (((h.bc.set q0).set q1).set q2).set q3
 ·exact (((h.below.setCell (p:=⟨B,r * 4,none⟩) (by show _≤B;omega) _).setCell (p:=⟨B,r * 4 + 1,none⟩) (by show _≤B;omega) _).setCell (p:=⟨B,r * 4 + 2,none⟩) (by show _≤B;omega) _).setCell (p:=⟨B,r * 4 + 3,none⟩) (by show _≤B;omega) _
def MRelM (a b:List Int) (B:Nat) (w:World) (g:Nat) (s:Value) (W:World):Prop :=
 ∃ r,g=4 - r∧s=.int .i64 (r:Int)∧r≤4∧(∀ j,j < r→(oK a b j).isSome=true)∧MI a b r B w W
theorem Bb (a b:List Int) (w:World) (la:a.length=16) (lb:b.length=16):Calls Tryz.prog 141 #[.agg (mC a),.agg (mC b)] w (SY (oU a b) w):=by
 have LA:=aA la
 have LB:=aA lb
 have ia:(Tryz.prog.info? 25).map (·.size)=some (mC a).size:=by rw [iW,fT,la]
 have ib:(Tryz.prog.info? 25).map (·.size)=some (mC b).size:=by rw [iW,fT,lb]
 have IA:=aA ia
 have IB:=aA ib
 clear la lb ia ib
 have hB4:=SE w (.cells (mC a) 25) (.cells (mC b) 25) (.cells #[.int .i64 0,.int .i64 0,.int .i64 0,.int .i64 0,.int .i64 0,.int .i64 0,.int .i64 0,.int .i64 0,.int .i64 0,.int .i64 0,.int .i64 0,.int .i64 0,.int .i64 0,.int .i64 0,.int .i64 0,.int .i64 0] 25) (.cells #[.int .i64 0,.int .i64 0,.int .i64 0,.int .i64 0,.int .i64 0,.int .i64 0,.int .i64 0,.int .i64 0,.int .i64 0,.int .i64 0,.int .i64 0,.int .i64 0,.int .i64 0,.int .i64 0,.int .i64 0,.int .i64 0] 25)
 have RA:=aA hB4.1
 have RB:=aA hB4.2.1
 have RR:=aA hB4.2.2.1
 have RC:=aA hB4.2.2.2
 clear hB4
 have itr:(Tryz.prog.info? 25).map (·.size)=some (mC (tr (EB a b))).size:=by rw [iW,fT,tY]
 have iz:(mC eX).size=(mC (tr (EB a b))).size:=by rw [fT,fT,tY];rfl
 have ics:(Tryz.prog.info? 25).map (·.size)=some (mC (EB a b)).size:=by rw [iW,fT,RZ]
 have ITR:=aA itr
 have IZ:=aA iz
 have ICS:=aA ics
 clear itr iz ics
 go_enter Tryz.func141,Tryz.ntmps141
 go_wp2_with (refine wpList_load_row rfl 25 (.tmp 3) rfl (w.heap.size + 1) rfl _ _ _ _ RB.out aP rfl IB.out ?_)
 refine (AY b _ LB.out).mono ?_
 rintro e w1 ⟨rfl,hb⟩
 have MI0:MI a b 0 (w.heap.size + 1 + 1 + 1) w w1:=by
  refine ⟨dV hb RA.out,dV hb RR.out,?_,by omega,?_⟩
  ·rw [Dq];exact dV hb RC.out
  ·exact (by go_grown:Below w.heap.size w _).trans (hb.mono (by simp;omega))
 have HMI:=aA MI0
 clear MI0 RA RB RR RC hb
 go_wp2_with fail
 generalize w.heap.size + 1 + 1 + 1=B at HMI ⊢
 go_loopg [13] 4 (MRelM a b B w)
 case atStart=>exact ⟨0,rfl,rfl,by omega,fun j hj=>absurd hj (by omega),HMI.out⟩
 case round =>
  clear HMI
  obtain ⟨r,rfl,rfl,hr4,hok,I⟩:=hrel
  by_cases hr:r < 4
  ·have hix:=Bd (tr b) (tY b) r hr
   have hP:=fun w=>WJ a (rowOf (tr b) r) w LA.out rfl
   rw [show sI a (rowOf (tr b) r)=oK a b r from rfl] at hP
   have hrow:(Value.agg (mC (rowOf (tr b) r)))=.agg #[.int .i64 ((tr b).getD (r * 4) 0),.int .i64 ((tr b).getD (r * 4 + 1) 0),.int .i64 ((tr b).getD (r * 4 + 2) 0),.int .i64 ((tr b).getD (r * 4 + 3) 0)]:=rfl
   rw [hrow] at hP
   clear hrow
   have jY:=aA hok
   generalize (tr b).getD (r * 4) 0=a0 at hix hP
   generalize (tr b).getD (r * 4 + 1) 0=a1 at hix hP
   generalize (tr b).getD (r * 4 + 2) 0=a2 at hix hP
   generalize (tr b).getD (r * 4 + 3) 0=a3 at hix hP
   have HP:=aA hP
   have GY:=aA (fun W q0 q1 q2 q3 (h:MI a b r B w W) (hc:oK a b r=some [q0,q1,q2,q3])=>h.next hr hc)
   have r0:(0:Int)≤(r:Int):=by omega
   have r1:(r:Int) < 4:=by omega
   have w0lt:w.heap.size < wr.heap.size:=I.ba.lt
   have Iv:=I.up ((aI wr.heap.size wr).alloc (aB _) (.cells #[.int .i64 a0,.int .i64 a1,.int .i64 a2,.int .i64 a3] 23))
   have RA:=aA Iv.ba
   have IV:=aA Iv
   clear hP hok I Iv
   cases hc:oK a b r with
   | none =>
    have pJ:=aA (DR hr hc)
    rw [hc] at HP
    clear hc
    go_wp2_with (refine wpList_load_row rfl 25 (.tmp 2) rfl w.heap.size rfl _ _ _ _ RA.out aP rfl IA.out ?_)
    refine (HP.out _).mono ?_
    rintro e w3 ⟨rfl,hb3⟩
    have hgz:(Value.agg (mC ((none:Option (List Int)).getD [0,0,0,0])))=.agg #[.int .i64 0,.int .i64 0,.int .i64 0,.int .i64 0]:=rfl
    have hgi:(if (none:Option (List Int)).isSome=true then (0:Int) else 30)=30:=rfl
    rw [hgz,hgi]
    clear hgz hgi
    have hs3:=hb3.size
    simp only [aR] at hs3
    have I3:=(IV.out.up hb3).up ((aI w3.heap.size w3).alloc (aB _) (.cells #[.int .i64 0,.int .i64 0,.int .i64 0,.int .i64 0] 23))
    have RR3:=aA I3.br
    have BB3:=aA I3.below
    have SZ3:=aA I3.below.size
    clear I3
    go_wp2_with (refine dQ rfl 25 (.tmp 4) (.tmp 25) rfl (w.heap.size + 1 + 1) _ _ (mC eX) rfl rfl RR3.out iW rfl (iY _) ?_)
    refine aO (uO rfl _ _ (w.heap.size + 1 + 1) _ (mC eX) _ _ (.int .i64 30) rfl rfl (setRow_heap _ _ _ _ _ _ RR3.out) aP rfl iW) rfl ?_
    rw [pJ.out]
    exact ⟨rfl,Below.row BB3.out (by omega) _⟩
   | some l =>
    have hl:=Bf (Lf hc)
    rw [hl] at hc
    generalize l.getD 0 0=q0 at hc
    generalize l.getD 1 0=q1 at hc
    generalize l.getD 2 0=q2 at hc
    generalize l.getD 3 0=q3 at hc
    rw [hc] at HP
    have HC:=aA hc
    clear hc hl
    go_wp2_with (refine wpList_load_row rfl 25 (.tmp 2) rfl w.heap.size rfl _ _ _ _ RA.out aP rfl IA.out ?_)
    refine (HP.out _).mono ?_
    rintro e w3 ⟨rfl,hb3⟩
    have hs3:=hb3.size
    simp only [aR] at hs3
    have I3:=(IV.out.up hb3).up ((aI w3.heap.size w3).alloc (aB _) (.cells #[.int .i64 q0,.int .i64 q1,.int .i64 q2,.int .i64 q3] 23))
    have hBl:=I3.bc.lt
    rw [aR] at hBl
    have c0:=I3.bc.cell (j:=r * 4) (by rw [yC];omega)
    have c1:=I3.bc.cell (j:=r * 4 + 1) (by rw [yC];omega)
    have c2:=I3.bc.cell (j:=r * 4 + 2) (by rw [yC];omega)
    have c3:=I3.bc.cell (j:=r * 4 + 3) (by rw [yC];omega)
    have f0:=dU (j:=r * 4) I3.bc
    have f1:=dU (j:=r * 4 + 1) I3.bc
    have f2:=dU (j:=r * 4 + 2) I3.bc
    have f3:=dU (j:=r * 4 + 3) I3.bc
    generalize (LJ a b r).getD (r * 4) 0=y0 at c0
    generalize (LJ a b r).getD (r * 4 + 1) 0=y1 at c1
    generalize (LJ a b r).getD (r * 4 + 2) 0=y2 at c2
    generalize (LJ a b r).getD (r * 4 + 3) 0=y3 at c3
    have NX:=aA (GY.out _ q0 q1 q2 q3 I3 HC.out)
    clear I3
    have hgz:(Value.agg (mC ((some [q0,q1,q2,q3]).getD [0,0,0,0])))=.agg #[.int .i64 q0,.int .i64 q1,.int .i64 q2,.int .i64 q3]:=rfl
    have hgi:(if (some [q0,q1,q2,q3]).isSome=true then (0:Int) else 30)=0:=rfl
    rw [hgz,hgi]
    clear hgz hgi
    go_wp2_with fail
    go_roundg (4 - (r + 1))
    case measure=>omega
    case rel =>
     refine ⟨r + 1,rfl,by go_num,by omega,fun j hj=>?_,NX.out⟩
     by_cases hjr:j < r
     ·exact jY.out j hjr
     ·rw [show j=r by omega,HC.out];rfl
  ·have hre:r=4:=by omega
   subst hre
   have hall:oU a b=some (tr (EB a b)):=aT ⟨hok 0 (by omega),hok 1 (by omega),hok 2 (by omega),hok 3 (by omega)⟩
   have Uv:=aA hall
   have bc:=I.bc
   rw [La] at bc
   have BC:=aA bc
   have II:=aA I
   have hBl:=bc.lt
   have hB2:=I.hB
   clear hall bc I hok
   go_wp2_with (refine wpList_load_row rfl 25 (.tmp 6) rfl B rfl _ _ _ _ BC.out aP rfl ICS.out ?_)
   refine (AY (EB a b) _ (RZ a b)).mono ?_
   rintro e w3 ⟨rfl,hb3⟩
   have I3:=II.out.up hb3
   have RR3:=aA I3.br
   have BB3:=aA I3.below
   clear I3
   go_wp2_with (refine dQ rfl 25 (.tmp 4) (.tmp 32) rfl (w.heap.size + 1 + 1) _ _ (mC (tr (EB a b))) rfl rfl RR3.out ITR.out IZ.out (iY _) ?_)
   refine aO (uO rfl _ _ (w.heap.size + 1 + 1) _ _ _ _ (.int .i64 0) rfl rfl (setRow_heap _ _ _ _ _ _ RR3.out) aP rfl ITR.out) rfl ?_
   rw [Uv.out]
   exact ⟨rfl,Below.row BB3.out (by omega) _⟩
theorem wN (m:List Int) (bound:Int) (w:World) (hm:m.length=16) (b0:-9223372036854775808≤bound) (b1:bound≤9223372036854775807) :
  Calls Tryz.prog 99 #[.agg (mC m),.int .i64 bound] w fun e w'=>e=.returned (.int .i64 (if wB bound m 16 then 0 else 30))∧Below w.heap.size w w':=by
 cases hb:wB bound m 16 with
 | true =>
  have HW:∀ w,sJ m 4 0 w→True:=fun _ _=>trivial
  have HC:=aA (fun (w:World) g (h:sJ m 4 g w)=>(tX bound m 4 g 4 w (by omega) b0 b1 h))
  rw [show 4 * 4=16 from rfl,hb] at HC
  have HM:=aA hm
  clear hb hm HW
  go_enter Tryz.func99,Tryz.ntmps99
  go_wp2_with fail
  refine (HC.out _ _ (oW (t:=25) (aG _ _) (by rw [HM.out];omega))).mono ?_
  rintro e w1 ⟨rfl,hbb⟩
  go_wp2
  go_ret
  refine ⟨rfl,?_⟩
  exact ((aI _ w).alloc (aB _) _).trans (hbb.mono (by simp))
 | false =>
  have HC:=aA (fun (w:World) g (h:sJ m 4 g w)=>(tX bound m 4 g 4 w (by omega) b0 b1 h))
  rw [show 4 * 4=16 from rfl,hb] at HC
  have HM:=aA hm
  clear hb hm
  go_enter Tryz.func99,Tryz.ntmps99
  go_wp2_with fail
  refine (HC.out _ _ (oW (t:=25) (aG _ _) (by rw [HM.out];omega))).mono ?_
  rintro e w1 ⟨rfl,hbb⟩
  go_wp2
  go_ret
  refine ⟨rfl,?_⟩
  exact ((aI _ w).alloc (aB _) _).trans (hbb.mono (by simp))
theorem lY:∀ (xs ys:List Int),xs.length=ys.length→((List.range xs.length).all fun i=>xs.getD i 0 == ys.getD i 0)=(xs == ys)
 | [],[],_=>rfl
 | x :: xs,y :: ys,h=>by
  have ih:=lY xs ys (by simpa using h)
  rw [bK,List.range_succ_eq_map,List.all_cons,List.all_map]
  simp only [List.getD_cons_zero,Function.comp_def,List.getD_cons_succ,ih]
  simp [List.cons_beq_cons]
 | [],_ :: _,h=>by simp at h
 | _ :: _,[],h=>by simp at h
theorem Cw (w:World) (d:Nat) (xs ys:List Int) (hx:xs.length=4) (hy:ys.length=4) :
  (Op.equalIn (d + 2) 23 (.agg (mC xs)) (.agg (mC ys))).run Tryz.prog w=.ok (xs == ys) w:=by
 have ht:=dB
 have he:=Tryz.underlying2
 have hsz:=Tryz.sizeOf2
 rw [←lY xs ys (hx.trans hy.symm),hx,List.range_eq_range',Op.equalIn]
 simp only [Sem.run_bind,run_underlying ht,Result.andThen_ok,hsz,Std.Legacy.Range.forIn_eq_forIn_range',Std.Legacy.Range.size,Nat.sub_zero,dC,Nat.div_one]
 have hl:∀ i∈List.range' 0 4 1,i < 4:=fun i hi=>by simpa using (List.mem_range'_1.1 hi).2
 generalize List.range' 0 4 1=l at hl ⊢
 induction l with
 | nil=>simp
 | cons i l ih =>
  have hi:i < 4:=hl i (by simp)
  have px:(part 2 (mC xs) (i * 1)).run Tryz.prog w=.ok (encI (xs.getD i 0)) w:=by
   simp [part,mC,isAgg,run_underlying he,List.getD,aJ (show i < xs.length by omega)]
  have py:(part 2 (mC ys) (i * 1)).run Tryz.prog w=.ok (encI (ys.getD i 0)) w:=by
   simp [part,mC,isAgg,run_underlying he,List.getD,aJ (show i < ys.length by omega)]
  have pe:(Op.equalIn (d + 1) 2 (encI (xs.getD i 0)) (encI (ys.getD i 0))).run Tryz.prog w=.ok (xs.getD i 0 == ys.getD i 0) w:=by
   rw [encI,encI,run_equalIn_int w d 2 .i64 .i64 _ _ he]
  simp only [List.forIn_cons,Sem.run_bind,px,py,pe,Result.andThen_ok,List.all_cons]
  cases hb:(xs.getD i 0 == ys.getD i 0)
  ·simp
  ·simp only [Bool.not_true,bE,if_false,Sem.run_pure,Result.andThen_ok,Bool.true_and]
   exact ih fun j hj=>hl j (by simp [hj])
theorem Io {xs ys:List Int} (hx:xs.length=16) (hy:ys.length=16):((List.range 4).all fun i=>rowOf xs i == rowOf ys i)=(xs == ys):=by
 rw [Bool.eq_iff_iff,bL,beq_iff_eq]
 constructor
 ·intro h
  have h0:rowOf xs 0=rowOf ys 0:=by simpa using h 0 (by decide)
  have h1:rowOf xs 1=rowOf ys 1:=by simpa using h 1 (by decide)
  have h2:rowOf xs 2=rowOf ys 2:=by simpa using h 2 (by decide)
  have h3:rowOf xs 3=rowOf ys 3:=by simpa using h 3 (by decide)
  simp only [rowOf,Nat.zero_mul,Nat.reduceMul,bB,Nat.reduceAdd,List.cons.injEq,and_true] at h0 h1 h2 h3
  rw [FJ hx,FJ hy,h0.1,h0.2.1,h0.2.2.1,h0.2.2.2,h1.1,h1.2.1,h1.2.2.1,h1.2.2.2,h2.1,h2.2.1,h2.2.2.1,h2.2.2.2,h3.1,h3.2.1,h3.2.2.1,h3.2.2.2]
 ·rintro rfl i _
  simp
theorem Cy (w:World) (d:Nat) (xs ys:List Int) (hx:xs.length=16) (hy:ys.length=16) :
  (Op.equalIn (d + 3) 25 (.agg (mC xs)) (.agg (mC ys))).run Tryz.prog w=.ok (xs == ys) w:=by
 have ht:=aP
 have he:=dB
 have hsz:=Tryz.sizeOf23
 rw [←Io hx hy,List.range_eq_range',Op.equalIn]
 simp only [Sem.run_bind,run_underlying ht,Result.andThen_ok,hsz,Std.Legacy.Range.forIn_eq_forIn_range',Std.Legacy.Range.size,Nat.sub_zero,dC,Nat.div_one]
 have hl:∀ i∈List.range' 0 4 1,i < 4:=fun i hi=>by simpa using (List.mem_range'_1.1 hi).2
 generalize List.range' 0 4 1=l at hl ⊢
 induction l with
 | nil=>simp
 | cons i l ih =>
  have hi:i < 4:=hl i (by simp)
  have px:∀ zs:List Int,zs.length=16→(part 23 (mC zs) (i * 4)).run Tryz.prog w=.ok (.agg (mC (rowOf zs i))) w:=by
   intro zs hz
   simp [part,isAgg,run_underlying he,hsz]
   rw [FJ hz]
   have hd:i=0∨i=1∨i=2∨i=3:=by omega
   rcases hd with rfl | rfl | rfl | rfl <;> rfl
  have pe:=Cw w d (rowOf xs i) (rowOf ys i) rfl rfl
  simp only [List.forIn_cons,Sem.run_bind,px xs hx,px ys hy,pe,Result.andThen_ok,List.all_cons]
  cases hb:(rowOf xs i == rowOf ys i)
  ·simp
  ·simp only [Bool.not_true,bE,if_false,Sem.run_pure,Result.andThen_ok,Bool.true_and]
   exact ih fun j hj=>hl j (by simp [hj])
end Fx
namespace Fx
open Go Go.RowKit Go.ChangeShapes Go.WideShapes
variable {H:Type} {enc:TypeId×Value→H} {P:Program} {w:World} {base:Nat} {spare:Nat→Bool} {held:Bool}
theorem laidOut:laidOutB Tryz.prog=true:=by kernel_rfl
structure iH where
 a:Int
 b:Int
 c:Int
 col:Int
 deriving DecidableEq
instance:Inhabited iH:=⟨⟨0,0,0,0⟩⟩
structure fE where
 id:Int
 m:List Int
 vo:Option Addr
 vs:List (List Int)
 vc:Nat
 tq:Option Addr
 ts:List iH
 tc:Nat
instance:Inhabited fE:=⟨⟨0,[],none,[],0,none,[],0⟩⟩
structure fH where
 w:Int
 h:Int
 jK:List Int
 oo:Option Addr
 os:List fE
 oc:Nat
def fV (t:iH):List Value:=[.int .i64 t.a,.int .i64 t.b,.int .i64 t.c,.int .u32 t.col]
def eF (x:fE):List Value:=.int .i64 x.id :: (x.m.map encI ++ [.slice x.vo x.vs.length x.vc,.slice x.tq x.ts.length x.tc])
def jF (s:fH):List Value:=.int .i64 s.w :: .int .i64 s.h :: (s.jK.map encI ++ [.slice s.oo s.os.length s.oc])
def fZ (s:fH):Array Value:=(jF s).toArray
def Num (z:Int):Prop:=-9223372036854775808≤z∧z≤9223372036854775807
structure jX (v:List Int):Prop where
 len:v.length=3
 num:∀ j,Num (v.getD j 0)
structure mX (t:iH):Prop where
 a:Num t.a
 b:Num t.b
 c:Num t.c
 col:0≤t.col∧t.col < 4294967296
def nR {α:Type} (P:Nat→Nat→α→Prop) (n:Nat) (o:Option Addr) (l:List α):Prop:=∀ k z,l[k]?=some z→∃ b off,o=some ⟨b,off,none⟩∧P b (off + k * n) z
def LD (o:Option Addr) (n c:Nat):Prop:=(n≤c∧c≤9223372036854775807)∧(o=none→c=0)
def gN (W:World) (o:Option Addr) (l:List (List Int)):Prop:=nR (fun b j v=>W.rangeAt b j (v.map encI)∧jX v) 3 o l
def iL (W:World) (o:Option Addr) (l:List iH):Prop:=nR (fun b j t=>W.rangeAt b j (fV t)∧mX t) 4 o l
structure kD (x:fE):Prop where
 id:Num x.id
 len:x.m.length=16
 num:∀ j,Num (x.m.getD j 0)
 UA:LD x.vo x.vs.length x.vc
 YV:LD x.tq x.ts.length x.tc
structure nQ (W:World) (b j:Nat) (x:fE):Prop where
 cells:W.rangeAt b j (eF x)
 wT:gN W x.vo x.vs
 IG:iL W x.tq x.ts
 wf:kD x
def fM (W:World) (o:Option Addr) (l:List fE):Prop:=nR (nQ W) 19 o l
structure jE (s:fH):Prop where
 w:Num s.w
 h:Num s.h
 len:s.jK.length=16
 num:∀ j,Num (s.jK.getD j 0)
 cap:LD s.oo s.os.length s.oc
theorem kN {w W:World} {b j:Nat} {l:List Value} (hb:Below w.heap.size w W) (h:w.rangeAt b j l):W.rangeAt b j l:=fun i v hi=>dN hb (h i v hi)
theorem gN.below {w W:World} {o:Option Addr} {l:List (List Int)} (hb:Below w.heap.size w W) (h:gN w o l):gN W o l:=fun k z hk=>by
 obtain ⟨b,off,e,h1,h2⟩:=h k z hk
 exact ⟨b,off,e,kN hb h1,h2⟩
theorem iL.below {w W:World} {o:Option Addr} {l:List iH} (hb:Below w.heap.size w W) (h:iL w o l):iL W o l:=fun k z hk=>by
 obtain ⟨b,off,e,h1,h2⟩:=h k z hk
 exact ⟨b,off,e,kN hb h1,h2⟩
theorem nQ.below {w W:World} {b j:Nat} {x:fE} (hb:Below w.heap.size w W) (h:nQ w b j x):nQ W b j x :=
 ⟨kN hb h.cells,h.wT.below hb,h.IG.below hb,h.wf⟩
theorem fM.below {w W:World} {o:Option Addr} {l:List fE} (hb:Below w.heap.size w W) (h:fM w o l):fM W o l:=fun k z hk=>by
 obtain ⟨b,off,e,h1⟩:=h k z hk
 exact ⟨b,off,e,h1.below hb⟩
theorem uN {s:fH} (h:jE s):(jF s).length=19:=by simp [jF,h.len]
theorem eZ {x:fE} (h:kD x):(eF x).length=19:=by simp [eF,h.len]
theorem Il {s:fH} {j:Nat} {v:Value} (hj:(s.jK.map encI)[j]?=some v):(jF s)[2 + j]?=some v:=by
 rw [show 2 + j=j + 1 + 1 by omega]
 show (s.jK.map encI ++ _)[j]?=_
 rw [dI (bD.1 hj).1]
 exact hj
theorem Qd {s:fH} (h:jE s):(jF s)[18]?=some (.slice s.oo s.os.length s.oc):=by
 show (s.jK.map encI ++ _)[16]?=_
 rw [List.getElem?_append_right (by simp [h.len])]
 simp [h.len]
theorem FC (x:fE):(eF x)[0]?=some (.int .i64 x.id):=rfl
theorem NF {x:fE} {j:Nat} {v:Value} (hj:(x.m.map encI)[j]?=some v):(eF x)[1 + j]?=some v:=by
 rw [show 1 + j=j + 1 by omega]
 show (x.m.map encI ++ _)[j]?=_
 rw [dI (bD.1 hj).1]
 exact hj
theorem uS {x:fE} (h:kD x):(eF x)[17]?=some (.slice x.vo x.vs.length x.vc):=by
 show (x.m.map encI ++ _)[16]?=_
 rw [List.getElem?_append_right (by simp [h.len])]
 simp [h.len]
theorem uT {x:fE} (h:kD x):(eF x)[18]?=some (.slice x.tq x.ts.length x.tc):=by
 show (x.m.map encI ++ _)[17]?=_
 rw [List.getElem?_append_right (by simp [h.len])]
 simp [h.len]
section
variable {H:Type} {enc:TypeId×Value→H} {w:World} {base:Nat} {held:Bool}
end
end Fx
namespace Fx
open Go Go.RowKit Go.Shelf Wm
theorem rG (w:World) (xs ys:List Int) (hx:xs.length=16) (hy:ys.length=16) :
  (binOp .neq 25 (.agg (xs.map encI).toArray) (.agg (ys.map encI).toArray)).run Tryz.prog w=.ok (.bool (!(xs == ys))) w:=by
 have h:=Cy w 9997 xs ys hx hy
 unfold mC at h
 rw [run_neq_struct,h]
 rfl
theorem Ko (w:World) (d:Nat) (xs ys:List Int) (hx:xs.length=3) (hy:ys.length=3) :
  (Op.equalIn (d + 2) 85 (.agg (mC xs)) (.agg (mC ys))).run Tryz.prog w=.ok (xs == ys) w:=by
 have ht:=dA
 have he:=Tryz.underlying2
 have hsz:=Tryz.sizeOf2
 rw [←lY xs ys (hx.trans hy.symm),hx,List.range_eq_range',Op.equalIn]
 simp only [Sem.run_bind,run_underlying ht,Result.andThen_ok,hsz,Std.Legacy.Range.forIn_eq_forIn_range',Std.Legacy.Range.size,Nat.sub_zero,dC,Nat.div_one]
 have hl:∀ i∈List.range' 0 3 1,i < 3:=fun i hi=>by simpa using (List.mem_range'_1.1 hi).2
 generalize List.range' 0 3 1=l at hl ⊢
 induction l with
 | nil=>simp
 | cons i l ih =>
  have hi:i < 3:=hl i (by simp)
  have px:(part 2 (mC xs) (i * 1)).run Tryz.prog w=.ok (encI (xs.getD i 0)) w:=by
   simp [part,mC,isAgg,run_underlying he,List.getD,aJ (show i < xs.length by omega)]
  have py:(part 2 (mC ys) (i * 1)).run Tryz.prog w=.ok (encI (ys.getD i 0)) w:=by
   simp [part,mC,isAgg,run_underlying he,List.getD,aJ (show i < ys.length by omega)]
  have pe:(Op.equalIn (d + 1) 2 (encI (xs.getD i 0)) (encI (ys.getD i 0))).run Tryz.prog w=.ok (xs.getD i 0 == ys.getD i 0) w:=by
   rw [encI,encI,run_equalIn_int w d 2 .i64 .i64 _ _ he]
  simp only [List.forIn_cons,Sem.run_bind,px,py,pe,Result.andThen_ok,List.all_cons]
  cases hb:(xs.getD i 0 == ys.getD i 0)
  ·simp
  ·simp only [Bool.not_true,bE,if_false,Sem.run_pure,Result.andThen_ok,Bool.true_and]
   exact ih fun j hj=>hl j (by simp [hj])
theorem Ar (w:World) (xs ys:List Int) (hx:xs.length=3) (hy:ys.length=3) :
  (binOp .neq 85 (.agg (xs.map encI).toArray) (.agg (ys.map encI).toArray)).run Tryz.prog w=.ok (.bool (!(xs == ys))) w:=by
 have h:=Ko w 9998 xs ys hx hy
 unfold mC at h
 rw [run_neq_struct,h]
 rfl
theorem QJ (w:World) (t u:iH) :
  (binOp .neq 87 (.agg (fV t).toArray) (.agg (fV u).toArray)).run Tryz.prog w=.ok (.bool (!(decide (t=u)))) w:=by
 obtain ⟨a,b,c,l⟩:=t
 obtain ⟨a',b',c',l'⟩:=u
 have h:((Op.equalIn 10000 87 (.agg #[.int .i64 a,.int .i64 b,.int .i64 c,.int .u32 l]) (.agg #[.int .i64 a',.int .i64 b',.int .i64 c',.int .u32 l'])).run Tryz.prog w)=.ok (a == a' && (b == b' && (c == c' && l == l'))) w:=by
  go_simp
  by_cases h1:a=a' <;> by_cases h2:b=b' <;> by_cases h3:c=c' <;> by_cases h4:l=l' <;> simp [h1,h2,h3,h4]
 rw [run_neq_struct]
 unfold fV
 rw [h]
 show Result.ok _ w=_
 congr 3
 by_cases h1:a=a' <;> by_cases h2:b=b' <;> by_cases h3:c=c' <;> by_cases h4:l=l' <;> simp [h1,h2,h3,h4]
end Fx
end Go.Proofs.YtbbhmhihpdmoiaaGreat
