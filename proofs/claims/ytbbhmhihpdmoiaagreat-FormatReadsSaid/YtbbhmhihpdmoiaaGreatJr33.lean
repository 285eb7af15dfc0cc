import Derived.Test.YtbbhmhihpdmoiaaGreatJr32
set_option linter.unusedVariables false
set_option linter.unusedSimpArgs false
set_option maxRecDepth 100000
set_option maxHeartbeats 32000000
namespace Go.Proofs.YtbbhmhihpdmoiaaGreat
namespace Fx
open Go Go.RowKit
open Pk (PR iA)
def opt {κ:Type} (lost:Bool) (x:κ):Option κ:=if lost=true then none else some x
theorem lF.use {α κ:Type} {P:nV κ} {key:α→κ} {El:α→World→Prop} {val:α→Value} {o:Option Addr} {c:Nat} {l:List Nat} {p a:Nat} {lost:Bool} {w:World} {e:Ending} {w':World} (h:lF P key El val o c l p a lost w e w') :
  w.grownBy w' (some p)∧∃ x b gP,e=.returned (val x)∧El x w'∧PR o c l p b gP w'∧b≤l.length∧fQ lost P l a=opt gP (key x,b):=by
 obtain ⟨hg,x,he,hx,hm⟩:=h
 refine ⟨hg,x,?_⟩
 cases hr:fQ lost P l a with
 | none =>
  rw [hr] at hm
  obtain ⟨b,hb,hp⟩:=hm
  exact ⟨b,true,he,hx,hp,hb,rfl⟩
 | some q =>
  obtain ⟨k,b⟩:=q
  rw [hr] at hm
  obtain ⟨hk,hb,hp⟩:=hm
  exact ⟨b,false,he,hx,hp,hb,by rw [hk];rfl⟩
theorem lF.make {α κ:Type} {P:nV κ} {key:α→κ} {El:α→World→Prop} {val:α→Value} {o:Option Addr} {c:Nat} {l:List Nat} {p a:Nat} {lost:Bool} {w:World} {w':World} {x:α} {b:Nat} {gP:Bool}
  (hg:w.grownBy w' (some p)) (hx:El x w') (hp:PR o c l p b gP w') (hb:b≤l.length) (hr:fQ lost P l a=opt gP (key x,b)):lF P key El val o c l p a lost w (.returned (val x)) w':=by
 refine ⟨hg,x,rfl,hx,?_⟩
 rw [hr]
 cases gP
 ·exact ⟨rfl,hb,hp⟩
 ·exact ⟨b,hb,hp⟩
theorem gG {κ μ:Type} {P:nV κ} {Q:nV μ} {l:List Nat} {lost rO gP:Bool} {a a1 a2:Nat} {k:κ} {m:μ} (h:fQ lost P l a=opt rO (k,a1)) (h2:fQ rO Q l a1=opt gP (m,a2)):fQ lost (lJ P Q) l a=opt gP ((k,m),a2):=by
 unfold fQ opt lJ at *
 cases lost <;> cases rO <;> cases gP <;> simp_all
theorem lN {κ:Type} (P:nV κ) (l:List Nat) (n a:Nat):gK P (n + 1) l a=match P l a with
  | none=>none
  | some (k,b)=>match gK P n l b with
   | none=>none
   | some (ks,c)=>some (k :: ks,c):=rfl
theorem zC {κ:Type} (P:nV κ) (l:List Nat):∀ (n a:Nat),gK P (n + 1) l a=match gK P n l a with
  | none=>none
  | some (ks,b)=>match P l b with
   | none=>none
   | some (k,c)=>some (ks ++ [k],c)
 | 0,a=>by
  rw [lN]
  show (match P l a with
   | none=>none
   | some (k,b)=>some ([k],b))=(match P l a with
   | none=>none
   | some (k,c)=>some ([] ++ [k],c))
  cases P l a with
  | none=>rfl
  | some q=>rfl
 | n + 1,a=>by
  rw [lN,lN]
  cases P l a with
  | none=>rfl
  | some q =>
   obtain ⟨k,b⟩:=q
   dsimp only
   rw [zC P l n b]
   cases gK P n l b with
   | none=>rfl
   | some q2 =>
    obtain ⟨ks,c⟩:=q2
    dsimp only
    cases P l c with
    | none=>rfl
    | some q3=>rfl
theorem nG {κ:Type} (P:nV κ) (l:List Nat) (lost:Bool) (a:Nat):fQ lost (gK P 0) l a=opt lost ([],a):=by
 cases lost <;> rfl
theorem iV {κ:Type} {P:nV κ} {l:List Nat} {lost rO gP:Bool} {n a a1 a2:Nat} {ks:List κ} {k:κ} (h:fQ lost (gK P n) l a=opt rO (ks,a1)) (h2:fQ rO P l a1=opt gP (k,a2)):fQ lost (gK P (n + 1)) l a=opt gP (ks ++ [k],a2):=by
 unfold fQ opt at *
 rw [zC]
 cases lost <;> cases rO <;> cases gP <;> simp_all
theorem yT {κ μ:Type} {P:nV κ} (f:κ→μ) {l:List Nat} {lost rO:Bool} {a a1:Nat} {k:κ} (h:fQ lost P l a=opt rO (k,a1)):fQ lost (JK f P) l a=opt rO (f k,a1):=by
 unfold fQ opt JK at *
 cases lost <;> cases rO <;> simp_all
theorem iO {l:List Nat} {a b:Nat} (k:iA l a) (hb:b≤l.length):iA l b:=⟨k.by',k.len,hb⟩
theorem nP {o:Option Addr} {c:Nat} {l:List Nat} {p a B:Nat} {lost:Bool} {W X:World} (h:PR o c l p a lost W) (hp:p < B) (iQ:∀ b off,o=some ⟨b,off,none⟩→0 < l.length→b < B) (hb:Below B W X):PR o c l p a lost X :=
 ⟨by rw [hb.block p hp];exact h.row,fun j hj=>by
  obtain ⟨b,off,e,hc⟩:=h.bs j hj
  exact ⟨b,off,e,by rw [dG (w:=W) (hb.block b (iQ b off e (by omega)))];exact hc⟩,h.ok⟩
theorem iI {w W X:World} {row:Option Nat} (hg:w.grownBy W row) (hb:Below w.heap.size W X):w.grownBy X row :=
 ⟨hb.os.trans hg.os,hb.tape.trans hg.tape,hb.output.trans hg.output,bH hg.size hb.size,fun k hk hn=>(hb.block k hk).trans (hg.block k hk hn)⟩
theorem fI {t:TypeId} {g m:Nat} {c:Array Value} {W X:World} (h:dR t g c W) (hg:W.grownBy X (some m)) (e:g≠m):dR t g c X:=by
 unfold dR
 rw [hg.block g h.lt (fun hh=>e (by cases hh;rfl))]
 exact h
def Tq (p a:Nat) (lost:Bool) (o:Option Addr) (c:Nat) (l:List Nat) (w:World):Ending→World→Prop:=lF nI (fun z:List Int=>z) (fun z _=>jX z) (fun z=>.agg (z.map encI).toArray) o c l p a lost w
theorem YU {x y z:Int} (hx:Num x) (hy:Num y) (hz:Num z):jX [x,y,z]:=⟨rfl,fun j=>by
 match j with
 | 0=>exact hx
 | 1=>exact hy
 | 2=>exact hz
 | j + 3=>exact ⟨by simp,by simp⟩⟩
theorem UE (o:Option Addr) (c:Nat) (l:List Nat) (p a:Nat) (lost:Bool) (w:World) (k:iA l a) (h:PR o c l p a lost w) (iQ:∀ b off,o=some ⟨b,off,none⟩→0 < l.length→b < w.heap.size) :
  Calls Tryz.prog 79 #[.pointer (some ⟨p,0,none⟩)] w (Tq p a lost o c l w):=by
 obtain ⟨V0,lI⟩:∃ V,w.alloc (.cells #[.int .i64 0,.int .i64 0,.int .i64 0] 85)=V:=⟨_,rfl⟩
 have hb0:Below w.heap.size w V0:=by rw [←lI];exact (aI _ _).alloc (aB _) _
 have hr0:dR 85 w.heap.size #[.int .i64 0,.int .i64 0,.int .i64 0] V0:=by rw [←lI];exact dR.new _ _ _
 have oO:=aA hr0
 have tC:=aA (Pk.below_grown hb0 (some p))
 have HP0:=aA (h.below hb0)
 have HI:=aA (fun (b:Nat) (lo:Bool) (W:World) (hb:b≤l.length) (hp:PR o c l p b lo W)=>JA o c l p b lo W (iO k hb) hp)
 have HK:=aA k.at'
 have vS:=aA h.lt
 have jJ:=aA iQ
 have qJ:=aA lI
 clear h hb0 hr0 k lI iQ
 go_enter Tryz.func79,Tryz.ntmps79
 go_wp2_with (rw [qJ.out])
 refine (HI.out a lost _ HK.out HP0.out).mono ?_
 rintro e w1 h1
 obtain ⟨hg1,x1,a1,lo1,rfl,hn1,hp1,hl1,hr1⟩:=h1.use
 have H1:=aA (show PR o c l p a1 lo1 w1∧a1≤l.length∧Num x1∧fQ lost pI l a=opt lo1 (x1,a1)∧w.grownBy w1 (some p) from ⟨hp1,hl1,hn1,hr1,tC.out.trans hg1⟩)
 have HR1:Hid (dR 85 w.heap.size #[.int .i64 0,.int .i64 0,.int .i64 0] w1):=aA (fI oO.out hg1 (by have:=vS.out;omega))
 clear h1 hg1 hn1 hp1 hl1 hr1 oO qJ
 go_wp2_with fail
 refine (HI.out a1 lo1 _ H1.out.2.1 H1.out.1).mono ?_
 rintro e w2 h2
 obtain ⟨hg2,x2,a2,lo2,rfl,hn2,hp2,hl2,hr2⟩:=h2.use
 have H2:=aA (show PR o c l p a2 lo2 w2∧a2≤l.length∧Num x2∧fQ lo1 pI l a1=opt lo2 (x2,a2)∧w.grownBy w2 (some p) from ⟨hp2,hl2,hn2,hr2,H1.out.2.2.2.2.trans hg2⟩)
 have HR2:Hid (dR 85 w.heap.size #[.int .i64 0,.int .i64 0,.int .i64 0] w2):=aA (fI HR1.out hg2 (by have:=vS.out;omega))
 clear h2 hg2 hn2 hp2 hl2 hr2 HR1
 go_wp2_with fail
 refine (HI.out a2 lo2 _ H2.out.2.1 H2.out.1).mono ?_
 rintro e w3 h3
 obtain ⟨hg3,x3,a3,lo3,rfl,VH,hp3,hl3,hr3⟩:=h3.use
 have hR3:dR 85 w.heap.size #[.int .i64 0,.int .i64 0,.int .i64 0] w3:=fI HR2.out hg3 (by have:=vS.out;omega)
 obtain ⟨Y3,FT⟩:∃ V,w3.setRow w.heap.size #[.int .i64 x1,.int .i64 x2,.int .i64 x3]=V:=⟨_,rfl⟩
 have HE:Hid (Tq p a lost o c l w (.returned (.agg #[.int .i64 x1,.int .i64 x2,.int .i64 x3])) Y3):=aA (by
  have hg:=H2.out.2.2.2.2.trans hg3
  have zO:Below w.heap.size w3 Y3:=by rw [←FT];exact Below.row ⟨rfl,rfl,rfl,aB _,fun _ _=>rfl⟩ (aB _) _
  have hgY:=iI hg zO
  have hpr:=nP hp3 vS.out jJ.out zO
  have h3:=iV (iV (iV (nG pI l lost a) H1.out.2.2.2.1) H2.out.2.2.2.1) hr3
  exact lF.make (x:=[x1,x2,x3]) hgY (YU H1.out.2.2.1 H2.out.2.2.1 VH) hpr hl3 h3)
 have HR3:=aA hR3
 have Lx:=aA FT
 have hi:=aA (show (Tryz.prog.info? 85).map (·.size)=some (#[Value.int .i64 x1,Value.int .i64 x2,Value.int .i64 x3]:Array Value).size by kernel_rfl)
 have hone:=aA (show (#[Value.int .i64 x1,Value.int .i64 x2,Value.int .i64 x3]:Array Value).all (·.oneCell')=true by simp [Value.oneCell'])
 have hsz:=aA (show (#[Value.int .i64 0,Value.int .i64 0,Value.int .i64 0]:Array Value).size=(#[Value.int .i64 x1,Value.int .i64 x2,Value.int .i64 x3]:Array Value).size from rfl)
 clear h3 hg3 VH hp3 hl3 hr3 hR3 FT HR2 H1 H2
 go_wp2_with (refine dQ rfl 85 (.tmp 2) (.tmp 9) rfl w.heap.size _ _ #[.int .i64 x1,.int .i64 x2,.int .i64 x3] rfl rfl HR3.out hi.out hsz.out hone.out ?_)
 refine aO (v:=.agg #[.int .i64 x1,.int .i64 x2,.int .i64 x3]) (results_cell_row rfl _ _ w.heap.size _ #[.int .i64 x1,.int .i64 x2,.int .i64 x3] _ _ rfl (setRow_heap _ _ _ _ _ _ HR3.out) dA rfl hi.out) rfl ?_
 rw [Lx.out]
 exact HE.out
def Ls (p a:Nat) (lost:Bool) (o:Option Addr) (c:Nat) (l:List Nat) (w:World):Ending→World→Prop:=lF (pU 4294967295) (fun z:Int=>z) (fun z _=>0≤z∧z≤4294967295) (fun z=>.int .u32 z) o c l p a lost w
theorem UH (o:Option Addr) (c:Nat) (l:List Nat) (p a:Nat) (lost:Bool) (w:World) (k:iA l a) (h:PR o c l p a lost w) :
  Calls Tryz.prog 83 #[.pointer (some ⟨p,0,none⟩)] w (Ls p a lost o c l w):=by
 have hu:=Pk.yZ o c l p a lost w k h
 have hr:fQ lost (pU 4294967295) l a=match Pk.rq lost 18446744073709551615 (l.drop a) with
   | none=>none
   | some (n,j)=>if n≤4294967295 then some ((n:Int),a + j) else none:=by
  unfold fQ pU Pk.rq
  cases lost
  ·rw [aX (by simp),aX (by simp),Pk.uP _ (by unfold Pk.nW;omega)]
   show Option.map _ (match Pk.rd Pk.nW (l.drop a) with | none=>none | some (v,j)=>if v≤4294967295 then some (v,j) else none)=match Pk.rd Pk.nW (l.drop a) with | none=>none | some (n,j)=>if n≤4294967295 then some ((n:Int),a + j) else none
   cases Pk.rd Pk.nW (l.drop a) with
   | none=>rfl
   | some q =>
    obtain ⟨n,j⟩:=q
    dsimp only
    split <;> rfl
  ·rfl
 have hj:∀ n j,Pk.rq lost 18446744073709551615 (l.drop a)=some (n,j)→a + j≤l.length∧n≤18446744073709551615:=fun n j hq=>by
  unfold Pk.rq at hq
  split at hq
  ·cases hq
  ·have:=Pk.tJ hq
   have hdl:(l.drop a).length=l.length - a:=by simp
   have:=k.at'
   omega
 have HK:=aA k.at'
 generalize Pk.rq lost 18446744073709551615 (l.drop a)=r at hu hr hj
 have HU:=aA hu
 have HR:=aA hr
 clear hu hr k h
 cases r with
 | none =>
  go_enter Tryz.func83,Tryz.ntmps83
  go_wp2_with fail
  refine HU.out.mono ?_
  rintro e w1 ⟨rfl,hp1,hg1⟩
  have HE:Hid (Ls p a lost o c l w (.returned (.int .u32 0)) w1):=aA (lF.make (x:=(0:Int)) (gP:=true) hg1 ⟨by omega,by omega⟩ hp1 HK.out (by rw [HR.out];rfl))
  simp only [Pk.qU]
  clear hp1 hg1 HU HR hj
  go_wp2_with fail
  go_ret
  exact HE.out
 | some q =>
  obtain ⟨n,j⟩:=q
  obtain ⟨hj1,hn1⟩:=hj n j rfl
  have n0:(0:Int)≤(n:Int):=by omega
  have n1:(n:Int)≤18446744073709551615:=by omega
  by_cases hn:n≤4294967295
  ·have t1:¬ (4294967295:Int) < (n:Int):=by omega
   have hm:(n:Int) % 4294967296=n:=by omega
   go_enter Tryz.func83,Tryz.ntmps83
   go_wp2_with fail
   refine HU.out.mono ?_
   rintro e w1 ⟨rfl,hp1,hg1⟩
   have HE:Hid (Ls p a lost o c l w (.returned (.int .u32 (n:Int))) w1):=aA (lF.make (x:=(n:Int)) (gP:=false) hg1 ⟨by omega,by omega⟩ hp1 hj1 (by rw [HR.out,aT hn];rfl))
   simp only [Pk.qU]
   clear hp1 hg1 HU HR hj hj1 hn1 hn
   go_wp2_with fail
   go_ret
   first | exact HE.out | (simp only [hm];exact HE.out)
  ·have t1:(4294967295:Int) < (n:Int):=by omega
   go_enter Tryz.func83,Tryz.ntmps83
   go_wp2_with fail
   refine HU.out.mono ?_
   rintro e w1 ⟨rfl,hp1,hg1⟩
   have HSP:=aA (Pk.NB o c l p _ _ w1 hp1)
   have Fv:=aA hg1
   have qD:Hid (fQ lost (pU 4294967295) l a=none):=aA (by rw [HR.out];simp [hn])
   simp only [Pk.qU]
   clear hp1 hg1 HU HR hj hn1 hn
   go_wp2_with fail
   refine HSP.out.mono ?_
   rintro e w2 ⟨rfl,hp2,hg2⟩
   have HE:Hid (∀ z:Int,0≤z→z≤4294967295→Ls p a lost o c l w (.returned (.int .u32 z)) w2):=aA (fun z h0 h1=>lF.make (x:=z) (gP:=true) (Fv.out.trans hg2) ⟨h0,h1⟩ hp2 hj1 (by rw [qD.out];rfl))
   clear hp2 hg2 HSP Fv qD
   go_wp2_with fail
   go_ret
   exact HE.out _ (by omega) (by omega)
end Fx
namespace Fx
open Go Go.RowKit Go.Shelf
open Pk (PR iA)
attribute [local go_sem] Oper.semAt_some
def Tt (p a:Nat) (lost:Bool) (o:Option Addr) (c:Nat) (l:List Nat) (w:World):Ending→World→Prop:=lF tH (fun t:iH=>t) (fun t _=>mX t) (fun t=>.agg (fV t).toArray) o c l p a lost w
theorem kJ {z n:Int} (hn:n≤9223372036854775807) (h:0≤z∧z≤n):Num z:=⟨by omega,by omega⟩
theorem UF (o:Option Addr) (c:Nat) (l:List Nat) (p a:Nat) (lost:Bool) (w:World) (k:iA l a) (h:PR o c l p a lost w) (iQ:∀ b off,o=some ⟨b,off,none⟩→0 < l.length→b < w.heap.size) :
  Calls Tryz.prog 82 #[.pointer (some ⟨p,0,none⟩)] w (Tt p a lost o c l w):=by
 obtain ⟨V0,lI⟩:∃ V,w.alloc (.cells #[.int .i64 0,.int .i64 0,.int .i64 0,.int .u32 0] 87)=V:=⟨_,rfl⟩
 have hb0:Below w.heap.size w V0:=by rw [←lI];exact (aI _ _).alloc (aB _) _
 have hr0:dR 87 w.heap.size #[.int .i64 0,.int .i64 0,.int .i64 0,.int .u32 0] V0:=by rw [←lI];exact dR.new _ _ _
 have oO:=aA hr0
 have tC:=aA (Pk.below_grown hb0 (some p))
 have HP0:=aA (h.below hb0)
 have HI:=aA (fun (b:Nat) (lo:Bool) (W:World) (hb:b≤l.length) (hp:PR o c l p b lo W)=>nH 63 (by omega) o c l p b lo W (iO k hb) hp)
 have HC:=aA (fun (b:Nat) (lo:Bool) (W:World) (hb:b≤l.length) (hp:PR o c l p b lo W)=>UH o c l p b lo W (iO k hb) hp)
 have HK:=aA k.at'
 have vS:=aA h.lt
 have jJ:=aA iQ
 have qJ:=aA lI
 clear h hb0 hr0 k lI iQ
 go_enter Tryz.func82,Tryz.ntmps82
 go_wp2_with (rw [qJ.out])
 refine (HI.out a lost _ HK.out HP0.out).mono ?_
 rintro e w1 h1
 obtain ⟨hg1,x1,a1,lo1,rfl,hn1,hp1,hl1,hr1⟩:=h1.use
 have H1:=aA (show PR o c l p a1 lo1 w1∧a1≤l.length∧(0≤x1∧x1≤63)∧fQ lost (pU 63) l a=opt lo1 (x1,a1)∧w.grownBy w1 (some p) from ⟨hp1,hl1,hn1,hr1,tC.out.trans hg1⟩)
 have HR1:Hid (dR 87 w.heap.size #[.int .i64 0,.int .i64 0,.int .i64 0,.int .u32 0] w1):=aA (fI oO.out hg1 (by have:=vS.out;omega))
 clear h1 hg1 hn1 hp1 hl1 hr1 oO qJ
 go_wp2_with fail
 refine (HI.out a1 lo1 _ H1.out.2.1 H1.out.1).mono ?_
 rintro e w2 h2
 obtain ⟨hg2,x2,a2,lo2,rfl,hn2,hp2,hl2,hr2⟩:=h2.use
 have H2:=aA (show PR o c l p a2 lo2 w2∧a2≤l.length∧(0≤x2∧x2≤63)∧fQ lo1 (pU 63) l a1=opt lo2 (x2,a2)∧w.grownBy w2 (some p) from ⟨hp2,hl2,hn2,hr2,H1.out.2.2.2.2.trans hg2⟩)
 have HR2:Hid (dR 87 w.heap.size #[.int .i64 0,.int .i64 0,.int .i64 0,.int .u32 0] w2):=aA (fI HR1.out hg2 (by have:=vS.out;omega))
 clear h2 hg2 hn2 hp2 hl2 hr2 HR1
 go_wp2_with fail
 refine (HI.out a2 lo2 _ H2.out.2.1 H2.out.1).mono ?_
 rintro e w3 h3
 obtain ⟨hg3,x3,a3,lo3,rfl,VH,hp3,hl3,hr3⟩:=h3.use
 have H3:=aA (show PR o c l p a3 lo3 w3∧a3≤l.length∧(0≤x3∧x3≤63)∧fQ lo2 (pU 63) l a2=opt lo3 (x3,a3)∧w.grownBy w3 (some p) from ⟨hp3,hl3,VH,hr3,H2.out.2.2.2.2.trans hg3⟩)
 have HR3:Hid (dR 87 w.heap.size #[.int .i64 0,.int .i64 0,.int .i64 0,.int .u32 0] w3):=aA (fI HR2.out hg3 (by have:=vS.out;omega))
 clear h3 hg3 VH hp3 hl3 hr3 HR2
 go_wp2_with fail
 refine (HC.out a3 lo3 _ H3.out.2.1 H3.out.1).mono ?_
 rintro e w4 h4
 obtain ⟨hg4,x4,a4,CK,rfl,Js,NQ,hl4,hr4⟩:=lF.use h4
 have hR4:dR 87 w.heap.size #[.int .i64 0,.int .i64 0,.int .i64 0,.int .u32 0] w4:=fI HR3.out hg4 (by have:=vS.out;omega)
 obtain ⟨Y4,vJ⟩:∃ V,w4.setRow w.heap.size #[.int .i64 x1,.int .i64 x2,.int .i64 x3,.int .u32 x4]=V:=⟨_,rfl⟩
 have HE:Hid (Tt p a lost o c l w (.returned (.agg #[.int .i64 x1,.int .i64 x2,.int .i64 x3,.int .u32 x4])) Y4):=aA (by
  have hg:=H3.out.2.2.2.2.trans hg4
  have zO:Below w.heap.size w4 Y4:=by rw [←vJ];exact Below.row ⟨rfl,rfl,rfl,aB _,fun _ _=>rfl⟩ (aB _) _
  have h4:=yT IJ (gG H1.out.2.2.2.1 (gG H2.out.2.2.2.1 (gG H3.out.2.2.2.1 hr4)))
  exact lF.make (x:=(⟨x1,x2,x3,x4⟩:iH)) (iI hg zO) ⟨kJ (by omega) H1.out.2.2.1,kJ (by omega) H2.out.2.2.1,kJ (by omega) H3.out.2.2.1,by have:=Js;exact ⟨this.1,by show x4 < 4294967296;omega⟩⟩ (nP NQ vS.out jJ.out zO) hl4 h4)
 have HR4:=aA hR4
 have LM:=aA vJ
 have hi:=aA (show (Tryz.prog.info? 87).map (·.size)=some (#[Value.int .i64 x1,Value.int .i64 x2,Value.int .i64 x3,Value.int .u32 x4]:Array Value).size by kernel_rfl)
 have hone:=aA (show (#[Value.int .i64 x1,Value.int .i64 x2,Value.int .i64 x3,Value.int .u32 x4]:Array Value).all (·.oneCell')=true by simp [Value.oneCell'])
 have hsz:=aA (show (#[Value.int .i64 0,Value.int .i64 0,Value.int .i64 0,Value.int .u32 0]:Array Value).size=(#[Value.int .i64 x1,Value.int .i64 x2,Value.int .i64 x3,Value.int .u32 x4]:Array Value).size from rfl)
 clear h4 hg4 Js NQ hl4 hr4 hR4 vJ HR3 H1 H2 H3
 go_wp2_with (refine dQ rfl 87 (.tmp 2) (.tmp 11) rfl w.heap.size _ _ #[.int .i64 x1,.int .i64 x2,.int .i64 x3,.int .u32 x4] rfl rfl HR4.out hi.out hsz.out hone.out ?_)
 refine aO (v:=.agg #[.int .i64 x1,.int .i64 x2,.int .i64 x3,.int .u32 x4]) (results_cell_row rfl _ _ w.heap.size _ #[.int .i64 x1,.int .i64 x2,.int .i64 x3,.int .u32 x4] _ _ rfl (setRow_heap _ _ _ _ _ _ HR4.out) cZ rfl hi.out) rfl ?_
 rw [LM.out]
 exact HE.out
structure Om (o:Option Addr) (c:Nat) (l:List Nat) (p a:Nat) (lost:Bool) (zs:List Int) (b:Nat) (lo:Bool) (w W:World):Prop where
 box:W.heap[w.heap.size]?=some (.cells #[.pointer (some ⟨p,0,none⟩)] 90 (0,0))
 res:W.heap[w.heap.size + 1]?=some (.cells #[.int .i64 0,.int .i64 0,.int .i64 0,.int .i64 0,.int .i64 0,.int .i64 0,.int .i64 0,.int .i64 0,.int .i64 0,.int .i64 0,.int .i64 0,.int .i64 0,.int .i64 0,.int .i64 0,.int .i64 0,.int .i64 0] 25 (0,0))
 BQ:W.heap[w.heap.size + 1 + 1]?=some (.cells (mC (zs ++ List.replicate (16 - zs.length) 0)) 25 (0,0))
 it:W.heap[w.heap.size + 1 + 1 + 1]?=some (.cells #[.pointer (some ⟨w.heap.size + 1 + 1,0,none⟩)] 158 (0,0))
 rd:PR o c l p b lo W
 grow:w.grownBy W (some p)
 le:b≤l.length
 num:∀ z∈zs,Num z
 run:fQ lost (gK pI zs.length) l a=opt lo (zs,b)
theorem TE {o:Option Addr} {c:Nat} {l:List Nat} {p a B:Nat} {lost:Bool} {W X:World} (h:PR o c l p a lost W) (k:Kept B W X):PR o c l p a lost X :=
 ⟨k.cells h.row,fun j hj=>by
  obtain ⟨b,off,e,hc⟩:=h.bs j hj
  exact ⟨b,off,e,k.cell hc⟩,h.ok⟩
theorem zS {B:Nat} {w W X:World} {row:Option Nat} (hB:w.heap.size≤B) (hg:w.grownBy W row) (k:Kept B W X):w.grownBy X row :=
 ⟨k.os.trans hg.os,k.tape.trans hg.tape,k.output.trans hg.output,bH hg.size k.size,fun i hi hn=>by
  have h1:=hg.block i hi hn
  rw [Array.getElem?_eq_getElem hi] at h1 ⊢
  exact k.block i _ h1 (.inl (by omega))⟩
theorem Om.kept {o:Option Addr} {c:Nat} {l:List Nat} {p a:Nat} {lost:Bool} {zs:List Int} {b B:Nat} {lo:Bool} {w W X:World} (hB:w.heap.size≤B) (k:Kept B W X) (i:Om o c l p a lost zs b lo w W):Om o c l p a lost zs b lo w X :=
 ⟨k.cells i.box,k.cells i.res,k.cells i.BQ,k.cells i.it,TE i.rd k,zS hB i.grow k,i.le,i.num,i.run⟩
theorem Be {zs:List Int} {z:Int} (h:zs.length < 16):(mC (zs ++ List.replicate (16 - zs.length) 0)).setIfInBounds zs.length (.int .i64 z)=mC ((zs ++ [z]) ++ List.replicate (16 - (zs ++ [z]).length) 0):=by
 have e:16 - zs.length=(16 - (zs ++ [z]).length) + 1:=by simp;omega
 rw [e,List.replicate_succ]
 simp [mC,encI,List.set_append]
theorem Om.step {o:Option Addr} {c:Nat} {l:List Nat} {p a:Nat} {lost:Bool} {zs:List Int} {b b2:Nat} {lo lo2:Bool} {z:Int} {w W X:World} (hp:p < w.heap.size) (iQ:∀ b off,o=some ⟨b,off,none⟩→0 < l.length→b < w.heap.size) (i:Om o c l p a lost zs b lo w W) (hz:zs.length < 16)
  (hg:W.grownBy X (some p)) (hn:Num z) (hr:PR o c l p b2 lo2 X) (hl:b2≤l.length) (hrun:fQ lo pI l b=opt lo2 (z,b2)):Om o c l p a lost (zs ++ [z]) b2 lo2 w (X.setCell ⟨w.heap.size + 1 + 1,zs.length,none⟩ (.int .i64 z)):=by
 have keep:∀ {g:Nat} {ob:Obj},g≠p→W.heap[g]?=some ob→X.heap[g]?=some ob:=fun hne h=>by
  rw [hg.block _ (aC.1 h).1 (fun e=>hne (bF e))]
  exact h
 have k2:∀ {g:Nat} {ob:Obj},g≠p→g≠w.heap.size + 1 + 1→W.heap[g]?=some ob→(X.setCell ⟨w.heap.size + 1 + 1,zs.length,none⟩ (.int .i64 z)).heap[g]?=some ob:=fun h1 h2 h=>by
  rw [aH _ _ _ _ h2]
  exact keep h1 h
 have hbX:Below w.heap.size X (X.setCell ⟨w.heap.size + 1 + 1,zs.length,none⟩ (.int .i64 z)):=Below.setCell (p:=⟨w.heap.size + 1 + 1,zs.length,none⟩) ⟨rfl,rfl,rfl,aB _,fun _ _=>rfl⟩ (by show _≤w.heap.size + 1 + 1;omega) _
 refine ⟨k2 (by omega) (by omega) i.box,k2 (by omega) (by omega) i.res,?_,k2 (by omega) (by omega) i.it,nP hr hp iQ hbX,iI (i.grow.trans hg) hbX,hl,fun y hy=>?_,?_⟩
 ·rw [aK _ _ zs.length _ _ _ (keep (by omega) i.BQ),Be hz]
 ·rcases bU.1 hy with hy | hy
  ·exact i.num y hy
  ·simp at hy
   subst hy
   exact hn
 ·rw [aY]
  exact iV i.run hrun
def TmI (o:Option Addr) (c:Nat) (l:List Nat) (p a:Nat) (lost:Bool) (w:World) (k:Nat) (W:World):Prop:=∃ zs b lo,zs.length=k∧Om o c l p a lost zs b lo w W
def TmA (p:Nat) (w:World) (k:Nat) (ac:Act):Prop :=
 ac={ tmps:=#[.pointer (some ⟨p,0,none⟩),.pointer (some ⟨w.heap.size,0,none⟩),.pointer (some ⟨w.heap.size + 1,0,none⟩),.pointer (some ⟨w.heap.size + 1 + 1,0,none⟩),.pointer (some ⟨w.heap.size + 1 + 1,k,none⟩),.func (.func 131) #[] #[.pointer (some ⟨w.heap.size + 1 + 1 + 1,0,none⟩)],.pointer (some ⟨w.heap.size + 1 + 1,k,none⟩),undef,undef,undef,undef,undef],defers:=[] }
def PMat (p a:Nat) (lost:Bool) (o:Option Addr) (c:Nat) (l:List Nat) (w:World):Ending→World→Prop:=lF EX (fun m:List Int=>m) (fun m _=>Dl 16 m) (fun m=>.agg (mC m)) o c l p a lost w
theorem CZ (o:Option Addr) (c:Nat) (l:List Nat) (p a:Nat) (lost:Bool) (w:World) (k:iA l a) (h:PR o c l p a lost w) (iQ:∀ b off,o=some ⟨b,off,none⟩→0 < l.length→b < w.heap.size) :
  Calls Tryz.prog 74 #[.pointer (some ⟨p,0,none⟩)] w (PMat p a lost o c l w):=by
 have hlt:=h.lt
 obtain ⟨W1,hW1⟩:∃ V,((w.alloc (.cells #[.pointer (some ⟨p,0,none⟩)] 90)).alloc (.cells #[.int .i64 0,.int .i64 0,.int .i64 0,.int .i64 0,.int .i64 0,.int .i64 0,.int .i64 0,.int .i64 0,.int .i64 0,.int .i64 0,.int .i64 0,.int .i64 0,.int .i64 0,.int .i64 0,.int .i64 0,.int .i64 0] 25)).alloc (.cells #[.int .i64 0,.int .i64 0,.int .i64 0,.int .i64 0,.int .i64 0,.int .i64 0,.int .i64 0,.int .i64 0,.int .i64 0,.int .i64 0,.int .i64 0,.int .i64 0,.int .i64 0,.int .i64 0,.int .i64 0,.int .i64 0] 25)=V:=⟨_,rfl⟩
 obtain ⟨W0,hW0⟩:∃ V,W1.alloc (.cells #[.pointer (some ⟨w.heap.size + 1 + 1,0,none⟩)] 158)=V:=⟨_,rfl⟩
 have z1:W1.heap.size=w.heap.size + 1 + 1 + 1:=by rw [←hW1];simp
 have b1:Below w.heap.size w W1:=by rw [←hW1];exact (((aI _ w).alloc (aB _) _).alloc (by simp) _).alloc (by simp;omega) _
 have b0:Below W1.heap.size W1 W0:=by rw [←hW0];exact (aI _ W1).alloc (aB _) _
 have F0:Om o c l p a lost [] a lost w W0:=by
  have hb:=dY b1 b0
  have hz:mC (([]:List Int) ++ List.replicate (16 - ([]:List Int).length) 0)=#[.int .i64 0,.int .i64 0,.int .i64 0,.int .i64 0,.int .i64 0,.int .i64 0,.int .i64 0,.int .i64 0,.int .i64 0,.int .i64 0,.int .i64 0,.int .i64 0,.int .i64 0,.int .i64 0,.int .i64 0,.int .i64 0]:=rfl
  refine ⟨dV b0 ?_,dV b0 ?_,dV b0 ?_,?_,h.below hb,Pk.below_grown hb (some p),k.at',fun z hz=>by simp at hz,nG _ _ _ _⟩
  ·rw [←hW1];exact dW (dW (aG _ _))
  ·rw [←hW1]
   have:=aG (w.alloc (.cells #[.pointer (some ⟨p,0,none⟩)] 90)) (.cells #[.int .i64 0,.int .i64 0,.int .i64 0,.int .i64 0,.int .i64 0,.int .i64 0,.int .i64 0,.int .i64 0,.int .i64 0,.int .i64 0,.int .i64 0,.int .i64 0,.int .i64 0,.int .i64 0,.int .i64 0,.int .i64 0] 25)
   rw [aR] at this
   exact dW this
  ·rw [←hW1,hz]
   have:=aG ((w.alloc (.cells #[.pointer (some ⟨p,0,none⟩)] 90)).alloc (.cells #[.int .i64 0,.int .i64 0,.int .i64 0,.int .i64 0,.int .i64 0,.int .i64 0,.int .i64 0,.int .i64 0,.int .i64 0,.int .i64 0,.int .i64 0,.int .i64 0,.int .i64 0,.int .i64 0,.int .i64 0,.int .i64 0] 25)) (.cells #[.int .i64 0,.int .i64 0,.int .i64 0,.int .i64 0,.int .i64 0,.int .i64 0,.int .i64 0,.int .i64 0,.int .i64 0,.int .i64 0,.int .i64 0,.int .i64 0,.int .i64 0,.int .i64 0,.int .i64 0,.int .i64 0] 25)
   rw [aR,aR] at this
   exact this
  ·rw [←hW0,←z1]
   exact aG W1 _
 have Pj:Hid (TmI o c l p a lost w 0 W0):=aA ⟨[],a,lost,rfl,F0⟩
 have BH:Hid (W0.heap.size=w.heap.size + 1 + 1 + 1 + 1):=aA (by rw [←hW0,aR,z1])
 have HZ1:=aA z1
 have HW1:=aA hW1
 have HW0:=aA hW0
 have HP:=aA hlt
 have jJ:=aA iQ
 have HK:=aA k
 clear F0 b0 b1 z1 hW0 hW1 hlt h iQ k
 refine (aW (n:=5)).1 ?_
 refine callsIn_of_wp_marks Tryz.func74 rfl trivial ?_ rfl
 simp only [Tryz.ntmps74,aL,bK,List.length_nil,Nat.reduceAdd,Nat.reduceSub,Array.replicate_succ,Array.replicate_zero,List.push_toArray,List.append_toArray,bX,bT]
 refine bG.2 ?_
 go_wp2_with (rw [HW1.out])
 refine (Qq _ _).mono ?_
 rintro e w' ⟨rfl,rfl⟩
 rw [HZ1.out,HW0.out]
 go_wp2_with fail
 refine bG.1 (iU (F:=Fence.wide) (n:=5) rfl (by omega) (gf:=131) (lb:=#[.pointer (some ⟨w.heap.size + 1 + 1 + 1,0,none⟩)]) rfl trivial (enters_of Tryz.func131 (by kernel_rfl) rfl)
  (NG (w.heap.size + 1 + 1 + 1) (w.heap.size + 1 + 1)) (fun _=>rfl) .ret (TmI o c l p a lost w) (fun _=>False) (fun j a' W=>TmA p w j a'∧TmI o c l p a lost w j W)
  ?i1 ?i2 ?i3 ?i4 ?i5 Pj.out ?assign ?body ?done ?stop)
 case i1=>rintro j W X ⟨zs,b,lo,h0,h1⟩ hk;exact ⟨zs,b,lo,h0,h1.kept (by have:=BH.out;omega) hk⟩
 case i2=>rintro W X h;exact h.elim
 case i3=>rintro j ac W X ⟨ha,zs,b,lo,h0,h1⟩ hk;exact ⟨ha,zs,b,lo,h0,h1.kept (by have:=BH.out;omega) hk⟩
 case i4=>rintro j W ⟨zs,b,lo,h0,h1⟩;unfold NuM;rw [aF _ _ _ _ _ _ h1.it];rfl
 case i5=>rintro W h;exact h.elim
 case assign =>
  intro l1 j W C hk hI hC
  simp only [Aw]
  gi_wp2
  exact hC _ _ (KeepsFrom.refl _ _) ⟨rfl,hI⟩
 case body =>
  rintro l1 j a' W hk ⟨ha,zs,b,lo,hzl,fs⟩
  unfold TmA at ha
  subst ha
  have c0:W.cell? ⟨w.heap.size,0,none⟩=some (.pointer (some ⟨p,0,none⟩)):=by rw [aF _ _ _ _ _ _ fs.box];rfl
  have HS:=aA fs
  have Tx:=aA hzl
  have HJ:Hid (j < 16):=aA hk
  have HI:=aA (JA o c l p b lo W (iO HK.out fs.le) fs.rd)
  clear fs hzl hk
  gi_wp2
  refine ⟨trivial,CallsIn.mono (CallsIn.inRound _ (aW.2 HI.out)) ?_⟩
  rintro e w2 h2
  obtain ⟨hg2,z,b2,lo2,rfl,hn2,hp2,hl2,hr2⟩:=h2.use
  have hj:zs.length < 16:=by rw [Tx.out];exact HJ.out
  have HT:=aA (HS.out.step HP.out jJ.out hj hg2 hn2 hp2 hl2 hr2)
  have hm2:w2.heap[w.heap.size + 1 + 1]?=some (.cells (mC (zs ++ List.replicate (16 - zs.length) 0)) 25 (0,0)):=by
   rw [hg2.block _ (aC.1 HS.out.BQ).1 (fun e=>by have:=bF e;have:=HP.out;omega)]
   exact HS.out.BQ
  have q0:(w2.cell? ⟨w.heap.size + 1 + 1,j,none⟩)=some (.int .i64 0):=by
   have hzj:=Tx.out
   rw [aF _ _ _ _ _ _ hm2,QM (by rw [aY,List.length_replicate];omega)]
   rw [aS,List.getElem?_append_right (by omega),List.getElem?_replicate,aT (by omega)]
   rfl
  have f0:w2.frozen? ⟨w.heap.size + 1 + 1,j,none⟩=false:=dU hm2
  have Gx:Hid (KeepsFrom W0.heap.size W (w2.setCell ⟨w.heap.size + 1 + 1,j,none⟩ (.int .i64 z))):=aA (KeepsFrom.trans ⟨hg2.size,fun k o _ hk ho=>by
   rw [hg2.block k (aC.1 hk).1 (fun e=>by
    have e2:=bF e
    subst e2
    rw [HS.out.rd.row] at hk
    cases hk
    cases ho)]
   exact hk⟩ ((KeepsOthers.setCell _ _ _).from _))
  rw [Tx.out] at HT
  clear h2 hg2 hn2 hp2 hl2 hr2 hm2 c0 HI HS hj
  gi_wp2
  exact ⟨Gx.out,zs ++ [z],b2,lo2,by rw [aY,Tx.out];rfl,HT.out⟩
 case done =>
  rintro D W hD ⟨zs,b,lo,hzl,fs⟩ hdef
  have Bl:zs ++ List.replicate (16 - zs.length) 0=zs:=by rw [hzl];simp
  have Yr:W.heap[w.heap.size + 1 + 1]?=some (.cells (mC zs) 25 (0,0)):=by have:=fs.BQ;rwa [Bl] at this
  have HTW:=aA (show W.rangeAt (w.heap.size + 1 + 1) 0 (zs.map encI) from fun i u hi=>by rw [aF _ _ _ _ _ _ Yr,bB];simpa [mC] using hi)
  have hi:=aA (show (Tryz.prog.info? 25).map (·.size)=some (zs.map encI).length by rw [bI,hzl];kernel_rfl)
  have hi2:=aA (show (Tryz.prog.info? 25).map (·.size)=some (mC zs).size by rw [fT,hzl];kernel_rfl)
  have h16:=aA (show (#[Value.int .i64 0,Value.int .i64 0,Value.int .i64 0,Value.int .i64 0,Value.int .i64 0,Value.int .i64 0,Value.int .i64 0,Value.int .i64 0,Value.int .i64 0,Value.int .i64 0,Value.int .i64 0,Value.int .i64 0,Value.int .i64 0,Value.int .i64 0,Value.int .i64 0,Value.int .i64 0]:Array Value).size=(mC zs).size by rw [fT,hzl];rfl)
  have hone:=aA (iY zs)
  have XN:=aA fs.res
  have KZ:Hid (w.heap.size + 1 + 1 + 1 + 1≤D):=aA (by have:=BH.out;omega)
  have HDF:=aA hdef
  have HS:=aA fs
  have Tx:=aA hzl
  clear fs hD hdef Bl Yr hzl
  go_wp2_with (first | (with_reducible refine eQ (some 11) rfl ?_;refine aA ?_;refine wpList_load_mid rfl 25 (.tmp 3) rfl (w.heap.size + 1 + 1) 0 rfl (zs.map encI) _ HTW.out aP rfl hi.out ?_) | (refine dQ rfl 25 (.tmp 2) (.tmp 11) rfl (w.heap.size + 1) _ _ (mC zs) rfl rfl XN.out hi2.out h16.out hone.out ?_))
  have hdf:(W.setRow (w.heap.size + 1) (mC zs)).heap[D]?=some (.deferred (some [])):=by rw [setRow_other _ _ _ _ (by have:=KZ.out;omega)];exact HDF.out
  refine ⟨by simp,.inl ⟨_,_,rfl,run_takeDeferred hdf,?_⟩⟩
  refine ⟨_,results_cell_row rfl _ _ (w.heap.size + 1) _ (mC zs) _ _ rfl ((World.putObj_heap_other (by have:=KZ.out;omega)).trans (setRow_heap _ _ _ _ _ _ XN.out)) aP rfl hi2.out,?_⟩
  have hk:Kept w.heap.size (W.setRow (w.heap.size + 1) (mC zs)) ((W.setRow (w.heap.size + 1) (mC zs)).putObj D (.deferred none)):=Kept.putObj _ (by have:=KZ.out;omega) hdf rfl
  have hbS:Below w.heap.size W (W.setRow (w.heap.size + 1) (mC zs)):=Below.row ⟨rfl,rfl,rfl,aB _,fun _ _=>rfl⟩ (by omega) _
  have hr:=HS.out.run
  rw [Tx.out] at hr
  exact lF.make (x:=zs) (zS (aB _) (iI HS.out.grow hbS) hk) ⟨Tx.out,HS.out.num⟩ (TE (nP HS.out.rd HP.out jJ.out hbS) hk) HS.out.le hr
 case stop =>
  rintro D W hD h hdef
  exact h.elim
end Fx
end Go.Proofs.YtbbhmhihpdmoiaaGreat
