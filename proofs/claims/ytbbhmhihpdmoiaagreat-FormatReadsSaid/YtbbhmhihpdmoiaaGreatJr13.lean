import Derived.Test.YtbbhmhihpdmoiaaGreatJr11
import Derived.Test.YtbbhmhihpdmoiaaGreatJr12
set_option linter.unusedVariables false
set_option linter.unusedSimpArgs false
set_option maxRecDepth 100000
set_option maxHeartbeats 32000000
namespace Go.Proofs.YtbbhmhihpdmoiaaGreat
namespace Wm
def sm (xs ys:List Int):Nat→Option Int
 | 0=>some 0
 | k + 1=>match sm xs ys k with
  | none=>none
  | some s=>if In (s + xs.getD k 0 * ys.getD k 0) then some (s + xs.getD k 0 * ys.getD k 0) else none
theorem Ii {xs ys:List Int} {k:Nat} (h:sm xs ys k=none):∀ n,k≤n→sm xs ys n=none:=by
 intro n hn
 induction hn with
 | refl=>exact h
 | step _ ih=>simp only [sm,ih]
def smV (o:Option Int):Int:=o.getD 0
def smE (o:Option Int):Int:=if o.isSome then 0 else 20
end Wm
namespace Fx
open Go Go.RowKit Go.Shelf Wm
attribute [local go_sem] Oper.semAt_some
structure SB (p q:Nat) (h:Int) (l:Nat) (er:Int) (X:World):Prop where
 r:X.heap[p]?=some (.cells #[.int .i64 h,.int .u64 l] 220 (0,0))
 s:X.heap[q]?=some (.cells #[.int .i64 er] 32 (0,0))
 ne:p≠q
theorem SB.kept {B p q l:Nat} {h er:Int} {X Y:World} (k:Kept B X Y) (s:SB p q h l er X):SB p q h l er Y:=⟨k.cells s.r,k.cells s.s,s.ne⟩
theorem SB.facts {p q l:Nat} {h er:Int} {X:World} (s:SB p q h l er X) :
  X.cell? ⟨p,0,none⟩=some (.int .i64 h)∧X.cell? ⟨p,1,none⟩=some (.int .u64 l)∧X.cell? ⟨q,0,none⟩=some (.int .i64 er)∧X.frozen? ⟨p,0,none⟩=false∧X.frozen? ⟨p,1,none⟩=false∧X.frozen? ⟨q,0,none⟩=false :=
 ⟨by rw [aF _ _ _ _ _ _ s.r];rfl,by rw [aF _ _ _ _ _ _ s.r];rfl,by rw [aF _ _ _ _ _ _ s.s];rfl,dU s.r,dU s.r,dU s.s⟩
theorem SB.lt {p q l:Nat} {h er:Int} {X:World} (s:SB p q h l er X):p < X.heap.size∧q < X.heap.size:=⟨(aC.1 s.r).1,(aC.1 s.s).1⟩
theorem SB.Qk {p q l l2:Nat} {h h2 er Vg:Int} {X:World} (s:SB p q h l er X):SB p q h2 l2 Vg (((X.setCell ⟨p,0,none⟩ (.int .i64 h2)).setCell ⟨p,1,none⟩ (.int .u64 l2)).setCell ⟨q,0,none⟩ (.int .i64 Vg)):=by
 have h1:=aK X _ 0 _ _ (.int .i64 h2) s.r
 have h3:=aK _ _ 1 _ _ (.int .u64 l2) h1
 refine ⟨?_,?_,s.ne⟩
 ·rw [aH _ _ _ _ s.ne]
  exact h3
 ·have h4:((X.setCell ⟨p,0,none⟩ (.int .i64 h2)).setCell ⟨p,1,none⟩ (.int .u64 l2)).heap[q]?=some (.cells #[.int .i64 er] 32 (0,0)):=by
   rw [aH _ _ _ _ (Ne.symm s.ne),aH _ _ _ _ (Ne.symm s.ne)]
   exact s.s
  exact aK _ _ 0 _ _ _ h4
theorem SB.nU {p q l l2:Nat} {h h2 er Vg:Int} {X:World} (s:SB p q h l er X):SB p q h2 l2 Vg (((X.setCell ⟨q,0,none⟩ (.int .i64 Vg)).setCell ⟨p,0,none⟩ (.int .i64 h2)).setCell ⟨p,1,none⟩ (.int .u64 l2)):=by
 have a:(X.setCell ⟨q,0,none⟩ (.int .i64 Vg)).heap[p]?=some (.cells #[.int .i64 h,.int .u64 l] 220 (0,0)):=by rw [aH _ _ _ _ s.ne];exact s.r
 have h1:=aK _ _ 0 _ _ (.int .i64 h2) a
 have h3:=aK _ _ 1 _ _ (.int .u64 l2) h1
 refine ⟨h3,?_,s.ne⟩
 rw [aH _ _ _ _ (Ne.symm s.ne),aH _ _ _ _ (Ne.symm s.ne)]
 exact aK _ _ 0 _ _ _ s.s
theorem AJ (w:World) (A B C D E:Obj):(((((w.alloc A).alloc B).alloc C).alloc D).alloc E).heap[w.heap.size]?=some A∧(((((w.alloc A).alloc B).alloc C).alloc D).alloc E).heap[w.heap.size + 1]?=some B∧(((((w.alloc A).alloc B).alloc C).alloc D).alloc E).heap[w.heap.size + 1 + 1]?=some C ∧
  (((((w.alloc A).alloc B).alloc C).alloc D).alloc E).heap[w.heap.size + 1 + 1 + 1]?=some D∧(((((w.alloc A).alloc B).alloc C).alloc D).alloc E).heap[w.heap.size + 1 + 1 + 1 + 1]?=some E:=by
 have h0:=aG w A
 have h1:=aG (w.alloc A) B
 have h2:=aG ((w.alloc A).alloc B) C
 have h3:=aG (((w.alloc A).alloc B).alloc C) D
 have h4:=aG ((((w.alloc A).alloc B).alloc C).alloc D) E
 simp only [aR] at h1 h2 h3 h4
 exact ⟨dW (dW (dW (dW h0))),dW (dW (dW h1)),dW (dW h2),dW h3,h4⟩
def RetS (o:Option Int) (w:World) (e:Ending) (w':World):Prop:=∃ h:Int,∃ l:Nat,e=.returned (.tuple #[.agg #[.int .i64 h,.int .u64 l],.int .i64 (smE o)])∧At (smV o) h l∧Below w.heap.size w w'
structure SM (xs ys:List Int) (oa ob:Option Addr) (ca cb:Nat) (w W:World):Prop where
 a:W.heap[w.heap.size + 1 + 1 + 1]?=some (.cells #[.slice oa xs.length ca] 196 (0,0))
 b:W.heap[w.heap.size + 1 + 1 + 1 + 1]?=some (.cells #[.slice ob ys.length cb] 196 (0,0))
 r:W.heap[w.heap.size]?=some (.cells #[.int .i64 0,.int .u64 0] 220 (0,0))
 below:Below w.heap.size w W
theorem SM.kept {xs ys:List Int} {oa ob:Option Addr} {ca cb B:Nat} {w W X:World} (hB:w.heap.size≤B) (k:Kept B W X) (s:SM xs ys oa ob ca cb w W):SM xs ys oa ob ca cb w X:=⟨k.cells s.a,k.cells s.b,k.cells s.r,k.below hB s.below⟩
theorem SM.reads {xs ys:List Int} {oa ob:Option Addr} {ca cb:Nat} {w W:World} (s:SM xs ys oa ob ca cb w W) (hx:Sl w oa xs) (hy:Sl w ob ys):Ep xs ys oa ob ca cb (w.heap.size + 1 + 1 + 1) (w.heap.size + 1 + 1 + 1 + 1) W :=
 ⟨by rw [aF _ _ _ _ _ _ s.a];rfl,by rw [aF _ _ _ _ _ _ s.b];rfl,hx.below s.below,hy.below s.below⟩
theorem SM.set {xs ys:List Int} {oa ob:Option Addr} {ca cb:Nat} {w W:World} (s:SM xs ys oa ob ca cb w W) {p:Nat} (o:Nat) (v:Value) (h0:w.heap.size < p) (h1:p < w.heap.size + 1 + 1 + 1):SM xs ys oa ob ca cb w (W.setCell ⟨p,o,none⟩ v) :=
 ⟨by rw [aH _ _ _ _ (by show _≠p;omega)];exact s.a,by rw [aH _ _ _ _ (by show _≠p;omega)];exact s.b,by rw [aH _ _ _ _ (by show _≠p;omega)];exact s.r,Below.setCell s.below (Nat.le_of_lt h0) _⟩
def SA (xs ys:List Int) (oa ob:Option Addr) (ca cb:Nat) (w:World) (k:Nat) (a:Act):Prop :=
 a={ tmps:=#[.slice oa xs.length ca,.slice ob ys.length cb,undef,undef,.pointer (some ⟨w.heap.size,0,none⟩),.int .i64 0,.pointer (some ⟨w.heap.size + 1,0,none⟩),.pointer (some ⟨w.heap.size + 1 + 1,0,none⟩),.int .i64 (xs.getD k 0),.int .i64 (ys.getD k 0),.agg #[.int .i64 0,.int .u64 0],
  .slice oa xs.length ca,.slice ob ys.length cb,.func (.func 181) #[] #[.pointer (some ⟨w.heap.size + 1 + 1 + 1,0,none⟩),.pointer (some ⟨w.heap.size + 1 + 1 + 1 + 1,0,none⟩)],.int .i64 (xs.getD k 0),.int .i64 (ys.getD k 0),undef,undef,undef,undef,undef,undef,undef,undef,undef,undef,undef,undef],defers:=[] }
def SI (xs ys:List Int) (oa ob:Option Addr) (ca cb:Nat) (w:World) (k:Nat) (W:World):Prop:=∃ s h l,sm xs ys k=some s∧At s h l∧SB (w.heap.size + 1) (w.heap.size + 1 + 1) h l 0 W∧SM xs ys oa ob ca cb w W
def SX (xs ys:List Int) (oa ob:Option Addr) (ca cb:Nat) (w:World) (W:World):Prop:=sm xs ys (min xs.length ys.length)=none∧SB (w.heap.size + 1) (w.heap.size + 1 + 1) 0 0 20 W∧SM xs ys oa ob ca cb w W
theorem jQ {W X:World} (h:Below W.heap.size W X):KeepsOthers W X :=
 ⟨h.size,fun k o hk _=>by rw [h.block k (aC.1 hk).1];exact hk⟩
theorem YX {xs ys:List Int} {oa ob:Option Addr} {ca cb k B:Nat} {w W wn:World} {s x y h h2:Int} {lo l2:Nat} {a:Act} (hs:sm xs ys (k + 1)=if In (s + x * y) then some (s + x * y) else none) (hi:In (s + x * y)) (hk:k < min xs.length ys.length)
  (sb:SB (w.heap.size + 1) (w.heap.size + 1 + 1) h lo 0 wn) (sM:SM xs ys oa ob ca cb w wn) (hq:At (s + x * y) h2 l2) (hb:Below W.heap.size W wn) :
  MB B 0 (SI xs ys oa ob ca cb w (k + 1)) (SX xs ys oa ob ca cb w) W .normal a (((wn.setCell ⟨w.heap.size + 1,0,none⟩ (.int .i64 h2)).setCell ⟨w.heap.size + 1,1,none⟩ (.int .u64 l2)).setCell ⟨w.heap.size + 1 + 1,0,none⟩ (.int .i64 0)) :=
 ⟨((((jQ hb).trans (KeepsOthers.setCell _ _ _)).trans (KeepsOthers.setCell _ _ _)).trans (KeepsOthers.setCell _ _ _)).from _,_,h2,l2,by rw [hs,aT hi],hq,sb.Qk,
  ((sM.set 0 _ (by omega) (by omega)).set 1 _ (by omega) (by omega)).set 0 _ (by omega) (by omega)⟩
theorem PK {xs ys:List Int} {oa ob:Option Addr} {ca cb k B:Nat} {w W wn:World} {s x y h h2:Int} {lo l2:Nat} {a:Act} (hs:sm xs ys (k + 1)=if In (s + x * y) then some (s + x * y) else none) (hi:¬ In (s + x * y)) (hk:k < min xs.length ys.length)
  (sb:SB (w.heap.size + 1) (w.heap.size + 1 + 1) h lo 0 wn) (sM:SM xs ys oa ob ca cb w wn) (hq:At 0 h2 l2) (hb:Below W.heap.size W wn) :
  MB B 0 (SI xs ys oa ob ca cb w (k + 1)) (SX xs ys oa ob ca cb w) W (.exit 0) a (((wn.setCell ⟨w.heap.size + 1,0,none⟩ (.int .i64 h2)).setCell ⟨w.heap.size + 1,1,none⟩ (.int .u64 l2)).setCell ⟨w.heap.size + 1 + 1,0,none⟩ (.int .i64 20)):=by
 obtain ⟨rfl,rfl⟩:h2=0∧l2=0:=by unfold At at hq;omega
 exact ⟨rfl,((((jQ hb).trans (KeepsOthers.setCell _ _ _)).trans (KeepsOthers.setCell _ _ _)).trans (KeepsOthers.setCell _ _ _)).from _,Ii (by rw [hs,aX hi]) _ (by omega),sb.Qk,
  ((sM.set 0 _ (by omega) (by omega)).set 1 _ (by omega) (by omega)).set 0 _ (by omega) (by omega)⟩
theorem EK (xs ys:List Int) (oa ob:Option Addr) (ca cb:Nat) (w:World) (lx:xs.length≤1000000) (ly:ys.length≤1000000) (bx:∀ j,-9223372036854775808≤xs.getD j 0∧xs.getD j 0≤9223372036854775807) (wO:∀ j,-9223372036854775808≤ys.getD j 0∧ys.getD j 0≤9223372036854775807)
  (hx:Sl w oa xs) (hy:Sl w ob ys) :
  Calls Tryz.prog 161 #[.slice oa xs.length ca,.slice ob ys.length cb] w (RetS (sm xs ys (min xs.length ys.length)) w):=by
 have BX:=aA bx;clear bx
 have BY:=aA wO;clear wO
 have HX:=aA hx;clear hx
 have HY:=aA hy;clear hy
 refine (aW (n:=5)).1 ?_
 refine callsIn_of_wp_marks Tryz.func161 rfl trivial ?_ rfl
 simp only [Tryz.ntmps161,aL,bK,List.length_nil,Nat.reduceAdd,Nat.reduceSub,Array.replicate_succ,Array.replicate_zero,List.push_toArray,List.append_toArray,bX,bT]
 refine bG.2 ?_
 go_wp2_with fail
 go_step3
 go_wp2_with fail
 go_step3
 go_wp2_with fail
 refine (Iy _ _ _ _ _ _ _).mono ?_
 rintro e w' ⟨rfl,rfl⟩
 go_wp2_with fail
 obtain ⟨W0,hW0⟩:∃ W0,(((((w.alloc (.cells #[.int .i64 0,.int .u64 0] 220)).alloc (.cells #[.int .i64 0,.int .u64 0] 220)).alloc (.cells #[.int .i64 0] 32)).alloc (.cells #[.slice oa xs.length ca] 196)).alloc (.cells #[.slice ob ys.length cb] 196))=W0:=⟨_,rfl⟩
 have hB0:Below w.heap.size w W0:=by rw [←hW0];go_grown
 have hS0:W0.heap.size=w.heap.size + 5:=by rw [←hW0];simp
 have sb0:SB (w.heap.size + 1) (w.heap.size + 1 + 1) 0 0 0 W0:=by
  rw [←hW0]
  exact ⟨(AJ w _ _ _ _ _).2.1,(AJ w _ _ _ _ _).2.2.1,by omega⟩
 have sm0:SM xs ys oa ob ca cb w W0:=by
  refine ⟨?_,?_,?_,hB0⟩
  ·rw [←hW0];exact (AJ w _ _ _ _ _).2.2.2.1
  ·rw [←hW0];exact (AJ w _ _ _ _ _).2.2.2.2
  ·rw [←hW0];exact (AJ w _ _ _ _ _).1
 rw [hW0]
 clear hW0
 have LB:SI xs ys oa ob ca cb w 0 W0:=⟨0,0,0,rfl,by unfold At;omega,sb0,sm0⟩
 have hHD:=JI xs ys oa ob ca cb (w.heap.size + 1 + 1 + 1) (w.heap.size + 1 + 1 + 1 + 1) lx ly
 clear sb0 sm0
 refine bG.1 (jO (F:=Fence.wide) (n:=5) rfl (by omega) (gf:=181) (lb:=#[.pointer (some ⟨w.heap.size + 1 + 1 + 1,0,none⟩),.pointer (some ⟨w.heap.size + 1 + 1 + 1 + 1,0,none⟩)]) rfl trivial (enters_of Tryz.func181 (by kernel_rfl) rfl)
  hHD (fun _=>rfl) 0 (SI xs ys oa ob ca cb w) (SX xs ys oa ob ca cb w)
  (fun k a' W=>SA xs ys oa ob ca cb w k a'∧SI xs ys oa ob ca cb w k W)
  ?i1 ?i2 ?i3 ?i4 ?i5 LB ?assign ?body ?done ?stop)
 case i1=>rintro k W X ⟨s,h,l,h1,h2,h3,h4⟩ hk;exact ⟨s,h,l,h1,h2,h3.kept hk,h4.kept (by omega) hk⟩
 case i2=>rintro W X ⟨h1,h3,h4⟩ hk;exact ⟨h1,h3.kept hk,h4.kept (by omega) hk⟩
 case i3=>rintro k a W X ⟨h0,s,h,l,h1,h2,h3,h4⟩ hk;exact ⟨h0,s,h,l,h1,h2,h3.kept hk,h4.kept (by omega) hk⟩
 case i4=>rintro k W ⟨s,h,l,h1,h2,h3,h4⟩;exact h4.reads HX.out HY.out
 case i5=>rintro W ⟨h1,h3,h4⟩;exact h4.reads HX.out HY.out
 case assign =>
  intro l k W C hk hI hC
  simp only [zB]
  gi_wp2
  exact hC _ _ (KeepsFrom.refl _ _) ⟨rfl,hI⟩
 case body =>
  rintro l k a' W hk ⟨ha,s,h,lo,hs,hat,sb,sM⟩
  unfold SA at ha
  subst ha
  obtain ⟨x,hxk⟩:∃ x,xs.getD k 0=x:=⟨_,rfl⟩
  obtain ⟨y,hyk⟩:∃ y,ys.getD k 0=y:=⟨_,rfl⟩
  have bx:=BX.out k
  have by1:=BY.out k
  rw [hxk] at bx ⊢
  rw [hyk] at by1 ⊢
  have hs1:sm xs ys (k + 1)=if In (s + x * y) then some (s + x * y) else none:=by simp only [sm,hs,hxk,hyk]
  have CU:=aA hs1
  have HAT:=aA hat
  have HK:=aA hk
  clear hs1 hxk hyk hs hat hk
  obtain ⟨c0,c1,c2,f0,f1,f2⟩:=sb.facts
  have SBH:=aA sb
  have Oq:=aA sM
  clear sb sM
  have hW0l:w.heap.size + 5≤W0.heap.size:=by omega
  by_cases hi:In (s + x * y)
  ·have hAdd:Hid (∀ (ph:Int) (pl:Nat) (wz:World),At (x * y) ph pl→Calls Tryz.prog 172 #[.agg #[.int .i64 h,.int .u64 lo],.agg #[.int .i64 ph,.int .u64 pl]] wz fun e w'=>∃ qh:Int,∃ ql:Nat,e=.returned (.tuple #[.agg #[.int .i64 qh,.int .u64 ql],.int .i64 0])∧At (s + x * y) qh ql∧Below wz.heap.size wz w') :=
    aA fun ph pl wz hp=>(SQ s (x * y) h ph lo pl wz HAT.out hp).mono fun e w' ⟨a,b,he,ha,hb⟩=>⟨a,b,by rw [he,CP,aT hi],by rw [tF,aT hi] at ha;exact ha,hb⟩
   gi_wp2
   refine fD (S:=fun _=>True) (by kernel_rfl) trivial (fun hHeld=>?_)
   refine dP (fun _=>trivial) (by kernel_rfl) (i:=1) (oi:=_) (v:=?_) rfl (by kernel_rfl) (by kernel_rfl) (by kernel_rfl) (fun _ _ _ h=>h) (by assumption) (Or.inl ⟨by kernel_rfl,?_⟩) ?_
   rotate_left
   ·intro wz hSw;(first | (go_simp;done) | (go_simp;with_reducible rfl))
   try simp only [aQ]
   refine dP (fun _=>trivial) (by kernel_rfl) (i:=2) (oi:=_) (v:=?_) rfl (by kernel_rfl) (by kernel_rfl) (by kernel_rfl) (fun _ _ _ h=>h) (by assumption) (Or.inl ⟨by kernel_rfl,?_⟩) ?_
   rotate_left
   ·intro wz hSw;(first | (go_simp;done) | (go_simp;with_reducible rfl))
   try simp only [aQ]
   refine kL (fun _=>trivial) (i:=0) (j:=3) (o:=_) (o2:=_) (by kernel_rfl) rfl rfl (fun K hK=>?_) (fun K hK=>?_)
   ·go_simp
    refine hK.out _ _ trivial (fun hHeld=>?_)
    clear hK K
    try simp only [aQ]
    refine dX (fun _=>trivial) (i:=3) (o:=_) (by kernel_rfl) rfl (fun K hK=>?_)
    go_simp
    refine ⟨trivial,CallsIn.inRound l (aW.2 ((xV x y _ (by omega) (by omega) (by omega) (by omega)).mono ?_))⟩
    rintro e wm ⟨ph,pl,rfl,hp,FR⟩
    dsimp only
    refine hK.out _ _ trivial (fun hHeld=>?_)
    clear hK K
    try simp only [aQ]
    have hbW:Below W.heap.size W wm:=tQ 1 FR
    have sb1:=SB.kept (B:=0) (Kept.of_below hbW) SBH.out
    have ZA:=SM.kept (B:=w.heap.size) (aB _) (Kept.of_below hbW) Oq.out
    obtain ⟨m0,m1,m2,e0,e1,e2⟩:=sb1.facts
    have Tk:=aA sb1
    have Ti:=aA ZA
    clear sb1 ZA
    refine dX (fun _=>trivial) (i:=4) (o:=_) (by kernel_rfl) rfl (fun K hK=>?_)
    go_simp
    refine ⟨trivial,CallsIn.inRound l (aW.2 ((hAdd.out ph pl _ hp).mono ?_))⟩
    rintro e wn ⟨qh,ql,rfl,hq,hbn⟩
    dsimp only
    refine hK.out _ _ trivial (fun hHeld=>?_)
    clear hK K
    try simp only [aQ]
    have MP:=SB.kept (B:=0) (Kept.of_below hbn) Tk.out
    have YZ:=SM.kept (B:=w.heap.size) (aB _) (Kept.of_below hbn) Ti.out
    obtain ⟨n0,n1,n2,g0,g1,g2⟩:=MP.facts
    have Tj:=aA MP
    have Tg:=aA YZ
    clear MP YZ
    refine dP (fun _=>trivial) (by kernel_rfl) (i:=5) (oi:=_) (v:=?_) rfl (by kernel_rfl) (by kernel_rfl) (by kernel_rfl) (fun _ _ _ h=>h) (by assumption) (Or.inl ⟨by kernel_rfl,?_⟩) ?_
    rotate_left
    ·intro wz hSw;(first | (go_simp;done) | (go_simp;with_reducible rfl))
    try simp only [aQ]
    refine dP (fun _=>trivial) (by kernel_rfl) (i:=6) (oi:=_) (v:=?_) rfl (by kernel_rfl) (by kernel_rfl) (by kernel_rfl) (fun _ _ _ h=>h) (by assumption) (Or.inl ⟨by kernel_rfl,?_⟩) ?_
    rotate_left
    ·intro wz hSw;(first | (go_simp;done) | (go_simp;with_reducible rfl))
    try simp only [aQ]
    refine dP (fun _=>trivial) (by kernel_rfl) (i:=7) (oi:=_) (v:=?_) rfl (by kernel_rfl) (by kernel_rfl) (by kernel_rfl) (fun _ _ _ h=>h) (by assumption) (Or.inl ⟨by kernel_rfl,?_⟩) ?_
    rotate_left
    ·intro wz hSw;(first | (go_simp;done) | (go_simp;with_reducible rfl))
    try simp only [aQ]
    refine dX (fun _=>trivial) (i:=8) (o:=_) (by kernel_rfl) rfl (fun K hK=>?_)
    go_simp
    refine hK.out _ _ trivial (fun hHeld=>?_)
    clear hK K
    try simp only [aQ]
    refine dX (fun _=>trivial) (i:=9) (o:=_) (by kernel_rfl) rfl (fun K hK=>?_)
    go_simp
    refine hK.out _ _ trivial (fun hHeld=>?_)
    clear hK K
    try simp only [aQ]
    refine fC (by kernel_rfl) ?_ _
    clear hHeld
    gi_wp2
    exact YX CU.out hi HK.out Tj.out Tg.out hq (hbW.trans (hbn.mono hbW.size))
   ·go_simp
    refine ⟨trivial,CallsIn.inRound l (aW.2 ((xV x y _ (by omega) (by omega) (by omega) (by omega)).mono ?_))⟩
    rintro e wm ⟨ph,pl,rfl,hp,FR⟩
    dsimp only
    refine hK.out _ _ trivial (fun hHeld=>?_)
    clear hK K
    try simp only [aQ]
    have hbW:Below W.heap.size W wm:=tQ 1 FR
    have sb1:=SB.kept (B:=0) (Kept.of_below hbW) SBH.out
    have ZA:=SM.kept (B:=w.heap.size) (aB _) (Kept.of_below hbW) Oq.out
    obtain ⟨m0,m1,m2,e0,e1,e2⟩:=sb1.facts
    have Tk:=aA sb1
    have Ti:=aA ZA
    clear sb1 ZA
    refine dX (fun _=>trivial) (i:=0) (o:=_) (by kernel_rfl) rfl (fun K hK=>?_)
    go_simp
    refine hK.out _ _ trivial (fun hHeld=>?_)
    clear hK K
    try simp only [aQ]
    refine dX (fun _=>trivial) (i:=4) (o:=_) (by kernel_rfl) rfl (fun K hK=>?_)
    go_simp
    refine ⟨trivial,CallsIn.inRound l (aW.2 ((hAdd.out ph pl _ hp).mono ?_))⟩
    rintro e wn ⟨qh,ql,rfl,hq,hbn⟩
    dsimp only
    refine hK.out _ _ trivial (fun hHeld=>?_)
    clear hK K
    try simp only [aQ]
    have MP:=SB.kept (B:=0) (Kept.of_below hbn) Tk.out
    have YZ:=SM.kept (B:=w.heap.size) (aB _) (Kept.of_below hbn) Ti.out
    obtain ⟨n0,n1,n2,g0,g1,g2⟩:=MP.facts
    have Tj:=aA MP
    have Tg:=aA YZ
    clear MP YZ
    refine dP (fun _=>trivial) (by kernel_rfl) (i:=5) (oi:=_) (v:=?_) rfl (by kernel_rfl) (by kernel_rfl) (by kernel_rfl) (fun _ _ _ h=>h) (by assumption) (Or.inl ⟨by kernel_rfl,?_⟩) ?_
    rotate_left
    ·intro wz hSw;(first | (go_simp;done) | (go_simp;with_reducible rfl))
    try simp only [aQ]
    refine dP (fun _=>trivial) (by kernel_rfl) (i:=6) (oi:=_) (v:=?_) rfl (by kernel_rfl) (by kernel_rfl) (by kernel_rfl) (fun _ _ _ h=>h) (by assumption) (Or.inl ⟨by kernel_rfl,?_⟩) ?_
    rotate_left
    ·intro wz hSw;(first | (go_simp;done) | (go_simp;with_reducible rfl))
    try simp only [aQ]
    refine dP (fun _=>trivial) (by kernel_rfl) (i:=7) (oi:=_) (v:=?_) rfl (by kernel_rfl) (by kernel_rfl) (by kernel_rfl) (fun _ _ _ h=>h) (by assumption) (Or.inl ⟨by kernel_rfl,?_⟩) ?_
    rotate_left
    ·intro wz hSw;(first | (go_simp;done) | (go_simp;with_reducible rfl))
    try simp only [aQ]
    refine dX (fun _=>trivial) (i:=8) (o:=_) (by kernel_rfl) rfl (fun K hK=>?_)
    go_simp
    refine hK.out _ _ trivial (fun hHeld=>?_)
    clear hK K
    try simp only [aQ]
    refine dX (fun _=>trivial) (i:=9) (o:=_) (by kernel_rfl) rfl (fun K hK=>?_)
    go_simp
    refine hK.out _ _ trivial (fun hHeld=>?_)
    clear hK K
    try simp only [aQ]
    refine fC (by kernel_rfl) ?_ _
    clear hHeld
    gi_wp2
    exact YX CU.out hi HK.out Tj.out Tg.out hq (hbW.trans (hbn.mono hbW.size))
  ·have hAdd:Hid (∀ (ph:Int) (pl:Nat) (wz:World),At (x * y) ph pl→Calls Tryz.prog 172 #[.agg #[.int .i64 h,.int .u64 lo],.agg #[.int .i64 ph,.int .u64 pl]] wz fun e w'=>∃ qh:Int,∃ ql:Nat,e=.returned (.tuple #[.agg #[.int .i64 qh,.int .u64 ql],.int .i64 20])∧At 0 qh ql∧Below wz.heap.size wz w') :=
    aA fun ph pl wz hp=>(SQ s (x * y) h ph lo pl wz HAT.out hp).mono fun e w' ⟨a,b,he,ha,hb⟩=>⟨a,b,by rw [he,CP,aX hi],by rw [tF,aX hi] at ha;exact ha,hb⟩
   gi_wp2
   refine fD (S:=fun _=>True) (by kernel_rfl) trivial (fun hHeld=>?_)
   refine dP (fun _=>trivial) (by kernel_rfl) (i:=1) (oi:=_) (v:=?_) rfl (by kernel_rfl) (by kernel_rfl) (by kernel_rfl) (fun _ _ _ h=>h) (by assumption) (Or.inl ⟨by kernel_rfl,?_⟩) ?_
   rotate_left
   ·intro wz hSw;(first | (go_simp;done) | (go_simp;with_reducible rfl))
   try simp only [aQ]
   refine dP (fun _=>trivial) (by kernel_rfl) (i:=2) (oi:=_) (v:=?_) rfl (by kernel_rfl) (by kernel_rfl) (by kernel_rfl) (fun _ _ _ h=>h) (by assumption) (Or.inl ⟨by kernel_rfl,?_⟩) ?_
   rotate_left
   ·intro wz hSw;(first | (go_simp;done) | (go_simp;with_reducible rfl))
   try simp only [aQ]
   refine kL (fun _=>trivial) (i:=0) (j:=3) (o:=_) (o2:=_) (by kernel_rfl) rfl rfl (fun K hK=>?_) (fun K hK=>?_)
   ·go_simp
    refine hK.out _ _ trivial (fun hHeld=>?_)
    clear hK K
    try simp only [aQ]
    refine dX (fun _=>trivial) (i:=3) (o:=_) (by kernel_rfl) rfl (fun K hK=>?_)
    go_simp
    refine ⟨trivial,CallsIn.inRound l (aW.2 ((xV x y _ (by omega) (by omega) (by omega) (by omega)).mono ?_))⟩
    rintro e wm ⟨ph,pl,rfl,hp,FR⟩
    dsimp only
    refine hK.out _ _ trivial (fun hHeld=>?_)
    clear hK K
    try simp only [aQ]
    have hbW:Below W.heap.size W wm:=tQ 1 FR
    have sb1:=SB.kept (B:=0) (Kept.of_below hbW) SBH.out
    have ZA:=SM.kept (B:=w.heap.size) (aB _) (Kept.of_below hbW) Oq.out
    obtain ⟨m0,m1,m2,e0,e1,e2⟩:=sb1.facts
    have Tk:=aA sb1
    have Ti:=aA ZA
    clear sb1 ZA
    refine dX (fun _=>trivial) (i:=4) (o:=_) (by kernel_rfl) rfl (fun K hK=>?_)
    go_simp
    refine ⟨trivial,CallsIn.inRound l (aW.2 ((hAdd.out ph pl _ hp).mono ?_))⟩
    rintro e wn ⟨qh,ql,rfl,hq,hbn⟩
    dsimp only
    refine hK.out _ _ trivial (fun hHeld=>?_)
    clear hK K
    try simp only [aQ]
    have MP:=SB.kept (B:=0) (Kept.of_below hbn) Tk.out
    have YZ:=SM.kept (B:=w.heap.size) (aB _) (Kept.of_below hbn) Ti.out
    obtain ⟨n0,n1,n2,g0,g1,g2⟩:=MP.facts
    have Tj:=aA MP
    have Tg:=aA YZ
    clear MP YZ
    refine dP (fun _=>trivial) (by kernel_rfl) (i:=5) (oi:=_) (v:=?_) rfl (by kernel_rfl) (by kernel_rfl) (by kernel_rfl) (fun _ _ _ h=>h) (by assumption) (Or.inl ⟨by kernel_rfl,?_⟩) ?_
    rotate_left
    ·intro wz hSw;(first | (go_simp;done) | (go_simp;with_reducible rfl))
    try simp only [aQ]
    refine dP (fun _=>trivial) (by kernel_rfl) (i:=6) (oi:=_) (v:=?_) rfl (by kernel_rfl) (by kernel_rfl) (by kernel_rfl) (fun _ _ _ h=>h) (by assumption) (Or.inl ⟨by kernel_rfl,?_⟩) ?_
    rotate_left
    ·intro wz hSw;(first | (go_simp;done) | (go_simp;with_reducible rfl))
    try simp only [aQ]
    refine dP (fun _=>trivial) (by kernel_rfl) (i:=7) (oi:=_) (v:=?_) rfl (by kernel_rfl) (by kernel_rfl) (by kernel_rfl) (fun _ _ _ h=>h) (by assumption) (Or.inl ⟨by kernel_rfl,?_⟩) ?_
    rotate_left
    ·intro wz hSw;(first | (go_simp;done) | (go_simp;with_reducible rfl))
    try simp only [aQ]
    refine dX (fun _=>trivial) (i:=8) (o:=_) (by kernel_rfl) rfl (fun K hK=>?_)
    go_simp
    refine hK.out _ _ trivial (fun hHeld=>?_)
    clear hK K
    try simp only [aQ]
    refine dX (fun _=>trivial) (i:=9) (o:=_) (by kernel_rfl) rfl (fun K hK=>?_)
    go_simp
    refine hK.out _ _ trivial (fun hHeld=>?_)
    clear hK K
    try simp only [aQ]
    refine fC (by kernel_rfl) ?_ _
    clear hHeld
    gi_wp2
    exact PK CU.out hi HK.out Tj.out Tg.out hq (hbW.trans (hbn.mono hbW.size))
   ·go_simp
    refine ⟨trivial,CallsIn.inRound l (aW.2 ((xV x y _ (by omega) (by omega) (by omega) (by omega)).mono ?_))⟩
    rintro e wm ⟨ph,pl,rfl,hp,FR⟩
    dsimp only
    refine hK.out _ _ trivial (fun hHeld=>?_)
    clear hK K
    try simp only [aQ]
    have hbW:Below W.heap.size W wm:=tQ 1 FR
    have sb1:=SB.kept (B:=0) (Kept.of_below hbW) SBH.out
    have ZA:=SM.kept (B:=w.heap.size) (aB _) (Kept.of_below hbW) Oq.out
    obtain ⟨m0,m1,m2,e0,e1,e2⟩:=sb1.facts
    have Tk:=aA sb1
    have Ti:=aA ZA
    clear sb1 ZA
    refine dX (fun _=>trivial) (i:=0) (o:=_) (by kernel_rfl) rfl (fun K hK=>?_)
    go_simp
    refine hK.out _ _ trivial (fun hHeld=>?_)
    clear hK K
    try simp only [aQ]
    refine dX (fun _=>trivial) (i:=4) (o:=_) (by kernel_rfl) rfl (fun K hK=>?_)
    go_simp
    refine ⟨trivial,CallsIn.inRound l (aW.2 ((hAdd.out ph pl _ hp).mono ?_))⟩
    rintro e wn ⟨qh,ql,rfl,hq,hbn⟩
    dsimp only
    refine hK.out _ _ trivial (fun hHeld=>?_)
    clear hK K
    try simp only [aQ]
    have MP:=SB.kept (B:=0) (Kept.of_below hbn) Tk.out
    have YZ:=SM.kept (B:=w.heap.size) (aB _) (Kept.of_below hbn) Ti.out
    obtain ⟨n0,n1,n2,g0,g1,g2⟩:=MP.facts
    have Tj:=aA MP
    have Tg:=aA YZ
    clear MP YZ
    refine dP (fun _=>trivial) (by kernel_rfl) (i:=5) (oi:=_) (v:=?_) rfl (by kernel_rfl) (by kernel_rfl) (by kernel_rfl) (fun _ _ _ h=>h) (by assumption) (Or.inl ⟨by kernel_rfl,?_⟩) ?_
    rotate_left
    ·intro wz hSw;(first | (go_simp;done) | (go_simp;with_reducible rfl))
    try simp only [aQ]
    refine dP (fun _=>trivial) (by kernel_rfl) (i:=6) (oi:=_) (v:=?_) rfl (by kernel_rfl) (by kernel_rfl) (by kernel_rfl) (fun _ _ _ h=>h) (by assumption) (Or.inl ⟨by kernel_rfl,?_⟩) ?_
    rotate_left
    ·intro wz hSw;(first | (go_simp;done) | (go_simp;with_reducible rfl))
    try simp only [aQ]
    refine dP (fun _=>trivial) (by kernel_rfl) (i:=7) (oi:=_) (v:=?_) rfl (by kernel_rfl) (by kernel_rfl) (by kernel_rfl) (fun _ _ _ h=>h) (by assumption) (Or.inl ⟨by kernel_rfl,?_⟩) ?_
    rotate_left
    ·intro wz hSw;(first | (go_simp;done) | (go_simp;with_reducible rfl))
    try simp only [aQ]
    refine dX (fun _=>trivial) (i:=8) (o:=_) (by kernel_rfl) rfl (fun K hK=>?_)
    go_simp
    refine hK.out _ _ trivial (fun hHeld=>?_)
    clear hK K
    try simp only [aQ]
    refine dX (fun _=>trivial) (i:=9) (o:=_) (by kernel_rfl) rfl (fun K hK=>?_)
    go_simp
    refine hK.out _ _ trivial (fun hHeld=>?_)
    clear hK K
    try simp only [aQ]
    refine fC (by kernel_rfl) ?_ _
    clear hHeld
    gi_wp2
    exact PK CU.out hi HK.out Tj.out Tg.out hq (hbW.trans (hbn.mono hbW.size))
 case done =>
  rintro D W hD ⟨s,h,lo,hs,hat,sb,sM⟩ hdef
  have HSF:=aA hs
  have HAT:=aA hat
  clear hs hat
  obtain ⟨c0,c1,c2,f0,f1,f2⟩:=sb.facts
  have Oq:=aA sM
  rw [hS0] at hD
  have hrr:=sM.r
  clear sb sM
  have r0:W.cell? ⟨w.heap.size,0,none⟩=some (.int .i64 0):=by rw [aF _ _ _ _ _ _ hrr];rfl
  have r1:W.cell? ⟨w.heap.size,1,none⟩=some (.int .u64 0):=by rw [aF _ _ _ _ _ _ hrr];rfl
  have r2:W.frozen? ⟨w.heap.size,0,none⟩=false:=dU hrr
  have r3:W.frozen? ⟨w.heap.size,1,none⟩=false:=dU hrr
  have HRR:=aA hrr
  clear hrr
  go_wp2_with fail
  refine wp_region_noPanic ?_
  refine (bG (n:=5)).1 (fD (F:=Fence.wide) (S:=(fun X=>X.cell? ⟨w.heap.size + 1,0,none⟩=some (.int .i64 h)∧X.cell? ⟨w.heap.size + 1,1,none⟩=some (.int .u64 lo)∧X.cell? ⟨w.heap.size + 1 + 1,0,none⟩=some (.int .i64 0))) (by kernel_rfl) ⟨c0,c1,c2⟩ (fun hHeld=>?_))
  refine dP (fun _=>trivial) (by kernel_rfl) (i:=0) (oi:=_) (v:=?_) rfl (by kernel_rfl) (by kernel_rfl) (by kernel_rfl) (fun _ _ _ h=>h) (by assumption) (Or.inl ⟨by kernel_rfl,?_⟩) ?_
  rotate_left
  ·intro wz hSw;obtain ⟨h1,h2,h3⟩:=hSw;(first | (go_simp;done) | (go_simp;with_reducible rfl))
  try simp only [aQ]
  refine dP (fun _=>trivial) (by kernel_rfl) (i:=1) (oi:=_) (v:=?_) rfl (by kernel_rfl) (by kernel_rfl) (by kernel_rfl) (fun _ _ _ h=>h) (by assumption) (Or.inl ⟨by kernel_rfl,?_⟩) ?_
  rotate_left
  ·intro wz hSw;obtain ⟨h1,h2,h3⟩:=hSw;(first | (go_simp;done) | (go_simp;with_reducible rfl))
  try simp only [aQ]
  refine dX (fun _=>trivial) (i:=2) (o:=_) (by kernel_rfl) rfl (fun K hK=>?_)
  go_simp
  refine hK.out _ _ ⟨by simp [go_sem, *],by simp [go_sem, *],by simp [go_sem, *]⟩ (fun hHeld=>?_)
  clear hK K
  try simp only [aQ]
  refine dP (fun _=>trivial) (by kernel_rfl) (i:=3) (oi:=_) (v:=?_) rfl (by kernel_rfl) (by kernel_rfl) (by kernel_rfl) (fun _ _ _ h=>h) (by assumption) (Or.inl ⟨by kernel_rfl,?_⟩) ?_
  rotate_left
  ·intro wz hSw;(first | (go_simp;done) | (go_simp;with_reducible rfl))
  try simp only [aQ]
  refine fC (by kernel_rfl) ?_ _
  refine NoPanic.normal ?_
  clear hHeld
  go_wp2_with fail
  rw [Exit.noGoto_ret]
  have hdf:(((W.setCell ⟨w.heap.size,0,none⟩ (.int .i64 h)).setCell ⟨w.heap.size,1,none⟩ (.int .u64 lo)).drew).heap[D]?=some (.deferred (some [])):=(((KeepsOthers.setCell W ⟨w.heap.size,0,none⟩ (.int .i64 h)).trans (KeepsOthers.setCell _ ⟨w.heap.size,1,none⟩ (.int .u64 lo))).same D _ hdef rfl)
  refine ⟨by simp,.inl ⟨_,_,rfl,run_takeDeferred hdf,?_⟩⟩
  have hbl:Below w.heap.size w ((((W.setCell ⟨w.heap.size,0,none⟩ (.int .i64 h)).setCell ⟨w.heap.size,1,none⟩ (.int .u64 lo)).drew).putObj D (.deferred none)) :=
   (Below.drew ((Oq.out.below.setCell (p:=⟨w.heap.size,0,none⟩) (aB _) _).setCell (p:=⟨w.heap.size,1,none⟩) (aB _) _)).trans (belowK_b (w:=w) (aB _) _ D _ _ (by omega) hdf rfl rfl)
  have hrow:((((W.setCell ⟨w.heap.size,0,none⟩ (.int .i64 h)).setCell ⟨w.heap.size,1,none⟩ (.int .u64 lo)).drew).putObj D (.deferred none)).heap[w.heap.size]?=some (.cells #[.int .i64 h,.int .u64 lo] 220 (0,0)):=by
   rw [World.putObj_heap_other (by omega)]
   exact aK _ _ 1 _ _ _ (aK _ _ 0 _ _ _ HRR.out)
  refine ⟨.tuple #[.agg #[.int .i64 h,.int .u64 lo],.int .i64 0],?_,?_⟩
  ·have k0:=(aF _ _ 0 _ _ _ hrow)
   have k1:=(aF _ _ 1 _ _ _ hrow)
   generalize ((((W.setCell ⟨w.heap.size,0,none⟩ (.int .i64 h)).setCell ⟨w.heap.size,1,none⟩ (.int .u64 lo)).drew).putObj D (.deferred none))=Y at k0 k1 ⊢
   clear hrow hbl hdf hdef r0 r1 r2 r3 c0 c1 c2 f0 f1 f2
   have k0':Y.cell? ⟨w.heap.size,0,none⟩=some (.int .i64 h):=k0
   have k1':Y.cell? ⟨w.heap.size,1,none⟩=some (.int .u64 lo):=k1
   clear k0 k1
   simp [results,Tryz.results161,go_sem, *]
  ·exact ⟨h,lo,by rw [HSF.out];rfl,by rw [HSF.out];exact HAT.out,hbl⟩
 case stop =>
  rintro D W hD ⟨hs,sb,sM⟩ hdef
  have HSF:=aA hs
  clear hs
  obtain ⟨c0,c1,c2,f0,f1,f2⟩:=sb.facts
  have Oq:=aA sM
  rw [hS0] at hD
  have hrr:=sM.r
  clear sb sM
  have r0:W.cell? ⟨w.heap.size,0,none⟩=some (.int .i64 0):=by rw [aF _ _ _ _ _ _ hrr];rfl
  have r1:W.cell? ⟨w.heap.size,1,none⟩=some (.int .u64 0):=by rw [aF _ _ _ _ _ _ hrr];rfl
  have r2:W.frozen? ⟨w.heap.size,0,none⟩=false:=dU hrr
  have r3:W.frozen? ⟨w.heap.size,1,none⟩=false:=dU hrr
  have HRR:=aA hrr
  clear hrr
  refine bG.2 ?_
  go_wp2_with fail
  refine wp_region_noPanic ?_
  refine (bG (n:=5)).1 (fD (F:=Fence.wide) (S:=(fun X=>X.cell? ⟨w.heap.size + 1,0,none⟩=some (.int .i64 0)∧X.cell? ⟨w.heap.size + 1,1,none⟩=some (.int .u64 0)∧X.cell? ⟨w.heap.size + 1 + 1,0,none⟩=some (.int .i64 20))) (by kernel_rfl) ⟨c0,c1,c2⟩ (fun hHeld=>?_))
  refine dP (fun _=>trivial) (by kernel_rfl) (i:=0) (oi:=_) (v:=?_) rfl (by kernel_rfl) (by kernel_rfl) (by kernel_rfl) (fun _ _ _ h=>h) (by assumption) (Or.inl ⟨by kernel_rfl,?_⟩) ?_
  rotate_left
  ·intro wz hSw;obtain ⟨h1,h2,h3⟩:=hSw;(first | (go_simp;done) | (go_simp;with_reducible rfl))
  try simp only [aQ]
  refine dP (fun _=>trivial) (by kernel_rfl) (i:=1) (oi:=_) (v:=?_) rfl (by kernel_rfl) (by kernel_rfl) (by kernel_rfl) (fun _ _ _ h=>h) (by assumption) (Or.inl ⟨by kernel_rfl,?_⟩) ?_
  rotate_left
  ·intro wz hSw;obtain ⟨h1,h2,h3⟩:=hSw;(first | (go_simp;done) | (go_simp;with_reducible rfl))
  try simp only [aQ]
  refine dX (fun _=>trivial) (i:=2) (o:=_) (by kernel_rfl) rfl (fun K hK=>?_)
  go_simp
  refine hK.out _ _ ⟨by simp [go_sem, *],by simp [go_sem, *],by simp [go_sem, *]⟩ (fun hHeld=>?_)
  clear hK K
  try simp only [aQ]
  refine dP (fun _=>trivial) (by kernel_rfl) (i:=3) (oi:=_) (v:=?_) rfl (by kernel_rfl) (by kernel_rfl) (by kernel_rfl) (fun _ _ _ h=>h) (by assumption) (Or.inl ⟨by kernel_rfl,?_⟩) ?_
  rotate_left
  ·intro wz hSw;(first | (go_simp;done) | (go_simp;with_reducible rfl))
  try simp only [aQ]
  refine fC (by kernel_rfl) ?_ _
  refine NoPanic.normal ?_
  clear hHeld
  go_wp2_with fail
  rw [Exit.noGoto_ret]
  have hdf:(((W.setCell ⟨w.heap.size,0,none⟩ (.int .i64 0)).setCell ⟨w.heap.size,1,none⟩ (.int .u64 0)).drew).heap[D]?=some (.deferred (some [])):=(((KeepsOthers.setCell W ⟨w.heap.size,0,none⟩ (.int .i64 0)).trans (KeepsOthers.setCell _ ⟨w.heap.size,1,none⟩ (.int .u64 0))).same D _ hdef rfl)
  refine ⟨by simp,.inl ⟨_,_,rfl,run_takeDeferred hdf,?_⟩⟩
  have hbl:Below w.heap.size w ((((W.setCell ⟨w.heap.size,0,none⟩ (.int .i64 0)).setCell ⟨w.heap.size,1,none⟩ (.int .u64 0)).drew).putObj D (.deferred none)) :=
   (Below.drew ((Oq.out.below.setCell (p:=⟨w.heap.size,0,none⟩) (aB _) _).setCell (p:=⟨w.heap.size,1,none⟩) (aB _) _)).trans (belowK_b (w:=w) (aB _) _ D _ _ (by omega) hdf rfl rfl)
  have hrow:((((W.setCell ⟨w.heap.size,0,none⟩ (.int .i64 0)).setCell ⟨w.heap.size,1,none⟩ (.int .u64 0)).drew).putObj D (.deferred none)).heap[w.heap.size]?=some (.cells #[.int .i64 0,.int .u64 0] 220 (0,0)):=by
   rw [World.putObj_heap_other (by omega)]
   exact aK _ _ 1 _ _ _ (aK _ _ 0 _ _ _ HRR.out)
  refine ⟨.tuple #[.agg #[.int .i64 0,.int .u64 0],.int .i64 20],?_,?_⟩
  ·have k0:=(aF _ _ 0 _ _ _ hrow)
   have k1:=(aF _ _ 1 _ _ _ hrow)
   generalize ((((W.setCell ⟨w.heap.size,0,none⟩ (.int .i64 0)).setCell ⟨w.heap.size,1,none⟩ (.int .u64 0)).drew).putObj D (.deferred none))=Y at k0 k1 ⊢
   clear hrow hbl hdf hdef r0 r1 r2 r3 c0 c1 c2 f0 f1 f2
   have k0':Y.cell? ⟨w.heap.size,0,none⟩=some (.int .i64 0):=k0
   have k1':Y.cell? ⟨w.heap.size,1,none⟩=some (.int .u64 0):=k1
   clear k0 k1
   simp [results,Tryz.results161,go_sem, *]
  ·exact ⟨0,0,by rw [HSF.out];rfl,by rw [HSF.out];unfold smV At;simp,hbl⟩
end Fx
end Go.Proofs.YtbbhmhihpdmoiaaGreat
