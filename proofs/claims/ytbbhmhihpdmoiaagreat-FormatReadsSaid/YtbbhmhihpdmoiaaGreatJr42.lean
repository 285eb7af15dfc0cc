import Derived.Test.YtbbhmhihpdmoiaaGreatJr41
set_option linter.unusedVariables false
set_option linter.unusedSimpArgs false
set_option maxRecDepth 100000
set_option maxHeartbeats 32000000
namespace Go.Proofs.YtbbhmhihpdmoiaaGreat
namespace Fx
open Go Go.RowKit Go.Lib
open Pk (iA Bs By PR iK)
def Shift {κ:Type} (P:nV κ):Prop:=∀ l d a,P l (d + a)=(P (l.drop d) a).map fun q=>(q.1,d + q.2)
theorem Shift.u (most:Nat):Shift (pU most):=fun l d a=>by
 unfold pU
 rw [List.drop_drop]
 cases Pk.rd most (l.drop (d + a)) with
 | none=>rfl
 | some q=>simp [Nat.add_assoc]
theorem Shift.i:Shift pI:=fun l d a=>by
 unfold pI
 rw [List.drop_drop]
 cases Pk.rd Pk.nW (l.drop (d + a)) with
 | none=>rfl
 | some q=>simp [Nat.add_assoc]
theorem Shift.seq {κ μ:Type} {P:nV κ} {Q:nV μ} (h:Shift P) (k:Shift Q):Shift (lJ P Q):=fun l d a=>by
 unfold lJ
 rw [h l d a]
 cases P (l.drop d) a with
 | none=>rfl
 | some q =>
  obtain ⟨x,b⟩:=q
  dsimp only [Option.map_some]
  rw [k l d b]
  cases Q (l.drop d) b with
  | none=>rfl
  | some r=>rfl
theorem Shift.list {κ:Type} {P:nV κ} (h:Shift P):∀ n,Shift (gK P n)
 | 0=>fun l d a=>rfl
 | n + 1=>fun l d a=>by
  unfold gK
  rw [h l d a]
  cases P (l.drop d) a with
  | none=>rfl
  | some q =>
   obtain ⟨x,b⟩:=q
   dsimp only [Option.map_some]
   rw [Shift.list h n l d b]
   cases gK P n (l.drop d) b with
   | none=>rfl
   | some r=>rfl
theorem Shift.many {κ:Type} {P:nV κ} (most:Nat) (h:Shift P):Shift (jA most P):=fun l d a=>by
 unfold jA
 rw [Shift.u most l d a]
 cases pU most (l.drop d) a with
 | none=>rfl
 | some q =>
  obtain ⟨n,b⟩:=q
  dsimp only [Option.map_some]
  exact Shift.list h n.toNat l d b
theorem Shift.map {κ μ:Type} {P:nV κ} (f:κ→μ) (h:Shift P):Shift (JK f P):=fun l d a=>by
 unfold JK
 rw [h l d a]
 cases P (l.drop d) a with
 | none=>rfl
 | some q=>rfl
theorem Shift.text:Shift Ng:=fun l d a=>by
 unfold Ng Pk.txR
 rw [List.drop_drop]
 cases Pk.rz false 65536 (l.drop (d + a)) with
 | none=>rfl
 | some q =>
  obtain ⟨n,j⟩:=q
  dsimp only
  rw [List.drop_drop,dD,show d + (a + j)=d + a + j by omega,show l.length - d - (a + j)=l.length - (d + a + j) by omega]
  split
  ·simp [Nat.add_assoc]
  ·rfl
theorem vY:Shift EX:=Shift.i.list 16
theorem IQ:Shift jV:=(Shift.u 64).seq ((Shift.u 64).seq vY)
theorem UO:Shift nJ:=(Shift.u 65535).seq (vY.seq (((Shift.i.list 3).many 64).seq ((((Shift.u 63).seq ((Shift.u 63).seq ((Shift.u 63).seq (Shift.u 4294967295)))).map IJ).many 64)))
theorem ZH:Shift LG:=(Shift.u 64).seq ((Shift.u 64).seq (vY.seq (UO.many 16)))
theorem nX {ops:Array Oper} {rest:List Oper} {o:Oper} {a:Act} {Q:Exit→Act→World→Prop} {W:World} (hw:Region.wanted o (yielded ops a.tmps)=true) (v:Value) (X:World) (hrun:(execOp a.eval o).run Tryz.prog W=.ok (.value v) X)
  (h:wpList Tryz.prog ops Q rest (a.put o.dst v) X):wpList Tryz.prog ops Q (o :: rest) a W :=
 wpList_step fun K hK=>by
  rw [aT hw]
  unfold Oper.wp
  rw [hrun]
  exact hK _ _ h
def vQ (mk l:List Nat) (w:World) (e:Ending) (w':World):Prop:=Below w.heap.size w w'∧match Cx.opened l with
 | none=>e=.returned (.tuple #[.pointer none,.int .i64 (jZ mk l)])
 | some m=>if m.take 4=mk then ∃ p o c,e=.returned (.tuple #[.pointer (some ⟨p,0,none⟩),.int .i64 0])∧Pk.ZR o c m p 4 false w'∧iA m 4∧m.length≤c∧c≤9223372036854775807∧(o=none→c=0)∧(0 < c→∀ a,o=some a→a.spot=none)∧w.heap.size≤p∧(∀ b off,o=some ⟨b,off,none⟩→0 < m.length→w.heap.size≤b∧b < p) else e=.returned (.tuple #[.pointer none,.int .i64 (jZ mk l)])
theorem yK (mk:List Nat) (hmk:By mk) (hml:mk.length=4) (l:List Nat) (o:Option Addr) (c:Nat) (w:World) (hl:By l) (hlen:l.length≤900000) (hc:l.length≤c) (hc2:c≤9223372036854775807) (hb:Bs w o l) :
  Calls Tryz.prog 45 #[.slice o l.length c,.string (Pk.iP mk)] w (vQ mk l w):=by
 have HO:=aA (Cx.UR l l.length rfl o c w (Od hl) hlen hc hc2 (Oe hb))
 have HMK:=aA hmk
 have XA:=aA hml
 have yH:=aA (fun m (h:Cx.opened l=some m)=>sP hl h)
 have BU:=aA hlen
 obtain ⟨R,hR⟩:∃ R,Cx.opened l=R:=⟨_,rfl⟩
 have oO:Hid (Cx.opened l=R):=aA hR
 rw [hR] at HO
 clear hmk hml hl hlen hc hc2 hb hR
 cases R with
 | none =>
  have HE:Hid (∀ w',Below w.heap.size w w'→vQ mk l w (.returned (.tuple #[.pointer none,.int .i64 40])) w'):=aA (fun w' hb=>⟨hb,by
   have e2:jZ mk l=40:=by unfold jZ;rw [oO.out]
   rw [oO.out,e2]⟩)
  go_enter Tryz.func45,Tryz.ntmps45
  go_wp2_with fail
  refine HO.out.mono ?_
  rintro e w1 ⟨⟨v1,rfl,ho⟩,hb1⟩
  have HB:=aA hb1
  rw [show Cx.erO none=40 from rfl]
  clear hb1 ho HO
  go_wp2_with fail
  go_ret2
  exact HE.out _ HB.out
 | some m =>
  obtain ⟨hby,hml⟩:=yH.out m oO.out
  go_enter Tryz.func45,Tryz.ntmps45
  go_wp2_with fail
  refine HO.out.mono ?_
  rintro e w1 ⟨⟨v1,rfl,ho⟩,hb1⟩
  rw [show Cx.erO (some m)=0 from rfl]
  have ho':Pk.Own w1 w.heap.size v1 m:=Ah ho
  obtain ⟨o1,c1,rfl,hbs,hc1,hc2,hn1,hsp⟩:=ho'.open
  have HB:=aA hb1
  have hspot:0 < c1→∀ a,o1=some a→a.spot=none:=fun _ a ha=>by
   obtain ⟨g,hg,_⟩:=hsp a ha
   rw [hg]
  by_cases h4:m.length < 4
  ·have HE:Hid (∀ w',Below w.heap.size w w'→vQ mk l w (.returned (.tuple #[.pointer none,.int .i64 70])) w'):=aA (fun w' hb=>⟨hb,by
    have hne:¬ m.take 4=mk:=fun e=>by
     have:=congrArg List.length e
     rw [bZ,XA.out] at this
     omega
    have e2:jZ mk l=70:=by unfold jZ;rw [oO.out];dsimp only;rw [XA.out,aX hne]
    rw [oO.out,e2]
    dsimp only
    rw [aX hne]⟩)
   have H4:Hid (decide ((m.length:Int) < 4)=true):=aA (aV (by omega))
   clear h4 hby hml hbs hc1 hc2 hn1 hsp hspot ho ho' hb1 HO
   generalize m.length=nn at *
   go_wp2_with (with_reducible refine eQ (some 17) rfl ?_;refine aA ?_;refine fP rfl (.bool true) w1 (by rw [←H4.out];kernel_rfl) ?_)
   go_ret2
   exact HE.out _ HB.out
  ·have hcut:Bs w1 (iK o1 c1 0) (m.take 4):=by
    have:=hbs.cut (l:=0) (h:=4) (dF _) (by omega) hc1
    rwa [List.drop_zero] at this
   have htl:(m.take 4).length=4:=by rw [bZ];omega
   have hcv:=Pk.sW c1 htl hcut
   have Mq:=aA hcv
   have Ui:=aA (fun (o:Oper) (a:Act) (ho:o.op=.slice 31 (.tmp 19) none (some (.const (.int .i64 4))) none) (hx:a.eval (.tmp 19)=.slice o1 m.length c1)=>EA (W:=w1) (.tmp 19) (.const (.int .i64 4)) ho o1 m.length c1 4 4 rfl hx rfl (by omega) hn1 hspot)
   have H4:Hid (decide ((m.length:Int) < 4)=false):=aA (aN (by omega))
   have HEQ:=aA (KL (fun x hx=>hby x (dL hx)) HMK.out:((Pk.iP (m.take 4)).toList == (Pk.iP mk).toList)=decide (m.take 4=mk))
   have WW:=aA hb1.size
   have hdr:Hid (∀ j,j < m.length→∃ b off,o1=some ⟨b,off,none⟩):=aA (fun j hj=>by obtain ⟨b,off,e,_⟩:=hbs j hj;exact ⟨b,off,e⟩)
   by_cases hk:m.take 4=mk
   ·have H5:Hid ((!((Pk.iP (m.take 4)).toList == (Pk.iP mk).toList))=false):=aA (by rw [HEQ.out,aV hk];rfl)
    have HF:Hid (vQ mk l w (.returned (.tuple #[.pointer (some ⟨w1.heap.size,0,none⟩),.int .i64 0])) (w1.alloc (.cells #[.slice o1 m.length c1,.int .i64 4,.bool false] 106))):=aA ⟨dY hb1 ((aI _ _).alloc (aB _) _),by
     rw [oO.out]
     dsimp only
     rw [aT hk]
     exact ⟨_,o1,c1,rfl,⟨aG _ _,hbs.below ((aI _ _).alloc (aB _) _)⟩,⟨hby,by have:=BU.out;omega,by omega⟩,hc1,hc2,hn1,hspot,WW.out,fun b off e hm=>by
      obtain ⟨g,hg,h2⟩:=hsp _ e
      cases hg
      obtain ⟨b',off',e',hc⟩:=hbs 0 hm
      rw [e] at e'
      cases e'
      exact ⟨by omega,yD hc⟩⟩⟩
    clear hk hcv HEQ hcut htl h4 hby hml hbs hc1 hc2 hn1 hsp hspot ho ho' hb1 HO
    obtain ⟨sa,hsa⟩:∃ sa,Pk.iP (m.take 4)=sa:=⟨_,rfl⟩
    rw [hsa] at Mq H5
    clear hsa
    generalize m.length=nn at Ui H4 HF
    go_wp2_with (first | (with_reducible refine eQ (some 17) rfl ?_;refine aA ?_;refine fP rfl (.bool false) w1 (by rw [←H4.out];kernel_rfl) ?_) | (with_reducible refine eQ (some 20) rfl ?_;refine aA ?_;refine nX rfl (.slice (iK o1 c1 0) 4 c1) w1 (Ui.out _ _ rfl rfl) ?_) | (rw [Mq.out]) | (with_reducible refine eQ (some 23) rfl ?_;refine aA ?_;refine nX rfl (.bool false) w1 (by rw [←H5.out];kernel_rfl) ?_))
    go_ret2
    exact HF.out
   ·have H5:Hid ((!((Pk.iP (m.take 4)).toList == (Pk.iP mk).toList))=true):=aA (by rw [HEQ.out,aN hk];rfl)
    have HE:Hid (∀ w',Below w.heap.size w w'→vQ mk l w (.returned (.tuple #[.pointer none,.int .i64 70])) w'):=aA (fun w' hb=>⟨hb,by
     have e2:jZ mk l=70:=by unfold jZ;rw [oO.out];dsimp only;rw [XA.out,aX hk]
     rw [oO.out,e2]
     dsimp only
     rw [aX hk]⟩)
    clear hk hcv HEQ hcut htl h4 hby hml hbs hc1 hc2 hn1 hsp hspot ho ho' hb1 HO
    obtain ⟨sa,hsa⟩:∃ sa,Pk.iP (m.take 4)=sa:=⟨_,rfl⟩
    rw [hsa] at Mq H5
    clear hsa
    generalize m.length=nn at *
    go_wp2_with (first | (with_reducible refine eQ (some 17) rfl ?_;refine aA ?_;refine fP rfl (.bool false) w1 (by rw [←H4.out];kernel_rfl) ?_) | (with_reducible refine eQ (some 20) rfl ?_;refine aA ?_;refine nX rfl (.slice (iK o1 c1 0) 4 c1) w1 (Ui.out _ _ rfl rfl) ?_) | (rw [Mq.out]) | (with_reducible refine eQ (some 23) rfl ?_;refine aA ?_;refine nX rfl (.bool true) w1 (by rw [←H5.out];kernel_rfl) ?_))
    go_ret2
    exact HE.out _ HB.out
end Fx
namespace Fx
open Go Go.RowKit
open Pk (iA Bs By)
structure GV (o:Option Addr) (c:Nat) (l:List Nat) (p g b:Nat) (lo:Bool) (f:Int×Int×List Int) (v:Value) (w W:World):Prop where
 res:W.heap[w.heap.size]?=some (.cells #[.int .i64 0,.int .i64 0,.int .i64 0,.int .i64 0,.int .i64 0,.int .i64 0,.int .i64 0,.int .i64 0,.int .i64 0,.int .i64 0,.int .i64 0,.int .i64 0,.int .i64 0,.int .i64 0,.int .i64 0,.int .i64 0,.int .i64 0,.int .i64 0,.slice none 0 0] 28 (0,0))
 box:W.heap[g]?=some (.cells (mV f v).toArray 28 (0,0))
 rd:Pk.ZR o c l p b lo W
 le:b≤l.length
 below:Below w.heap.size w W
theorem qA {B C:Nat} {W X:World} (hc:C≤B) (h:Below B W X):Below C W X:=⟨h.1,h.2,h.3,h.4,fun k hk=>h.5 k (aM hk hc)⟩
theorem uE {C:Nat} {W X Y:World} (h:Below C W X) (k:Below C X Y):Below C W Y:=⟨k.1.trans h.1,k.2.trans h.2,k.3.trans h.3,bH h.4 k.4,fun b hb=>(k.5 b hb).trans (h.5 b hb)⟩
section
variable {o:Option Addr} {c:Nat} {l:List Nat} {p g b b2:Nat} {lo lo2:Bool} {f f2:Int×Int×List Int} {v v2:Value} {w W X:World}
theorem GV.step (hw:w.heap.size < p) (hg:p < g) (i:GV o c l p g b lo f v w W) (hx:W.grownBy X (some p)) (hr:Pk.ZR o c l p b2 lo2 X) (hl:b2≤l.length):GV o c l p g b2 lo2 f v w X:=by
 have keep:∀ {k:Nat} {ob:Obj},k≠p→W.heap[k]?=some ob→X.heap[k]?=some ob:=fun hne h=>by
  rw [hx.block _ (aC.1 h).1 (fun e=>hne (bF e))]
  exact h
 exact ⟨keep (by omega) i.res,keep (by omega) i.box,hr,hl,gW (aB _) i.below hx (fun k e=>by cases e;omega)⟩
theorem GV.put (hw:w.heap.size < p) (hg:p < g) (iQ:∀ b off,o=some ⟨b,off,none⟩→0 < l.length→b < g) (i:GV o c l p g b lo f v w W) (hb:Below g W X) (zN:X.heap[g]?=some (.cells (mV f2 v2).toArray 28 (0,0))):GV o c l p g b lo f2 v2 w X :=
 ⟨by rw [hb.block _ (by omega)];exact i.res,zN,uF i.rd hg iQ hb,i.le,uE i.below (qA (by omega) hb)⟩
theorem GV.cell (i:GV o c l p g b lo f v w W) {j:Nat} {u:Value} (h:(mV f v)[j]?=some u):W.cell? ⟨g,j,none⟩=some u∧W.frozen? ⟨g,j,none⟩=false :=
 ⟨by rw [aF _ _ _ _ _ _ i.box];simpa using h,dU i.box⟩
theorem GV.set {j:Nat} {u:Value} (hw:w.heap.size < p) (hg:p < g) (iQ:∀ b off,o=some ⟨b,off,none⟩→0 < l.length→b < g) (i:GV o c l p g b lo f v w W) (h:(mV f v).toArray.setIfInBounds j u=(mV f2 v2).toArray):GV o c l p g b lo f2 v2 w (W.setCell ⟨g,j,none⟩ u):=by
 refine i.put hw hg iQ (Below.setCell (p:=⟨g,j,none⟩) ⟨rfl,rfl,rfl,aB _,fun _ _=>rfl⟩ (aB _) _) ?_
 rw [aK _ _ j _ _ u i.box,h]
theorem GV.up (h:Below W.heap.size W X) (i:GV o c l p g b lo f v w W):GV o c l p g b lo f v w X :=
 ⟨dV h i.res,dV h i.box,i.rd.below h,i.le,dY i.below h⟩
structure WN (o:Option Addr) (c:Nat) (l:List Nat) (p g b:Nat) (lo:Bool) (f:Int×Int×List Int) (v:Value) (zs:List fE) (w W:World):Prop where
 base:GV o c l p g b lo f v w W
 own:iD 73 19 eF W (g + 1) v zs
 each:∀ x∈zs,iM w.heap.size x W
variable {zs:List fE}
theorem WN.lt (i:WN o c l p g b lo f v zs w W):g < W.heap.size:=(aC.1 i.base.box).1
theorem WN.step (hw:w.heap.size < p) (hg:p < g) (i:WN o c l p g b lo f v zs w W) (hx:W.grownBy X (some p)) (hr:Pk.ZR o c l p b2 lo2 X) (hl:b2≤l.length):WN o c l p g b2 lo2 f v zs w X :=
 ⟨i.base.step hw hg hx hr hl,i.own.grown hx (fun k hk e=>by cases hk;have:=i.own.blk _ e;omega),fun x hm=>(i.each x hm).rows (Rows.jP hx (fun k e=>by cases e;exact ⟨_,i.base.rd.row⟩) (by decide)) (Rows.jP hx (fun k e=>by cases e;exact ⟨_,i.base.rd.row⟩) (by decide))⟩
theorem WN.up (h:Below W.heap.size W X) (i:WN o c l p g b lo f v zs w W):WN o c l p g b lo f v zs w X :=
 ⟨i.base.up h,i.own.below h,fun x hm=>(i.each x hm).rows (Rows.of_below h) (Rows.of_below h)⟩
theorem WN.app {x:fE} {ow:Option Addr} {cw:Nat} (hw:w.heap.size < p) (hg:p < g) (iQ:∀ b off,o=some ⟨b,off,none⟩→0 < l.length→b < g) (hm:f.2.2.length=16) (i:WN o c l p g b lo f v zs w W) (ho:iD 73 19 eF X (g + 1) (.slice ow (zs ++ [x]).length cw) (zs ++ [x])) (hx:W.grownBy X v.ownBlock) (hf:iM w.heap.size x W) :
  X.cell? ⟨g,18,none⟩=some v∧X.frozen? ⟨g,18,none⟩=false∧WN o c l p g b lo f (.slice ow (zs ++ [x]).length cw) (zs ++ [x]) w (X.setCell ⟨g,18,none⟩ (.slice ow (zs ++ [x]).length cw)):=by
 have hb:=i.own.blk
 have hlow:Below (g + 1) W X:=(aI _ _).grown hx (by have:=i.lt;omega) (fun k hk=>hb k hk)
 have Yt:Below g W X:=qA (by omega) hlow
 have i2:GV o c l p g b lo f v w X:=i.base.put hw hg iQ Yt (by rw [hlow.block _ (by omega)];exact i.base.box)
 have hrw:∀ {t:TypeId},t≠73→Rows t W X:=fun hne=>Rows.jP hx (fun k e=>by obtain ⟨cc,hc⟩:=i.own.row k e;exact ⟨cc,hc⟩) hne
 have hrs:∀ {t:TypeId},t≠28→Rows t X (X.setCell ⟨g,18,none⟩ (.slice ow (zs ++ [x]).length cw)):=fun hne=>Rows.nK i2.box hne
 obtain ⟨q1,q2⟩:=i2.cell (j:=18) (u:=v) (by simp [mV,hm])
 refine ⟨q1,q2,i2.set hw hg iQ (QW hm _ _),ho.kH (fun e=>by have:=ho.blk _ e;omega),fun z hz=>?_⟩
 have hz2:iM w.heap.size z W:=by
  rcases bU.1 hz with hz | hz
  ·exact i.each z hz
  ·simp at hz
   subst hz
   exact hf
 exact (hz2.rows (hrw (by decide)) (hrw (by decide))).rows (hrs (by decide)) (hrs (by decide))
end
theorem vQ.use {l:List Nat} {w w':World} {e:Ending} (h:vQ gT l w e w'):Below w.heap.size w w'∧match behind gT l with
  | none=>e=.returned (.tuple #[.pointer none,.int .i64 (jZ gT l)])
  | some r=>∃ m p o c,m.drop 4=r∧r.length + 4=m.length∧e=.returned (.tuple #[.pointer (some ⟨p,0,none⟩),.int .i64 0])∧Pk.ZR o c m p 4 false w'∧iA m 4∧w.heap.size≤p∧(∀ b off,o=some ⟨b,off,none⟩→0 < m.length→b < p):=by
 obtain ⟨hb,h⟩:=h
 refine ⟨hb,?_⟩
 unfold behind
 cases ho:Cx.opened l with
 | none =>
  rw [ho] at h
  exact h
 | some m =>
  rw [ho] at h
  dsimp only at h ⊢
  rw [show gT.length=4 from rfl]
  by_cases hm:m.take 4=gT
  ·rw [aT hm] at h ⊢
   obtain ⟨p,oo,cc,he,hr,hk,_,_,_,_,hp,hq⟩:=h
   exact ⟨m,p,oo,cc,rfl,by rw [dD];have:=hk.at';omega,he,hr,hk,hp,fun b off e hl=>(hq b off e hl).2⟩
  ·rw [aX hm] at h ⊢
   exact h
theorem ZL {m r:List Nat} (h:m.drop 4=r):LG m 4=(LG r 0).map fun q=>(q.1,4 + q.2):=by
 have:=ZH m 4 0
 rwa [h] at this
theorem Cz {m r:List Nat} (hr:m.drop 4=r) (hlen:r.length + 4=m.length) {f:Int×Int×List Int} {ks:List (Int×List Int×List (List Int)×List iH)} {a1 a2 a3 a4:Nat} {lo1 lo2 lo3 CK:Bool} (h1:fQ false (pU 64) m 4=opt lo1 (f.1,a1)) (h2:fQ lo1 (pU 64) m a1=opt lo2 (f.2.1,a2)) (h3:fQ lo2 EX m a2=opt lo3 (f.2.2,a3)) (h4:fQ lo3 (jA 16 nJ) m a3=opt CK (ks,a4)) (hl:a4≤m.length) :
  (Pk.pY CK m.length a4=0→CK=false∧LG r 0=some ((f.1,f.2.1,f.2.2,ks),r.length))∧(Pk.pY CK m.length a4≠0→∀ k b,LG r 0=some (k,b)→b≠r.length):=by
 have h5:fQ false LG m 4=opt CK ((f.1,f.2.1,f.2.2,ks),a4):=gG h1 (gG h2 (gG h3 h4))
 have e1:fQ false LG m 4=LG m 4:=rfl
 rw [e1,ZL hr] at h5
 unfold Pk.pY
 cases CK
 ·simp only [opt,bE,if_false,false_or] at h5 ⊢
  rw [Option.map_eq_some_iff] at h5
  obtain ⟨⟨k,b⟩,hs,e⟩:=h5
  simp only [Prod.mk.injEq] at e
  obtain ⟨rfl,rfl⟩:=e
  refine ⟨fun h=>⟨trivial,?_⟩,fun h k2 b2 hk=>?_⟩
  ·split at h
   ·cases h
   ·rw [hs,show b=r.length by omega]
  ·rw [hs] at hk
   cases hk
   split at h
   ·omega
   ·exact absurd rfl h
 ·simp only [opt,if_true,true_or] at h5 ⊢
  refine ⟨fun h=>(by cases h),fun _ k b hk=>?_⟩
  rw [hk] at h5
  cases h5
end Fx
namespace Fx
open Go Go.RowKit
structure Apart (B E:Nat) (V W:World):Prop where
 os:W.os=V.os
 rest:Below 0 V W
 size:V.heap.size≤W.heap.size
 block:∀ b,b < V.heap.size→¬ (B≤b∧b < E)→W.heap[b]?=V.heap[b]?
theorem Apart.refl (B E:Nat) (V:World):Apart B E V V:=⟨rfl,aI _ _,aB _,fun _ _ _=>rfl⟩
theorem Apart.up {B E:Nat} {V W X:World} (h:Apart B E V W) (hb:Below W.heap.size W X):Apart B E V X :=
 ⟨hb.os.trans h.os,uE h.rest (qA (dF _) hb),bH h.size hb.size,fun b hl hn=>by rw [hb.block b (aM hl h.size)];exact h.block b hl hn⟩
theorem Apart.put {B E:Nat} {V W:World} (h:Apart B E V W) {g j:Nat} (hg:B≤g∧g < E) (v:Value):Apart B E V (W.setCell ⟨g,j,none⟩ v) :=
 ⟨h.os,h.rest.setCell (p:=⟨g,j,none⟩) (dF _) _,by simpa using h.size,fun b hl hn=>by
  rw [aH _ _ _ _ (by show b≠g;intro e;subst e;exact hn hg)]
  exact h.block b hl hn⟩
structure XL (B E:Nat) (c:fH) (V W:World):Prop where
 apart:Apart B E V W
 le:E≤V.heap.size
 box:W.heap[V.heap.size]?=some (.cells (fZ c) 28 (0,0))
 id:∀ k x,c.os[k]?=some x→∃ g off,c.oo=some ⟨g,off,none⟩∧(B≤g∧g < E)∧mK .i64 W g (off + k * 19)∧W.cell? ⟨g,off + k * 19 + 17,none⟩=some (.slice x.vo x.vs.length x.vc)∧W.cell? ⟨g,off + k * 19 + 18,none⟩=some (.slice x.tq x.ts.length x.tc)
 vs:∀ x∈c.os,∀ j,j < x.vs.length→∃ g off,x.vo=some ⟨g,off,none⟩∧(B≤g∧g < E)∧mK .i64 W g (off + j * 3)
 ts:∀ x∈c.os,∀ j,j < x.ts.length→∃ g off,x.tq=some ⟨g,off,none⟩∧(B≤g∧g < E)∧mK .i64 W g (off + j * 4)
theorem XL.up {B E:Nat} {c:fH} {V W X:World} (hb:Below W.heap.size W X) (i:XL B E c V W):XL B E c V X:=by
 refine ⟨i.apart.up hb,i.le,dV hb i.box,fun k x hk=>?_,fun x hx j hj=>?_,fun x hx j hj=>?_⟩
 ·obtain ⟨g,off,e,h1,h3,h4,h5⟩:=i.id k x hk
  exact ⟨g,off,e,h1,h3.below hb,dN hb h4,dN hb h5⟩
 ·obtain ⟨g,off,e,h1,h3⟩:=i.vs x hx j hj
  exact ⟨g,off,e,h1,h3.below hb⟩
 ·obtain ⟨g,off,e,h1,h3⟩:=i.ts x hx j hj
  exact ⟨g,off,e,h1,h3.below hb⟩
theorem XL.put {B E:Nat} {c:fH} {V W:World} (i:XL B E c V W) {g j:Nat} (hg:B≤g∧g < E) (h:mK .i64 W g j) (z:Int):XL B E c V (W.setCell ⟨g,j,none⟩ (.int .i64 z)):=by
 refine ⟨i.apart.put hg _,i.le,?_,fun k x hk=>?_,fun x hx j hj=>?_,fun x hx j hj=>?_⟩
 ·rw [aH _ _ _ _ (by show V.heap.size≠g;have:=i.le;omega)]
  exact i.box
 ·obtain ⟨g,off,e,h1,h3,h4,h5⟩:=i.id k x hk
  exact ⟨g,off,e,h1,h3.put h z,sK h4 h z,sK h5 h z⟩
 ·obtain ⟨g,off,e,h1,h3⟩:=i.vs x hx j hj
  exact ⟨g,off,e,h1,h3.put h z⟩
 ·obtain ⟨g,off,e,h1,h3⟩:=i.ts x hx j hj
  exact ⟨g,off,e,h1,h3.put h z⟩
theorem zV {t:TypeId} {W0 W:World} {g:Nat} {cur:Array Value} (h:W0.heap[g]?=some (.cells cur t (0,0))):g < W0.heap.size:=(aC.1 h).1
theorem XL.new {B:Nat} {c:fH} {W0 V W:World} (s:iC B c W0) (h1:Below W0.heap.size W0 V) (hV:V.alloc (.cells (fZ c) 28)=W):XL B W0.heap.size c V W:=by
 have hb:Below V.heap.size V W:=by rw [←hV];exact (aI _ _).alloc (aB _) _
 have hk:Below W0.heap.size W0 W:=dY h1 hb
 refine ⟨⟨hb.os,qA (dF _) hb,hb.size,fun b hl _=>hb.block b hl⟩,h1.size,by rw [←hV];exact aG _ _,fun k x hx=>?_,fun x hx j hj=>?_,fun x hx j hj=>?_⟩
 ·obtain ⟨g,cur,e,h1,h2,_,h3⟩:=s.objs.at_ k x hx
  have hw:=(s.each x (bJ hx)).wf
  refine ⟨g,0,e,⟨h1,zV (W:=W) h2⟩,(sQ h2 (z:=x.id) ?_).below hk,dN hk ?_,dN hk ?_⟩
  ·exact h3 0 _ (FC x)
  ·exact h3 17 _ (uS hw)
  ·exact h3 18 _ (uT hw)
 ·have hw:=s.each x hx
  obtain ⟨v,hv⟩:∃ v,x.vs[j]?=some v:=⟨_,aJ hj⟩
  obtain ⟨g,cur,e,h1,h2,_,h3⟩:=hw.v.at_ j v hv
  have hvl:=(hw.vw v (bJ hv)).len
  obtain ⟨z,hz⟩:∃ z,v[0]?=some z:=⟨_,aJ (by omega)⟩
  refine ⟨g,0,e,⟨h1,zV (W:=W) h2⟩,(sQ h2 (z:=z) ?_).below hk⟩
  exact h3 0 _ (by rw [cO,hz];rfl)
 ·have hw:=s.each x hx
  obtain ⟨v,hv⟩:∃ v,x.ts[j]?=some v:=⟨_,aJ hj⟩
  obtain ⟨g,cur,e,h1,h2,_,h3⟩:=hw.t.at_ j v hv
  refine ⟨g,0,e,⟨h1,zV (W:=W) h2⟩,(sQ h2 (z:=v.a) ?_).below hk⟩
  exact h3 0 _ rfl
theorem kT.apart {α:Type} {t:TypeId} {n:Nat} {f:α→List Value} {B E C:Nat} {o:Option Addr} {l:List α} {V W:World} (h:kT t n f V C o l) (hC:E≤C) (a:Apart B E V W):kT t n f W C o l:=⟨fun k z hk=>by
 obtain ⟨g,cur,e,h1,h2,h3,h4⟩:=h.at_ k z hk
 have hg:=a.block g (aC.1 h2).1 (by omega)
 refine ⟨g,cur,e,h1,by rw [hg];exact h2,h3,fun j u hj=>?_⟩
 rw [dG (w:=V) hg]
 exact h4 j u hj⟩
theorem iC.apart {B E C:Nat} {c:fH} {V W:World} (s:iC C c V) (hC:E≤C) (a:Apart B E V W):iC C c W :=
 ⟨s.wf,s.objs.apart hC a,fun x hx=>⟨(s.each x hx).wf,(s.each x hx).v.apart hC a,(s.each x hx).t.apart hC a,(s.each x hx).vw,(s.each x hx).tw⟩⟩
def Oo (B E:Nat) (w:World) (e:Ending) (w':World):Prop:=(∃ v,e=.returned v)∧Apart B E w w'
theorem UL (B:Nat) (c:fH) (W0 w:World) (s:iC B c W0) (hb:Below W0.heap.size W0 w) :
  Calls Tryz.prog 20 #[.agg (fZ c)] w (Oo B W0.heap.size w):=by
 obtain ⟨V0,lI⟩:∃ V,w.alloc (.cells (fZ c) 28)=V:=⟨_,rfl⟩
 have qJ:=aA lI
 have hi:=XL.new s hb lI
 have HI0:=aA hi
 have HW:=aA s.wf
 have hcap:=s.wf.cap.1
 have HFE:=aA (fun x hx=>(s.each x hx).wf)
 obtain ⟨n,hn⟩:∃ n,c.os.length=n:=⟨_,rfl⟩
 obtain ⟨oo,Ri⟩:∃ o,c.oo=o:=⟨_,rfl⟩
 rw [hn] at hcap
 have c18:V0.cell? ⟨w.heap.size,18,none⟩=some (.slice oo n c.oc):=by rw [(show gF w.heap.size c V0 from hi.box).c18 s.wf,hn,Ri]
 have HN:=aA hn
 have Gv:=aA Ri
 have n0:(0:Int)≤(n:Int):=by omega
 generalize W0.heap.size=E at *
 have qK:=aA hcap
 clear hi s hn Ri lI hb hcap
 go_enter Tryz.func20,Tryz.ntmps20
 go_wp2_with (rw [qJ.out])
 clear c18 qJ
 go_loopg [8] n (fun g s8 wx=>∃ k:Nat,g=n - k∧s8=.int .i64 (k:Int)∧k≤n∧XL B E c w wx)
 case atStart=>exact ⟨0,rfl,rfl,by omega,HI0.out⟩
 case round =>
  obtain ⟨k,rfl,rfl,hk,hi⟩:=hrel
  obtain ⟨w6,kP⟩:∃ X,X=wr:=⟨_,rfl⟩
  subst kP
  have k0:(0:Int)≤(k:Int):=by omega
  have hn9:n≤9223372036854775807:=by have:=qK.out;omega
  have HI:=aA hi
  clear HI0
  by_cases hkn:k < n
  ·have t2:(k:Int) < (n:Int):=by omega
   obtain ⟨x,hx⟩:∃ x,c.os[k]?=some x:=⟨_,aJ (by rw [HN.out];exact hkn)⟩
   have HX:=aA hx
   obtain ⟨g,off,e,hg,hint,Oc,h18⟩:=hi.id k x hx
   rw [Gv.out] at e
   subst e
   have HG:=aA hg
   have c18:w6.cell? ⟨w.heap.size,18,none⟩=some (.slice (some ⟨g,off,none⟩) n c.oc):=by rw [(show gF w.heap.size c w6 from hi.box).c18 HW.out,HN.out,Gv.out]
   obtain ⟨m,hm⟩:∃ m,x.vs.length=m:=⟨_,rfl⟩
   obtain ⟨q,hq⟩:∃ q,x.ts.length=q:=⟨_,rfl⟩
   have HM:=aA hm
   have HQ:=aA hq
   rw [hm] at Oc
   rw [hq] at h18
   have hwx:=HFE.out x (bJ hx)
   have m9:m≤9223372036854775807:=by have:=hwx.UA.1;omega
   have q9:q≤9223372036854775807:=by have:=hwx.YV.1;omega
   clear hwx
   have m0:(0:Int)≤(m:Int):=by omega
   have q0:(0:Int)≤(q:Int):=by omega
   clear hi hx hg hint hm hq
   go_wp2_with fail
   clear c18 Oc h18
   go_loopg [18] m (fun gg s1 wx=>∃ r:Nat,gg=m - r∧s1=.int .i64 (r:Int)∧r≤m∧XL B E c w wx)
   case atStart=>exact ⟨0,rfl,rfl,by omega,HI.out⟩
   case round =>
    obtain ⟨r,rfl,rfl,hr,hi⟩:=hrel
    obtain ⟨w7,hw7⟩:∃ X,X=wr:=⟨_,rfl⟩
    subst hw7
    have r0:(0:Int)≤(r:Int):=by omega
    have HI2:=aA hi
    obtain ⟨g1,off1,e1,hg1,KD,Oc,h18⟩:=hi.id k x HX.out
    have e3:=Gv.out.symm.trans e1
    cases e3
    have c18:w7.cell? ⟨w.heap.size,18,none⟩=some (.slice (some ⟨g,off,none⟩) n c.oc):=by rw [(show gF w.heap.size c w7 from hi.box).c18 HW.out,HN.out,Gv.out]
    rw [HM.out] at Oc
    rw [HQ.out] at h18
    by_cases hrn:r < m
    ·have t3:(r:Int) < (m:Int):=by omega
     obtain ⟨g2,off2,e2,hg2,hint⟩:=hi.vs x (bJ HX.out) r (by rw [HM.out];exact hrn)
     have HIN:=aA hint
     have HG2:=aA hg2
     obtain ⟨⟨⟨z2,hz2⟩,hl2⟩,hf2⟩:=hint
     rw [e2] at Oc
     clear e2 hi hg1 KD hg2 e1
     go_wp2_with fail
     have Vp:=aA (HI2.out.put HG2.out HIN.out 77)
     go_roundg (m - (r + 1))
     case measure=>omega
     case rel=>exact ⟨r + 1,rfl,by go_num,by omega,Vp.out⟩
    ·have t3:¬ (r:Int) < (m:Int):=by omega
     clear hi hg1 KD e1
     go_wp2_with fail
     clear c18 Oc h18
     go_loopg [38] q (fun gg s1 wx=>∃ u:Nat,gg=q - u∧s1=.int .i64 (u:Int)∧u≤q∧XL B E c w wx)
     case atStart=>exact ⟨0,rfl,rfl,by omega,HI2.out⟩
     case round =>
      obtain ⟨u,rfl,rfl,hr,hi⟩:=hrel
      obtain ⟨w8,hw8⟩:∃ X,X=wr:=⟨_,rfl⟩
      subst hw8
      have u0:(0:Int)≤(u:Int):=by omega
      have HI3:=aA hi
      obtain ⟨g1,off1,e1,hg1,KD,Oc,h18⟩:=hi.id k x HX.out
      have e3:=Gv.out.symm.trans e1
      cases e3
      have c18:w8.cell? ⟨w.heap.size,18,none⟩=some (.slice (some ⟨g,off,none⟩) n c.oc):=by rw [(show gF w.heap.size c w8 from hi.box).c18 HW.out,HN.out,Gv.out]
      rw [HM.out] at Oc
      rw [HQ.out] at h18
      by_cases hun:u < q
      ·have t4:(u:Int) < (q:Int):=by omega
       obtain ⟨g2,off2,e2,hg2,hint⟩:=hi.ts x (bJ HX.out) u (by rw [HQ.out];exact hun)
       have HIN3:=aA hint
       have HG3:=aA hg2
       obtain ⟨⟨⟨z2,hz2⟩,hl2⟩,hf2⟩:=hint
       rw [e2] at h18
       clear e2 hi hg1 KD hg2 e1
       go_wp2_with fail
       have HP3:=aA (HI3.out.put HG3.out HIN3.out 78)
       go_roundg (q - (u + 1))
       case measure=>omega
       case rel=>exact ⟨u + 1,rfl,by go_num,by omega,HP3.out⟩
      ·have t4:¬ (u:Int) < (q:Int):=by omega
       clear hi hg1 KD e1
       obtain ⟨g3,off3,e3,hg3,Nz,_,_⟩:=HI3.out.id k x HX.out
       have e4:=Gv.out.symm.trans e3
       cases e4
       have HP4:=aA (HI3.out.put hg3 Nz 79)
       have c18:w8.cell? ⟨w.heap.size,18,none⟩=some (.slice (some ⟨g,off,none⟩) n c.oc):=by rw [(show gF w.heap.size c w8 from HI3.out.box).c18 HW.out,HN.out,Gv.out]
       obtain ⟨⟨⟨z3,hz3⟩,hl3⟩,hf3⟩:=Nz
       clear e3 hg3 hl3
       go_wp2_with fail
       go_roundg (n - (k + 1))
       case measure=>omega
       case rel=>exact ⟨k + 1,rfl,by go_num,by omega,HP4.out⟩
  ·have t2:¬ (k:Int) < (n:Int):=by omega
   go_wp2_with fail
   exact aO (results_none rfl _ _ _) rfl ⟨⟨_,rfl⟩,HI.out.apart⟩
end Fx
end Go.Proofs.YtbbhmhihpdmoiaaGreat
