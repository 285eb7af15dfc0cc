import Derived.Test.YtbbhmhihpdmoiaaGreatJr43
set_option linter.unusedVariables false
set_option linter.unusedSimpArgs false
set_option maxRecDepth 100000
set_option maxHeartbeats 32000000
namespace Go.Proofs.YtbbhmhihpdmoiaaGreat
namespace Fx
open Go Go.RowKit Go.Shelf
open Pk (Bs By iK AU sO)
theorem Kq (w:World) (d:Nat) (xs ys:List Int) (hx:xs.length=3) (hy:ys.length=3) :
  (Op.equalIn (d + 2) 47 (.agg (mC xs)) (.agg (mC ys))).run Tryz.prog w=.ok (xs == ys) w:=by
 have ht:=Tryz.underlying47
 have he:=Tryz.underlying3
 have hsz:=Tryz.sizeOf3
 rw [←lY xs ys (hx.trans hy.symm),hx,List.range_eq_range',Op.equalIn]
 simp only [Sem.run_bind,run_underlying ht,Result.andThen_ok,hsz,Std.Legacy.Range.forIn_eq_forIn_range',Std.Legacy.Range.size,Nat.sub_zero,dC,Nat.div_one]
 have hl:∀ i∈List.range' 0 3 1,i < 3:=fun i hi=>by simpa using (List.mem_range'_1.1 hi).2
 generalize List.range' 0 3 1=l at hl ⊢
 induction l with
 | nil=>simp
 | cons i l ih =>
  have hi:i < 3:=hl i (by simp)
  have px:(part 3 (mC xs) (i * 1)).run Tryz.prog w=.ok (encI (xs.getD i 0)) w:=by
   simp [part,mC,isAgg,run_underlying he,List.getD,aJ (show i < xs.length by omega)]
  have py:(part 3 (mC ys) (i * 1)).run Tryz.prog w=.ok (encI (ys.getD i 0)) w:=by
   simp [part,mC,isAgg,run_underlying he,List.getD,aJ (show i < ys.length by omega)]
  have pe:(Op.equalIn (d + 1) 3 (encI (xs.getD i 0)) (encI (ys.getD i 0))).run Tryz.prog w=.ok (xs.getD i 0 == ys.getD i 0) w:=by
   rw [encI,encI,run_equalIn_int w d 3 .i64 .i64 _ _ he]
  simp only [List.forIn_cons,Sem.run_bind,px,py,pe,Result.andThen_ok,List.all_cons]
  cases hb:(xs.getD i 0 == ys.getD i 0)
  ·simp
  ·simp only [Bool.not_true,bE,if_false,Sem.run_pure,Result.andThen_ok,Bool.true_and]
   exact ih fun j hj=>hl j (by simp [hj])
theorem Qu (w:World) (a b c:Int) :
  (binOp .neq 47 (.agg #[.int .i64 a,.int .i64 b,.int .i64 c]) (.agg #[.int .i64 a,.int .i64 b,.int .i64 c])).run Tryz.prog w=.ok (.bool false) w:=by
 have h:=Kq w 9998 [a,b,c] [a,b,c] rfl rfl
 unfold mC at h
 rw [run_neq_struct,show (#[.int .i64 a,.int .i64 b,.int .i64 c]:Array Value)=([a,b,c].map encI).toArray from rfl,h]
 simp
theorem OE (l:List Nat):Pk.iP (l ++ [7])=Pk.iP l ++ ⟨#[7]⟩:=by
 apply ByteArray.ext
 rw [ByteArray.data_append]
 simp [Pk.iP]
theorem Apart.low0 {B E C:Nat} {V W:World} (h:Apart B E V W) (hB:C≤B) (hV:C≤V.heap.size):Below C V W :=
 ⟨h.rest.1,h.rest.2,h.rest.3,h.rest.4,fun b hb=>h.block b (by omega) (by omega)⟩
theorem EC {B E:Nat} {o:Option Addr} {l:List Nat} {V W U:World} (h:Bs V o l) (hU:Bs U o l) (hB:U.heap.size≤B) (a:Apart B E V W):Bs W o l:=fun j hj=>by
 obtain ⟨b,off,e,hc⟩:=h j hj
 obtain ⟨b',off',e',hc'⟩:=hU j hj
 rw [e] at e'
 cases e'
 exact ⟨b,off,e,by rw [dG (w:=V) (a.block b (yD hc) (by have:=yD hc';omega))];exact hc⟩
theorem ZJ {W V:World} (hV:W.alloc (.cells #[.int .u8 7] 5)=V):Bs V (some ⟨W.heap.size,0,none⟩) [7]:=fun j hj=>by
 have : j=0:=by simpa using hj
 subst this
 refine ⟨_,_,rfl,?_⟩
 rw [←hV,aF _ _ _ _ _ _ (aG W _)]
 rfl
structure Gm (l:List Nat) (o o2:Option Addr) (c2:Nat) (w W:World):Prop where
 bs:Bs W o l
 own:Bs W o2 (l ++ [7])
 cap:l.length + 1≤c2∧c2≤9223372036854775807
 nil:o2=none→c2=0
 spot:0 < c2→∀ a,o2=some a→a.spot=none
 jI:Below w.heap.size w W
theorem Gm.up {l:List Nat} {o o2:Option Addr} {c2:Nat} {w W X:World} (i:Gm l o o2 c2 w W) (h:Below W.heap.size W X):Gm l o o2 c2 w X:=⟨i.bs.below h,i.own.below h,i.cap,i.nil,i.spot,dY i.jI h⟩
theorem Gm.cut {l:List Nat} {o o2:Option Addr} {c2:Nat} {w W:World} (i:Gm l o o2 c2 w W):Bs W (iK o2 c2 0) l:=by
 have:=i.own.cut (c:=c2) (l:=0) (h:=l.length) (dF _) (by simp) (by have:=i.cap;simp;omega)
 rwa [List.drop_zero,Nat.sub_zero,List.take_left] at this
theorem Gm.apart {l:List Nat} {o o2:Option Addr} {c2 E:Nat} {w U V W:World} (i:Gm l o o2 c2 w V) (u:Gm l o o2 c2 w U) (hV:U.heap.size≤V.heap.size) (a:Apart U.heap.size E V W):Gm l o o2 c2 w W :=
 ⟨EC i.bs u.bs (aB _) a,EC i.own u.own (aB _) a,i.cap,i.nil,i.spot,uE i.jI (a.low0 u.jI.size (bH u.jI.size hV))⟩
theorem xD (l:List Nat) (o:Option Addr) (c:Nat) (hl:By l) (hq:l.length≤c∧c≤9223372036854775807∧(o=none→c=0)) (w:World) (hb:Bs w o l) :
  Calls Tryz.prog 4 #[.slice o l.length c] w (gH true w):=by
 by_cases hlong:l.length > 20000
 ·obtain ⟨n,hn⟩:∃ n,l.length=n:=⟨_,rfl⟩
  rw [hn] at hlong hq ⊢
  have t1:(n:Int) > 20000:=by omega
  clear hb hl hn
  go_enter Tryz.func4,Tryz.ntmps4
  go_wp2_with fail
  go_ret
  exact ⟨rfl,aI _ _⟩
 ·have yH:=aA hl
  have BU:=aA (show l.length≤20000 by omega)
  have HQ:=aA hq
  obtain ⟨V0,lI⟩:∃ V,w.alloc (.cells #[] 5)=V:=⟨_,rfl⟩
  have b0:Below w.heap.size w V0:=by rw [←lI];exact (aI _ _).alloc (aB _) _
  have HOE:=aA (show Pk.Own V0 w.heap.size (.slice (some ⟨w.heap.size,0,none⟩) 0 0) [] by rw [←lI];exact sO w)
  have HB0:=aA b0
  have qJ:=aA lI
  have XQ:=aA (hb.below b0)
  have HBW:=aA hb
  obtain ⟨n,hn⟩:∃ n,l.length=n:=⟨_,rfl⟩
  obtain ⟨D,hD⟩:∃ D,wK l=D:=⟨_,rfl⟩
  obtain ⟨dk,ec⟩:=D
  have KZ:=aA hD
  obtain ⟨H,hH⟩:∃ H,lC l=H:=⟨_,rfl⟩
  obtain ⟨h1,h2,h3,h4⟩:=H
  have HHH:=aA hH
  have HN:=aA hn
  have t1:¬ (n:Int) > 20000:=by omega
  have n0:(0:Int)≤(n:Int):=by omega
  rw [hn]
  clear hb hl hq hlong b0 lI hn hD hH
  go_enter Tryz.func4,Tryz.ntmps4
  go_wp2_with (first
   | (rw [qJ.out])
   | (rw [LP.out])
   | (at_builtin; refine AU rfl (.tmp 19) (.tmp 20) rfl w.heap.size (.slice (some ⟨w.heap.size, 0, none⟩) 0 0) [] rfl HOE.out o l c (by rw [HN.out]; rfl) HQ.out.2.2 XQ.out (by have := BU.out; simp; omega) HB0.out.size ?_; intro v2 w2 ho2 hg2 hn2
      try rw [bX] at ho2
      have hb2:Below w.heap.size w w2:=HB0.out.grown hg2 HB0.out.size (fun k hk=>by cases hk;exact aB _)
      obtain ⟨V3,sS⟩:∃ V,w2.alloc (.cells #[.int .u8 7] 5)=V:=⟨_,rfl⟩
      have b3:Below w2.heap.size w2 V3:=by rw [←sS];exact (aI _ _).alloc (aB _) _
      have HO3:=aA (ho2.below b3)
      have HB3:=aA (dY hb2 b3)
      have LP:=aA sS
      have H7:=aA (show Bs V3 (some ⟨w2.heap.size,0,none⟩) [7] from ZJ sS)
      clear ho2 hg2 hn2 b3 sS hb2)
   | (at_builtin; refine AU rfl (.tmp 21) (.tmp 22) rfl w.heap.size v2 l rfl HO3.out (some ⟨w2.heap.size, 0, none⟩) [7] 1 rfl (fun h => by cases h) H7.out (by have := BU.out; simp; omega) HB3.out.size ?_; intro v4 w4 zK hg4 Js
      obtain ⟨q,hqq⟩:∃ q,l ++ [7]=q:=⟨_,rfl⟩
      rw [hqq] at zK
      have HQL:=aA hqq
      have hb4:Below w.heap.size w w4:=HB3.out.grown hg4 HB3.out.size (fun k hk=>HO3.out.blk k hk)
      obtain ⟨o2,c2,rfl,hbs,hc1,hc2,hn1,hsp⟩:=zK.open
      have HI:=aA (show Gm l o o2 c2 w w4 from ⟨HBW.out.below hb4,by rw [hqq];exact hbs,⟨by rw [←hqq,aY] at hc1;exact hc1,hc2⟩,hn1,fun _ a ha=>by
        obtain ⟨g,hg,_⟩:=hsp a ha
        rw [hg],hb4⟩)
      clear zK hg4 Js hb4 hbs hc1 hc2 hn1 hsp hqq
      have Ui:=aA (fun (W:World) (p:Oper) (a:Act) (x y:Operand) (ho:p.op=.slice 31 x none (some y) none) (hx:a.eval x=.slice o2 q.length c2) (hy:a.eval y=.int .i64 (n:Int))=>EA (W:=W) x y ho o2 q.length c2 n n rfl hx hy (by have:=HI.out.cap;have:=HN.out;omega) HI.out.nil HI.out.spot))
   | (with_reducible refine eQ (some 28) rfl ?_;refine aA ?_;refine fP rfl (.slice (iK o2 c2 0) n c2) _ (Ui.out _ _ _ (.tmp 25) (.tmp 27) rfl rfl rfl) ?_))
  clear qJ HOE HB0
  have HPD:=aA (wW l (iK o2 c2 0) c2 w4 yH.out (by have:=BU.out;omega) (by have:=HI.out.cap;omega) HI.out.cap.2 HI.out.cut)
  unfold BD at HPD
  rw [HN.out,KZ.out] at HPD
  dsimp only at HPD
  refine HPD.out.mono ?_
  rintro e x1 ⟨⟨s,rfl,hfs,hks⟩,hb5⟩
  have HI1:=aA (HI.out.up hb5)
  have HFS1:=aA hfs
  have HKS:=aA hks
  have HB41:=aA hb5
  clear hks hb5 HPD
  obtain ⟨PS5,Ki⟩:∃ V,x1.alloc (.cells #[.int .i64 0,.int .i64 0,.int .i64 0,.int .i64 0,.int .i64 0,.int .i64 0,.int .i64 0,.int .i64 0,.int .i64 0,.int .i64 0,.int .i64 0,.int .i64 0,.int .i64 0,.int .i64 0,.int .i64 0,.int .i64 0,.int .i64 0,.int .i64 0,.slice none 0 0] 28)=V:=⟨_,rfl⟩
  obtain ⟨Vl,Kh⟩:∃ V,PS5.setRow x1.heap.size (fZ s)=V:=⟨_,rfl⟩
  have r5:dR 28 x1.heap.size #[.int .i64 0,.int .i64 0,.int .i64 0,.int .i64 0,.int .i64 0,.int .i64 0,.int .i64 0,.int .i64 0,.int .i64 0,.int .i64 0,.int .i64 0,.int .i64 0,.int .i64 0,.int .i64 0,.int .i64 0,.int .i64 0,.int .i64 0,.int .i64 0,.slice none 0 0] PS5:=by rw [←Ki];exact dR.new _ _ _
  have r6:Vl.heap[x1.heap.size]?=some (.cells (fZ s) 28 (0,0)):=by rw [←Kh];exact setRow_heap _ _ _ _ _ _ r5
  have b6:Below x1.heap.size x1 Vl:=by rw [←Kh,←Ki];exact Below.row ((aI _ _).alloc (aB _) _) (aB _) _
  have HRPS:=aA (show gF x1.heap.size s Vl from r6)
  have Pe:=aA r5
  have HFPS:=aA (show iC _ s Vl from hfs.rows (Rows.of_below b6) (Rows.of_below b6) (Rows.of_below b6))
  have Uk:=aA ((HI1.out).up b6)
  have Ur:=aA b6
  have Zb:=aA (ZE s hfs.wf (.slice (s).oo (s).os.length (s).oc))
  have Yi:=aA (show 19=(fZ s).size from (xK hfs.wf (.slice (s).oo (s).os.length (s).oc)).symm)
  have Yo:=aA (show (fZ s).all (·.oneCell')=true from pR s (.slice (s).oo (s).os.length (s).oc) rfl)
  have Yw:=aA (NM hfs.wf)
  have HPS5:=aA Ki
  have HPS6:=aA Kh
  clear r5 r6 b6 Ki Kh hfs
  have HZD:=aA (IC l o c Vl yH.out (by have:=BU.out;omega) HQ.out.1 HQ.out.2.1 Uk.out.bs)
  unfold BD at HZD
  rw [HN.out,KZ.out] at HZD
  dsimp only at HZD
  clear HI1
  go_wp2_with (first | (rw [HPS5.out]) | (refine dQ rfl 28 (.tmp 4) (.tmp 30) rfl x1.heap.size _ _ (fZ s) rfl rfl Pe.out Zb.out Yi.out Yo.out ?_) | (rw [HPS6.out]))
  refine HZD.out.mono ?_
  rintro e x2 ⟨⟨t,rfl,hft,hkt⟩,hb6⟩
  have HI2:=aA (Uk.out.up hb6)
  have HRS2:=aA (HRPS.out.below hb6)
  have HFS2:=aA (HFPS.out.rows (Rows.of_below hb6) (Rows.of_below hb6) (Rows.of_below hb6))
  have Uu:=aA (dY Ur.out hb6)
  have HKT:=aA hkt
  have HLE:Hid (x1.heap.size≤Vl.heap.size):=aA Ur.out.size
  have HX12:Hid (x1.heap.size≤x2.heap.size):=aA Uu.out.size
  clear hkt hb6 HZD Uk HRPS HFPS Ur Pe Zb Yi Yo HPS5 HPS6
  obtain ⟨PT5,Kg⟩:∃ V,x2.alloc (.cells #[.int .i64 0,.int .i64 0,.int .i64 0,.int .i64 0,.int .i64 0,.int .i64 0,.int .i64 0,.int .i64 0,.int .i64 0,.int .i64 0,.int .i64 0,.int .i64 0,.int .i64 0,.int .i64 0,.int .i64 0,.int .i64 0,.int .i64 0,.int .i64 0,.slice none 0 0] 28)=V:=⟨_,rfl⟩
  obtain ⟨PT6,Ke⟩:∃ V,PT5.setRow x2.heap.size (fZ t)=V:=⟨_,rfl⟩
  have r5:dR 28 x2.heap.size #[.int .i64 0,.int .i64 0,.int .i64 0,.int .i64 0,.int .i64 0,.int .i64 0,.int .i64 0,.int .i64 0,.int .i64 0,.int .i64 0,.int .i64 0,.int .i64 0,.int .i64 0,.int .i64 0,.int .i64 0,.int .i64 0,.int .i64 0,.int .i64 0,.slice none 0 0] PT5:=by rw [←Kg];exact dR.new _ _ _
  have r6:PT6.heap[x2.heap.size]?=some (.cells (fZ t) 28 (0,0)):=by rw [←Ke];exact setRow_heap _ _ _ _ _ _ r5
  have b6:Below x2.heap.size x2 PT6:=by rw [←Ke,←Kg];exact Below.row ((aI _ _).alloc (aB _) _) (aB _) _
  have HRPT:=aA (show gF x2.heap.size t PT6 from r6)
  have Pd:=aA r5
  have HFPT:=aA (show iC _ t PT6 from hft.rows (Rows.of_below b6) (Rows.of_below b6) (Rows.of_below b6))
  have Uj:=aA ((HI2.out).up b6)
  have XC:=aA b6
  have Za:=aA (ZE t hft.wf (.slice (t).oo (t).os.length (t).oc))
  have Yh:=aA (show 19=(fZ t).size from (xK hft.wf (.slice (t).oo (t).os.length (t).oc)).symm)
  have Yn:=aA (show (fZ t).all (·.oneCell')=true from pR t (.slice (t).oo (t).os.length (t).oc) rfl)
  have Yv:=aA (NM hft.wf)
  have HPT5:=aA Kg
  have HPT6:=aA Ke
  clear r5 r6 b6 Kg Ke hft
  have HRS3:=aA (HRS2.out.below XC.out)
  have HFS3:=aA (HFS2.out.rows (Rows.of_below XC.out) (Rows.of_below XC.out) (Rows.of_below XC.out))
  have HB13:=aA (dY Uu.out XC.out)
  have HPH:=aA (UY l (iK o2 c2 0) c2 PT6 yH.out (by have:=BU.out;omega) (by have:=HI.out.cap;omega) HI.out.cap.2 Uj.out.cut)
  unfold Eo at HPH
  rw [HN.out,HHH.out] at HPH
  dsimp only at HPH
  clear HI2 HRS2 HFS2 Uu
  go_wp2_with (first | (rw [HPT5.out]) | (refine dQ rfl 28 (.tmp 6) (.tmp 35) rfl x2.heap.size _ _ (fZ t) rfl rfl Pd.out Za.out Yh.out Yn.out ?_) | (rw [HPT6.out]) | (with_reducible refine eQ (some 41) rfl ?_;refine aA ?_;refine fP rfl (.slice (iK o2 c2 0) n c2) _ (Ui.out _ _ _ (.tmp 38) (.tmp 40) rfl rfl rfl) ?_))
  refine HPH.out.mono ?_
  rintro e x3 ⟨rfl,Ck⟩
  have HI3:=aA (Uj.out.up Ck)
  have HRS4:=aA (HRS3.out.below Ck)
  have HRT4:=aA (HRPT.out.below Ck)
  have HFS4:=aA (HFS3.out.rows (Rows.of_below Ck) (Rows.of_below Ck) (Rows.of_below Ck))
  have HFT4:=aA (HFPT.out.rows (Rows.of_below Ck) (Rows.of_below Ck) (Rows.of_below Ck))
  have HB14:=aA (dY HB13.out Ck)
  have HZH:=aA (TV l o c x3 yH.out (by have:=BU.out;omega) HQ.out.1 HQ.out.2.1 HI3.out.bs)
  unfold En at HZH
  rw [HN.out,HHH.out] at HZH
  dsimp only at HZH
  clear Ck HPH Uj HRS3 HRPT HFS3 HFPT HB13 XC Pd Za Yh Yn HPT5 HPT6
  go_wp2_with fail
  refine HZH.out.mono ?_
  rintro e x4 ⟨rfl,hb8⟩
  obtain ⟨H5,hH5⟩:∃ V,x4.alloc (.cells #[.int .i64 0,.int .i64 0,.int .i64 0] 47)=V:=⟨_,rfl⟩
  obtain ⟨H6,hH6⟩:∃ V,H5.setRow x4.heap.size #[.int .i64 h1,.int .i64 h2,.int .i64 h3]=V:=⟨_,rfl⟩
  have r5:dR 47 x4.heap.size #[.int .i64 0,.int .i64 0,.int .i64 0] H5:=by rw [←hH5];exact dR.new _ _ _
  have r6:H6.heap[x4.heap.size]?=some (.cells #[.int .i64 h1,.int .i64 h2,.int .i64 h3] 47 (0,0)):=by rw [←hH6];exact setRow_heap _ _ _ _ _ _ r5
  have b6:Below x4.heap.size x4 H6:=by rw [←hH6,←hH5];exact Below.row ((aI _ _).alloc (aB _) _) (aB _) _
  have bb:=dY hb8 b6
  have Ul:=aA (HI3.out.up bb)
  have Ue:=aA (HRS4.out.below bb)
  have Ud:=aA (HRT4.out.below bb)
  have Un:=aA (HFS4.out.rows (Rows.of_below bb) (Rows.of_below bb) (Rows.of_below bb))
  have Mm:=aA (HFT4.out.rows (Rows.of_below bb) (Rows.of_below bb) (Rows.of_below bb))
  have HB15:=aA (dY HB14.out bb)
  have GQ:=aA r5
  have GX:=aA r6
  have HH5:=aA hH5
  have HH6:=aA hH6
  have hi3:=aA (show (Tryz.prog.info? 47).map (·.size)=some (#[.int .i64 h1,.int .i64 h2,.int .i64 h3]:Array Value).size by kernel_rfl)
  have hs3:=aA (show 3=(#[.int .i64 h1,.int .i64 h2,.int .i64 h3]:Array Value).size from rfl)
  have ho3:=aA (show (#[.int .i64 h1,.int .i64 h2,.int .i64 h3]:Array Value).all (·.oneCell')=true by kernel_rfl)
  have hil:=aA (show (Tryz.prog.info? 47).map (·.size)=some ([.int .i64 h1,.int .i64 h2,.int .i64 h3]:List Value).length by kernel_rfl)
  have HXS:Hid (H6.rangeAt x1.heap.size 0 (jF s)):=aA (fun j u hj=>by rw [bB];exact Ue.out.at.trans hj)
  have HXT:Hid (H6.rangeAt x2.heap.size 0 (jF t)):=aA (fun j u hj=>by rw [bB];exact Ud.out.at.trans hj)
  have HSM:=aA (show Calls Tryz.prog 15 #[.agg (jF s).toArray,.agg (jF t).toArray] H6 (gH true H6) from by
   have:=CW s t H6 Un.out.wf Mm.out.wf Un.out.at Mm.out.at
   rw [aV ((DT s t).2 (HKS.out.trans HKT.out.symm))] at this
   exact this)
  clear r5 r6 b6 bb hH5 hH6 hb8 HZH HI3 HRS4 HRT4 HFS4 HFT4 HB14
  go_wp2_with (first | (rw [HH5.out]) | (refine dQ rfl 47 (.tmp 12) (.tmp 50) rfl x4.heap.size _ _ #[.int .i64 h1,.int .i64 h2,.int .i64 h3] rfl rfl GQ.out hi3.out hs3.out ho3.out ?_) | (rw [HH6.out]) | (with_reducible refine eQ (some 56) rfl ?_;refine aA ?_;refine eT rfl 28 (.tmp 4) rfl x1.heap.size 0 rfl (jF s) _ HXS.out bA rfl Yw.out ?_) | (with_reducible refine eQ (some 57) rfl ?_;refine aA ?_;refine eT rfl 28 (.tmp 6) rfl x2.heap.size 0 rfl (jF t) _ HXT.out bA rfl Yv.out ?_))
  refine HSM.out.mono ?_
  rintro e y1 ⟨rfl,CL⟩
  have XB:=aA (Ul.out.up CL)
  have HRS6:=aA (Ue.out.below CL)
  have HRT6:=aA (Ud.out.below CL)
  have HFT6:=aA (Mm.out.rows (Rows.of_below CL) (Rows.of_below CL) (Rows.of_below CL))
  have Ut:=aA (dY HB15.out CL)
  have hr7:=dV CL GX.out
  have HXH:Hid (y1.rangeAt x4.heap.size 0 [.int .i64 h1,.int .i64 h2,.int .i64 h3]):=aA (fun j u hj=>by rw [bB,aF _ _ _ _ _ _ hr7];simpa using hj)
  have HXS6:Hid (y1.rangeAt x1.heap.size 0 (jF s)):=aA (fun j u hj=>by rw [bB];exact HRS6.out.at.trans hj)
  have HSPO:=aA (show Calls Tryz.prog 20 #[.agg (jF s).toArray] y1 (Oo w4.heap.size x1.heap.size y1) from UL w4.heap.size s x1 y1 HFS1.out Ut.out)
  have hne3:=fun W=>Qu W h1 h2 h3
  clear CL hr7 HSM Ul Ue Ud Un Mm HB15 GQ GX HH5 HH6 hi3 hs3 ho3 HXS HXT
  go_wp2_with (first | (with_reducible refine eQ (some 71) rfl ?_;refine aA ?_;refine eT rfl 47 (.tmp 12) rfl x4.heap.size 0 rfl [.int .i64 h1,.int .i64 h2,.int .i64 h3] _ HXH.out Tryz.underlying47 rfl hil.out ?_) | (with_reducible refine eQ (some 74) rfl ?_;refine aA ?_;refine wpList_load_mid rfl 28 (.tmp 4) rfl x1.heap.size 0 rfl (jF s) _ HXS6.out bA rfl Yw.out ?_))
  clear hne3
  refine HSPO.out.mono ?_
  rintro e y2 ⟨⟨vv,rfl⟩,hap⟩
  have HI7:=aA (XB.out.apart HI.out (by have:=HB41.out.size;have:=Ut.out.size;omega) hap)
  have HFT7:=aA (HFT6.out.apart HLE.out hap)
  have HRT7:Hid (gF x2.heap.size t y2):=aA (by
   have h:=HRT6.out
   unfold gF at h ⊢
   rw [hap.block x2.heap.size (aC.1 h).1 (by have:=HX12.out;omega)]
   exact h)
  have Fa:=aA (wW l (iK o2 c2 0) c2 y2 yH.out (by have:=BU.out;omega) (by have:=HI.out.cap;omega) HI.out.cap.2 HI7.out.cut)
  unfold BD at Fa
  rw [HN.out,KZ.out] at Fa
  dsimp only at Fa
  clear hap HSPO XB HRS6 HRT6 HFT6 HXH HXS6 Ut
  go_wp2_with (first | (with_reducible refine eQ (some 80) rfl ?_;refine aA ?_;refine fP rfl (.slice (iK o2 c2 0) n c2) _ (Ui.out _ _ _ (.tmp 77) (.tmp 79) rfl rfl rfl) ?_))
  refine Fa.out.mono ?_
  rintro e x5 ⟨⟨a,rfl,hfa,hka⟩,VJ⟩
  have HI8:=aA (HI7.out.up VJ)
  have HRT8:=aA (HRT7.out.below VJ)
  have HFT8:=aA (HFT7.out.rows (Rows.of_below VJ) (Rows.of_below VJ) (Rows.of_below VJ))
  have HKA:=aA hka
  clear hka VJ Fa HI7 HRT7 HFT7
  obtain ⟨PA5,Kk⟩:∃ V,x5.alloc (.cells #[.int .i64 0,.int .i64 0,.int .i64 0,.int .i64 0,.int .i64 0,.int .i64 0,.int .i64 0,.int .i64 0,.int .i64 0,.int .i64 0,.int .i64 0,.int .i64 0,.int .i64 0,.int .i64 0,.int .i64 0,.int .i64 0,.int .i64 0,.int .i64 0,.slice none 0 0] 28)=V:=⟨_,rfl⟩
  obtain ⟨Lt,Kj⟩:∃ V,PA5.setRow x5.heap.size (fZ a)=V:=⟨_,rfl⟩
  have r5:dR 28 x5.heap.size #[.int .i64 0,.int .i64 0,.int .i64 0,.int .i64 0,.int .i64 0,.int .i64 0,.int .i64 0,.int .i64 0,.int .i64 0,.int .i64 0,.int .i64 0,.int .i64 0,.int .i64 0,.int .i64 0,.int .i64 0,.int .i64 0,.int .i64 0,.int .i64 0,.slice none 0 0] PA5:=by rw [←Kk];exact dR.new _ _ _
  have r6:Lt.heap[x5.heap.size]?=some (.cells (fZ a) 28 (0,0)):=by rw [←Kj];exact setRow_heap _ _ _ _ _ _ r5
  have b6:Below x5.heap.size x5 Lt:=by rw [←Kj,←Kk];exact Below.row ((aI _ _).alloc (aB _) _) (aB _) _
  have HRPA:=aA (show gF x5.heap.size a Lt from r6)
  have Pf:=aA r5
  have Uo:=aA (show iC _ a Lt from hfa.rows (Rows.of_below b6) (Rows.of_below b6) (Rows.of_below b6))
  have Mj:=aA ((HI8.out).up b6)
  have Fz:=aA b6
  have Zc:=aA (ZE a hfa.wf (.slice (a).oo (a).os.length (a).oc))
  have Yj:=aA (show 19=(fZ a).size from (xK hfa.wf (.slice (a).oo (a).os.length (a).oc)).symm)
  have Yp:=aA (show (fZ a).all (·.oneCell')=true from pR a (.slice (a).oo (a).os.length (a).oc) rfl)
  have hlPA:=aA (NM hfa.wf)
  have HPA5:=aA Kk
  have HPA6:=aA Kj
  clear r5 r6 b6 Kk Kj hfa
  have HRT9:=aA (HRT8.out.below Fz.out)
  have Um:=aA (HFT8.out.rows (Rows.of_below Fz.out) (Rows.of_below Fz.out) (Rows.of_below Fz.out))
  have HXA:Hid (Lt.rangeAt x5.heap.size 0 (jF a)):=aA (fun j u hj=>by rw [bB];exact HRPA.out.at.trans hj)
  have HXT9:Hid (Lt.rangeAt x2.heap.size 0 (jF t)):=aA (fun j u hj=>by rw [bB];exact HRT9.out.at.trans hj)
  have HSM2:=aA (show Calls Tryz.prog 15 #[.agg (jF a).toArray,.agg (jF t).toArray] Lt (gH true Lt) from by
   have:=CW a t Lt Uo.out.wf Um.out.wf Uo.out.at Um.out.at
   rw [aV ((DT a t).2 (HKA.out.trans HKT.out.symm))] at this
   exact this)
  clear HI8 HRT8 HFT8
  go_wp2_with (first | (rw [HPA5.out]) | (refine dQ rfl 28 (.tmp 14) (.tmp 82) rfl x5.heap.size _ _ (fZ a) rfl rfl Pf.out Zc.out Yj.out Yp.out ?_) | (rw [HPA6.out]) | (with_reducible refine eQ (some 88) rfl ?_;refine aA ?_;refine eT rfl 28 (.tmp 14) rfl x5.heap.size 0 rfl (jF a) _ HXA.out bA rfl hlPA.out ?_) | (with_reducible refine eQ (some 89) rfl ?_;refine aA ?_;refine eT rfl 28 (.tmp 6) rfl x2.heap.size 0 rfl (jF t) _ HXT9.out bA rfl Yv.out ?_))
  refine HSM2.out.mono ?_
  rintro e y3 ⟨rfl,Jy⟩
  have q1:=Pk.sW (W:=y3) (n:=q.length) c2 (by rw [HQL.out]) (Mj.out.own.below Jy)
  have q2:=Pk.sW (W:=y3) c HN.out (Mj.out.bs.below Jy)
  rw [OE] at q1
  have HE:=aA (dY Mj.out.jI Jy)
  have hsz:¬ (9223372036854775807 < (Pk.iP l).size + 1):=by rw [sZ];have:=BU.out;omega
  generalize Pk.iP l=sl at q1 q2 hsz
  clear Jy HSM2 Mj HRT9 Um HXA HXT9 Uo HRPA Fz Pf Zc Yj Yp HPA5 HPA6
  go_wp2_with fail
  go_ret
  exact ⟨by simp,HE.out⟩
end Fx
end Go.Proofs.YtbbhmhihpdmoiaaGreat
