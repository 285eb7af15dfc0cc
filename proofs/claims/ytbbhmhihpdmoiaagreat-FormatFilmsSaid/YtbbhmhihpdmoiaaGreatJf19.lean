import Derived.Test.YtbbhmhihpdmoiaaGreatJf18
set_option linter.unusedVariables false
set_option linter.unusedSimpArgs false
set_option maxRecDepth 100000
set_option maxHeartbeats 32000000
namespace Go.Proofs.YtbbhmhihpdmoiaaGreat
open Go.Proofs.Tryz
namespace Fx
open Go Go.RowKit Go.Shelf
attribute [local go_sem] Oper.semAt_some
structure UC (s:eF)(A:Nat)(x y:Int)(w W:World):Prop where
 box:eZ w.heap.size s W
 r1:W.heap[w.heap.size+1]?=some (.cells #[.int .i64 x] 3 (0,0))
 r2:W.heap[w.heap.size+1+1]?=some (.cells #[.int .i64 y] 3 (0,0))
 lt:w.heap.size+1+1<A
 dsc:eZ A s W
 dut:YP (A+1) A W
 below:Below w.heap.size w W
theorem UC.kept {s:eF}{A:Nat}{x y:Int}{B:Nat}{w W X:World}(hB:w.heap.size≤B)(h:Kept B W X)(i:UC s A x y w W):UC s A x y w X :=
 ⟨i.box.kept h,h.cells i.r1,h.cells i.r2,i.lt,i.dsc.kept h,h.cells i.dut,h.below hB i.below⟩
theorem UC.up {s:eF}{A:Nat}{x y:Int}{w W X:World}(h:Below W.heap.size W X)(i:UC s A x y w W):UC s A x y w X :=
 ⟨i.box.below h,dL h i.r1,dL h i.r2,i.lt,i.dsc.below h,dL h i.dut,dN i.below h⟩
theorem UC.facts {s:eF}{A:Nat}{x y:Int}{w W:World}(i:UC s A x y w W) :
  W.cell? ⟨w.heap.size+1,0,none⟩=some (.int .i64 x)∧W.cell? ⟨w.heap.size+1+1,0,none⟩=some (.int .i64 y)∧W.frozen? ⟨w.heap.size+1,0,none⟩=false∧W.frozen? ⟨w.heap.size+1+1,0,none⟩=false :=
 ⟨by rw[aD _ _ _ _ _ _ i.r1];rfl,by rw[aD _ _ _ _ _ _ i.r2];rfl,dJ i.r1,dJ i.r2⟩
theorem UC.put {s:eF}{A:Nat}{x y x2 y2:Int}{w W:World}(i:UC s A x y w W):UC s A x2 y2 w ((W.setCell ⟨w.heap.size+1,0,none⟩ (.int .i64 x2)).setCell ⟨w.heap.size+1+1,0,none⟩ (.int .i64 y2)):=by
 have a1:=aM W _ 0 _ _ (.int .i64 x2) i.r1;have hA:=i.lt;have o1:∀ {g:Nat} {ob:Obj},g≠w.heap.size+1→g≠w.heap.size+1+1→W.heap[g]?=some ob→((W.setCell ⟨w.heap.size+1,0,none⟩ (.int .i64 x2)).setCell ⟨w.heap.size+1+1,0,none⟩ (.int .i64 y2)).heap[g]?=some ob:=fun h1 h2 h=>by
  rw[aK _ _ _ _ h2,aK _ _ _ _ h1];exact h
 refine ⟨o1 (by omega) (by omega) i.box,?_,?_,hA,o1 (by omega) (by omega) i.dsc,o1 (by omega) (by omega) i.dut,(i.below.setCell (p:=⟨w.heap.size+1,0,none⟩) (by show _≤w.heap.size+1;omega) _).setCell (p:=⟨w.heap.size+1+1,0,none⟩) (by show _≤w.heap.size+1+1;omega) _⟩
 ·rw[aK _ _ _ _ (by show _≠w.heap.size+1+1;omega)]
  exact a1
 ·have a2:(W.setCell ⟨w.heap.size+1,0,none⟩ (.int .i64 x2)).heap[w.heap.size+1+1]?=some (.cells #[.int .i64 y] 3 (0,0)):=by
   rw[aK _ _ _ _ (by show _≠w.heap.size+1;omega)];exact i.r2
  exact aM _ _ 0 _ _ (.int .i64 y2) a2
theorem UC.drew {s:eF}{A:Nat}{x y:Int}{w W:World}(i:UC s A x y w W):UC s A x y w W.drew:=i.up (eM _ W 1)
structure YD (s:eF)(A:Nat)(r:Int)(g:Nat)(lb:Array Value)(b:Nat)(x y:Int)(w W:World):Prop where
 wg:UC s A x y w W
 lt:A+1<b
 num:W.heap[b]?=some (.cells #[.int .i64 r] 3 (0,0))
 rul:W.heap[b+1]?=some (.cells #[.func (.func g) #[] lb] 151 (0,0))
 it:eZ (b+1+1) s W
theorem YD.kept {s:eF}{A:Nat}{r:Int}{g:Nat}{lb:Array Value}{b:Nat}{x y:Int}{B:Nat}{w W X:World}(hB:w.heap.size≤B)(h:Kept B W X)(i:YD s A r g lb b x y w W):YD s A r g lb b x y w X :=
 ⟨i.wg.kept hB h,i.lt,h.cells i.num,h.cells i.rul,i.it.kept h⟩
theorem YD.up {s:eF}{A:Nat}{r:Int}{g:Nat}{lb:Array Value}{b:Nat}{x y:Int}{w W X:World}(h:Below W.heap.size W X)(i:YD s A r g lb b x y w W):YD s A r g lb b x y w X :=
 ⟨i.wg.up h,i.lt,dL h i.num,dL h i.rul,i.it.below h⟩
theorem YD.facts {s:eF}{A:Nat}{r:Int}{g:Nat}{lb:Array Value}{b:Nat}{x y:Int}{w W:World}(i:YD s A r g lb b x y w W):W.cell? ⟨b,0,none⟩=some (.int .i64 r)∧W.cell? ⟨b+1,0,none⟩=some (.func (.func g) #[] lb) :=
 ⟨by rw[aD _ _ _ _ _ _ i.num];rfl,by rw[aD _ _ _ _ _ _ i.rul];rfl⟩
theorem YD.put {s:eF}{A:Nat}{r:Int}{g:Nat}{lb:Array Value}{b:Nat}{x y x2 y2:Int}{w W:World}(i:YD s A r g lb b x y w W):YD s A r g lb b x2 y2 w ((W.setCell ⟨w.heap.size+1,0,none⟩ (.int .i64 x2)).setCell ⟨w.heap.size+1+1,0,none⟩ (.int .i64 y2)):=by
 have hA:=i.wg.lt;have hb:=i.lt;have o1:∀ {g:Nat} {ob:Obj},g≠w.heap.size+1→g≠w.heap.size+1+1→W.heap[g]?=some ob→((W.setCell ⟨w.heap.size+1,0,none⟩ (.int .i64 x2)).setCell ⟨w.heap.size+1+1,0,none⟩ (.int .i64 y2)).heap[g]?=some ob:=fun h1 h2 h=>by
  rw[aK _ _ _ _ h2,aK _ _ _ _ h1];exact h
 exact ⟨i.wg.put,hb,o1 (by omega) (by omega) i.num,o1 (by omega) (by omega) i.rul,o1 (by omega) (by omega) i.it⟩
structure UB (s:eF)(x y:Int)(w W:World):Prop where
 box:eZ w.heap.size s W
 r1:W.heap[w.heap.size+1]?=some (.cells #[.int .i64 x] 3 (0,0))
 r2:W.heap[w.heap.size+1+1]?=some (.cells #[.int .i64 y] 3 (0,0))
 below:Below w.heap.size w W
theorem UB.up {s:eF}{x y:Int}{w W X:World}(h:Below W.heap.size W X)(i:UB s x y w W):UB s x y w X :=
 ⟨i.box.below h,dL h i.r1,dL h i.r2,dN i.below h⟩
theorem UB.new (s:eF)(w:World):UB s 0 0 w (((w.alloc (.cells (eU s) 28)).alloc (.cells #[.int .i64 0] 3)).alloc (.cells #[.int .i64 0] 3)):=by
 refine ⟨dM (dM (eZ.new w s)),?_,?_,(((aJ _ w).alloc (aB _) _).alloc (by simp) _).alloc (by simp;omega) _⟩
 ·have:=aG (w.alloc (.cells (eU s) 28)) (.cells #[.int .i64 0] 3)
  rw[aR] at this;exact dM this
 ·have:=aG ((w.alloc (.cells (eU s) 28)).alloc (.cells #[.int .i64 0] 3)) (.cells #[.int .i64 0] 3)
  rw[aR,aR] at this;exact this
theorem UB.facts {s:eF}{x y:Int}{w W:World}(i:UB s x y w W) :
  W.cell? ⟨w.heap.size+1,0,none⟩=some (.int .i64 x)∧W.cell? ⟨w.heap.size+1+1,0,none⟩=some (.int .i64 y)∧W.frozen? ⟨w.heap.size+1,0,none⟩=false∧W.frozen? ⟨w.heap.size+1+1,0,none⟩=false :=
 ⟨by rw[aD _ _ _ _ _ _ i.r1];rfl,by rw[aD _ _ _ _ _ _ i.r2];rfl,dJ i.r1,dJ i.r2⟩
theorem UB.put {s:eF}{x y x2 y2:Int}{w W:World}(i:UB s x y w W):UB s x2 y2 w ((W.setCell ⟨w.heap.size+1,0,none⟩ (.int .i64 x2)).setCell ⟨w.heap.size+1+1,0,none⟩ (.int .i64 y2)):=by
 have a1:=aM W _ 0 _ _ (.int .i64 x2) i.r1;refine ⟨?_,?_,?_,(i.below.setCell (p:=⟨w.heap.size+1,0,none⟩) (by show _≤w.heap.size+1;omega) _).setCell (p:=⟨w.heap.size+1+1,0,none⟩) (by show _≤w.heap.size+1+1;omega) _⟩
 ·unfold eZ
  rw[aK _ _ _ _ (by show _≠w.heap.size+1+1;omega),aK _ _ _ _ (by show _≠w.heap.size+1;omega)];exact i.box
 ·rw[aK _ _ _ _ (by show _≠w.heap.size+1+1;omega)]
  exact a1
 ·have a2:(W.setCell ⟨w.heap.size+1,0,none⟩ (.int .i64 x2)).heap[w.heap.size+1+1]?=some (.cells #[.int .i64 y] 3 (0,0)):=by
   rw[aK _ _ _ _ (by show _≠w.heap.size+1;omega)];exact i.r2
  exact aM _ _ 0 _ _ (.int .i64 y2) a2
theorem UB.rC {s:eF}{x y y2:Int}{w W:World}(i:UB s x y w W):UB s x y2 w (W.setCell ⟨w.heap.size+1+1,0,none⟩ (.int .i64 y2)):=by
 refine ⟨?_,?_,aM _ _ 0 _ _ (.int .i64 y2) i.r2,i.below.setCell (p:=⟨w.heap.size+1+1,0,none⟩) (by show _≤w.heap.size+1+1;omega) _⟩
 ·unfold eZ
  rw[aK _ _ _ _ (by show _≠w.heap.size+1+1;omega)];exact i.box
 ·rw[aK _ _ _ _ (by show _≠w.heap.size+1+1;omega)]
  exact i.r1
theorem UB.kept {s:eF}{x y:Int}{B:Nat}{w W X:World}(hB:w.heap.size≤B)(h:Kept B W X)(i:UB s x y w W):UB s x y w X :=
 ⟨i.box.kept h,h.cells i.r1,h.cells i.r2,h.below hB i.below⟩
theorem EE (B:Nat)(W:World):KeepsFrom B W W.drew:=⟨aB _,fun _ _ _ h _=>h⟩
theorem uY {n:Nat}{P:Program}{fn:Func}{R:Ending→World→Prop}{a:Act}{W:World}{B hi:Nat}(h:iY B hi a.defers W)(H:∀X,Kept B W X→LeavesInM Fence.wide n P fn a.tmps R [] .returning X):Exit.noGoto (bodyPostM Fence.wide n P fn R) .ret a W :=
 EC _ hi W h H
theorem Ea (s:eF):rB s = !((decide (1≤s.w) && decide (s.w≤64)) && (decide (1≤s.h) && decide (s.h≤64))):=by
 unfold rB;by_cases h1:1≤s.w <;> by_cases h2:s.w≤64 <;> by_cases h3:1≤s.h <;> by_cases h4:s.h≤64 <;> simp[h1,h2,h3,h4] <;> omega
def WgI (s:eF)(A:Nat)(w:World)(n:Nat)(a:Act)(W:World):Prop :=
 ∃ (r:Nat) (ds:List Deferred) (v0 v4 v5 v6 v7 v8 v9 v10 v11 v12 v13 v14 v15 v16 v17 v18 v19 v20 v21 v22 v23 v24 v25 v26 v27 v28 v29 v33 v34 v35 v36 v37 v38 v39 v40 v41 v42 v43 v44 v45 v46 v47 v48 v49 v50 v51:Value),n=5-r∧r≤5∧(∀q,4≤q→q<4+r→jF s q=none)∧UC s A 0 (-1) w W∧iY w.heap.size W.heap.size ds W ∧
 a={ tmps:=#[v0,.pointer (some ⟨w.heap.size,0,none⟩),.pointer (some ⟨w.heap.size+1,0,none⟩),.pointer (some ⟨w.heap.size+1+1,0,none⟩),v4,v5,v6,v7,v8,v9,v10,v11,v12,v13,v14,v15,v16,v17,v18,v19,v20,v21,v22,v23,v24,v25,v26,v27,v28,v29,.slice (some ⟨A+1,0,none⟩) 5 5,.int .i64 5,.int .i64 (r:Int),v33,v34,v35,v36,v37,v38,v39,v40,v41,v42,v43,v44,v45,v46,v47,v48,v49,v50,v51],defers:=ds }
theorem WC (s:eF)(w:World)(hs:iA s)(h:eN w s.oo s.os) :
  Calls prog 61 #[.agg (eU s)] w (rQ (fM s) w):=by
 have HI:=aA (UB.new s w);have HS:=aA hs;have HO:=aA h;obtain ⟨V,hV⟩:∃V,(((w.alloc (.cells (eU s) 28)).alloc (.cells #[.int .i64 0] 3)).alloc (.cells #[.int .i64 0] 3))=V:=⟨_,rfl⟩;rw[hV] at HI;have HV:=aA hV;obtain ⟨c1,c2,f1,f2⟩:=HI.out.facts;have d0:V.cell? ⟨w.heap.size,0,none⟩=some (.int .i64 s.w):=HI.out.box.c0;have d1:V.cell? ⟨w.heap.size,1,none⟩=some (.int .i64 s.h):=HI.out.box.c1;have HZ:=aA (Ea s);have qO:Hid (rB s=true→fM s=(1,-1)):=aA (fun h=>by unfold fM;rw[aZ h]);have HW:=aA (fun (W:World)=>PZ s.w W);have HH:=aA (fun (W:World)=>PZ s.h W);clear h hs hV;generalize (decide (1≤s.w) && decide (s.w≤64))=b1 at HZ HW;generalize (decide (1≤s.h) && decide (s.h≤64))=b2 at HZ HH;refine (bG (n:=5)).1 ?_;refine callsIn_of_wp_marks func61 rfl trivial ?_ rfl;simp only[ntmps61,aL,bO,List.length_nil,Nat.reduceAdd,Nat.reduceSub,Array.replicate_succ,Array.replicate_zero,List.push_toArray,List.append_toArray,cB,cC];refine bN.2 ?_
 cases b1 with
 | false =>
  have HR:=aA (qO.out (by rw[HZ.out];rfl));go_wp2_with (first|go_step3|(rw[HV.out]))
  refine (HW.out _).mono ?_;rintro e w' ⟨rfl,rfl⟩;go_wp2_with fail;refine uY (B:=w.heap.size) (hi:=0) (iY.nil _ _ _) (fun X hk=>?_);have qH:=(HI.out.put (x2:=1) (y2:=(-1))).kept (aB _) hk;obtain ⟨d1,d2,_,_⟩:=qH.facts;have xW:=aA qH.below;clear qH hk;refine ⟨.tuple #[.int .i64 1,.int .i64 (-1)],?_,by rw[HR.out],xW.out⟩;simp[results,results61,go_sem, *]
 | true =>
  go_wp2_with (first|go_step3|(rw[HV.out]))
  refine (HW.out _).mono ?_;rintro e w' ⟨rfl,rfl⟩;go_wp2_with fail;refine (HH.out _).mono ?_;rintro e w1 ⟨rfl,rfl⟩
  cases b2 with
  | false =>
   have HR:=aA (qO.out (by rw[HZ.out];rfl));go_wp2_with fail;refine uY (B:=w.heap.size) (hi:=0) (iY.nil _ _ _) (fun X hk=>?_);have qH:=(HI.out.put (x2:=1) (y2:=(-1))).kept (aB _) hk;obtain ⟨d1,d2,_,_⟩:=qH.facts;have xW:=aA qH.below;clear qH hk;refine ⟨.tuple #[.int .i64 1,.int .i64 (-1)],?_,by rw[HR.out],xW.out⟩;simp[results,results61,go_sem, *]
  | true =>
   have GR:Hid (rB s=false):=aA (by rw[HZ.out];rfl);have hC:=aA (sV HS.out.len);have HCH:=aA (fun (W:World)=>yQ s.jN 16777216 W HS.out.len (by omega) (by omega));obtain ⟨ok,jS⟩:∃b,wB 16777216 s.jN 16=b:=⟨_,rfl⟩;have kC:=aA jS;rw[jS] at HCH;clear jS qO HZ HW HH d0 d1
   cases ok with
   | false =>
    have HR:Hid (fM s=(2,-1)):=aA (by unfold fM;rw[bF (by simp[GR.out]),aZ kC.out]);go_wp2_with (refine wpList_load_mid rfl 25 (.tmp 20) rfl w.heap.size 2 rfl (s.jN.map encI) _ HI.out.box.jN aU rfl hC.out ?_)
    refine (HCH.out _).mono ?_;rintro e w2 ⟨rfl,hb⟩;have jP:=aA (HI.out.up hb);clear hb c1 c2 f1 f2 HI;obtain ⟨c1,c2,f1,f2⟩:=jP.out.facts;go_wp2_with fail;refine uY (B:=w.heap.size) (hi:=0) (iY.nil _ _ _) (fun X hk=>?_);have qH:=(jP.out.put (x2:=2) (y2:=(-1))).kept (aB _) hk;obtain ⟨d1,d2,_,_⟩:=qH.facts;have xW:=aA qH.below;clear qH hk;refine ⟨.tuple #[.int .i64 2,.int .i64 (-1)],?_,by rw[HR.out],xW.out⟩;simp[results,results61,go_sem, *]
   | true =>
    go_wp2_with (refine wpList_load_mid rfl 25 (.tmp 20) rfl w.heap.size 2 rfl (s.jN.map encI) _ HI.out.box.jN aU rfl hC.out ?_)
    refine (HCH.out _).mono ?_;rintro e w2 ⟨rfl,hb⟩;have jP:=aA (HI.out.up hb);clear hb c1 c2 f1 f2 HI;obtain ⟨c1,c2,f1,f2⟩:=jP.out.facts;have c18:=jP.out.box.c18 HS.out;have gR:=HS.out.cap.1;obtain ⟨n,hn⟩:∃n,s.os.length=n:=⟨_,rfl⟩;have HN:=aA hn;rw[hn] at c18 gR;have n0:(0:Int)≤(n:Int):=by omega
    have n1:(n:Int)≤9223372036854775807:=by omega
    clear hn gR;by_cases h16:16<n
    ·have t1:(16:Int)<(n:Int):=by omega
     have HR:Hid (fM s=(3,-1)):=aA (by unfold fM;rw[bF (by simp[GR.out]),bF (by simp[kC.out]),aZ (by rw[HN.out];exact h16)]);go_wp2_with fail;refine uY (B:=w.heap.size) (hi:=0) (iY.nil _ _ _) (fun X hk=>?_);have qH:=(jP.out.put (x2:=3) (y2:=(-1))).kept (aB _) hk;obtain ⟨d1,d2,_,_⟩:=qH.facts;have xW:=aA qH.below;clear qH hk;refine ⟨.tuple #[.int .i64 3,.int .i64 (-1)],?_,by rw[HR.out],xW.out⟩;simp[results,results61,go_sem, *]
    ·have t1:¬ (16:Int)<(n:Int):=by omega
     have H16:Hid (s.os.length≤16):=aA (by rw[HN.out];omega);have qB:=aA (jP.out.rC (y2:=-1));have hall:=aA (CR HS.out);clear h16;go_wp2_with (first|go_step3|refine wpList_load_mid rfl 28 (.tmp 1) rfl w.heap.size 0 rfl (fP s) _ qB.out.box.all aW rfl hall.out ?_)
     clear c18 t1 c1 c2 f1 f2 jP;refine (Pj s _).mono ?_;obtain ⟨W3,hW3⟩:∃W3,w2.setCell ⟨w.heap.size+1+1,0,none⟩ (.int .i64 (-1))=W3:=⟨_,rfl⟩;rw[hW3] at qB ⊢;clear hW3;rintro e w3 ⟨rfl,rfl⟩;obtain ⟨A,hA⟩:∃A,W3.heap.size=A:=⟨_,rfl⟩;obtain ⟨W4,Ih⟩:∃W4,(W3.alloc (.cells (eU s) 28)).alloc (.cells (Bj A) 151)=W4:=⟨_,rfl⟩;have HG:Hid (UC s A 0 (-1) w W4):=aA (by
      have hB:Below W3.heap.size W3 W4:=by rw[←Ih];exact ((aJ _ W3).alloc (aB _) _).alloc (by simp) _
      have i:=qB.out.up hB;refine ⟨i.box,i.r1,i.r2,?_,?_,?_,i.below⟩
      ·have:=(aC.1 qB.out.r2).1
       omega
      ·rw[←Ih,←hA]
       exact dM (eZ.new W3 s)
      ·rw[←Ih,←hA]
       have:=aG (W3.alloc (.cells (eU s) 28)) (.cells (Bj W3.heap.size) 151);rw[aR] at this;exact this)
     rw[hA,Ih];clear hA Ih qB;go_wp2_with fail;refine wp_loop_ghost_k (WgI s A w) 5 ⟨0,[],_,_,_,_,_,_,_,_,_,_,_,_,_,_,_,_,_,_,_,_,_,_,_,_,_,_,_,_,_,_,_,_,_,_,_,_,_,_,_,_,_,_,_,_,_,_,rfl,by omega,fun q h1 h2=>absurd h2 (by omega),HG.out,iY.nil _ _ _,rfl⟩ ?_;rintro g a W ⟨r,ds,v0,v4,v5,v6,v7,v8,v9,v10,v11,v12,v13,v14,v15,v16,v17,v18,v19,v20,v21,v22,v23,v24,v25,v26,v27,v28,v29,v33,v34,v35,v36,v37,v38,v39,v40,v41,v42,v43,v44,v45,v46,v47,v48,v49,v50,v51,rfl,hr,hq,hi,hd,rfl⟩ J K hJ hK;have HI:=aA hi;have HD:=aA hd;have HQ:=aA hq;have HJ:=aA hJ;have r0:(0:Int)≤(r:Int):=by omega
     clear hi hd hq HG hJ;by_cases Sc:r<5
     ·have t1:(r:Int)<5:=by omega
      have c:=HI.out.dut.cell Sc;have eg:=XQ Sc;have HDU:=aA (fun (x:eE) (k A:Nat) (w:World)=>Pg s x k r A w Sc);unfold FH at c;obtain ⟨g,hg⟩:∃g,TK r=g:=⟨_,rfl⟩;obtain ⟨lb,hlb⟩:∃lb,Ph A r=lb:=⟨_,rfl⟩;have HLB:=aA hlb;rw[hg] at c eg HDU;rw[hlb] at c;clear hg hlb;obtain ⟨W5,hW5⟩:∃W5,(W.alloc (.cells #[.int .i64 (r:Int)] 3)).alloc (.cells #[.func (.func g) #[] lb] 151)=W5:=⟨_,rfl⟩;obtain ⟨W6,hW6⟩:∃W6,W5.alloc (.cells (eU s) 28)=W6:=⟨_,rfl⟩;have hs5:W5.heap.size=W.heap.size+1+1:=by rw[←hW5];simp
      have hs6:W6.heap.size=W.heap.size+1+1+1:=by rw[←hW6,aR,hs5]
      have hB5:Below W.heap.size W W5:=by rw[←hW5];exact ((aJ _ W).alloc (aB _) _).alloc (by simp) _
      have Wz:Below W5.heap.size W5 W6:=by rw[←hW6];exact (aJ _ W5).alloc (aB _) _
      have hB6:Below W.heap.size W W6:=dN hB5 Wz;have HN0:Hid (YD s A (r:Int) g lb W.heap.size 0 (-1) w W6):=aA (by
       refine ⟨HI.out.up hB6,?_,dL Wz ?_,dL Wz ?_,?_⟩
       ·have:=(aC.1 HI.out.dut).1
        omega
       ·rw[←hW5]
        exact dM (aG _ _)
       ·rw[←hW5]
        have:=aG (W.alloc (.cells #[.int .i64 (r:Int)] 3)) (.cells #[.func (.func g) #[] lb] 151);rw[aR] at this;exact this
       ·rw[←hW6,←hs5]
        exact eZ.new W5 s)
      have HD6:Hid (iY w.heap.size W.heap.size ds W6):=aA (HD.out.keeps (lF hB6 _));have Zd:Hid (W5.rangeAt w.heap.size 0 (fP s)):=aA (HI.out.up hB5).box.all;have Cn:=aA hs6;have HS5:=aA hs5;have HW6:=aA hW6;have HW5:=aA hW5;have HWW:Hid (w.heap.size≤W.heap.size):=aA HI.out.below.size;clear hW5 hB5 Wz hB6 hs5 hs6 hW6;go_wp2_with (rw[HW5.out];refine wpList_load_mid rfl 28 (.tmp 1) rfl w.heap.size 0 rfl (fP s) _ Zd.out aW rfl hall.out ?_)
      clear c t1;refine (KD s _).mono ?_;rintro e w' ⟨rfl,rfl⟩;rw[HS5.out,HW6.out];go_wp2_with fail;refine bN.1 (gJ (F:=Fence.wide) (n:=5) rfl (by omega) (gf:=130) (lb:=#[.pointer (some ⟨W.heap.size+1+1,0,none⟩)]) rfl trivial (enters_of func130 (by kernel_rfl) rfl)
       (KE s (W.heap.size+1+1) HS.out) (fun _=>rfl) (.exit 1)
       (fun j V=>YD s A (r:Int) g lb W.heap.size 0 (-1) w V∧iY w.heap.size W.heap.size ds V∧∀i,i<j→nQ s (4+r) i=false)
       (fun V=>∃j:Nat,YD s A (r:Int) g lb W.heap.size (4+(r:Int)) (j:Int) w V∧iY w.heap.size W.heap.size ds V∧jF s (4+r)=some j)
       (fun j a' V=>(∃b7,V.heap[b7]?=some (.cells (dP (s.os.getD j default)).toArray 73 (0,0))∧a'={ tmps:=#[v0,.pointer (some ⟨w.heap.size,0,none⟩),.pointer (some ⟨w.heap.size+1,0,none⟩),.pointer (some ⟨w.heap.size+1+1,0,none⟩),.pointer (some ⟨W.heap.size,0,none⟩),.pointer (some ⟨W.heap.size+1,0,none⟩),.int .i64 (j:Int),.pointer (some ⟨b7,0,none⟩),v8,v9,v10,v11,v12,v13,v14,v15,v16,v17,v18,v19,v20,v21,v22,v23,v24,v25,v26,v27,v28,v29,.slice (some ⟨A+1,0,none⟩) 5 5,.int .i64 5,.int .i64 (r:Int),.bool true,.int .i64 (r:Int),.pointer (some ⟨A+1,r,none⟩),.func (.func g) #[] lb,.agg (fP s).toArray,.func (.func 130) #[] #[.pointer (some ⟨W.heap.size+1+1,0,none⟩)],.int .i64 (j:Int),.agg (dP (s.os.getD j default)).toArray,v41,v42,v43,v44,v45,v46,v47,v48,v49,v50,v51],defers:=[] })∧YD s A (r:Int) g lb W.heap.size 0 (-1) w V∧iY w.heap.size W.heap.size ds V∧∀i,i<j→nQ s (4+r) i=false)
       ?i1 ?i2 ?i3 ?i4 ?i5 ⟨HN0.out,HD6.out,fun i hi=>absurd hi (by omega)⟩ ?assign ?body ?done ?stop)
      case i1=>rintro j V X ⟨h1,h2,h3⟩ hk;exact ⟨h1.kept (by have:=Cn.out;have:=HWW.out;omega) hk,h2.kept (by have:=Cn.out;omega) hk,h3⟩
      case i2=>rintro V X ⟨j,h1,h2,h3⟩ hk;exact ⟨j,h1.kept (by have:=Cn.out;have:=HWW.out;omega) hk,h2.kept (by have:=Cn.out;omega) hk,h3⟩
      case i3=>rintro j a V X ⟨⟨b7,h0,ha⟩,h1,h2,h3⟩ hk;exact ⟨⟨b7,hk.cells h0,ha⟩,h1.kept (by have:=Cn.out;have:=HWW.out;omega) hk,h2.kept (by have:=Cn.out;omega) hk,h3⟩
      case i4=>rintro j V ⟨h1,h2,h3⟩;exact ⟨h1.it,HO.out.below h1.wg.below⟩
      case i5=>rintro V ⟨j,h1,h2,h3⟩;exact ⟨h1.it,HO.out.below h1.wg.below⟩
      case assign =>
       intro l1 j V C hk hI hC;have hx:s.os[j]?=some (s.os.getD j default):=by rw[aS,aF hk];rfl
       obtain ⟨b,off,e,hat⟩:=HO.out j _ hx;simp only[xB];have HA:Hid (∀ (X:World) (b7:Nat),X.heap[b7]?=some (.cells (dP (s.os.getD j default)).toArray 73 (0,0))→∃c7,X.heap[c7]?=some (.cells (dP (s.os.getD j default)).toArray 73 (0,0))∧({ tmps:=#[v0,.pointer (some ⟨w.heap.size,0,none⟩),.pointer (some ⟨w.heap.size+1,0,none⟩),.pointer (some ⟨w.heap.size+1+1,0,none⟩),.pointer (some ⟨W.heap.size,0,none⟩),.pointer (some ⟨W.heap.size+1,0,none⟩),.int .i64 (j:Int),.pointer (some ⟨b7,0,none⟩),v8,v9,v10,v11,v12,v13,v14,v15,v16,v17,v18,v19,v20,v21,v22,v23,v24,v25,v26,v27,v28,v29,.slice (some ⟨A+1,0,none⟩) 5 5,.int .i64 5,.int .i64 (r:Int),.bool true,.int .i64 (r:Int),.pointer (some ⟨A+1,r,none⟩),.func (.func g) #[] lb,.agg (fP s).toArray,.func (.func 130) #[] #[.pointer (some ⟨W.heap.size+1+1,0,none⟩)],.int .i64 (j:Int),.agg (dP (s.os.getD j default)).toArray,v41,v42,v43,v44,v45,v46,v47,v48,v49,v50,v51],defers:=[] }:Act)={ tmps:=#[v0,.pointer (some ⟨w.heap.size,0,none⟩),.pointer (some ⟨w.heap.size+1,0,none⟩),.pointer (some ⟨w.heap.size+1+1,0,none⟩),.pointer (some ⟨W.heap.size,0,none⟩),.pointer (some ⟨W.heap.size+1,0,none⟩),.int .i64 (j:Int),.pointer (some ⟨c7,0,none⟩),v8,v9,v10,v11,v12,v13,v14,v15,v16,v17,v18,v19,v20,v21,v22,v23,v24,v25,v26,v27,v28,v29,.slice (some ⟨A+1,0,none⟩) 5 5,.int .i64 5,.int .i64 (r:Int),.bool true,.int .i64 (r:Int),.pointer (some ⟨A+1,r,none⟩),.func (.func g) #[] lb,.agg (fP s).toArray,.func (.func 130) #[] #[.pointer (some ⟨W.heap.size+1+1,0,none⟩)],.int .i64 (j:Int),.agg (dP (s.os.getD j default)).toArray,v41,v42,v43,v44,v45,v46,v47,v48,v49,v50,v51],defers:=[] }):=aA (fun X b7 h=>⟨b7,h,rfl⟩);obtain ⟨x,Al⟩:∃x,s.os.getD j default=x:=⟨_,rfl⟩;rw[Al] at hat hx HA ⊢;have oY:=aA (show (prog.info? 73).map (·.size)=some (dP x).toArray.size by rw[aL,dX hat.wf];kernel_rfl);have HL:=aA (show 19=(dP x).toArray.size by rw[aL,dX hat.wf]);have mX:=aA (nL x);have HB:Hid (Below V.heap.size V (V.alloc (.cells (dP x).toArray 73))):=aA ((aJ _ V).alloc (aB _) _);have mG:=aA (aG V (.cells (dP x).toArray 73));have HXX:=aA Al;clear hat hx Al e eg
       gi_wp2_with (refine kV (fun _=>trivial) rfl 73 (.tmp 7) (.tmp 40) rfl V.heap.size _ _ (dP x).toArray rfl rfl rfl oY.out HL.out mX.out ?_)
       refine hC _ _ (lF HB.out _) ⟨by rw[HXX.out];exact HA.out _ _ mG.out,hI.1.up HB.out,hI.2.1.keeps (lF HB.out _),hI.2.2⟩
      case body =>
       rintro l1 j a' V hk ⟨⟨b7,h7,ha⟩,hn,hdd,wG⟩;subst ha;have hx:s.os[j]?=some (s.os.getD j default):=by rw[aS,aF hk];rfl
       obtain ⟨x,Al⟩:∃x,s.os.getD j default=x:=⟨_,rfl⟩;rw[Al] at h7 hx ⊢;have iE:=HO.out.below hn.wg.below;have qj:=aA (iE.wf hx).1;have HR:Hid (V.rangeAt b7 0 (dP x)):=aA (fun i v hi=>by
        rw[aD _ _ _ _ _ _ h7,bE]
        simpa using hi)
       have lW:=aA (show (prog.info? 73).map (·.size)=some (dP x).length by rw[dX qj.out];kernel_rfl);have HC:=aA (HDU.out x j A V HS.out hn.wg.dsc iE hx);have HBD:=aA (Pf Sc HS.out qj.out hx kC.out HQ.out);obtain ⟨c4,c5⟩:=hn.facts;have AG:=aA hn;have UM:=aA hdd;have HPRE:=aA wG;have HK:=aA hk;rw[HLB.out] at HC;obtain ⟨ok,jS⟩:∃b,Bi s r x j=b:=⟨_,rfl⟩;rw[jS] at HC HBD;clear jS h7 hx Al wG hn hdd hk iE
       gi_wp2_with (refine lN (fun _=>trivial) rfl 73 (.tmp 7) rfl b7 0 rfl (dP x) _ HR.out bW rfl lW.out ?_)
       refine ⟨trivial,CallsIn.mono (CallsIn.inRound l1 (bG.2 HC.out)) ?_⟩;rintro e V8 ⟨rfl,hb⟩;have HN8:=aA (AG.out.up hb);have HD8:=aA (UM.out.keeps (lF hb _));have Ip:=aA (lF hb W6.heap.size);obtain ⟨e4,e5⟩:=HN8.out.facts;obtain ⟨e1,e2,f1,f2⟩:=HN8.out.wg.facts;clear hb c4 c5 HC HR
       cases ok with
       | true =>
        gi_wp2;refine ⟨Ip.out,HN8.out,HD8.out,fun i hi=>?_⟩;by_cases hij:i<j
        ·exact HPRE.out i hij
        ·rw[show i=j by omega]
         exact HBD.out
       | false =>
        have HP:=aA (HN8.out.put (x2:=4+(r:Int)) (y2:=(j:Int)));have HKS2:Hid (KeepsFrom W6.heap.size V8 ((V8.setCell ⟨w.heap.size+1,0,none⟩ (.int .i64 (4+(r:Int)))).setCell ⟨w.heap.size+1+1,0,none⟩ (.int .i64 (j:Int)))):=aA (((KeepsOthers.setCell _ _ _).trans (KeepsOthers.setCell _ _ _)).from _);have HKS3:Hid (KeepsFrom w.heap.size V8 ((V8.setCell ⟨w.heap.size+1,0,none⟩ (.int .i64 (4+(r:Int)))).setCell ⟨w.heap.size+1+1,0,none⟩ (.int .i64 (j:Int)))):=aA (((KeepsOthers.setCell _ _ _).trans (KeepsOthers.setCell _ _ _)).from _);gi_wp2;exact ⟨rfl,Ip.out.trans HKS2.out,j,HP.out,HD8.out.keeps HKS3.out,FR HK.out HPRE.out HBD.out⟩
      case done =>
       rintro D V hD ⟨hn,hdd,wG⟩ iF;have CH:Hid (jF s (4+r)=none):=aA (FT wG);have AG:=aA hn;have Zc:Hid (iY w.heap.size V.heap.size ({ target:=.collected D,args:=#[] }::ds) V):=aA ((hdd.cons (by have:=Cn.out;have:=HWW.out;omega) (by have:=Cn.out;omega) iF).wide (aC.1 iF).1);clear hn hdd wG iF hD eg;go_wp2_with fail;refine Handed.intro (5-(r+1)) (by omega) (HJ.out _ _ _ ⟨r+1,_,_,_,_,_,_,_,_,_,_,_,_,_,_,_,_,_,_,_,_,_,_,_,_,_,_,_,_,_,_,_,_,_,_,_,_,_,_,_,_,_,_,_,_,_,_,_,rfl,by omega,fun q h1 h2=>?_,AG.out.wg,Zc.out,by rw[Int.natCast_add];rfl⟩);by_cases hqr:q<4+r
       ·exact HQ.out q h1 hqr
       ·rw[show q=4+r by omega]
        exact CH.out
      case stop =>
       rintro D V hD ⟨j,hn,hdd,hbad⟩ iF;have HR:Hid (fM s=(4+(r:Int),(j:Int))):=aA (by
        rw[PN GR.out kC.out H16.out (by omega) (by omega) HQ.out hbad];simp)
       have HIW:=aA hn.wg;have Zc:Hid (iY w.heap.size V.heap.size ({ target:=.collected D,args:=#[] }::ds) V):=aA ((hdd.cons (by have:=Cn.out;have:=HWW.out;omega) (by have:=Cn.out;omega) iF).wide (aC.1 iF).1);obtain ⟨e1,e2,f1,f2⟩:=hn.wg.facts;clear hn hdd hbad iF hD eg;refine bN.2 ?_;go_wp2_with fail;refine wp_region_noPanic ?_;refine (bN (n:=5)).1 ?_;refine iN (S:=fun X=>X.cell? ⟨w.heap.size+1,0,none⟩=some (.int .i64 (4+(r:Int)))∧X.cell? ⟨w.heap.size+1+1,0,none⟩=some (.int .i64 (j:Int))) (Z:=[]) (by kernel_rfl) ?_;refine eG (fun _=>trivial) [] 0 (?_) (by kernel_rfl) rfl (by kernel_rfl) (fun _ _ _ h=>h) ⟨e1,e2⟩ (by kernel_rfl) ?_ ?_;rotate_left
       ·intro wz hSw;obtain ⟨q1,q2⟩:=hSw;(first|(go_simp;done)|(go_simp;with_reducible rfl))
       try simp only[aQ]
       refine eG (fun _=>trivial) [] 1 (?_) (by kernel_rfl) rfl (by kernel_rfl) (fun _ _ _ h=>h) ⟨e1,e2⟩ (by kernel_rfl) ?_ ?_;rotate_left
       ·intro wz hSw;obtain ⟨q1,q2⟩:=hSw;(first|(go_simp;done)|(go_simp;with_reducible rfl))
       try simp only[aQ]
       refine gF (fun _=>trivial) 2 (by kernel_rfl) rfl (fun K hK=>?_);go_simp;refine hK.out _ _ (fun _=>by constructor <;> simp[go_sem, *]) ?_;clear hK K;try simp only[aQ]
       refine gF (fun _=>trivial) 3 (by kernel_rfl) rfl (fun K hK=>?_);go_simp;refine hK.out _ _ (fun _=>by constructor <;> simp[go_sem, *]) ?_;clear hK K;try simp only[aQ]
       refine jW (by kernel_rfl) ?_ _;refine NoPanic.normal ?_;go_wp2_with fail;have HP:=aA ((HIW.out.put (x2:=(4+(r:Int))) (y2:=(j:Int))).drew);refine uY (B:=w.heap.size) (hi:=V.heap.size) (Zc.out.keeps ((((KeepsOthers.setCell _ _ _).trans (KeepsOthers.setCell _ _ _)).from _).trans (EE _ _))) (fun X hk=>?_);have qH:=HP.out.kept (aB _) hk;obtain ⟨d1,d2,_,_⟩:=qH.facts;have xW:=aA qH.below;clear qH hk;refine ⟨.tuple #[.int .i64 (4+(r:Int)),.int .i64 (j:Int)],?_,by rw[HR.out],xW.out⟩;simp[results,results61,go_sem, *]
     ·obtain rfl:r=5:=by omega
      have t1:¬ ((5:Nat):Int)<5:=by omega
      have HR:Hid (fM s=(0,-1)):=aA (JI GR.out kC.out H16.out (fun q h1 h2=>HQ.out q h1 (by omega)));have HIW:=aA HI.out;have Zc:=aA HD.out;obtain ⟨e1,e2,f1,f2⟩:=HI.out.facts;go_wp2_with fail;refine wp_region_noPanic ?_;refine (bN (n:=5)).1 ?_;refine iN (S:=fun X=>X.cell? ⟨w.heap.size+1,0,none⟩=some (.int .i64 0)∧X.cell? ⟨w.heap.size+1+1,0,none⟩=some (.int .i64 (-1))) (Z:=[]) (by kernel_rfl) ?_;refine eG (fun _=>trivial) [] 0 (?_) (by kernel_rfl) rfl (by kernel_rfl) (fun _ _ _ h=>h) ⟨e1,e2⟩ (by kernel_rfl) ?_ ?_;rotate_left
      ·intro wz hSw;obtain ⟨q1,q2⟩:=hSw;(first|(go_simp;done)|(go_simp;with_reducible rfl))
      try simp only[aQ]
      refine eG (fun _=>trivial) [] 1 (?_) (by kernel_rfl) rfl (by kernel_rfl) (fun _ _ _ h=>h) ⟨e1,e2⟩ (by kernel_rfl) ?_ ?_;rotate_left
      ·intro wz hSw;obtain ⟨q1,q2⟩:=hSw;(first|(go_simp;done)|(go_simp;with_reducible rfl))
      try simp only[aQ]
      refine gF (fun _=>trivial) 2 (by kernel_rfl) rfl (fun K hK=>?_);go_simp;refine hK.out _ _ (fun _=>by constructor <;> simp[go_sem, *]) ?_;clear hK K;try simp only[aQ]
      refine gF (fun _=>trivial) 3 (by kernel_rfl) rfl (fun K hK=>?_);go_simp;refine hK.out _ _ (fun _=>by constructor <;> simp[go_sem, *]) ?_;clear hK K;try simp only[aQ]
      refine jW (by kernel_rfl) ?_ _;refine NoPanic.normal ?_;go_wp2_with fail;have HP:=aA ((HIW.out.put (x2:=0) (y2:=(-1))).drew);refine uY (B:=w.heap.size) (hi:=W.heap.size) (Zc.out.keeps ((((KeepsOthers.setCell _ _ _).trans (KeepsOthers.setCell _ _ _)).from _).trans (EE _ _))) (fun X hk=>?_);have qH:=HP.out.kept (aB _) hk;obtain ⟨d1,d2,_,_⟩:=qH.facts;have xW:=aA qH.below;clear qH hk;refine ⟨.tuple #[.int .i64 0,.int .i64 (-1)],?_,by rw[HR.out],xW.out⟩;simp[results,results61,go_sem, *]
def wN (b:Bool)(w:World)(e:Ending)(w':World):Prop:=e=.returned (.int .i64 (if b=true then 0 else 60))∧Below w.heap.size w w'
theorem DO (s:eF)(w:World)(hs:iA s)(h:eN w s.oo s.os) :
  Calls prog 30 #[.agg (eU s)] w (wN (mK s) w):=by
 have HI:=aA (Hc.new h);have hall:=aA (CR hs);have HC:=aA (WC s _ hs HI.out.ob);clear h hs;unfold wN
 cases hc:mK s
 ·have h0:¬ (fM s).1=0:=by simpa[mK] using hc
  have e:((if false=true then 0 else 60:Int))=60:=rfl;rw[e];clear hc e;unfold rQ at HC;generalize fM s=p at HC h0;obtain ⟨p1,p2⟩:=p;dsimp only at HC h0;go_enter func30,ntmps30;go_wp2_with (refine wpList_load_mid rfl 28 (.tmp 1) rfl w.heap.size 0 rfl (fP s) _ HI.out.all aW rfl hall.out ?_)
  refine HC.out.mono ?_;rintro e w1 ⟨rfl,hb⟩;have HB:=aA (dN HI.out.gL hb);clear hb;go_wp2_with fail;go_ret;exact ⟨rfl,HB.out⟩
 ·have h0:(fM s).1=0:=by simpa[mK] using hc
  have e:((if true=true then 0 else 60:Int))=0:=rfl;rw[e];clear hc e;unfold rQ at HC;generalize fM s=p at HC h0;obtain ⟨p1,p2⟩:=p;dsimp only at HC h0;subst h0;go_enter func30,ntmps30;go_wp2_with (refine wpList_load_mid rfl 28 (.tmp 1) rfl w.heap.size 0 rfl (fP s) _ HI.out.all aW rfl hall.out ?_)
  refine HC.out.mono ?_;rintro e w1 ⟨rfl,hb⟩;have HB:=aA (dN HI.out.gL hb);clear hb;go_wp2_with fail;go_ret;exact ⟨rfl,HB.out⟩
end Fx
namespace Fx
open Go Go.RowKit Go.Shelf Wm
theorem sL {n:Nat}{P:Program}{ops:Array Oper}{Q:Exit→Act→World→Prop}{md:Region.Mode}{S:World→Prop}{Z:List Nat}(D:List Nat)(i:Nat)(f:FuncId)(args:Array Value)(v:Value)(s:Sound P ops Q S){oi:Oper}{fuel:Nat}{listed:Array Bool}{a:Act}{w:World}(hi:ops[i]?=some oi)
  (hk:mU md ops Z listed i D=true) (hS:S w) (hw:Region.wanted oi (yielded ops a.tmps)=true) (hv:∀w,(execOp a.eval oi).run P w=.ok (.enter f args) w)
  (hc:∀w,S w→Calls P f args w fun e w'=>e=.returned v∧Below w.heap.size w w')
  (h:∀w3,S w3→gX n P md ops Q S Z fuel (listed.setIfInBounds i true) (a.put oi.dst v) w3):gX n P md ops Q S Z (fuel+1) listed a w :=
 rI D i v s hi hk hS (Or.inl ⟨hw,fun w hS=>Or.inr ⟨f,args,hv w,hc w hS⟩⟩) h
theorem FQ {s:eF}{r k:Nat}{x:eE}(h:jF s r=none)(hx:s.os[k]?=some x):tU s x k r=true:=by
 unfold jF at h;rw[List.find?_eq_none] at h;have h1:=h k (by simpa using (aY.1 hx).1);unfold nQ at h1;rw[hx] at h1
 simpa using h1
theorem zh {s:eF}(h:mK s=true):rB s=false∧wB 16777216 s.jN 16=true∧s.os.length≤16∧∀r,4≤r→r<9→jF s r=none:=by
 have h0:(fM s).1=0:=by simpa[mK] using h
 unfold fM at h0
 split at h0
 ·simp at h0
 rename_i h1
 split at h0
 ·simp at h0
 rename_i h2
 split at h0
 ·simp at h0
 rename_i h3;refine ⟨by simpa using h1,by simpa using h2,by omega,?_⟩
 cases b4:jF s 4 with
 | some k=>simp[List.findSome?,b4] at h0
 | none =>
 cases b5:jF s 5 with
 | some k=>simp[List.findSome?,b4,b5] at h0
 | none =>
 cases b6:jF s 6 with
 | some k=>simp[List.findSome?,b4,b5,b6] at h0
 | none =>
 cases b7:jF s 7 with
 | some k=>simp[List.findSome?,b4,b5,b6,b7] at h0
 | none =>
 cases b8:jF s 8 with
 | some k=>simp[List.findSome?,b4,b5,b6,b7,b8] at h0
 | none =>
 intro r h4 h9;obtain rfl|rfl|rfl|rfl|rfl:r=4∨r=5∨r=6∨r=7∨r=8:=by omega
 all_goals assumption
end Fx
namespace Fx
open Go Go.RowKit
theorem Fa {s t:eF}{x y:eE}{k r:Nat}(hc:s.jN=t.jN)(ho:s.os.map eX=t.os.map eX)(hx:eX x=eX y):tU s x k r=tU t y k r:=by
 unfold eX at hx;simp only[Prod.mk.injEq] at hx;obtain ⟨h1,h2,h3,h4⟩:=hx;have hk:(s.os.take k).all (fun z=>decide (z.id≠x.id))=(t.os.take k).all (fun z=>decide (z.id≠x.id)):=by
  have e:∀u:eF,(u.os.take k).all (fun z=>decide (z.id≠x.id))=((u.os.map eX).take k).all (fun z=>decide (z.1≠x.id)):=fun u=>by
   rw[←List.map_take,List.all_map];rfl
  rw[e s,e t,ho]
 unfold tU rF xJ EF tW tV;rw[hk,hc,h1,h2,h3,h4]
theorem Gt {s t:eF}{r k:Nat}(hc:s.jN=t.jN)(ho:s.os.map eX=t.os.map eX):nQ s r k=nQ t r k:=by
 unfold nQ;have h:=congrArg (fun L=>L[k]?) ho;simp only[bZ] at h
 cases hs:s.os[k]? with
 | none =>
  rw[hs] at h
  cases ht:t.os[k]? with
  | none=>rfl
  | some y=>rw[ht] at h;cases h
 | some x =>
  rw[hs] at h
  cases ht:t.os[k]? with
  | none=>rw[ht] at h;cases h
  | some y =>
   rw[ht] at h;simp only[Option.map_some,Option.some.injEq] at h;dsimp only;rw[Fa hc ho h]
theorem Va {s t:eF}(h:eQ s=eQ t):mK s=mK t:=by
 unfold eQ at h;simp only[Prod.mk.injEq] at h;obtain ⟨h1,h2,h3,h4⟩:=h;have hl:s.os.length=t.os.length:=by
  have:=congrArg List.length h4
  simpa using this
 have hb:∀r,jF s r=jF t r:=fun r=>by
  unfold jF;rw[hl]
  congr 1
  funext k
  exact Gt h3 h4
 unfold mK fM rB;simp only[h1,h2,h3,hl,hb]
theorem MN {m:List Int}(h:∀j,Num (m.getD j 0)):∀z∈m,Num z:=fun z hz=>by
 obtain ⟨j,hj,rfl⟩:=List.mem_iff_getElem.1 hz;have:=h j
 rwa [aS,aF hj] at this
theorem vZ {s:eF}{W:World}(hs:iA s)(ho:eN W s.oo s.os)(h:mK s=true):Gl (eQ s):=by
 obtain ⟨hz,hc,hl,hb⟩:=zh h;unfold rB at hz;simp only[Bool.or_eq_false_iff,decide_eq_false_iff_not] at hz;refine ⟨⟨by show 0≤s.w;omega,by show s.w≤64;omega⟩,⟨by show 0≤s.h;omega,by show s.h≤64;omega⟩,⟨hs.len,MN hs.num⟩,by show (s.os.map eX).length≤16;rw[aT];exact hl,fun q hq=>?_⟩;obtain ⟨x,hx,rfl⟩:=List.mem_map.1 hq;obtain ⟨k,hk⟩:=List.getElem?_of_mem hx;obtain ⟨_,_,_,hat⟩:=ho k x hk;have k4:=FQ (hb 4 (by omega) (by omega)) hk;have k7:=FQ (hb 7 (by omega) (by omega)) hk;have k8:=FQ (hb 8 (by omega) (by omega)) hk;unfold tU at k4 k7 k8;simp only[if_true,Nat.reduceEqDiff,if_false] at k4 k7 k8;unfold rF at k4;unfold tW at k7;unfold tV at k8;simp only[Bool.and_eq_true,decide_eq_true_eq] at k4 k7 k8;refine ⟨⟨by show 0≤x.id;omega,by show x.id≤65535;omega⟩,⟨hat.wf.len,MN hat.wf.num⟩,⟨by show x.vs.length≤64;omega,fun v hv=>?_⟩,⟨by show x.ts.length≤64;omega,fun t ht=>?_⟩⟩
 ·have hw:=hat.sT.wf v hv
  exact ⟨hw.len,MN hw.num⟩
 ·have hf:=bU.1 k8.1 t ht
  have hw:=hat.zM.wf t ht;unfold rM at hf;simp only[Bool.and_eq_true,Bool.or_eq_true,Bool.not_eq_true',decide_eq_true_eq,decide_eq_false_iff_not,Bool.or_eq_false_iff] at hf;have hw2:=hw.col;unfold Gk;omega
def fS:List Nat:=[109,117,108,49]
def fQ:List Nat:=[109,117,108,102]
theorem tM:Pk.By fS:=by unfold Pk.By fS;decide
theorem xG:Pk.By fQ:=by unfold Pk.By fQ;decide
def jO (k:lA):List Nat:=iK (fS++KR k)
def qI (s:eF):Option (List Nat):=if mK s=true then some (jO (eQ s)) else none
theorem NT {k:lA}(h:Gl k):0<(KR k).length∧(KR k).length≤97000:=by
 unfold KR mA;simp only[aI];have h1:=eT k.1;have h1':1≤(fU k.1).length:=(Pk.gP _).1;have h2:=eT k.2.1;have h3:=gA k.2.2.1;have jv:=h.2.2.1.1;have h4:=eT (k.2.2.2.length:Int);have h5:=jQ (f:=lZ) (c:=6000) k.2.2.2 (fun y hy=>FC (h.2.2.2.2 y hy));have h6:=h.2.2.2.1;omega
def erE (r:Option (List Nat)):Int:=if r.isSome=true then 0 else 60
def UE (r:Option (List Nat))(w:World)(e:Ending)(w':World):Prop:=(∃v,e=.returned (.tuple #[v,.int .i64 (erE r)])∧Pk.Own w' w.heap.size v (r.getD []))∧Below w.heap.size w w'
theorem QO (s:eF)(w:World)(hs:iA s)(h:eN w s.oo s.os) :
  Calls prog 12 #[.agg (eU s)] w (UE (qI s) w):=by
 have HI:=aA (Hc.new h);have HS:=aA hs;have hall:=aA (CR hs);have HC:=aA (DO s _ hs HI.out.ob);have kC:=aA (fun (ho:mK s=true)=>vZ hs h ho);obtain ⟨V0,jR⟩:∃V,w.alloc (.cells (eU s) 28)=V:=⟨_,rfl⟩;rw[jR] at HI HC;have oJ:=aA jR;clear h hs jR;unfold wN at HC
 cases jS:mK s with
 | false =>
  have HE:=aA (show qI s=none by unfold qI;rw[jS];rfl);rw[jS] at HC;simp only[bD,if_false] at HC;clear jS kC;go_enter func12,ntmps12;go_wp2_with (first|(rw[oJ.out])|(with_reducible refine dQ (some 6) rfl ?_;refine aA ?_;refine wpList_load_mid rfl 28 (.tmp 1) rfl w.heap.size 0 rfl (fP s) _ HI.out.all aW rfl hall.out ?_))
  refine HC.out.mono ?_;rintro e w1 ⟨rfl,hb⟩;have HB:=aA (dN HI.out.gL hb);clear hb HC oJ;go_wp2_with fail;go_ret2;rw[HE.out];exact ⟨⟨_,rfl,bV _ _ _ _⟩,HB.out⟩
 | true =>
  have HE:=aA (show qI s=some (jO (eQ s)) by unfold qI;rw[jS];rfl);have HD:=aA (kC.out jS);rw[jS] at HC;simp only[if_true] at HC;clear jS kC;go_enter func12,ntmps12;go_wp2_with (first|(rw[oJ.out])|(with_reducible refine dQ (some 6) rfl ?_;refine aA ?_;refine wpList_load_mid rfl 28 (.tmp 1) rfl w.heap.size 0 rfl (fP s) _ HI.out.all aW rfl hall.out ?_))
  refine HC.out.mono ?_;rintro e w1 ⟨rfl,hb⟩;have nX:=aA (HI.out.up hb);clear hb HC oJ HI;go_wp2_with fail;refine (Pk.EA _).mono ?_;rintro e w2 ⟨rfl,hpw,hw2⟩;have hb2:Below w1.heap.size w1 w2:=by rw[hw2];exact (aJ _ _).alloc (aB _) _
  have jP:=aA (nX.out.up hb2);have HPS:=aA (En w1.heap.size s [] w2 HS.out HD.out (by simp) (fun X hX=>nX.out.ob.below ⟨hX.os.trans hb2.os,hX.tape.trans hb2.tape,hX.output.trans hb2.output,bH hb2.size hX.size,fun k hk=>(hX.block k hk).trans (hb2.block k hk)⟩) ⟨_,hpw⟩);have mI:=aA hb2;clear hpw hw2 hb2 ;go_wp2_with (with_reducible refine dQ (some 13) rfl ?_;refine aA ?_;refine wpList_load_mid rfl 28 (.tmp 1) rfl w.heap.size 0 rfl (fP s) _ jP.out.all aW rfl hall.out ?_)
  refine HPS.out.mono ?_;rintro e w3 ⟨rfl,hw3,hf3⟩;rw[cB] at hw3;have hlen:=NT HD.out;have oW:=zB fS tM w1.heap.size (KR (eQ s)) w3 (NR.bytes _ HD.out) hlen.1 (by show 4+_≤_;omega) hw3;rw[show Pk.fR fS=⟨#[109,117,108,49]⟩ from rfl] at oW;have UJ:=aA oW;have LF:Hid (Below w.heap.size w w3):=aA (by
   have h1:=nX.out.gL;have h2:Below w1.heap.size w1 w3:=⟨hf3.os.trans mI.out.os,hf3.tape.trans mI.out.tape,hf3.output.trans mI.out.output,bH mI.out.size hf3.size,fun k hk=>(hf3.low k hk).trans (mI.out.block k hk)⟩;exact dN h1 h2)
  clear hw3 hf3 hlen oW HPS mI jP nX;go_wp2_with fail;refine UJ.out.mono ?_;rintro e w4 ⟨⟨v4,rfl,vP⟩,hb4⟩;have HR:=aA (show UE (qI s) w (.returned (.tuple #[v4,.int .i64 0])) w4 by
   rw[HE.out];exact ⟨⟨v4,rfl,vP.mono LF.out.size⟩,dN LF.out hb4⟩)
  clear vP hb4 UJ;go_wp2_with fail;go_ret2;exact HR.out
end Fx
namespace Fx
open Go Go.RowKit
open Pk (PR fW By Bs)
def canO (x:Int×List Int×List (List Int)×List gB):eE:=⟨x.1,x.2.1,none,x.2.2.1,0,none,x.2.2.2,0⟩
def canS (k:lA):eF:=⟨k.1,k.2.1,k.2.2.1,none,k.2.2.2.map canO,0⟩
theorem Vo (k:lA):eQ (canS k)=k:=by
 unfold eQ canS;simp only[List.map_map];have : (eX ∘ canO)=id:=by
  funext x
  rfl
 rw[this,List.map_id]
def zi (k:lA):Bool:=mK (canS k)
theorem DW (s:eF):mK s=zi (eQ s):=Va (Vo (eQ s)).symm
def oI (l:List Nat):Option lA×Int:=match behind fS l with
 | none=>(none,kK fS l)
 | some r=>match MH r 0 with
  | none=>(none,70)
  | some (k,b)=>if b=r.length then (if zi k=true then (some k,0) else (none,60)) else (none,70)
def zeroK:lA:=(0,0,dZ,[])
def fL:eF:=⟨0,0,dZ,none,[],0⟩
theorem zo:Num 0:=⟨by omega,by omega⟩
theorem Jb:iA fL:=⟨zo,zo,rfl,fun j=>by
 have : fL.jN.getD j 0=0:=by
  show dZ.getD j 0=0;rw[aS]
  cases h:dZ[j]? with
  | none=>rfl
  | some z =>
   have:=aX h;unfold dZ at this;simp at this;exact this
 rw[this];exact zo,⟨⟨by simp[fL],by simp[fL]⟩,fun _=>rfl⟩⟩
theorem yX (B:Nat)(W:World):fF B fL W:=⟨Jb,⟨fun k z hk=>by simp[fL] at hk⟩,fun x hx=>by simp[fL] at hx⟩
def KZ (l:List Nat)(w:World)(e:Ending)(w':World):Prop:=(∃s:eF,e=.returned (.tuple #[.agg (eU s),.int .i64 (oI l).2])∧fF w.heap.size s w'∧eQ s=(oI l).1.getD zeroK)∧Below w.heap.size w w'
theorem BU {W:World}{b j:Nat}{v:Value}(h:W.cell? ⟨b,j,none⟩=some v):b<W.heap.size:=by
 unfold World.cell? at h
 cases hb:W.heap[b]? with
 | none=>rw[hb] at h;simp at h
 | some o=>exact (aC.1 hb).1
theorem YH {o:Option Addr}{c:Nat}{l:List Nat}{p a:Nat}{lost:Bool}{W:World}(h:PR o c l p a lost W):∀b off,o=some ⟨b,off,none⟩→0<l.length→b<W.heap.size:=fun b off e hm=>by
 obtain ⟨b',off',e',hc⟩:=h.bs 0 hm;rw[e] at e'
 cases e'
 exact BU hc
theorem Xg {r:List Nat}{f:Int×Int×List Int}{ks:List (Int×List Int×List (List Int)×List gB)}{a1 a2:Nat}{lo1 lo2:Bool}(h1:eP false yE r 0=opt lo1 (f,a1))(h2:eP lo1 (fG 16 oC) r a1=opt lo2 (ks,a2))(hl:a2≤r.length) :
  (Pk.pB lo2 r.length a2=0→lo2=false∧MH r 0=some ((f.1,f.2.1,f.2.2,ks),r.length))∧(Pk.pB lo2 r.length a2≠0→∀k b,MH r 0=some (k,b)→b≠r.length):=by
 have hsc:=ze r 0;have e1:eP false yE r 0=yE r 0:=rfl;rw[e1] at h1;unfold Pk.pB
 cases lo1
 ·have e2:eP false (fG 16 oC) r a1=fG 16 oC r a1:=rfl
  rw[e2] at h2;rw[h1] at hsc;simp only[opt,bD,if_false] at hsc;rw[h2] at hsc
  cases lo2
  ·simp only[opt,bD,if_false,false_or] at hsc ⊢
   refine ⟨fun h=>⟨trivial,?_⟩,fun h k b hk=>?_⟩
   ·split at h
    ·cases h
    ·rw[hsc,show a2=r.length by omega]
   ·split at h
    ·rw[hsc] at hk
     cases hk;omega
    ·exact absurd rfl h
  ·simp only[opt,if_true,true_or] at hsc ⊢
   exact ⟨fun h=>(by cases h),fun _ k b hk=>by rw[hsc] at hk;cases hk⟩
 ·have e2:eP true (fG 16 oC) r a1=none:=rfl
  rw[e2] at h2;rw[h1] at hsc;simp only[opt,if_true] at hsc
  cases lo2
  ·simp[opt] at h2
  ·simp only[if_true,true_or]
   exact ⟨fun h=>(by cases h),fun _ k b hk=>by rw[hsc] at hk;cases hk⟩
theorem jE {fn:Func}{p u:Tmp}{ty:TypeId}(h:fn.results=#[.cell p ty,.tmp u])(tmps:Array Value)(w:World)(g:Nat)(hp:tmps.getD p undef=.pointer (some ⟨g,0,none⟩))(v:Value)(hu:tmps.getD u undef=v)(t:TypeId)(cs:Array Value)(d:TypeDesc)(hr:w.heap[g]?=some (.cells cs t (0,0)))(hd:prog.underlying ty=some d)(hrow:(match d with | .struct _ | .array _ _=>true|_=>false)=true)(hi:(prog.info? ty).map (·.size)=some cs.size) :
  (results fn tmps).run prog w=.ok (.tuple #[.agg cs,v]) w:=by
 rw[results_cell_tmp h,hp,hu];simp only[asAddr,Sem.run_pure,Result.andThen_ok];rw[run_loadVar_row w g t ty cs (0,0) d hr hd (by cases d <;> first|rfl|exact hrow) hi];rfl
theorem fF.rows {B:Nat}{c:eF}{W X:World}(s:fF B c W)(hO:Rows 73 W X)(h3:Rows 85 W X)(h4:Rows 87 W X):fF B c X :=
 ⟨s.wf,s.objs.rows hO,fun x hx=>(s.each x hx).rows h3 h4⟩
theorem Po {l r:List Nat}(h:behind fS l=some r)(hn:∀k b,MH r 0=some (k,b)→b≠r.length):oI l=(none,70):=by
 unfold oI;rw[h];dsimp only
 cases hp:MH r 0 with
 | none=>rfl
 | some q =>
  obtain ⟨k,b⟩:=q;dsimp only;rw[bF (hn k b hp)]
theorem Bt {l r:List Nat}(h:behind fS l=some r){k:lA}(hn:MH r 0=some (k,r.length)):oI l=if zi k=true then (some k,0) else (none,60):=by
 unfold oI;rw[h];dsimp only;rw[hn];dsimp only;rw[aZ rfl]
theorem Ba {f:Int×Int×List Int}(h:f.2.2.length=16)(v u:Value):(pX f v).toArray.setIfInBounds 18 u=(pX f u).toArray:=by
 simp[pX,List.set_append,h]
theorem Bc {f:Int×Int×List Int}(h:f.2.2.length=16)(v:Value):(pX f v).length=19:=by simp[pX,h]
theorem frL_sc (f:Int×Int×List Int)(oo:Option Addr)(zs:List eE)(oc:Nat):pX f (.slice oo zs.length oc)=fP ⟨f.1,f.2.1,f.2.2,oo,zs,oc⟩:=rfl
theorem Oo {f:Int×Int×List Int}(h:Pq f){oo:Option Addr}{zs:List eE}{oc:Nat}(hc:pJ oo zs.length oc):iA ⟨f.1,f.2.1,f.2.2,oo,zs,oc⟩ :=
 ⟨kX (by omega) h.1,kX (by omega) h.2.1,h.2.2.1,fun j=>by
  show Num (f.2.2.getD j 0);rw[aS]
  cases hz:f.2.2[j]? with
  | none=>exact ⟨by simp,by simp⟩
  | some z=>exact h.2.2.2 z (aX hz),hc⟩
theorem QP (l:List Nat)(o:Option Addr)(c:Nat)(w:World)(hl:By l)(hlen:l.length≤900000)(hc:l.length≤c)(hc2:c≤9223372036854775807)(hb:Bs w o l) :
  Calls prog 16 #[.slice o l.length c] w (KZ l w):=by
 obtain ⟨V0,jR⟩:∃V,w.alloc (.cells #[.int .i64 0,.int .i64 0,.int .i64 0,.int .i64 0,.int .i64 0,.int .i64 0,.int .i64 0,.int .i64 0,.int .i64 0,.int .i64 0,.int .i64 0,.int .i64 0,.int .i64 0,.int .i64 0,.int .i64 0,.int .i64 0,.int .i64 0,.int .i64 0,.slice none 0 0] 28)=V:=⟨_,rfl⟩;have hb0:Below w.heap.size w V0:=by rw[←jR];exact (aJ _ _).alloc (aB _) _
 have zS:dI 28 w.heap.size #[.int .i64 0,.int .i64 0,.int .i64 0,.int .i64 0,.int .i64 0,.int .i64 0,.int .i64 0,.int .i64 0,.int .i64 0,.int .i64 0,.int .i64 0,.int .i64 0,.int .i64 0,.int .i64 0,.int .i64 0,.int .i64 0,.int .i64 0,.int .i64 0,.slice none 0 0] V0:=by rw[←jR];exact dI.new _ _ _
 have hz0:V0.heap.size=w.heap.size+1:=by rw[←jR];simp
 have HO:=aA (zC fS tM (by decide) l o c V0 hl hlen hc hc2 (hb.below hb0));rw[show Pk.fR fS=⟨#[109,117,108,49]⟩ from rfl] at HO;have CH:=aA hb0;have tA:=aA zS;have GR:=aA hz0;have oJ:=aA jR;have yA:=aA (show ∀r,behind fS l=some r→By r∧r.length≤900000 from fun r hr=>by
  unfold behind at hr
  cases ho:Cx.opened l with
  | none=>rw[ho] at hr;cases hr
  | some m =>
   rw[ho] at hr;dsimp only at hr
   split at hr
   ·cases hr
    obtain ⟨h1,h2⟩:=uU hl ho;exact ⟨fun x hx=>h1 x (List.mem_of_mem_drop hx),by rw[cQ];omega⟩
   ·cases hr)
 have Ar:=aA (show (prog.info? 28).map (·.size)=some (eU fL).size by kernel_rfl);have hsz:=aA (show 19=(eU fL).size from rfl);have dw:=aA (show (eU fL).all (·.oneCell')=true from nA fL (.slice none 0 0) rfl);clear hb0 zS jR hl hlen hc hc2 hb hz0;have HFZ:Hid (∀ (ec:Int) (X:World),oI l=(none,ec)→Below w.heap.size w X→KZ l w (.returned (.tuple #[.agg (eU fL),.int .i64 ec])) X):=aA (fun ec X hd hb=>⟨⟨fL,by rw[hd],yX _ _,by rw[hd];rfl⟩,hb⟩);unfold KY at HO
 cases pW:behind fS l with
 | none =>
  have HD:Hid (oI l=(none,kK fS l)):=aA (by unfold oI;rw[pW]);have HNZ:Hid (kK fS l≠0):=aA (by
   unfold behind at pW;unfold kK
   cases ho:Cx.opened l with
   | none=>simp
   | some m =>
    rw[ho] at pW;dsimp only at pW ⊢
    split at pW
    ·cases pW
    ·rename_i hh
     rw[bF hh]
     decide)
  simp only[pW] at HO;have hnz:=HNZ.out;generalize kK fS l=ec at HO HD hnz;clear pW HNZ;go_enter func16,ntmps16;go_wp2_with (rw[oJ.out])
  refine HO.out.mono ?_;rintro e w1 ⟨hb1,rfl⟩;have qQ:=aA (tA.out.below hb1);have jK:=aA (dN CH.out hb1);clear hb1 HO oJ tA;go_wp2_with (first|(with_reducible refine dQ (some 15) rfl ?_;refine aA ?_;refine fY rfl (.agg (eU fL)) w1 (by kernel_rfl) ?_)|(refine dG rfl 28 (.tmp 2) (.tmp 15) rfl w.heap.size _ _ (eU fL) rfl rfl qQ.out Ar.out hsz.out dw.out ?_))
  refine aO (v:=.tuple #[.agg (eU fL),.int .i64 ec]) (jE rfl _ _ w.heap.size rfl (.int .i64 ec) rfl 28 (eU fL) _ (setRow_heap _ _ _ _ _ _ qQ.out) aW rfl Ar.out) rfl ?_;exact HFZ.out ec _ HD.out (Below.row jK.out (aB _) _)
 | some r =>
  have hbr:=yA.out r pW;simp only[pW] at HO;have hkb:=aA hbr;have JD:=aA pW;clear hbr yA pW;go_enter func16,ntmps16;go_wp2_with (rw[oJ.out])
  refine HO.out.mono ?_;rintro e w1 ⟨hb1,p,o1,c1,rfl,zT,hp,iE⟩;rw[GR.out] at hp iE;have hr1:=tA.out.below hb1;have Fg:=dN CH.out hb1;have hs1:=GR.out▸hb1.size;have k0:fW r 0:=⟨hkb.out.1,by have:=hkb.out.2;omega,by omega⟩;have HF:=aA (Dv o1 c1 r p 0 false w1 k0 zT (YH zT));have HK:=aA k0;have jA:=aA (show ∀b off,o1=some ⟨b,off,none⟩→0<r.length→b<w1.heap.size from YH zT);have zJ:=aA (show w.heap.size<p∧p<w1.heap.size from ⟨by omega,zT.lt⟩);have qQ:=aA hr1;have jK:=aA Fg;clear hb1 zT hp iE hr1 Fg hs1 k0 HO oJ tA CH GR;go_wp2_with fail;refine HF.out.mono ?_;rintro e w2 h2;obtain ⟨hg2,f,a1,lo1,rfl,nS,rH,hl2,dh⟩:=mD.use h2;obtain ⟨hp0,qP⟩:=zJ.out;have hs2:=hg2.size;have hb2:Below w.heap.size w w2:=gZ (aB _) jK.out hg2 (fun k e=>by cases e;omega);have hr2:=fA qQ.out hg2 (by omega);have hrs:w.heap.size<w2.heap.size:=by omega
  obtain ⟨V2,hV2⟩:∃V,w2.alloc (.cells #[.int .i64 0,.int .i64 0,.int .i64 0,.int .i64 0,.int .i64 0,.int .i64 0,.int .i64 0,.int .i64 0,.int .i64 0,.int .i64 0,.int .i64 0,.int .i64 0,.int .i64 0,.int .i64 0,.int .i64 0,.int .i64 0,.int .i64 0,.int .i64 0,.slice none 0 0] 28)=V:=⟨_,rfl⟩;obtain ⟨V3,oG⟩:∃V,V2.setRow w2.heap.size (pX f (.slice none 0 0)).toArray=V:=⟨_,rfl⟩;have hx2:V2.heap[w2.heap.size]?=some (.cells #[.int .i64 0,.int .i64 0,.int .i64 0,.int .i64 0,.int .i64 0,.int .i64 0,.int .i64 0,.int .i64 0,.int .i64 0,.int .i64 0,.int .i64 0,.int .i64 0,.int .i64 0,.int .i64 0,.int .i64 0,.int .i64 0,.int .i64 0,.int .i64 0,.slice none 0 0] 28 (0,0)):=by rw[←hV2];exact aG _ _
  have hx3:V3.heap[w2.heap.size]?=some (.cells (pX f (.slice none 0 0)).toArray 28 (0,0)):=by rw[←oG];exact setRow_heap _ _ _ _ _ _ hx2
  have Aq:Below w2.heap.size w2 V3:=by rw[←oG,←hV2];exact Below.row ((aJ _ _).alloc (aB _) _) (aB _) _
  have hb3:Below w.heap.size w V3:=dN hb2 Aq;have hr3:V3.heap[w.heap.size]?=some (.cells #[.int .i64 0,.int .i64 0,.int .i64 0,.int .i64 0,.int .i64 0,.int .i64 0,.int .i64 0,.int .i64 0,.int .i64 0,.int .i64 0,.int .i64 0,.int .i64 0,.int .i64 0,.int .i64 0,.int .i64 0,.int .i64 0,.int .i64 0,.int .i64 0,.slice none 0 0] 28 (0,0)):=by rw[Aq.block _ hrs];exact hr2
  have pM:∀b off,o1=some ⟨b,off,none⟩→0<r.length→b<w2.heap.size:=fun b off e hm=>aP (jA.out b off e hm) hs2
  have xX:=qM rH (by omega) pM Aq;have hs3:w2.heap.size<V3.heap.size:=(aC.1 hx3).1;have HM:=aA (Uv w.heap.size o1 c1 r p a1 lo1 V3 (by omega) (iH HK.out hl2) xX (fun b off e hm=>Nat.lt_trans (pM b off e hm) hs3));have OT:=nS.2.2.1;have nT:=aA (show (prog.info? 28).map (·.size)=some (pX f (.slice none 0 0)).toArray.size by rw[aL,Bc OT];kernel_rfl);have IH:=aA (show 19=(pX f (.slice none 0 0)).toArray.size by rw[aL,Bc OT]);have sA:=aA (Bb f (v:=.slice none 0 0) rfl);have Sv:=aA hx2;have nk:=aA hx3;have xZ:=aA hr3;have LF:=aA hb3;have HOB2:=aA pM;have HN:=aA nS;have oz:=aA dh;have oM:=aA hV2;have GV:=aA oG;have UH:=aA (show w.heap.size<w2.heap.size∧p<w2.heap.size∧w2.heap.size<V3.heap.size∧w.heap.size<p from ⟨hrs,by omega,hs3,hp0⟩);clear h2 hg2 nS rH hl2 dh hp0 qP hs2 hb2 hr2 hrs hx2 hx3 Aq hb3 hr3 pM xX hs3 OT hV2 oG HF zJ qQ jK jA;go_wp2_with (first|(rw[oM.out])|(refine dG rfl 28 (.tmp 6) (.tmp 18) rfl w2.heap.size _ _ (pX f (.slice none 0 0)).toArray rfl rfl Sv.out nT.out IH.out sA.out ?_)|(rw[GV.out]))
  refine HM.out.mono ?_;rintro e w4 h4;obtain ⟨hg4,v4,zs,a2,lo2,rfl,vP,Wj,NC,hl4,RZ⟩:=h4.use;obtain ⟨oo,oc,rfl,gR,tY⟩:=vP.form (fun z hz=>by simp[dP,(Wj z hz).wf.len]);obtain ⟨q1,q2,q3,q4⟩:=UH.out;have Vt:w4.heap[w2.heap.size]?=some (.cells (pX f (.slice none 0 0)).toArray 28 (0,0)):=fA nk.out hg4 (by omega);have hr4:w4.heap[w.heap.size]?=some (.cells #[.int .i64 0,.int .i64 0,.int .i64 0,.int .i64 0,.int .i64 0,.int .i64 0,.int .i64 0,.int .i64 0,.int .i64 0,.int .i64 0,.int .i64 0,.int .i64 0,.int .i64 0,.int .i64 0,.int .i64 0,.int .i64 0,.int .i64 0,.int .i64 0,.slice none 0 0] 28 (0,0)):=fA xZ.out hg4 (by omega);have hb4:Below w.heap.size w w4:=gZ (aB _) LF.out hg4 (fun k e=>by cases e;omega);obtain ⟨s,hs⟩:∃s:eF,(⟨f.1,f.2.1,f.2.2,oo,zs,oc⟩:eF)=s:=⟨_,rfl⟩;have sY:iA s:=by rw[←hs];exact Oo HN.out gR
  obtain ⟨Y4,xN⟩:∃V,w4.setCell ⟨w2.heap.size,18,none⟩ (.slice oo zs.length oc)=V:=⟨_,rfl⟩;have hx5:Y4.heap[w2.heap.size]?=some (.cells (fP s).toArray 28 (0,0)):=by
   rw[←xN,aM _ _ 18 _ _ _ Vt,Ba HN.out.2.2.1,frL_sc,hs]
  have Mx:Below w2.heap.size w4 Y4:=by rw[←xN];exact Below.setCell (p:=⟨w2.heap.size,18,none⟩) ⟨rfl,rfl,rfl,aB _,fun _ _=>rfl⟩ (aB _) _
  have Sc:Y4.heap[w.heap.size]?=some (.cells #[.int .i64 0,.int .i64 0,.int .i64 0,.int .i64 0,.int .i64 0,.int .i64 0,.int .i64 0,.int .i64 0,.int .i64 0,.int .i64 0,.int .i64 0,.int .i64 0,.int .i64 0,.int .i64 0,.int .i64 0,.int .i64 0,.int .i64 0,.int .i64 0,.slice none 0 0] 28 (0,0)):=by rw[Mx.block _ q1];exact hr4
  have jT:Below w.heap.size w Y4:=by rw[←xN];exact hb4.setCell (p:=⟨w2.heap.size,18,none⟩) (by show _≤w2.heap.size;omega) _
  have SF:=qM NC q2 HOB2.out Mx;have hfs:fF w.heap.size s Y4:=by
   have vN:∀ {t:TypeId},t≠28→Rows t w4 Y4:=fun hne=>by rw[←xN];exact Rows.lT Vt hne
   rw[←hs] at sY ⊢;exact ⟨sY,(tY.rows (vN (by decide))).base (by omega),fun x hx=>(Wj x hx).rows (vN (by decide)) (vN (by decide))⟩
  obtain ⟨c18,f18⟩:w4.cell? ⟨w2.heap.size,18,none⟩=some (.slice none 0 0)∧w4.frozen? ⟨w2.heap.size,18,none⟩=false :=
   ⟨by rw[aD _ _ _ _ _ _ Vt];simp[pX,HN.out.2.2.1],dJ Vt⟩
  have hkey:eQ s=(f.1,f.2.1,f.2.2,zs.map eX):=by rw[←hs];rfl
  have hend:=Xg oz.out RZ hl4;have pG:=aA (Pk.QN o1 c1 r p a2 lo2 Y4 (iH HK.out hl4) SF);have UV:=aA xN;have HX5:=aA hx5;have Rf:=aA Sc;have AH:=aA jT;have HFS:=aA hfs;have HKEY:=aA hkey;have pF:=aA hend;clear h4 hg4 vP Wj NC hl4 RZ gR tY q1 q2 q3 q4 Vt hr4 hb4 hs sY hx5 Mx Sc jT SF hfs hkey hend xN HM Sv nk xZ LF HOB2 HN oz oM GV UH nT IH sA HK hkb;generalize Ff:Pk.pB lo2 r.length a2=ec at pG pF;clear Ff;by_cases hz:ec=0
  ·subst hz
   obtain ⟨_,MZ⟩:=pF.out.1 rfl;rw[←HKEY.out] at MZ;have JB:=aA (Bt JD.out MZ);clear MZ pF JD;go_wp2_with (rw[UV.out])
   clear c18 f18 UV;refine pG.out.mono ?_;rintro e w5 ⟨rfl,hb⟩;have hx6:=dL hb HX5.out;have yL:fF w.heap.size s w5:=HFS.out.rows (Rows.of_below hb) (Rows.of_below hb) (Rows.of_below hb);have Yj:=aA (show w5.rangeAt w2.heap.size 0 (fP s) from fun j u hj=>by rw[aD _ _ _ _ _ _ hx6,bE];simpa using hj);have YK:=aA (show dI 28 w.heap.size #[.int .i64 0,.int .i64 0,.int .i64 0,.int .i64 0,.int .i64 0,.int .i64 0,.int .i64 0,.int .i64 0,.int .i64 0,.int .i64 0,.int .i64 0,.int .i64 0,.int .i64 0,.int .i64 0,.int .i64 0,.int .i64 0,.int .i64 0,.int .i64 0,.slice none 0 0] w5 from dL hb Rf.out);have Ht:=aA (dN AH.out hb);have HC:=aA (show Calls prog 30 #[.agg (fP s).toArray] w5 (wN (mK s) w5) from DO s w5 yL.wf yL.at);have HF6:=aA yL;have Wi:=aA (show (prog.info? 28).map (·.size)=some (fP s).length by simp only[fP,bO,aI,aT,yL.wf.len,List.length_nil];kernel_rfl);have YO:=aA (show (prog.info? 28).map (·.size)=some (fP s).toArray.size by rw[aL];exact Wi.out);have Cn:=aA (show 19=(fP s).toArray.size by simp[fP,yL.wf.len]);have HO6:=aA (show (fP s).toArray.all (·.oneCell')=true from nA s (.slice s.oo s.os.length s.oc) rfl);clear hx6 yL hb pG HX5 Rf AH HFS HKEY;rw[←DW] at JB;unfold wN at HC
   cases hk:mK s
   ·rw[hk] at HC JB
    simp only[bD,if_false] at HC JB;go_wp2_with (with_reducible refine dQ (some 26) rfl ?_;refine aA ?_;refine wpList_load_mid rfl 28 (.tmp 6) rfl w2.heap.size 0 rfl (fP s) _ Yj.out aW rfl Wi.out ?_)
    refine HC.out.mono ?_;rintro e w6 ⟨rfl,hb⟩;have Hl:=aA (show dI 28 w.heap.size #[.int .i64 0,.int .i64 0,.int .i64 0,.int .i64 0,.int .i64 0,.int .i64 0,.int .i64 0,.int .i64 0,.int .i64 0,.int .i64 0,.int .i64 0,.int .i64 0,.int .i64 0,.int .i64 0,.int .i64 0,.int .i64 0,.int .i64 0,.int .i64 0,.slice none 0 0] w6 from dL hb YK.out);have HB7:=aA (dN Ht.out hb);clear hb HC YK Ht;go_wp2_with (first|(with_reducible refine dQ (some 30) rfl ?_;refine aA ?_;refine fY rfl (.agg (eU fL)) w6 (by kernel_rfl) ?_)|(refine dG rfl 28 (.tmp 2) (.tmp 30) rfl w.heap.size _ _ (eU fL) rfl rfl Hl.out Ar.out hsz.out dw.out ?_))
    refine aO (v:=.tuple #[.agg (eU fL),.int .i64 60]) (jE rfl _ _ w.heap.size rfl (.int .i64 60) rfl 28 (eU fL) _ (setRow_heap _ _ _ _ _ _ Hl.out) aW rfl Ar.out) rfl ?_;exact HFZ.out 60 _ JB.out (Below.row HB7.out (aB _) _)
   ·rw[hk] at HC JB
    simp only[if_true] at HC JB;go_wp2_with (with_reducible refine dQ (some 26) rfl ?_;refine aA ?_;refine wpList_load_mid rfl 28 (.tmp 6) rfl w2.heap.size 0 rfl (fP s) _ Yj.out aW rfl Wi.out ?_)
    refine HC.out.mono ?_;rintro e w6 ⟨rfl,hb⟩;have HX7:=aA (show w6.rangeAt w2.heap.size 0 (fP s) from iC hb Yj.out);have Hl:=aA (show dI 28 w.heap.size #[.int .i64 0,.int .i64 0,.int .i64 0,.int .i64 0,.int .i64 0,.int .i64 0,.int .i64 0,.int .i64 0,.int .i64 0,.int .i64 0,.int .i64 0,.int .i64 0,.int .i64 0,.int .i64 0,.int .i64 0,.int .i64 0,.int .i64 0,.int .i64 0,.slice none 0 0] w6 from dL hb YK.out);have HB7:=aA (dN Ht.out hb);have HF7:=aA (show fF w.heap.size s w6 from HF6.out.rows (Rows.of_below hb) (Rows.of_below hb) (Rows.of_below hb));clear hb HC YK Ht Yj HF6;go_wp2_with (first|(with_reducible refine dQ (some 32) rfl ?_;refine aA ?_;refine wpList_load_mid rfl 28 (.tmp 6) rfl w2.heap.size 0 rfl (fP s) _ HX7.out aW rfl Wi.out ?_)|(refine dG rfl 28 (.tmp 2) (.tmp 32) rfl w.heap.size _ _ (fP s).toArray rfl rfl Hl.out YO.out Cn.out HO6.out ?_))
    refine aO (v:=.tuple #[.agg (fP s).toArray,.int .i64 0]) (jE rfl _ _ w.heap.size rfl (.int .i64 0) rfl 28 (fP s).toArray _ (setRow_heap _ _ _ _ _ _ Hl.out) aW rfl YO.out) rfl ?_;refine ⟨⟨s,by rw[JB.out];rfl,?_,by rw[JB.out];rfl⟩,Below.row HB7.out (aB _) _⟩;have vN:∀ {t:TypeId},t≠28→Rows t w6 (w6.setRow w.heap.size (fP s).toArray):=fun hne g cur hg=>by
     rw[setRow_other _ _ _ _ (fun e=>by
      subst e;have:=Hl.out;unfold dI at this;rw[this] at hg
      cases hg;exact hne rfl)]
     exact hg
    exact HF7.out.rows (vN (by decide)) (vN (by decide)) (vN (by decide))
  ·have JB:=aA (Po JD.out (pF.out.2 hz))
   clear pF JD;go_wp2_with (rw[UV.out])
   clear c18 f18 UV;refine pG.out.mono ?_;rintro e w5 ⟨rfl,hb⟩;have YK:=aA (show dI 28 w.heap.size #[.int .i64 0,.int .i64 0,.int .i64 0,.int .i64 0,.int .i64 0,.int .i64 0,.int .i64 0,.int .i64 0,.int .i64 0,.int .i64 0,.int .i64 0,.int .i64 0,.int .i64 0,.int .i64 0,.int .i64 0,.int .i64 0,.int .i64 0,.int .i64 0,.slice none 0 0] w5 from dL hb Rf.out);have Ht:=aA (dN AH.out hb);clear hb pG Rf AH;go_wp2_with (first|(with_reducible refine dQ (some 25) rfl ?_;refine aA ?_;refine fY rfl (.agg (eU fL)) w5 (by kernel_rfl) ?_)|(refine dG rfl 28 (.tmp 2) (.tmp 25) rfl w.heap.size _ _ (eU fL) rfl rfl YK.out Ar.out hsz.out dw.out ?_))
   refine aO (v:=.tuple #[.agg (eU fL),.int .i64 70]) (jE rfl _ _ w.heap.size rfl (.int .i64 70) rfl 28 (eU fL) _ (setRow_heap _ _ _ _ _ _ YK.out) aW rfl Ar.out) rfl ?_;exact HFZ.out 70 _ JB.out (Below.row Ht.out (aB _) _)
end Fx
namespace Fx
open Go Go.RowKit
open Pk (By)
theorem xI (n:Nat):(Cx.mH n).length=4:=by simp[Cx.mH]
theorem QU (l:List Nat):Cx.opened (iK l)=some l:=by
 have hl:(iK l).length-4=l.length:=by unfold iK;rw[aI,xI];omega
 have h4:4≤(iK l).length:=by unfold iK;rw[aI,xI];omega
 have ht:(iK l).take l.length=l:=by unfold iK;rw[List.take_left]
 have hd:(iK l).drop l.length=Cx.mH (Cx.more 0 l):=by unfold iK;rw[List.drop_left]
 unfold Cx.opened;rw[hl,ht,hd,aZ ⟨h4,rfl⟩]
theorem zA {l m:List Nat}(h:Cx.opened l=some m):iK m=l:=by
 unfold Cx.opened at h
 split at h
 ·rename_i hc
  cases h;unfold iK;rw[←hc.2,List.take_append_drop]
 ·cases h
theorem pZ {mk l r:List Nat}(h:behind mk l=some r):iK (mk++r)=l:=by
 unfold behind at h
 cases ho:Cx.opened l with
 | none=>rw[ho] at h;cases h
 | some m =>
  rw[ho] at h;dsimp only at h
  split at h
  ·rename_i hm
   cases h;have:=List.take_append_drop mk.length m;rw[hm] at this;rw[this];exact zA ho
  ·cases h
theorem vC {mk l r:List Nat}(hl:By l)(h:behind mk l=some r):By r:=by
 unfold behind at h
 cases ho:Cx.opened l with
 | none=>rw[ho] at h;cases h
 | some m =>
  rw[ho] at h;dsimp only at h
  split at h
  ·cases h
   exact fun x hx=>(uU hl ho).1 x (List.mem_of_mem_drop hx)
  ·cases h
theorem Gn {l:List Nat}{k:lA}{ec:Int}(hl:By l)(h:oI l=(some k,ec)):jO k=l∧ec=0∧zi k=true:=by
 unfold oI at h
 cases hb:behind fS l with
 | none=>rw[hb] at h;cases h
 | some r =>
  rw[hb] at h;dsimp only at h
  cases hp:MH r 0 with
  | none=>rw[hp] at h;cases h
  | some q =>
   obtain ⟨k2,b⟩:=q;rw[hp] at h;dsimp only at h
   split at h
   ·rename_i hbl
    split at h
    ·rename_i jS
     cases h;obtain ⟨_,hd,_,_⟩:=NR.get r 0 k b (vC hl hb) (by omega) hp;rw[List.drop_zero,hbl,List.drop_length,List.append_nil] at hd;refine ⟨?_,rfl,jS⟩;unfold jO;rw[←hd];exact pZ hb
    ·cases h
   ·cases h
theorem Br {l:List Nat}{ec:Int}(h:oI l=(none,ec)):ec≠0:=by
 unfold oI at h
 cases hb:behind fS l with
 | none =>
  rw[hb] at h
  cases h;unfold behind at hb;unfold kK
  cases ho:Cx.opened l with
  | none=>simp
  | some m =>
   rw[ho] at hb;dsimp only at hb ⊢
   split at hb
   ·cases hb
   ·rename_i hh
    rw[bF hh]
    decide
 | some r =>
  rw[hb] at h;dsimp only at h
  cases hp:MH r 0 with
  | none=>rw[hp] at h;cases h;decide
  | some q =>
   obtain ⟨k2,b⟩:=q;rw[hp] at h;dsimp only at h
   split at h
   ·split at h
    ·cases h
    ·cases h;decide
   ·cases h;decide
end Fx
namespace Fx
open Go Go.RowKit Go.Lib
open Pk (Bs By Own)
end Fx
namespace Fx
open Go Go.RowKit Go.Lib
open Pk (Bs By iO)
theorem Gb {o:Oper}{a:Act}{W:World}(x y:Operand)(ho:o.op=.slice 31 x none (some y) none)(oa:Option Addr)(n c h:Nat)(j:Int)(hj:j=(h:Int))(hx:a.eval x=.slice oa n c)(hy:a.eval y=.int .i64 j)
  (hh:h≤c) (hn:oa=none→c=0) (hs:0<c→∀a,oa=some a→a.spot=none) :
  (execOp a.eval o).run prog W=.ok (.value (.slice (iO oa c 0) h c)) W:=by
 subst hj;have Am:prog.underlying 31=some (.slice (prog.elem 31)):=by simp[Program.elem,bJ]
 have h1:=Pk.LX W oa n c 0 h (cK _) hh hn hs;have h2:=run_slice_h W 31 oa n c Am .i64 (h:Int) (by omega) (by omega);have h3:=run_slice_lh W 31 oa n c Am .i64 .i64 ((0:Nat):Int) (h:Int) (by omega) (by omega) (by omega);have h4:(Instr.slice 31 (.slice oa n c) none (some (.int .i64 (h:Int))) none).run prog W=.ok (.slice (iO oa c 0) h c) W:=by
  have e:(Instr.slice 31 (.slice oa n c) none (some (.int .i64 (h:Int))) none).run prog W=(Instr.slice 31 (.slice oa n c) (some (.int .i64 ((0:Nat):Int))) (some (.int .i64 (h:Int))) none).run prog W:=by
   rw[h2,h3];simp
  rw[e,h1];simp
 unfold execOp;simp only[ho,hx,hy,Option.map_some,Option.map_none,Sem.run_bind,run_sliceAt_slice W 31 _ _ _ _ Am,h4,Result.andThen_ok,Sem.run_pure]
end Fx
namespace Fx
open Go Go.RowKit
theorem oU {s:eF}(h:iA s):(prog.info? 28).map (·.size)=some (fP s).length:=by rw[lR h];kernel_rfl
def qG (l:List eF):Bool:=decide (6<l.length) || l.any kI
theorem XJ (xs:List eF)(o:Option Addr)(c:Nat)(w:World)(hc:pJ o xs.length c)(h:pE w o xs) :
  Calls prog 21 #[.slice o xs.length c] w (fJ (qG xs) w):=by
 obtain ⟨n,hn⟩:∃n,xs.length=n:=⟨_,rfl⟩;have HN:=aA hn;have hc1:=hc.1;rw[hn] at hc1 ⊢;by_cases h6:6<n
 ·have t1:(6:Int)<(n:Int):=by omega
  have e:qG xs=true:=by unfold qG;rw[hn,bA h6];rfl
  rw[e];clear h hc hc1 hn e h6;go_enter func21,ntmps21;go_wp2_with fail;go_ret;exact ⟨rfl,aJ _ _⟩
 ·have t1:¬ (6:Int)<(n:Int):=by omega
  have HG:Hid (qG xs=xs.any kI):=aA (by unfold qG;rw[hn,aN h6];rfl);have HS:=aA h;have n6:n≤6:=by omega
  have n0:(0:Int)≤(n:Int):=by omega
  have n7:(n:Int)≤6:=by omega
  clear h hc hn h6;go_enter func21,ntmps21;go_wp2_with fail;go_loopg[3,9] n (fun g s3 s9 wx=>∃k:Nat,g=n-k∧s9=.int .i64 (k:Int)∧k≤n∧(xs.take k).any kI=false∧Below w.heap.size w wx)
  case atStart=>exact ⟨0,rfl,rfl,by omega,rfl,aJ _ _⟩
  case round =>
   obtain ⟨k,rfl,rfl,hk,ha,hb⟩:=hrel;have HA:=aA ha;have HB:=aA hb;clear ha hb;have k0:(0:Int)≤(k:Int):=by omega
   by_cases pK:k<n
   ·have t2:(k:Int)<(n:Int):=by omega
    obtain ⟨x,hx⟩:∃x,xs[k]?=some x:=⟨_,aF (by rw[HN.out];exact pK)⟩;obtain ⟨b,off,rfl,lX⟩:=HS.out k x hx;have hat:=lX.below HB.out;have HT:Hid ((xs.take (k+1)).any kI=kI x):=aA (by rw[bX,hx,List.any_append,HA.out];simp);have HXX:Hid (kI x=true→qG xs=true):=aA (fun h=>by rw[HG.out,List.any_eq_true];exact ⟨x,aX hx,h⟩);have HX:=aA hat;have HC:=aA (show Calls prog 10 #[.agg (fP x).toArray] wr _ from VE x wr hat.wf hat.objs);have hi:=aA (oU hat.wf);clear hx lX hat
    cases hgx:kI x with
    | true =>
     rw[hgx,show bI true=1 from rfl] at HC;have HF:=aA (HXX.out hgx);clear hgx;go_wp2_with (with_reducible refine dQ (some 15) rfl ?_;refine aA ?_;refine wpList_load_mid rfl 28 (.tmp 14) rfl b (off+k*19) rfl (fP x) _ HX.out.cells aW rfl hi.out ?_)
     refine HC.out.mono ?_;rintro e w2 ⟨rfl,hb2⟩;have HE:=aA (dN HB.out hb2);clear hb2 HC;go_wp2_with fail;go_ret;exact ⟨by rw[HF.out];rfl,HE.out⟩
    | false =>
     rw[hgx,show bI false=0 from rfl] at HC;rw[hgx] at HT;clear hgx;go_wp2_with (with_reducible refine dQ (some 15) rfl ?_;refine aA ?_;refine wpList_load_mid rfl 28 (.tmp 14) rfl b (off+k*19) rfl (fP x) _ HX.out.cells aW rfl hi.out ?_)
     refine HC.out.mono ?_;rintro e w2 ⟨rfl,hb2⟩;have HE:=aA (dN HB.out hb2);clear hb2 HC;go_wp2_with fail;go_roundg (n-(k+1))
     case measure=>omega
     case rel=>exact ⟨k+1,rfl,by go_num,by omega,HT.out,HE.out⟩
   ·obtain rfl:k=n:=by omega
    have t2:¬ (k:Int)<(k:Int):=by omega
    have HE:Hid (qG xs=false):=aA (by rw[HG.out];have:=HA.out;rw[bB (by rw[HN.out];omega)] at this;exact this);go_wp2_with fail;go_ret;exact ⟨by rw[HE.out];rfl,HB.out⟩
theorem yN (xs ys:List eF)(o q:Option Addr)(c d:Nat)(w:World)(hc:pJ o xs.length c)(hd:pJ q ys.length d)(h:pE w o xs)(h2:pE w q ys)(hm:xs.length≤1000000)(Si:xs.map eQ=ys.map eQ) :
  Calls prog 26 #[.slice o xs.length c,.slice q ys.length d] w (fJ true w):=by
 obtain ⟨n,hn⟩:∃n,xs.length=n:=⟨_,rfl⟩;obtain ⟨m,lL⟩:∃m,ys.length=m:=⟨_,rfl⟩;have hc1:=hc.1;have Ig:=hd.1;have HBK:=aA Si;clear Si;rw[hn] at hc1 hm ⊢;rw[lL] at Ig ⊢;by_cases GM:n=m
 ·subst GM
  have HN:=aA hn;have HM:=aA lL;have HS:=aA h;have HT:=aA h2;have n0:(0:Int)≤(n:Int):=by omega
  have n7:(n:Int)≤1000000:=by omega
  clear h h2 hc hd hn lL;go_enter func26,ntmps26;go_wp2_with fail;go_loopg[5,6] n (fun g s5 s6 wx=>∃k:Nat,g=n-k∧s5=.int .i64 (k:Int)∧k≤n∧(xs.take k).map eQ=(ys.take k).map eQ∧Below w.heap.size w wx)
  case atStart=>exact ⟨0,rfl,rfl,by omega,rfl,aJ _ _⟩
  case round =>
   obtain ⟨i,rfl,rfl,hk,ha,hb⟩:=hrel;have HA:=aA ha;have HB:=aA hb;clear ha hb;have k0:(0:Int)≤(i:Int):=by omega
   by_cases pK:i<n
   ·have t2:(i:Int)<(n:Int):=by omega
    obtain ⟨x,hx⟩:∃x,xs[i]?=some x:=⟨_,aF (by rw[HN.out];exact pK)⟩;obtain ⟨y,hy⟩:∃y,ys[i]?=some y:=⟨_,aF (by rw[HM.out];exact pK)⟩;obtain ⟨b1,o1,rfl,lX⟩:=HS.out i x hx;obtain ⟨b2,o2,rfl,hbt0⟩:=HT.out i y hy;have hat:=lX.below HB.out;have hbt:=hbt0.below HB.out;have HX:=aA hat;have HY:=aA hbt;have hx19:=aA (oU hat.wf);have hy19:=aA (oU hbt.wf);have hks:eQ x=eQ y:=by
     have h1:(xs.map eQ)[i]?=(ys.map eQ)[i]?:=by rw[HBK.out]
     rw[bZ,bZ,hx,hy] at h1
     simpa using h1
    have HSM:Hid (∀X,Below wr.heap.size wr X→Calls prog 15 #[.agg (fP x).toArray,.agg (fP y).toArray] X fun e X'=>e=.returned (.bool true)∧Below X.heap.size X X'):=aA (fun X hX=>Iu x y X HX.out.wf HY.out.wf (HX.out.objs.below hX) (HY.out.objs.below hX) ((Ez x y).2 hks));have HXT:=aA hx;have HYT:=aA hy;have HKS:=aA hks;clear hx hy lX hbt0 hat hbt hks;go_wp2_with fail;refine (bN (n:=5)).1 (eA (S:=fun X=>Below wr.heap.size wr X) (Z:=[]) (by kernel_rfl) (by kernel_rfl) dU (fun d _ _ _ _ h=>by cases d <;> exact h) (nV _ (aJ _ _)) (fun hG rA hw0=>?_));refine dF [] 0 (?_) hG rfl (by kernel_rfl) hw0 (by kernel_rfl) ?_ ?_;rotate_left
    ·intro wz hSw;first|(go_simp;done)|(go_simp;with_reducible rfl)
    intro qZ kS;clear hw0 rA;try simp only[aQ]
    refine dF [] 1 (?_) hG rfl (by kernel_rfl) kS (by kernel_rfl) ?_ ?_;rotate_left
    ·intro wz hSw;first|(go_simp;done)|(go_simp;with_reducible rfl)
    intro qY hw2;clear kS qZ;try simp only[aQ]
    refine dF [] 2 (?_) hG rfl (by kernel_rfl) hw2 (by kernel_rfl) ?_ ?_;rotate_left
    ·intro wz hSw;first|(go_simp;done)|(go_simp;with_reducible rfl)
    intro qX hw3;clear hw2 qY;try simp only[aQ]
    refine dF [] 3 (.agg (fP x).toArray) hG rfl (by kernel_rfl) hw3 (by kernel_rfl) ?_ ?_
    ·intro wz hSw;exact gS 28 (.tmp 20) (by kernel_rfl) b1 (o1+i*19) (by kernel_rfl) (fP x) _ (iC hSw HX.out.cells) aW (by kernel_rfl) hx19.out
    intro qW hw4;clear hw3 qX;try simp only[aQ]
    refine dF [] 4 (?_) hG rfl (by kernel_rfl) hw4 (by kernel_rfl) ?_ ?_;rotate_left
    ·intro wz hSw;first|(go_simp;done)|(go_simp;with_reducible rfl)
    intro qV lB;clear hw4 qW;try simp only[aQ]
    refine dF [] 5 (?_) hG rfl (by kernel_rfl) lB (by kernel_rfl) ?_ ?_;rotate_left
    ·intro wz hSw;first|(go_simp;done)|(go_simp;with_reducible rfl)
    intro qU kA;clear lB qV;try simp only[aQ]
    refine dF [] 6 (?_) hG rfl (by kernel_rfl) kA (by kernel_rfl) ?_ ?_;rotate_left
    ·intro wz hSw;first|(go_simp;done)|(go_simp;with_reducible rfl)
    intro qC kP;clear kA qU;try simp only[aQ]
    refine dF [] 7 (.agg (fP y).toArray) hG rfl (by kernel_rfl) kP (by kernel_rfl) ?_ ?_
    ·intro wz hSw;exact gS 28 (.tmp 24) (by kernel_rfl) b2 (o2+i*19) (by kernel_rfl) (fP y) _ (iC hSw HY.out.cells) aW (by kernel_rfl) hy19.out
    intro sF kH;clear kP qC;try simp only[aQ]
    refine sL [] 8 15 #[.agg (fP x).toArray,.agg (fP y).toArray] (.bool true) hG rfl (by kernel_rfl) kH (by kernel_rfl) ?_ (HSM.out) ?_
    ·intro wz;(first|(go_simp;done)|(go_simp;with_reducible rfl))
    intro sD lI;clear kH sF;try simp only[aQ]
    refine dF [] 9 (?_) hG rfl (by kernel_rfl) lI (by kernel_rfl) ?_ ?_;rotate_left
    ·intro wz hSw;first|(go_simp;done)|(go_simp;with_reducible rfl)
    intro jG gH;clear lI sD;try simp only[aQ]
    refine eK (by kernel_rfl) (?_) _;have HZ:=aA (dN HB.out gH);have oq:Hid ((xs.take (i+1)).map eQ=(ys.take (i+1)).map eQ):=aA (by rw[bX,bX,HXT.out,HYT.out,List.map_append,List.map_append,HA.out];simp[HKS.out]);go_wp2_with fail;go_roundg (n-(i+1))
    case measure=>omega
    case rel=>exact ⟨i+1,rfl,by go_num,by omega,oq.out,HZ.out⟩
   ·obtain rfl:i=n:=by omega
    have t2:¬ (i:Int)<(i:Int):=by omega
    go_wp2_with fail;go_ret;exact ⟨rfl,HB.out⟩
 ·exact absurd (by have:=congrArg List.length HBK.out;simpa[hn,lL] using this) GM
end Fx
namespace Fx
open Go Go.RowKit Go.Lib
open Pk (Bs By iO)
theorem Un {m:List Nat}(h:By m):By (iK m):=by
 unfold iK;intro x hx
 rcases bS.1 hx with hx|hx
 ·exact h x hx
 ·exact Cx.Ma _ x hx
theorem Px {k:lA}(h:Gl k):By (jO k)∧(jO k).length≤900000:=by
 have h1:=NR.bytes k h;have h2:=(NT h).2;refine ⟨Un (fun x hx=>?_),?_⟩
 ·rcases bS.1 hx with hx|hx
  ·exact tM x hx
  ·exact h1 x hx
 ·unfold jO iK
  rw[aI,xI,aI];have : fS.length=4:=rfl;omega
structure BkI (s:eF)(l:List Nat)(o:Option Addr)(w W:World):Prop where
 box:eZ w.heap.size s W
 oa:eN W s.oo s.os
 bs:Bs W o l
 gL:Below w.heap.size w W
theorem BkI.up {s:eF}{l:List Nat}{o:Option Addr}{w W X:World}(i:BkI s l o w W)(h:Below W.heap.size W X):BkI s l o w X:=⟨i.box.below h,i.oa.below h,i.bs.below h,dN i.gL h⟩
end Fx
end Go.Proofs.YtbbhmhihpdmoiaaGreat
