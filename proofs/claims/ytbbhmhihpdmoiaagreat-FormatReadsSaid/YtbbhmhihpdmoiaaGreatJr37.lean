import Derived.Test.YtbbhmhihpdmoiaaGreatJr27
set_option linter.unusedVariables false
set_option linter.unusedSimpArgs false
set_option maxRecDepth 100000
set_option maxHeartbeats 32000000
namespace Go.Proofs.YtbbhmhihpdmoiaaGreat
namespace Fx
open Go Go.RowKit Go.Shelf
attribute [local go_sem] Oper.semAt_some
structure KV (s:fH) (A:Nat) (x y:Int) (w W:World):Prop where
 box:gF w.heap.size s W
 r1:W.heap[w.heap.size + 1]?=some (.cells #[.int .i64 x] 3 (0,0))
 r2:W.heap[w.heap.size + 1 + 1]?=some (.cells #[.int .i64 y] 3 (0,0))
 lt:w.heap.size + 1 + 1 < A
 dsc:gF A s W
 dut:OX (A + 1) A W
 below:Below w.heap.size w W
theorem KV.kept {s:fH} {A:Nat} {x y:Int} {B:Nat} {w W X:World} (hB:w.heap.size≤B) (h:Kept B W X) (i:KV s A x y w W):KV s A x y w X :=
 ⟨i.box.kept h,h.cells i.r1,h.cells i.r2,i.lt,i.dsc.kept h,h.cells i.dut,h.below hB i.below⟩
theorem KV.up {s:fH} {A:Nat} {x y:Int} {w W X:World} (h:Below W.heap.size W X) (i:KV s A x y w W):KV s A x y w X :=
 ⟨i.box.below h,dV h i.r1,dV h i.r2,i.lt,i.dsc.below h,dV h i.dut,dY i.below h⟩
theorem KV.facts {s:fH} {A:Nat} {x y:Int} {w W:World} (i:KV s A x y w W) :
  W.cell? ⟨w.heap.size + 1,0,none⟩=some (.int .i64 x)∧W.cell? ⟨w.heap.size + 1 + 1,0,none⟩=some (.int .i64 y)∧W.frozen? ⟨w.heap.size + 1,0,none⟩=false∧W.frozen? ⟨w.heap.size + 1 + 1,0,none⟩=false :=
 ⟨by rw [aF _ _ _ _ _ _ i.r1];rfl,by rw [aF _ _ _ _ _ _ i.r2];rfl,dU i.r1,dU i.r2⟩
theorem KV.put {s:fH} {A:Nat} {x y x2 y2:Int} {w W:World} (i:KV s A x y w W):KV s A x2 y2 w ((W.setCell ⟨w.heap.size + 1,0,none⟩ (.int .i64 x2)).setCell ⟨w.heap.size + 1 + 1,0,none⟩ (.int .i64 y2)):=by
 have a1:=aK W _ 0 _ _ (.int .i64 x2) i.r1
 have hA:=i.lt
 have o1:∀ {g:Nat} {ob:Obj},g≠w.heap.size + 1→g≠w.heap.size + 1 + 1→W.heap[g]?=some ob→((W.setCell ⟨w.heap.size + 1,0,none⟩ (.int .i64 x2)).setCell ⟨w.heap.size + 1 + 1,0,none⟩ (.int .i64 y2)).heap[g]?=some ob:=fun h1 h2 h=>by
  rw [aH _ _ _ _ h2,aH _ _ _ _ h1]
  exact h
 refine ⟨o1 (by omega) (by omega) i.box,?_,?_,hA,o1 (by omega) (by omega) i.dsc,o1 (by omega) (by omega) i.dut,(i.below.setCell (p:=⟨w.heap.size + 1,0,none⟩) (by show _≤w.heap.size + 1;omega) _).setCell (p:=⟨w.heap.size + 1 + 1,0,none⟩) (by show _≤w.heap.size + 1 + 1;omega) _⟩
 ·rw [aH _ _ _ _ (by show _≠w.heap.size + 1 + 1;omega)]
  exact a1
 ·have a2:(W.setCell ⟨w.heap.size + 1,0,none⟩ (.int .i64 x2)).heap[w.heap.size + 1 + 1]?=some (.cells #[.int .i64 y] 3 (0,0)):=by
   rw [aH _ _ _ _ (by show _≠w.heap.size + 1;omega)]
   exact i.r2
  exact aK _ _ 0 _ _ (.int .i64 y2) a2
theorem KV.drew {s:fH} {A:Nat} {x y:Int} {w W:World} (i:KV s A x y w W):KV s A x y w W.drew:=i.up (fG _ W 1)
structure OL (s:fH) (A:Nat) (r:Int) (g:Nat) (lb:Array Value) (b:Nat) (x y:Int) (w W:World):Prop where
 wg:KV s A x y w W
 lt:A + 1 < b
 num:W.heap[b]?=some (.cells #[.int .i64 r] 3 (0,0))
 rul:W.heap[b + 1]?=some (.cells #[.func (.func g) #[] lb] 151 (0,0))
 it:gF (b + 1 + 1) s W
theorem OL.kept {s:fH} {A:Nat} {r:Int} {g:Nat} {lb:Array Value} {b:Nat} {x y:Int} {B:Nat} {w W X:World} (hB:w.heap.size≤B) (h:Kept B W X) (i:OL s A r g lb b x y w W):OL s A r g lb b x y w X :=
 ⟨i.wg.kept hB h,i.lt,h.cells i.num,h.cells i.rul,i.it.kept h⟩
theorem OL.up {s:fH} {A:Nat} {r:Int} {g:Nat} {lb:Array Value} {b:Nat} {x y:Int} {w W X:World} (h:Below W.heap.size W X) (i:OL s A r g lb b x y w W):OL s A r g lb b x y w X :=
 ⟨i.wg.up h,i.lt,dV h i.num,dV h i.rul,i.it.below h⟩
theorem OL.facts {s:fH} {A:Nat} {r:Int} {g:Nat} {lb:Array Value} {b:Nat} {x y:Int} {w W:World} (i:OL s A r g lb b x y w W):W.cell? ⟨b,0,none⟩=some (.int .i64 r)∧W.cell? ⟨b + 1,0,none⟩=some (.func (.func g) #[] lb) :=
 ⟨by rw [aF _ _ _ _ _ _ i.num];rfl,by rw [aF _ _ _ _ _ _ i.rul];rfl⟩
theorem OL.put {s:fH} {A:Nat} {r:Int} {g:Nat} {lb:Array Value} {b:Nat} {x y x2 y2:Int} {w W:World} (i:OL s A r g lb b x y w W):OL s A r g lb b x2 y2 w ((W.setCell ⟨w.heap.size + 1,0,none⟩ (.int .i64 x2)).setCell ⟨w.heap.size + 1 + 1,0,none⟩ (.int .i64 y2)):=by
 have hA:=i.wg.lt
 have hb:=i.lt
 have o1:∀ {g:Nat} {ob:Obj},g≠w.heap.size + 1→g≠w.heap.size + 1 + 1→W.heap[g]?=some ob→((W.setCell ⟨w.heap.size + 1,0,none⟩ (.int .i64 x2)).setCell ⟨w.heap.size + 1 + 1,0,none⟩ (.int .i64 y2)).heap[g]?=some ob:=fun h1 h2 h=>by
  rw [aH _ _ _ _ h2,aH _ _ _ _ h1]
  exact h
 exact ⟨i.wg.put,hb,o1 (by omega) (by omega) i.num,o1 (by omega) (by omega) i.rul,o1 (by omega) (by omega) i.it⟩
structure KU (s:fH) (x y:Int) (w W:World):Prop where
 box:gF w.heap.size s W
 r1:W.heap[w.heap.size + 1]?=some (.cells #[.int .i64 x] 3 (0,0))
 r2:W.heap[w.heap.size + 1 + 1]?=some (.cells #[.int .i64 y] 3 (0,0))
 below:Below w.heap.size w W
theorem KU.up {s:fH} {x y:Int} {w W X:World} (h:Below W.heap.size W X) (i:KU s x y w W):KU s x y w X :=
 ⟨i.box.below h,dV h i.r1,dV h i.r2,dY i.below h⟩
theorem KU.new (s:fH) (w:World):KU s 0 0 w (((w.alloc (.cells (fZ s) 28)).alloc (.cells #[.int .i64 0] 3)).alloc (.cells #[.int .i64 0] 3)):=by
 refine ⟨dW (dW (gF.new w s)),?_,?_,(((aI _ w).alloc (aB _) _).alloc (by simp) _).alloc (by simp;omega) _⟩
 ·have:=aG (w.alloc (.cells (fZ s) 28)) (.cells #[.int .i64 0] 3)
  rw [aR] at this
  exact dW this
 ·have:=aG ((w.alloc (.cells (fZ s) 28)).alloc (.cells #[.int .i64 0] 3)) (.cells #[.int .i64 0] 3)
  rw [aR,aR] at this
  exact this
theorem KU.facts {s:fH} {x y:Int} {w W:World} (i:KU s x y w W) :
  W.cell? ⟨w.heap.size + 1,0,none⟩=some (.int .i64 x)∧W.cell? ⟨w.heap.size + 1 + 1,0,none⟩=some (.int .i64 y)∧W.frozen? ⟨w.heap.size + 1,0,none⟩=false∧W.frozen? ⟨w.heap.size + 1 + 1,0,none⟩=false :=
 ⟨by rw [aF _ _ _ _ _ _ i.r1];rfl,by rw [aF _ _ _ _ _ _ i.r2];rfl,dU i.r1,dU i.r2⟩
theorem KU.put {s:fH} {x y x2 y2:Int} {w W:World} (i:KU s x y w W):KU s x2 y2 w ((W.setCell ⟨w.heap.size + 1,0,none⟩ (.int .i64 x2)).setCell ⟨w.heap.size + 1 + 1,0,none⟩ (.int .i64 y2)):=by
 have a1:=aK W _ 0 _ _ (.int .i64 x2) i.r1
 refine ⟨?_,?_,?_,(i.below.setCell (p:=⟨w.heap.size + 1,0,none⟩) (by show _≤w.heap.size + 1;omega) _).setCell (p:=⟨w.heap.size + 1 + 1,0,none⟩) (by show _≤w.heap.size + 1 + 1;omega) _⟩
 ·unfold gF
  rw [aH _ _ _ _ (by show _≠w.heap.size + 1 + 1;omega),aH _ _ _ _ (by show _≠w.heap.size + 1;omega)]
  exact i.box
 ·rw [aH _ _ _ _ (by show _≠w.heap.size + 1 + 1;omega)]
  exact a1
 ·have a2:(W.setCell ⟨w.heap.size + 1,0,none⟩ (.int .i64 x2)).heap[w.heap.size + 1 + 1]?=some (.cells #[.int .i64 y] 3 (0,0)):=by
   rw [aH _ _ _ _ (by show _≠w.heap.size + 1;omega)]
   exact i.r2
  exact aK _ _ 0 _ _ (.int .i64 y2) a2
theorem KU.nU {s:fH} {x y y2:Int} {w W:World} (i:KU s x y w W):KU s x y2 w (W.setCell ⟨w.heap.size + 1 + 1,0,none⟩ (.int .i64 y2)):=by
 refine ⟨?_,?_,aK _ _ 0 _ _ (.int .i64 y2) i.r2,i.below.setCell (p:=⟨w.heap.size + 1 + 1,0,none⟩) (by show _≤w.heap.size + 1 + 1;omega) _⟩
 ·unfold gF
  rw [aH _ _ _ _ (by show _≠w.heap.size + 1 + 1;omega)]
  exact i.box
 ·rw [aH _ _ _ _ (by show _≠w.heap.size + 1 + 1;omega)]
  exact i.r1
theorem KU.kept {s:fH} {x y:Int} {B:Nat} {w W X:World} (hB:w.heap.size≤B) (h:Kept B W X) (i:KU s x y w W):KU s x y w X :=
 ⟨i.box.kept h,h.cells i.r1,h.cells i.r2,h.below hB i.below⟩
theorem zH (B:Nat) (W:World):KeepsFrom B W W.drew:=⟨aB _,fun _ _ _ h _=>h⟩
theorem sU {n:Nat} {P:Program} {fn:Func} {R:Ending→World→Prop} {a:Act} {W:World} {B hi:Nat} (h:jB B hi a.defers W) (H:∀ X,Kept B W X→LeavesInM Fence.wide n P fn a.tmps R [] .returning X):Exit.noGoto (bodyPostM Fence.wide n P fn R) .ret a W :=
 zF _ hi W h H
theorem UM (s:fH):rC s = !((decide (1≤s.w) && decide (s.w≤64)) && (decide (1≤s.h) && decide (s.h≤64))):=by
 unfold rC
 by_cases h1:1≤s.w <;> by_cases h2:s.w≤64 <;> by_cases h3:1≤s.h <;> by_cases h4:s.h≤64 <;> simp [h1,h2,h3,h4] <;> omega
def WgI (s:fH) (A:Nat) (w:World) (n:Nat) (a:Act) (W:World):Prop :=
 ∃ (r:Nat) (ds:List Deferred) (v0 v4 v5 v6 v7 v8 v9 v10 v11 v12 v13 v14 v15 v16 v17 v18 v19 v20 v21 v22 v23 v24 v25 v26 v27 v28 v29 v33 v34 v35 v36 v37 v38 v39 v40 v41 v42 v43 v44 v45 v46 v47 v48 v49 v50 v51:Value),n=5 - r∧r≤5∧(∀ q,4≤q→q < 4 + r→lL s q=none)∧KV s A 0 (-1) w W∧jB w.heap.size W.heap.size ds W ∧
 a={ tmps:=#[v0,.pointer (some ⟨w.heap.size,0,none⟩),.pointer (some ⟨w.heap.size + 1,0,none⟩),.pointer (some ⟨w.heap.size + 1 + 1,0,none⟩),v4,v5,v6,v7,v8,v9,v10,v11,v12,v13,v14,v15,v16,v17,v18,v19,v20,v21,v22,v23,v24,v25,v26,v27,v28,v29,.slice (some ⟨A + 1,0,none⟩) 5 5,.int .i64 5,.int .i64 (r:Int),v33,v34,v35,v36,v37,v38,v39,v40,v41,v42,v43,v44,v45,v46,v47,v48,v49,v50,v51],defers:=ds }
theorem MX (s:fH) (w:World) (hs:jE s) (h:fM w s.oo s.os) :
  Calls Tryz.prog 61 #[.agg (fZ s)] w (pF (gL s) w):=by
 have HI:=aA (KU.new s w)
 have HS:=aA hs
 have HO:=aA h
 obtain ⟨V,hV⟩:∃ V,(((w.alloc (.cells (fZ s) 28)).alloc (.cells #[.int .i64 0] 3)).alloc (.cells #[.int .i64 0] 3))=V:=⟨_,rfl⟩
 rw [hV] at HI
 have HV:=aA hV
 obtain ⟨c1,c2,f1,f2⟩:=HI.out.facts
 have d0:V.cell? ⟨w.heap.size,0,none⟩=some (.int .i64 s.w):=HI.out.box.c0
 have d1:V.cell? ⟨w.heap.size,1,none⟩=some (.int .i64 s.h):=HI.out.box.c1
 have HZ:=aA (UM s)
 have HBAD:Hid (rC s=true→gL s=(1,-1)):=aA (fun h=>by unfold gL;rw [aT h])
 have HW:=aA (fun (W:World)=>IP s.w W)
 have HH:=aA (fun (W:World)=>IP s.h W)
 clear h hs hV
 generalize (decide (1≤s.w) && decide (s.w≤64))=b1 at HZ HW
 generalize (decide (1≤s.h) && decide (s.h≤64))=b2 at HZ HH
 refine (aW (n:=5)).1 ?_
 refine callsIn_of_wp_marks Tryz.func61 rfl trivial ?_ rfl
 simp only [Tryz.ntmps61,aL,bK,List.length_nil,Nat.reduceAdd,Nat.reduceSub,Array.replicate_succ,Array.replicate_zero,List.push_toArray,List.append_toArray,bX,bT]
 refine bG.2 ?_
 cases b1 with
 | false =>
  have HR:=aA (HBAD.out (by rw [HZ.out];rfl))
  go_wp2_with (first | go_step3 | (rw [HV.out]))
  refine (HW.out _).mono ?_
  rintro e w' ⟨rfl,rfl⟩
  go_wp2_with fail
  refine sU (B:=w.heap.size) (hi:=0) (jB.nil _ _ _) (fun X hk=>?_)
  have oJ:=(HI.out.put (x2:=1) (y2:=(-1))).kept (aB _) hk
  obtain ⟨d1,d2,_,_⟩:=oJ.facts
  have vR:=aA oJ.below
  clear oJ hk
  refine ⟨.tuple #[.int .i64 1,.int .i64 (-1)],?_,by rw [HR.out],vR.out⟩
  simp [results,Tryz.results61,go_sem, *]
 | true =>
  go_wp2_with (first | go_step3 | (rw [HV.out]))
  refine (HW.out _).mono ?_
  rintro e w' ⟨rfl,rfl⟩
  go_wp2_with fail
  refine (HH.out _).mono ?_
  rintro e w1 ⟨rfl,rfl⟩
  cases b2 with
  | false =>
   have HR:=aA (HBAD.out (by rw [HZ.out];rfl))
   go_wp2_with fail
   refine sU (B:=w.heap.size) (hi:=0) (jB.nil _ _ _) (fun X hk=>?_)
   have oJ:=(HI.out.put (x2:=1) (y2:=(-1))).kept (aB _) hk
   obtain ⟨d1,d2,_,_⟩:=oJ.facts
   have vR:=aA oJ.below
   clear oJ hk
   refine ⟨.tuple #[.int .i64 1,.int .i64 (-1)],?_,by rw [HR.out],vR.out⟩
   simp [results,Tryz.results61,go_sem, *]
  | true =>
   have HZ0:Hid (rC s=false):=aA (by rw [HZ.out];rfl)
   have hC:=aA (nY HS.out.len)
   have HCH:=aA (fun (W:World)=>wN s.jK 16777216 W HS.out.len (by omega) (by omega))
   obtain ⟨ok,hok⟩:∃ b,wB 16777216 s.jK 16=b:=⟨_,rfl⟩
   have jY:=aA hok
   rw [hok] at HCH
   clear hok HBAD HZ HW HH d0 d1
   cases ok with
   | false =>
    have HR:Hid (gL s=(2,-1)):=aA (by unfold gL;rw [aX (by simp [HZ0.out]),aT jY.out])
    go_wp2_with (refine wpList_load_mid rfl 25 (.tmp 20) rfl w.heap.size 2 rfl (s.jK.map encI) _ HI.out.box.jK aP rfl hC.out ?_)
    refine (HCH.out _).mono ?_
    rintro e w2 ⟨rfl,hb⟩
    have HI2:=aA (HI.out.up hb)
    clear hb c1 c2 f1 f2 HI
    obtain ⟨c1,c2,f1,f2⟩:=HI2.out.facts
    go_wp2_with fail
    refine sU (B:=w.heap.size) (hi:=0) (jB.nil _ _ _) (fun X hk=>?_)
    have oJ:=(HI2.out.put (x2:=2) (y2:=(-1))).kept (aB _) hk
    obtain ⟨d1,d2,_,_⟩:=oJ.facts
    have vR:=aA oJ.below
    clear oJ hk
    refine ⟨.tuple #[.int .i64 2,.int .i64 (-1)],?_,by rw [HR.out],vR.out⟩
    simp [results,Tryz.results61,go_sem, *]
   | true =>
    go_wp2_with (refine wpList_load_mid rfl 25 (.tmp 20) rfl w.heap.size 2 rfl (s.jK.map encI) _ HI.out.box.jK aP rfl hC.out ?_)
    refine (HCH.out _).mono ?_
    rintro e w2 ⟨rfl,hb⟩
    have HI2:=aA (HI.out.up hb)
    clear hb c1 c2 f1 f2 HI
    obtain ⟨c1,c2,f1,f2⟩:=HI2.out.facts
    have c18:=HI2.out.box.c18 HS.out
    have hcap:=HS.out.cap.1
    obtain ⟨n,hn⟩:∃ n,s.os.length=n:=⟨_,rfl⟩
    have HN:=aA hn
    rw [hn] at c18 hcap
    have n0:(0:Int)≤(n:Int):=by omega
    have n1:(n:Int)≤9223372036854775807:=by omega
    clear hn hcap
    by_cases h16:16 < n
    ·have t1:(16:Int) < (n:Int):=by omega
     have HR:Hid (gL s=(3,-1)):=aA (by unfold gL;rw [aX (by simp [HZ0.out]),aX (by simp [jY.out]),aT (by rw [HN.out];exact h16)])
     go_wp2_with fail
     refine sU (B:=w.heap.size) (hi:=0) (jB.nil _ _ _) (fun X hk=>?_)
     have oJ:=(HI2.out.put (x2:=3) (y2:=(-1))).kept (aB _) hk
     obtain ⟨d1,d2,_,_⟩:=oJ.facts
     have vR:=aA oJ.below
     clear oJ hk
     refine ⟨.tuple #[.int .i64 3,.int .i64 (-1)],?_,by rw [HR.out],vR.out⟩
     simp [results,Tryz.results61,go_sem, *]
    ·have t1:¬ (16:Int) < (n:Int):=by omega
     have H16:Hid (s.os.length≤16):=aA (by rw [HN.out];omega)
     have HI3:=aA (HI2.out.nU (y2:=-1))
     have hall:=aA (PN HS.out)
     clear h16
     go_wp2_with (first | go_step3 | refine wpList_load_mid rfl 28 (.tmp 1) rfl w.heap.size 0 rfl (jF s) _ HI3.out.box.all bA rfl hall.out ?_)
     clear c18 t1 c1 c2 f1 f2 HI2
     refine (Df s _).mono ?_
     obtain ⟨W3,hW3⟩:∃ W3,w2.setCell ⟨w.heap.size + 1 + 1,0,none⟩ (.int .i64 (-1))=W3:=⟨_,rfl⟩
     rw [hW3] at HI3 ⊢
     clear hW3
     rintro e w3 ⟨rfl,rfl⟩
     obtain ⟨A,hA⟩:∃ A,W3.heap.size=A:=⟨_,rfl⟩
     obtain ⟨W4,Kc⟩:∃ W4,(W3.alloc (.cells (fZ s) 28)).alloc (.cells (RH A) 151)=W4:=⟨_,rfl⟩
     have HG:Hid (KV s A 0 (-1) w W4):=aA (by
      have hB:Below W3.heap.size W3 W4:=by rw [←Kc];exact ((aI _ W3).alloc (aB _) _).alloc (by simp) _
      have i:=HI3.out.up hB
      refine ⟨i.box,i.r1,i.r2,?_,?_,?_,i.below⟩
      ·have:=(aC.1 HI3.out.r2).1
       omega
      ·rw [←Kc,←hA]
       exact dW (gF.new W3 s)
      ·rw [←Kc,←hA]
       have:=aG (W3.alloc (.cells (fZ s) 28)) (.cells (RH W3.heap.size) 151)
       rw [aR] at this
       exact this)
     have HHS:Hid (w.heap.size≤W4.heap.size):=aA HG.out.below.size
     rw [hA,Kc]
     clear hA Kc HI3
     go_wp2_with fail
     refine wp_loop_ghost_k (WgI s A w) 5 ⟨0,[],_,_,_,_,_,_,_,_,_,_,_,_,_,_,_,_,_,_,_,_,_,_,_,_,_,_,_,_,_,_,_,_,_,_,_,_,_,_,_,_,_,_,_,_,_,_,rfl,by omega,fun q h1 h2=>absurd h2 (by omega),HG.out,jB.nil _ _ _,rfl⟩ ?_
     rintro g a W ⟨r,ds,v0,v4,v5,v6,v7,v8,v9,v10,v11,v12,v13,v14,v15,v16,v17,v18,v19,v20,v21,v22,v23,v24,v25,v26,v27,v28,v29,v33,v34,v35,v36,v37,v38,v39,v40,v41,v42,v43,v44,v45,v46,v47,v48,v49,v50,v51,rfl,hr,hq,hi,hd,rfl⟩ J K hJ hK
     have HI:=aA hi
     have HD:=aA hd
     have HQ:=aA hq
     have HJ:=aA hJ
     have r0:(0:Int)≤(r:Int):=by omega
     clear hi hd hq HG hJ
     by_cases Gf:r < 5
     ·have t1:(r:Int) < 5:=by omega
      have c:=HI.out.dut.cell Gf
      have eg:=NZ Gf
      have HDU:=aA (fun (x:fE) (k A:Nat) (w:World)=>Dc s x k r A w Gf)
      unfold zY at c
      obtain ⟨g,hg⟩:∃ g,KM r=g:=⟨_,rfl⟩
      obtain ⟨lb,hlb⟩:∃ lb,De A r=lb:=⟨_,rfl⟩
      have HLB:=aA hlb
      rw [hg] at c eg HDU
      rw [hlb] at c
      clear hg hlb
      obtain ⟨W5,Vd⟩:∃ W5,(W.alloc (.cells #[.int .i64 (r:Int)] 3)).alloc (.cells #[.func (.func g) #[] lb] 151)=W5:=⟨_,rfl⟩
      obtain ⟨W6,Zk⟩:∃ W6,W5.alloc (.cells (fZ s) 28)=W6:=⟨_,rfl⟩
      have hs5:W5.heap.size=W.heap.size + 1 + 1:=by rw [←Vd];simp
      have hs6:W6.heap.size=W.heap.size + 1 + 1 + 1:=by rw [←Zk,aR,hs5]
      have Zt:Below W.heap.size W W5:=by rw [←Vd];exact ((aI _ W).alloc (aB _) _).alloc (by simp) _
      have Kl:Below W5.heap.size W5 W6:=by rw [←Zk];exact (aI _ W5).alloc (aB _) _
      have hB6:Below W.heap.size W W6:=dY Zt Kl
      have HN0:Hid (OL s A (r:Int) g lb W.heap.size 0 (-1) w W6):=aA (by
       refine ⟨HI.out.up hB6,?_,dV Kl ?_,dV Kl ?_,?_⟩
       ·have:=(aC.1 HI.out.dut).1
        omega
       ·rw [←Vd]
        exact dW (aG _ _)
       ·rw [←Vd]
        have:=aG (W.alloc (.cells #[.int .i64 (r:Int)] 3)) (.cells #[.func (.func g) #[] lb] 151)
        rw [aR] at this
        exact this
       ·rw [←Zk,←hs5]
        exact gF.new W5 s)
      have HD6:Hid (jB w.heap.size W.heap.size ds W6):=aA (HD.out.keeps (kS hB6 _))
      have HBX:Hid (W5.rangeAt w.heap.size 0 (jF s)):=aA (HI.out.up Zt).box.all
      have TH:=aA hs6
      have HS5:=aA hs5
      have HW6:=aA Zk
      have HW5:=aA Vd
      have HWW:Hid (w.heap.size≤W.heap.size):=aA HI.out.below.size
      clear Vd Zt Kl hB6 hs5 hs6 Zk
      go_wp2_with (rw [HW5.out];refine wpList_load_mid rfl 28 (.tmp 1) rfl w.heap.size 0 rfl (jF s) _ HBX.out bA rfl hall.out ?_)
      clear c t1
      refine (DJ s _).mono ?_
      rintro e w' ⟨rfl,rfl⟩
      rw [HS5.out,HW6.out]
      go_wp2_with fail
      refine bG.1 (iU (F:=Fence.wide) (n:=5) rfl (by omega) (gf:=130) (lb:=#[.pointer (some ⟨W.heap.size + 1 + 1,0,none⟩)]) rfl trivial (enters_of Tryz.func130 (by kernel_rfl) rfl)
       (DK s (W.heap.size + 1 + 1) HS.out) (fun _=>rfl) (.exit 1)
       (fun j V=>OL s A (r:Int) g lb W.heap.size 0 (-1) w V∧jB w.heap.size W.heap.size ds V∧∀ i,i < j→mW s (4 + r) i=false)
       (fun V=>∃ j:Nat,OL s A (r:Int) g lb W.heap.size (4 + (r:Int)) (j:Int) w V∧jB w.heap.size W.heap.size ds V∧lL s (4 + r)=some j)
       (fun j a' V=>(∃ b7,V.heap[b7]?=some (.cells (eF (s.os.getD j default)).toArray 73 (0,0))∧a'={ tmps:=#[v0,.pointer (some ⟨w.heap.size,0,none⟩),.pointer (some ⟨w.heap.size + 1,0,none⟩),.pointer (some ⟨w.heap.size + 1 + 1,0,none⟩),.pointer (some ⟨W.heap.size,0,none⟩),.pointer (some ⟨W.heap.size + 1,0,none⟩),.int .i64 (j:Int),.pointer (some ⟨b7,0,none⟩),v8,v9,v10,v11,v12,v13,v14,v15,v16,v17,v18,v19,v20,v21,v22,v23,v24,v25,v26,v27,v28,v29,.slice (some ⟨A + 1,0,none⟩) 5 5,.int .i64 5,.int .i64 (r:Int),.bool true,.int .i64 (r:Int),.pointer (some ⟨A + 1,r,none⟩),.func (.func g) #[] lb,.agg (jF s).toArray,.func (.func 130) #[] #[.pointer (some ⟨W.heap.size + 1 + 1,0,none⟩)],.int .i64 (j:Int),.agg (eF (s.os.getD j default)).toArray,v41,v42,v43,v44,v45,v46,v47,v48,v49,v50,v51],defers:=[] })∧OL s A (r:Int) g lb W.heap.size 0 (-1) w V∧jB w.heap.size W.heap.size ds V∧∀ i,i < j→mW s (4 + r) i=false)
       ?i1 ?i2 ?i3 ?i4 ?i5 ⟨HN0.out,HD6.out,fun i hi=>absurd hi (by omega)⟩ ?assign ?body ?done ?stop)
      case i1=>rintro j V X ⟨h1,h2,h3⟩ hk;exact ⟨h1.kept (by have:=TH.out;have:=HWW.out;omega) hk,h2.kept (by have:=TH.out;omega) hk,h3⟩
      case i2=>rintro V X ⟨j,h1,h2,h3⟩ hk;exact ⟨j,h1.kept (by have:=TH.out;have:=HWW.out;omega) hk,h2.kept (by have:=TH.out;omega) hk,h3⟩
      case i3=>rintro j a V X ⟨⟨b7,h0,ha⟩,h1,h2,h3⟩ hk;exact ⟨⟨b7,hk.cells h0,ha⟩,h1.kept (by have:=TH.out;have:=HWW.out;omega) hk,h2.kept (by have:=TH.out;omega) hk,h3⟩
      case i4=>rintro j V ⟨h1,h2,h3⟩;exact ⟨h1.it,HO.out.below h1.wg.below⟩
      case i5=>rintro V ⟨j,h1,h2,h3⟩;exact ⟨h1.it,HO.out.below h1.wg.below⟩
      case assign =>
       intro l1 j V C hk hI hC
       have hx:s.os[j]?=some (s.os.getD j default):=by rw [aS,aJ hk];rfl
       obtain ⟨b,off,e,hat⟩:=HO.out j _ hx
       simp only [uU]
       have HA:Hid (∀ (X:World) (b7:Nat),X.heap[b7]?=some (.cells (eF (s.os.getD j default)).toArray 73 (0,0))→∃ c7,X.heap[c7]?=some (.cells (eF (s.os.getD j default)).toArray 73 (0,0))∧({ tmps:=#[v0,.pointer (some ⟨w.heap.size,0,none⟩),.pointer (some ⟨w.heap.size + 1,0,none⟩),.pointer (some ⟨w.heap.size + 1 + 1,0,none⟩),.pointer (some ⟨W.heap.size,0,none⟩),.pointer (some ⟨W.heap.size + 1,0,none⟩),.int .i64 (j:Int),.pointer (some ⟨b7,0,none⟩),v8,v9,v10,v11,v12,v13,v14,v15,v16,v17,v18,v19,v20,v21,v22,v23,v24,v25,v26,v27,v28,v29,.slice (some ⟨A + 1,0,none⟩) 5 5,.int .i64 5,.int .i64 (r:Int),.bool true,.int .i64 (r:Int),.pointer (some ⟨A + 1,r,none⟩),.func (.func g) #[] lb,.agg (jF s).toArray,.func (.func 130) #[] #[.pointer (some ⟨W.heap.size + 1 + 1,0,none⟩)],.int .i64 (j:Int),.agg (eF (s.os.getD j default)).toArray,v41,v42,v43,v44,v45,v46,v47,v48,v49,v50,v51],defers:=[] }:Act)={ tmps:=#[v0,.pointer (some ⟨w.heap.size,0,none⟩),.pointer (some ⟨w.heap.size + 1,0,none⟩),.pointer (some ⟨w.heap.size + 1 + 1,0,none⟩),.pointer (some ⟨W.heap.size,0,none⟩),.pointer (some ⟨W.heap.size + 1,0,none⟩),.int .i64 (j:Int),.pointer (some ⟨c7,0,none⟩),v8,v9,v10,v11,v12,v13,v14,v15,v16,v17,v18,v19,v20,v21,v22,v23,v24,v25,v26,v27,v28,v29,.slice (some ⟨A + 1,0,none⟩) 5 5,.int .i64 5,.int .i64 (r:Int),.bool true,.int .i64 (r:Int),.pointer (some ⟨A + 1,r,none⟩),.func (.func g) #[] lb,.agg (jF s).toArray,.func (.func 130) #[] #[.pointer (some ⟨W.heap.size + 1 + 1,0,none⟩)],.int .i64 (j:Int),.agg (eF (s.os.getD j default)).toArray,v41,v42,v43,v44,v45,v46,v47,v48,v49,v50,v51],defers:=[] }):=aA (fun X b7 h=>⟨b7,h,rfl⟩)
       obtain ⟨x,QT⟩:∃ x,s.os.getD j default=x:=⟨_,rfl⟩
       rw [QT] at hat hx HA ⊢
       have nM:=aA (show (Tryz.prog.info? 73).map (·.size)=some (eF x).toArray.size by rw [aL,eZ hat.wf];kernel_rfl)
       have HL:=aA (show 19=(eF x).toArray.size by rw [aL,eZ hat.wf])
       have mY:=aA (mF x)
       have HB:Hid (Below V.heap.size V (V.alloc (.cells (eF x).toArray 73))):=aA ((aI _ V).alloc (aB _) _)
       have qD:=aA (aG V (.cells (eF x).toArray 73))
       have HXX:=aA QT
       clear hat hx QT e eg
       gi_wp2_with (refine kI (fun _=>trivial) rfl 73 (.tmp 7) (.tmp 40) rfl V.heap.size _ _ (eF x).toArray rfl rfl rfl nM.out HL.out mY.out ?_)
       refine hC _ _ (kS HB.out _) ⟨by rw [HXX.out];exact HA.out _ _ qD.out,hI.1.up HB.out,hI.2.1.keeps (kS HB.out _),hI.2.2⟩
      case body =>
       rintro l1 j a' V hk ⟨⟨b7,h7,ha⟩,hn,hdd,hpre⟩
       subst ha
       have hx:s.os[j]?=some (s.os.getD j default):=by rw [aS,aJ hk];rfl
       obtain ⟨x,QT⟩:∃ x,s.os.getD j default=x:=⟨_,rfl⟩
       rw [QT] at h7 hx ⊢
       have iQ:=HO.out.below hn.wg.below
       have HOX:=aA (iQ.wf hx).1
       have HR:Hid (V.rangeAt b7 0 (eF x)):=aA (fun i v hi=>by
        rw [aF _ _ _ _ _ _ h7,bB]
        simpa using hi)
       have kZ:=aA (show (Tryz.prog.info? 73).map (·.size)=some (eF x).length by rw [eZ HOX.out];kernel_rfl)
       have HC:=aA (HDU.out x j A V HS.out hn.wg.dsc iQ hx)
       have HBD:=aA (Db Gf HS.out HOX.out hx jY.out HQ.out)
       obtain ⟨c4,c5⟩:=hn.facts
       have TI:=aA hn
       have KZ:=aA hdd
       have HPRE:=aA hpre
       have HK:=aA hk
       rw [HLB.out] at HC
       obtain ⟨ok,hok⟩:∃ b,RG s r x j=b:=⟨_,rfl⟩
       rw [hok] at HC HBD
       clear hok h7 hx QT hpre hn hdd hk iQ
       gi_wp2_with (refine kV (fun _=>trivial) rfl 73 (.tmp 7) rfl b7 0 rfl (eF x) _ HR.out bV rfl kZ.out ?_)
       refine ⟨trivial,CallsIn.mono (CallsIn.inRound l1 (aW.2 HC.out)) ?_⟩
       rintro e V8 ⟨rfl,hb⟩
       have HN8:=aA (TI.out.up hb)
       have HD8:=aA (KZ.out.keeps (kS hb _))
       have Gx:=aA (kS hb W6.heap.size)
       obtain ⟨e4,e5⟩:=HN8.out.facts
       obtain ⟨e1,e2,f1,f2⟩:=HN8.out.wg.facts
       clear hb c4 c5 HC HR
       cases ok with
       | true =>
        gi_wp2
        refine ⟨Gx.out,HN8.out,HD8.out,fun i hi=>?_⟩
        by_cases hij:i < j
        ·exact HPRE.out i hij
        ·rw [show i=j by omega]
         exact HBD.out
       | false =>
        have HP:=aA (HN8.out.put (x2:=4 + (r:Int)) (y2:=(j:Int)))
        have HKS:Hid (KeepsFrom 0 V8 ((V8.setCell ⟨w.heap.size + 1,0,none⟩ (.int .i64 (4 + (r:Int)))).setCell ⟨w.heap.size + 1 + 1,0,none⟩ (.int .i64 (j:Int)))):=aA (((KeepsOthers.setCell _ _ _).trans (KeepsOthers.setCell _ _ _)).from _)
        have HKS2:Hid (KeepsFrom W6.heap.size V8 ((V8.setCell ⟨w.heap.size + 1,0,none⟩ (.int .i64 (4 + (r:Int)))).setCell ⟨w.heap.size + 1 + 1,0,none⟩ (.int .i64 (j:Int)))):=aA (((KeepsOthers.setCell _ _ _).trans (KeepsOthers.setCell _ _ _)).from _)
        have HKS3:Hid (KeepsFrom w.heap.size V8 ((V8.setCell ⟨w.heap.size + 1,0,none⟩ (.int .i64 (4 + (r:Int)))).setCell ⟨w.heap.size + 1 + 1,0,none⟩ (.int .i64 (j:Int)))):=aA (((KeepsOthers.setCell _ _ _).trans (KeepsOthers.setCell _ _ _)).from _)
        gi_wp2
        exact ⟨rfl,Gx.out.trans HKS2.out,j,HP.out,HD8.out.keeps HKS3.out,AO HK.out HPRE.out HBD.out⟩
      case done =>
       rintro D V hD ⟨hn,hdd,hpre⟩ hdef
       have HB0:Hid (lL s (4 + r)=none):=aA (AP hpre)
       have TI:=aA hn
       have HDN:Hid (jB w.heap.size V.heap.size ({ target:=.collected D,args:=#[] } :: ds) V):=aA ((hdd.cons (by have:=TH.out;have:=HWW.out;omega) (by have:=TH.out;omega) hdef).wide (aC.1 hdef).1)
       clear hn hdd hpre hdef hD eg
       go_wp2_with fail
       refine Handed.intro (5 - (r + 1)) (by omega) (HJ.out _ _ _ ⟨r + 1,_,_,_,_,_,_,_,_,_,_,_,_,_,_,_,_,_,_,_,_,_,_,_,_,_,_,_,_,_,_,_,_,_,_,_,_,_,_,_,_,_,_,_,_,_,_,_,rfl,by omega,fun q h1 h2=>?_,TI.out.wg,HDN.out,by rw [Int.natCast_add];rfl⟩)
       by_cases hqr:q < 4 + r
       ·exact HQ.out q h1 hqr
       ·rw [show q=4 + r by omega]
        exact HB0.out
      case stop =>
       rintro D V hD ⟨j,hn,hdd,hbad⟩ hdef
       have HR:Hid (gL s=(4 + (r:Int),(j:Int))):=aA (by
        rw [IE HZ0.out jY.out H16.out (by omega) (by omega) HQ.out hbad]
        simp)
       have HIW:=aA hn.wg
       have HDN:Hid (jB w.heap.size V.heap.size ({ target:=.collected D,args:=#[] } :: ds) V):=aA ((hdd.cons (by have:=TH.out;have:=HWW.out;omega) (by have:=TH.out;omega) hdef).wide (aC.1 hdef).1)
       obtain ⟨e1,e2,f1,f2⟩:=hn.wg.facts
       clear hn hdd hbad hdef hD eg
       refine bG.2 ?_
       go_wp2_with fail
       refine wp_region_noPanic ?_
       refine (bG (n:=5)).1 ?_
       refine jT (S:=fun X=>X.cell? ⟨w.heap.size + 1,0,none⟩=some (.int .i64 (4 + (r:Int)))∧X.cell? ⟨w.heap.size + 1 + 1,0,none⟩=some (.int .i64 (j:Int))) (Z:=[]) (by kernel_rfl) ?_
       refine gQ (fun _=>trivial) [] 0 (?_) (by kernel_rfl) rfl (by kernel_rfl) (fun _ _ _ h=>h) ⟨e1,e2⟩ (by kernel_rfl) ?_ ?_
       rotate_left
       ·intro wz hSw;obtain ⟨q1,q2⟩:=hSw;(first | (go_simp;done) | (go_simp;with_reducible rfl))
       try simp only [aQ]
       refine gQ (fun _=>trivial) [] 1 (?_) (by kernel_rfl) rfl (by kernel_rfl) (fun _ _ _ h=>h) ⟨e1,e2⟩ (by kernel_rfl) ?_ ?_
       rotate_left
       ·intro wz hSw;obtain ⟨q1,q2⟩:=hSw;(first | (go_simp;done) | (go_simp;with_reducible rfl))
       try simp only [aQ]
       refine iZ (fun _=>trivial) 2 (by kernel_rfl) rfl (fun K hK=>?_)
       go_simp
       refine hK.out _ _ (fun _=>by constructor <;> simp [go_sem, *]) ?_
       clear hK K
       try simp only [aQ]
       refine iZ (fun _=>trivial) 3 (by kernel_rfl) rfl (fun K hK=>?_)
       go_simp
       refine hK.out _ _ (fun _=>by constructor <;> simp [go_sem, *]) ?_
       clear hK K
       try simp only [aQ]
       refine lS (by kernel_rfl) ?_ _
       refine NoPanic.normal ?_
       go_wp2_with fail
       have HP:=aA ((HIW.out.put (x2:=(4 + (r:Int))) (y2:=(j:Int))).drew)
       refine sU (B:=w.heap.size) (hi:=V.heap.size) (HDN.out.keeps ((((KeepsOthers.setCell _ _ _).trans (KeepsOthers.setCell _ _ _)).from _).trans (zH _ _))) (fun X hk=>?_)
       have oJ:=HP.out.kept (aB _) hk
       obtain ⟨d1,d2,_,_⟩:=oJ.facts
       have vR:=aA oJ.below
       clear oJ hk
       refine ⟨.tuple #[.int .i64 (4 + (r:Int)),.int .i64 (j:Int)],?_,by rw [HR.out],vR.out⟩
       simp [results,Tryz.results61,go_sem, *]
     ·obtain rfl:r=5:=by omega
      have t1:¬ ((5:Nat):Int) < 5:=by omega
      have HR:Hid (gL s=(0,-1)):=aA (CX HZ0.out jY.out H16.out (fun q h1 h2=>HQ.out q h1 (by omega)))
      have HIW:=aA HI.out
      have HDN:=aA HD.out
      obtain ⟨e1,e2,f1,f2⟩:=HI.out.facts
      go_wp2_with fail
      refine wp_region_noPanic ?_
      refine (bG (n:=5)).1 ?_
      refine jT (S:=fun X=>X.cell? ⟨w.heap.size + 1,0,none⟩=some (.int .i64 0)∧X.cell? ⟨w.heap.size + 1 + 1,0,none⟩=some (.int .i64 (-1))) (Z:=[]) (by kernel_rfl) ?_
      refine gQ (fun _=>trivial) [] 0 (?_) (by kernel_rfl) rfl (by kernel_rfl) (fun _ _ _ h=>h) ⟨e1,e2⟩ (by kernel_rfl) ?_ ?_
      rotate_left
      ·intro wz hSw;obtain ⟨q1,q2⟩:=hSw;(first | (go_simp;done) | (go_simp;with_reducible rfl))
      try simp only [aQ]
      refine gQ (fun _=>trivial) [] 1 (?_) (by kernel_rfl) rfl (by kernel_rfl) (fun _ _ _ h=>h) ⟨e1,e2⟩ (by kernel_rfl) ?_ ?_
      rotate_left
      ·intro wz hSw;obtain ⟨q1,q2⟩:=hSw;(first | (go_simp;done) | (go_simp;with_reducible rfl))
      try simp only [aQ]
      refine iZ (fun _=>trivial) 2 (by kernel_rfl) rfl (fun K hK=>?_)
      go_simp
      refine hK.out _ _ (fun _=>by constructor <;> simp [go_sem, *]) ?_
      clear hK K
      try simp only [aQ]
      refine iZ (fun _=>trivial) 3 (by kernel_rfl) rfl (fun K hK=>?_)
      go_simp
      refine hK.out _ _ (fun _=>by constructor <;> simp [go_sem, *]) ?_
      clear hK K
      try simp only [aQ]
      refine lS (by kernel_rfl) ?_ _
      refine NoPanic.normal ?_
      go_wp2_with fail
      have HP:=aA ((HIW.out.put (x2:=0) (y2:=(-1))).drew)
      refine sU (B:=w.heap.size) (hi:=W.heap.size) (HDN.out.keeps ((((KeepsOthers.setCell _ _ _).trans (KeepsOthers.setCell _ _ _)).from _).trans (zH _ _))) (fun X hk=>?_)
      have oJ:=HP.out.kept (aB _) hk
      obtain ⟨d1,d2,_,_⟩:=oJ.facts
      have vR:=aA oJ.below
      clear oJ hk
      refine ⟨.tuple #[.int .i64 0,.int .i64 (-1)],?_,by rw [HR.out],vR.out⟩
      simp [results,Tryz.results61,go_sem, *]
def wP (b:Bool) (w:World) (e:Ending) (w':World):Prop:=e=.returned (.int .i64 (if b=true then 0 else 60))∧Below w.heap.size w w'
theorem NC (s:fH) (w:World) (hs:jE s) (h:fM w s.oo s.os) :
  Calls Tryz.prog 30 #[.agg (fZ s)] w (wP (JN s) w):=by
 have HI:=aA (XK.new h)
 have hall:=aA (PN hs)
 have HC:=aA (MX s _ hs HI.out.ob)
 clear h hs
 unfold wP
 cases hc:JN s
 ·have h0:¬ (gL s).1=0:=by simpa [JN] using hc
  have e:((if false=true then 0 else 60:Int))=60:=rfl
  rw [e]
  clear hc e
  unfold pF at HC
  generalize gL s=p at HC h0
  obtain ⟨p1,p2⟩:=p
  dsimp only at HC h0
  go_enter Tryz.func30,Tryz.ntmps30
  go_wp2_with (refine wpList_load_mid rfl 28 (.tmp 1) rfl w.heap.size 0 rfl (jF s) _ HI.out.all bA rfl hall.out ?_)
  refine HC.out.mono ?_
  rintro e w1 ⟨rfl,hb⟩
  have HB:=aA (dY HI.out.jI hb)
  clear hb
  go_wp2_with fail
  go_ret
  exact ⟨rfl,HB.out⟩
 ·have h0:(gL s).1=0:=by simpa [JN] using hc
  have e:((if true=true then 0 else 60:Int))=0:=rfl
  rw [e]
  clear hc e
  unfold pF at HC
  generalize gL s=p at HC h0
  obtain ⟨p1,p2⟩:=p
  dsimp only at HC h0
  subst h0
  go_enter Tryz.func30,Tryz.ntmps30
  go_wp2_with (refine wpList_load_mid rfl 28 (.tmp 1) rfl w.heap.size 0 rfl (jF s) _ HI.out.all bA rfl hall.out ?_)
  refine HC.out.mono ?_
  rintro e w1 ⟨rfl,hb⟩
  have HB:=aA (dY HI.out.jI hb)
  clear hb
  go_wp2_with fail
  go_ret
  exact ⟨rfl,HB.out⟩
end Fx
namespace Fx
open Go Go.RowKit Go.Shelf Wm
theorem nO {n:Nat} {P:Program} {ops:Array Oper} {Q:Exit→Act→World→Prop} {md:Region.Mode} {S:World→Prop} {Z:List Nat} (D:List Nat) (i:Nat) (f:FuncId) (args:Array Value) (v:Value) (s:Sound P ops Q S) {oi:Oper} {fuel:Nat} {listed:Array Bool} {a:Act} {w:World} (hi:ops[i]?=some oi)
  (hk:lQ md ops Z listed i D=true) (hS:S w) (hw:Region.wanted oi (yielded ops a.tmps)=true) (hv:∀ w,(execOp a.eval oi).run P w=.ok (.enter f args) w)
  (hc:∀ w,S w→Calls P f args w fun e w'=>e=.returned v∧Below w.heap.size w w')
  (h:∀ w3,S w3→iJ n P md ops Q S Z fuel (listed.setIfInBounds i true) (a.put oi.dst v) w3):iJ n P md ops Q S Z (fuel + 1) listed a w :=
 oV D i v s hi hk hS (Or.inl ⟨hw,fun w hS=>Or.inr ⟨f,args,hv w,hc w hS⟩⟩) h
end Fx
end Go.Proofs.YtbbhmhihpdmoiaaGreat
