import Derived.Test.YtbbhmhihpdmoiaaGreatJr10
set_option linter.unusedVariables false
set_option linter.unusedSimpArgs false
set_option maxRecDepth 100000
set_option maxHeartbeats 32000000
namespace Go.Proofs.YtbbhmhihpdmoiaaGreat
namespace Fx
open Go Go.RowKit Wm
def pE (x:Nat):Value:=.int .u64 (x:Int)
def eP (neg:Bool) (d:List Nat):Array Value:=(Value.bool neg :: d.map pE).toArray
theorem kC:∀ (xs ys:List Nat),xs.length=ys.length→((List.range xs.length).all fun i=>xs.getD i 0 == ys.getD i 0)=(xs == ys)
 | [],[],_=>rfl
 | x :: xs,y :: ys,h=>by
  have ih:=kC xs ys (by simpa using h)
  rw [bK,List.range_succ_eq_map,List.all_cons,List.all_map]
  simp only [List.getD_cons_zero,Function.comp_def,List.getD_cons_succ,ih]
  simp [List.cons_beq_cons]
 | [],_ :: _,h=>by simp at h
 | _ :: _,[],h=>by simp at h
theorem VQ (w:World) (d:Nat) (xs ys:List Nat) (hx:xs.length=20) (hy:ys.length=20) :
  (Op.equalIn (d + 2) 212 (.agg (xs.map pE).toArray) (.agg (ys.map pE).toArray)).run Tryz.prog w=.ok (xs == ys) w:=by
 have ht:=Tryz.underlying212
 have he:=Tryz.underlying89
 have hsz:=Tryz.sizeOf89
 rw [←kC xs ys (hx.trans hy.symm),hx,List.range_eq_range',Op.equalIn]
 simp only [Sem.run_bind,run_underlying ht,Result.andThen_ok,hsz,Std.Legacy.Range.forIn_eq_forIn_range',Std.Legacy.Range.size,Nat.sub_zero,dC,Nat.div_one]
 have hl:∀ i∈List.range' 0 20 1,i < 20:=fun i hi=>by simpa using (List.mem_range'_1.1 hi).2
 generalize List.range' 0 20 1=l at hl ⊢
 induction l with
 | nil=>simp
 | cons i l ih =>
  have hi:i < 20:=hl i (by simp)
  have px:(part 89 (xs.map pE).toArray (i * 1)).run Tryz.prog w=.ok (pE (xs.getD i 0)) w:=by
   simp [part,isAgg,run_underlying he,List.getD,aJ (show i < xs.length by omega)]
  have py:(part 89 (ys.map pE).toArray (i * 1)).run Tryz.prog w=.ok (pE (ys.getD i 0)) w:=by
   simp [part,isAgg,run_underlying he,List.getD,aJ (show i < ys.length by omega)]
  have pe:(Op.equalIn (d + 1) 89 (pE (xs.getD i 0)) (pE (ys.getD i 0))).run Tryz.prog w=.ok (xs.getD i 0 == ys.getD i 0) w:=by
   rw [pE,pE,run_equalIn_int w d 89 .u64 .u64 _ _ he]
   congr 1
   rw [Bool.eq_iff_iff,beq_iff_eq,beq_iff_eq]
   omega
  simp only [List.forIn_cons,Sem.run_bind,px,py,pe,Result.andThen_ok,List.all_cons]
  cases hb:(xs.getD i 0 == ys.getD i 0)
  ·simp
  ·simp only [Bool.not_true,bE,if_false,Sem.run_pure,Result.andThen_ok,Bool.true_and]
   exact ih fun j hj=>hl j (by simp [hj])
theorem Cv (w:World) (xs ys:List Nat) (hx:xs.length=20) (hy:ys.length=20) :
  (binOp .eql 212 (.agg (xs.map pE).toArray) (.agg (ys.map pE).toArray)).run Tryz.prog w=.ok (.bool (xs == ys)) w:=by
 rw [run_eql_struct,VQ w 9998 xs ys hx hy]
 rfl
def zeros:List Nat:=List.replicate 20 0
theorem Qb:(Tryz.prog.info? 212).map (·.size)=some 20:=by kernel_rfl
theorem ZZ {w:World} {b:Nat} {neg:Bool} {d:List Nat} {t:TypeId} (hb:w.heap[b]?=some (.cells (eP neg d) t (0,0))):w.rangeAt b 1 (d.map pE):=by
 intro j v hv
 rw [aF w b (1 + j) _ _ _ hb]
 unfold eP
 rw [List.getElem?_toArray,Nat.add_comm,List.getElem?_cons_succ]
 exact hv
theorem MJ:(Tryz.prog.info? 214).map (·.size)=some 21:=by kernel_rfl
theorem sF (neg:Bool) (d:List Nat):(eP neg d).size=d.length + 1:=by simp [eP]
theorem gV (neg:Bool) (d:List Nat):(eP neg d).all (·.oneCell')=true:=by
 rw [Array.all_eq_true_iff_forall_mem]
 intro v hv
 simp only [eP,List.mem_toArray,List.mem_cons,List.mem_map] at hv
 rcases hv with rfl | ⟨x,_,rfl⟩ <;> rfl
theorem dQ {P:Program} {ops:Array Oper} {rest:List Oper} {op:Oper} {a:Act} {w:World} {Q:Exit→Act→World→Prop} (hgd:op.guard=none) (ty:TypeId) (x y:Operand) (ho:op.op=.store ty x y)
  (g:Nat) (t:TypeId) (c c':Array Value) (hx:a.eval x=.pointer (some ⟨g,0,none⟩)) (hy:a.eval y=.agg c') (hg:w.heap[g]?=some (.cells c t (0,0)))
  (hi:(P.info? ty).map (·.size)=some c'.size) (hs:c.size=c'.size) (h1:c'.all (·.oneCell')=true)
  (h:wpList P ops Q rest (a.put op.dst undef) (w.setRow g c')):wpList P ops Q (op :: rest) a w:=by
 refine wpList_plain hgd fun K hK=>?_
 unfold Oper.wp execOp
 simp only [ho,hx,hy,Instr.storeAt,Instr.sureAddr,Sem.run_bind,Sem.run_pure,Result.andThen_ok,run_storeVar_row w g t ty c c' hg hi hs h1]
 exact hK _ _ h
theorem Below.row {B:Nat} {a w:World} (h:Below B a w) {g:Nat} (hg:B≤g) (c:Array Value):Below B a (w.setRow g c) :=
 ⟨h.os,h.tape,h.output,by simpa using h.size,fun k hk=>(setRow_other w g k c (by omega)).trans (h.block k hk)⟩
theorem mG (neg:Bool) (d:List Nat) (w:World) (hd:d.length=20) :
  Calls Tryz.prog 164 #[.agg (eP neg d)] w fun e w'=>e=.returned (.bool (d == zeros))∧Below w.heap.size w w':=by
 have hq:∀ w,(binOp .eql 212 (.agg (d.map pE).toArray) (.agg #[.int .u64 0,.int .u64 0,.int .u64 0,.int .u64 0,.int .u64 0,.int .u64 0,.int .u64 0,.int .u64 0,.int .u64 0,.int .u64 0,.int .u64 0,.int .u64 0,.int .u64 0,.int .u64 0,.int .u64 0,.int .u64 0,.int .u64 0,.int .u64 0,.int .u64 0,.int .u64 0])).run Tryz.prog w=.ok (.bool (d == zeros)) w:=fun w=>Cv w d zeros hd rfl
 have hI:(Tryz.prog.info? 212).map (·.size)=some (d.map pE).length:=by rw [Qb,bI,hd]
 have hR:(w.alloc (.cells (eP neg d) 214)).rangeAt w.heap.size 1 (d.map pE):=ZZ (aG w _)
 clear hd
 go_enter Tryz.func164,Tryz.ntmps164
 go_wp2_with (refine wpList_load_mid rfl 212 (.tmp 3) rfl w.heap.size 1 rfl (d.map pE) _ hR Tryz.underlying212 rfl hI ?_)
 go_ret
 exact ⟨rfl,by go_grown⟩
end Fx
namespace Fx
open Go Go.RowKit Go.Shelf
attribute [local go_sem] Oper.semAt_some
def encI (x:Int):Value:=.int .i64 x
def Em (m:List Int) (n b cap A:Nat) (X:World):Prop :=
 X.cell? ⟨A,0,none⟩=some (.slice (some ⟨b,0,none⟩) n cap)∧∀ j,j < 4 * n→X.cell? ⟨b,j,none⟩=some (.int .i64 (m.getD j 0))
def xU (m:List Int) (k:Nat):Array Value:=#[.agg #[.int .i64 ((k / 4:Nat):Int),.int .i64 ((k % 4:Nat):Int)],.int .i64 (m.getD k 0)]
theorem Ps (x0 x1 x2 x3:Int) (c:Nat) (h:c < 4) (w:World):(Instr.index 23 (.agg #[.int .i64 x0,.int .i64 x1,.int .i64 x2,.int .i64 x3]) (.int .i64 (c:Int))).run Tryz.prog w=.ok (.int .i64 ([x0,x1,x2,x3].getD c 0)) w:=by
 have hd:c=0∨c=1∨c=2∨c=3:=by omega
 rcases hd with rfl | rfl | rfl | rfl <;> (show _=_;kernel_rfl)
theorem tK (m:List Int) (n b cap A:Nat) (hn:n≤4) :
  Hands Fence.wide 4 Tryz.prog 149 #[.pointer (some ⟨A,0,none⟩)] (xU m) (4 * n) (Em m n b cap A):=by
 intro l J Jx W QU hJ2 GU vK hY h0
 obtain ⟨cA,_⟩:=GU 0 W h0
 have HY:=aA hY;clear hY
 have TL:=aA QU;clear QU
 have HJ2:=aA hJ2;clear hJ2
 have Gy:=aA GU;clear GU
 have Fp:=aA vK;clear vK
 refine callsIn_of_wp Tryz.func149 rfl trivial ?_ rfl
 simp only [Tryz.ntmps149,aL,bK,List.length_nil,Nat.reduceAdd,Nat.reduceSub,Array.replicate_succ,Array.replicate_zero,List.push_toArray,List.append_toArray,bX,bT]
 gi_wp2
 gi_loopw [9] (fun v9 wr=>∃ r:Nat,v9=.int .i64 (r:Int)∧r≤n∧J (r * 4) wr) (fun v9 _=>n - (intOf v9).toNat)
 case atStart=>exact ⟨0,rfl,by omega,h0⟩
 case round =>
  clear cA
  obtain ⟨r,rfl,hrn,hJ⟩:=hrel
  by_cases hr:r < n
  ·obtain ⟨_,hc⟩:=Gy.out _ wr hJ
   have q0:=hc (r * 4) (by omega)
   have q1:=hc (r * 4 + 1) (by omega)
   have q2:=hc (r * 4 + 2) (by omega)
   have q3:=hc (r * 4 + 3) (by omega)
   clear hc
   obtain ⟨x0,hx0⟩:∃ x,m.getD (r * 4) 0=x:=⟨_,rfl⟩
   obtain ⟨x1,hx1⟩:∃ x,m.getD (r * 4 + 1) 0=x:=⟨_,rfl⟩
   obtain ⟨x2,hx2⟩:∃ x,m.getD (r * 4 + 2) 0=x:=⟨_,rfl⟩
   obtain ⟨x3,hx3⟩:∃ x,m.getD (r * 4 + 3) 0=x:=⟨_,rfl⟩
   rw [hx0] at q0
   rw [hx1] at q1
   rw [hx2] at q2
   rw [hx3] at q3
   have hrow:∀ c,c < 4→m.getD (r * 4 + c) 0=[x0,x1,x2,x3].getD c 0:=by
    intro c hc
    have hd:c=0∨c=1∨c=2∨c=3:=by omega
    rcases hd with rfl | rfl | rfl | rfl
    ·exact hx0
    ·exact hx1
    ·exact hx2
    ·exact hx3
   have HROW:=aA hrow
   clear hrow hx0 hx1 hx2 hx3
   have r0:(0:Int)≤(r:Int):=by omega
   have r1:(r:Int) < (n:Int):=by omega
   have r2:(r:Int) < 4:=by omega
   gi_wp2
   have hJV:=TL.out _ _ (wr.alloc (.cells #[.int .i64 x0,.int .i64 x1,.int .i64 x2,.int .i64 x3] 23)) hJ ((aI _ wr).alloc (aB _) _)
   generalize wr.alloc (.cells #[.int .i64 x0,.int .i64 x1,.int .i64 x2,.int .i64 x3] 23)=V at hJV ⊢
   clear q0 q1 q2 q3
   gi_loopw [15] (fun v15 wx=>∃ c:Nat,v15=.int .i64 (c:Int)∧c≤4∧J (r * 4 + c) wx) (fun v15 _=>4 - (intOf v15).toNat)
   case atStart=>exact ⟨0,rfl,by omega,hJV⟩
   case round =>
    rename_i wx _ _ _ _ _ _ _ _ _ _ _ _ _
    obtain ⟨c,rfl,hc4,Ve⟩:=hrel
    by_cases hc:c < 4
    ·obtain ⟨fn,tmps,assign,body,hy,hR⟩:=HY.out (r * 4 + c) _ (by omega) Ve
     simp only [xU,show (r * 4 + c) / 4=r from by omega,show (r * 4 + c) % 4=c from by omega,HROW.out c hc] at hy
     have hix:=Ps x0 x1 x2 x3 c hc
     generalize [x0,x1,x2,x3].getD c 0=x at hy hix
     have c0:(0:Int)≤(c:Int):=by omega
     have c1:(c:Int) < 4:=by omega
     gi_wp2
     refine hR.mono ?_
     rintro e W3 (⟨rfl,hJ3⟩ | ⟨rfl,hJx3⟩)
     ·gi_wp2
      go_roundw
      case rel=>exact ⟨c + 1,by go_num,by omega,hJ3⟩
      case measure=>simp [intOf];omega
     ·gi_wp2
      refine aO (results_none rfl _ _ _) rfl ?_
      exact ⟨⟨_,rfl⟩,.inr hJx3⟩
    ·have hce:c=4:=by omega
     subst hce
     have Zq:J ((r + 1) * 4) wr:=by rw [show (r + 1) * 4=r * 4 + 4 from by omega];exact Ve
     have XO:=aA Zq
     clear Zq
     gi_wp2
     go_roundw
     case rel=>exact ⟨r + 1,by go_num,by omega,XO.out⟩
     case measure=>simp [intOf];omega
  ·have hrm:r=n:=by omega
   have hnlt:¬ (r:Int) < (n:Int):=by omega
   have HJN:Hid (J (4 * n) wr):=aA (by rw [show 4 * n=r * 4 from by omega];exact hJ)
   clear hrm
   gi_wp2
   go_end0
   exact ⟨⟨_,rfl⟩,.inl HJN.out⟩
theorem DN (oa:Option Addr) (la ca:Nat) (w:World):Calls Tryz.prog 140 #[.slice oa la ca] w fun e w' =>
  e=.returned (.func (.func 149) #[] #[.pointer (some ⟨w.heap.size,0,none⟩)])∧w'=w.alloc (.cells #[.slice oa la ca] 171):=by
 go_enter Tryz.func140,Tryz.ntmps140
 go_wp2
 go_ret
 exact ⟨rfl,rfl⟩
attribute [local go_sem] Oper.semAt_some
def okB (bound x:Int):Bool:=decide (0≤bound∧-bound≤x∧x≤bound)
def wB (bound:Int) (m:List Int) (k:Nat):Bool:=(List.range k).all fun j=>okB bound (m.getD j 0)
theorem OY (bound:Int) (m:List Int) (k:Nat):wB bound m (k + 1)=(wB bound m k && okB bound (m.getD k 0)):=by simp [wB,List.range_succ]
theorem yM {bound:Int} {m:List Int} {k n:Nat} (h:k < n) (hk:okB bound (m.getD k 0)=false):wB bound m n=false:=by
 unfold wB
 rw [List.all_eq_false]
 exact ⟨k,by simpa using h,by rw [hk];simp⟩
theorem nA {bound:Int} {m:List Int} {k:Nat}:wB bound m k=true↔∀ j,j < k→0≤bound∧-bound≤m.getD j 0∧m.getD j 0≤bound:=by simp [wB,okB]
structure WM (bound:Int) (b:Bool) (n g cap:Nat) (w W:World):Prop where
 a:W.heap[w.heap.size]?=some (.cells #[.int .i64 bound] 2 (0,0))
 b:W.heap[w.heap.size + 1]?=some (.cells #[.bool b] 4 (0,0))
 r:W.heap[w.heap.size + 1 + 1]?=some (.cells #[.slice (some ⟨g,0,none⟩) n cap] 171 (0,0))
 below:Below w.heap.size w W
theorem WM.kept {bound:Int} {b:Bool} {n g cap B:Nat} {w W X:World} (hB:w.heap.size≤B) (k:Kept B W X) (s:WM bound b n g cap w W):WM bound b n g cap w X:=⟨k.cells s.a,k.cells s.b,k.cells s.r,k.below hB s.below⟩
def sJ (m:List Int) (n g:Nat) (X:World):Prop:=∀ j,j < 4 * n→X.cell? ⟨g,j,none⟩=some (.int .i64 (m.getD j 0))
theorem sJ.below {m:List Int} {n g:Nat} {w X:World} (h:Below w.heap.size w X) (s:sJ m n g w):sJ m n g X:=fun j hj=>dN h (s j hj)
theorem WM.reads {bound:Int} {b:Bool} {n g cap:Nat} {m:List Int} {w W:World} (s:WM bound b n g cap w W) (hm:sJ m n g w):Em m n g cap (w.heap.size + 1 + 1) W :=
 ⟨by rw [aF _ _ _ _ _ _ s.r];rfl,hm.below s.below⟩
theorem WM.facts {bound:Int} {b:Bool} {n g cap:Nat} {w W:World} (s:WM bound b n g cap w W) :
  W.cell? ⟨w.heap.size,0,none⟩=some (.int .i64 bound)∧W.cell? ⟨w.heap.size + 1,0,none⟩=some (.bool b)∧W.frozen? ⟨w.heap.size + 1,0,none⟩=false :=
 ⟨by rw [aF _ _ _ _ _ _ s.a];rfl,by rw [aF _ _ _ _ _ _ s.b];rfl,dU s.b⟩
theorem WM.set {bound:Int} {b c:Bool} {n g cap:Nat} {w W:World} (s:WM bound b n g cap w W):WM bound c n g cap w (W.setCell ⟨w.heap.size + 1,0,none⟩ (.bool c)) :=
 ⟨by rw [aH _ _ _ _ (by show _≠w.heap.size + 1;omega)];exact s.a,aK _ _ 0 _ _ _ s.b,by rw [aH _ _ _ _ (by show _≠w.heap.size + 1;omega)];exact s.r,
  s.below.setCell (p:=⟨w.heap.size + 1,0,none⟩) (by show _≤w.heap.size + 1;omega) _⟩
def WI (bound:Int) (m:List Int) (n g cap:Nat) (w:World) (k:Nat) (W:World):Prop:=wB bound m k=true∧WM bound true n g cap w W
def WX (bound:Int) (m:List Int) (n g cap:Nat) (w:World) (W:World):Prop:=wB bound m (4 * n)=false∧WM bound false n g cap w W
def WA (bound:Int) (m:List Int) (n g cap:Nat) (w:World) (k:Nat) (a:Act):Prop :=
 a={ tmps:=#[.int .i64 bound,.slice (some ⟨g,0,none⟩) n cap,.pointer (some ⟨w.heap.size,0,none⟩),undef,.bool false,.pointer (some ⟨w.heap.size + 1,0,none⟩),undef,.int .i64 (m.getD k 0),.slice (some ⟨g,0,none⟩) n cap,
  .func (.func 149) #[] #[.pointer (some ⟨w.heap.size + 1 + 1,0,none⟩)],.agg #[.int .i64 ((k / 4:Nat):Int),.int .i64 ((k % 4:Nat):Int)],.int .i64 (m.getD k 0),undef,undef,undef,undef,undef,undef,undef,undef,undef,undef,undef,undef,undef,undef],defers:=[] }
def gH (b:Bool) (w:World) (e:Ending) (w':World):Prop:=e=.returned (.bool b)∧Below w.heap.size w w'
theorem jU (w:World) (A B C:Obj):(((w.alloc A).alloc B).alloc C).heap[w.heap.size]?=some A∧(((w.alloc A).alloc B).alloc C).heap[w.heap.size + 1]?=some B∧(((w.alloc A).alloc B).alloc C).heap[w.heap.size + 1 + 1]?=some C:=by
 have h0:=aG w A
 have h1:=aG (w.alloc A) B
 have h2:=aG ((w.alloc A).alloc B) C
 simp only [aR] at h1 h2
 exact ⟨dW (dW h0),dW h1,h2⟩
theorem tX (bound:Int) (m:List Int) (n g cap:Nat) (w:World) (hn:n≤4) (b0:-9223372036854775808≤bound) (b1:bound≤9223372036854775807) (hm:sJ m n g w) :
  Calls Tryz.prog 117 #[.int .i64 bound,.slice (some ⟨g,0,none⟩) n cap] w (gH (wB bound m (4 * n)) w):=by
 have HM:=aA hm;clear hm
 refine (aW (n:=5)).1 ?_
 refine callsIn_of_wp_marks Tryz.func117 rfl trivial ?_ rfl
 simp only [Tryz.ntmps117,aL,bK,List.length_nil,Nat.reduceAdd,Nat.reduceSub,Array.replicate_succ,Array.replicate_zero,List.push_toArray,List.append_toArray,bX,bT]
 refine bG.2 ?_
 go_wp2_with fail
 go_step3
 go_wp2_with fail
 go_step3
 go_wp2_with fail
 refine (DN _ _ _ _).mono ?_
 rintro e w' ⟨rfl,rfl⟩
 go_wp2_with fail
 obtain ⟨W0,hW0⟩:∃ W0,(((w.alloc (.cells #[.int .i64 bound] 2)).alloc (.cells #[.bool true] 4)).alloc (.cells #[.slice (some ⟨g,0,none⟩) n cap] 171))=W0:=⟨_,rfl⟩
 have hB0:Below w.heap.size w W0:=by rw [←hW0];go_grown
 have hS0:W0.heap.size=w.heap.size + 3:=by rw [←hW0];simp
 have wm0:WM bound true n g cap w W0:=by
  rw [←hW0]
  exact ⟨(jU w _ _ _).1,(jU w _ _ _).2.1,(jU w _ _ _).2.2,by rw [hW0];exact hB0⟩
 rw [hW0]
 clear hW0
 have LB:WI bound m n g cap w 0 W0:=⟨rfl,wm0⟩
 clear wm0
 refine bG.1 (jO (F:=Fence.wide) (n:=5) rfl (by omega) (gf:=149) (lb:=#[.pointer (some ⟨w.heap.size + 1 + 1,0,none⟩)]) rfl trivial (enters_of Tryz.func149 (by kernel_rfl) rfl)
  (tK m n g cap (w.heap.size + 1 + 1) hn) (fun _=>rfl) 0 (WI bound m n g cap w) (WX bound m n g cap w) (fun k a' W=>WA bound m n g cap w k a'∧WI bound m n g cap w k W)
  ?i1 ?i2 ?i3 ?i4 ?i5 LB ?assign ?body ?done ?stop)
 case i1=>rintro k W X ⟨h1,h4⟩ hk;exact ⟨h1,h4.kept (by omega) hk⟩
 case i2=>rintro W X ⟨h1,h4⟩ hk;exact ⟨h1,h4.kept (by omega) hk⟩
 case i3=>rintro k a W X ⟨h0,h1,h4⟩ hk;exact ⟨h0,h1,h4.kept (by omega) hk⟩
 case i4=>rintro k W ⟨h1,h4⟩;exact h4.reads HM.out
 case i5=>rintro W ⟨h1,h4⟩;exact h4.reads HM.out
 case assign =>
  intro l k W C hk hI hC
  simp only [xU]
  gi_wp2
  exact hC _ _ (KeepsFrom.refl _ _) ⟨rfl,hI⟩
 case body =>
  rintro l k a' W hk ⟨ha,hw,wm⟩
  unfold WA at ha
  subst ha
  have hsucc:=OY bound m k
  obtain ⟨x,hxk⟩:∃ x,m.getD k 0=x:=⟨_,rfl⟩
  have HW:=aA hw
  have HSU:=aA hsucc
  have HXK:=aA hxk
  rw [hxk]
  obtain ⟨c0,c1,f1⟩:=wm.facts
  have WMH:=aA wm
  clear hw hsucc wm hxk
  by_cases t1:bound < 0
  ·have hno:Hid (okB bound (m.getD k 0)=false):=aA (by rw [HXK.out];unfold okB;simp;omega)
   gi_wp2
   exact ⟨rfl,(KeepsOthers.setCell _ _ _).from _,yM hk hno.out,WMH.out.set⟩
  by_cases t2:x < -bound
  ·have hno:Hid (okB bound (m.getD k 0)=false):=aA (by rw [HXK.out];unfold okB;simp;omega)
   have t1':0≤bound:=by omega
   gi_wp2
   exact ⟨rfl,(KeepsOthers.setCell _ _ _).from _,yM hk hno.out,WMH.out.set⟩
  by_cases t3:bound < x
  ·have hno:Hid (okB bound (m.getD k 0)=false):=aA (by rw [HXK.out];unfold okB;simp;omega)
   have t1':0≤bound:=by omega
   have t2':-bound≤x:=by omega
   gi_wp2
   exact ⟨rfl,(KeepsOthers.setCell _ _ _).from _,yM hk hno.out,WMH.out.set⟩
  have hyes:Hid (okB bound (m.getD k 0)=true):=aA (by rw [HXK.out];unfold okB;simp;omega)
  have t1':0≤bound:=by omega
  have t2':-bound≤x:=by omega
  have t3':x≤bound:=by omega
  gi_wp2
  exact ⟨KeepsFrom.refl _ _,by rw [HSU.out,HW.out,hyes.out];rfl,WMH.out⟩
 case done =>
  rintro D W hD ⟨hw,wm⟩ hdef
  obtain ⟨c0,c1,f1⟩:=wm.facts
  have HW:=aA hw
  have hB:=wm.below
  clear hw wm
  go_wp2_with fail
  rw [Exit.noGoto_ret]
  refine ⟨by simp,.inl ⟨_,_,rfl,run_takeDeferred hdef,?_⟩⟩
  exact ⟨_,results_tmp rfl _ _ _,by rw [HW.out];rfl,hB.trans (belowK_b (w:=w) (aB _) _ D _ _ (by omega) hdef rfl rfl)⟩
 case stop =>
  rintro D W hD ⟨hw,wm⟩ hdef
  obtain ⟨c0,c1,f1⟩:=wm.facts
  have HW:=aA hw
  have hB:=wm.below
  clear hw wm
  refine bG.2 ?_
  go_wp2_with fail
  rw [Exit.noGoto_ret]
  refine ⟨by simp,.inl ⟨_,_,rfl,run_takeDeferred hdef,?_⟩⟩
  exact ⟨_,results_tmp rfl _ _ _,by rw [HW.out];rfl,hB.trans (belowK_b (w:=w) (aB _) _ D _ _ (by omega) hdef rfl rfl)⟩
attribute [local go_sem] Oper.semAt_some
def mC (m:List Int):Array Value:=(m.map encI).toArray
theorem fT (m:List Int):(mC m).size=m.length:=by simp [mC]
theorem iY (m:List Int):(mC m).all (·.oneCell')=true:=by
 rw [Array.all_eq_true_iff_forall_mem]
 intro v hv
 simp only [mC,List.mem_toArray,List.mem_map] at hv
 obtain ⟨x,_,rfl⟩:=hv
 rfl
theorem wX (m:List Int) (j:Nat) (h:j < m.length):(mC m)[j]?=some (.int .i64 (m.getD j 0)):=by
 unfold mC
 rw [List.getElem?_toArray,cO]
 simp [aS,h,encI]
theorem FH (m:List Int) (j:Nat) (x:Int):(mC m).setIfInBounds j (.int .i64 x)=mC (m.set j x):=by
 unfold mC
 rw [List.setIfInBounds_toArray,List.map_set]
 rfl
def PH (m:List Int) (k:Nat):List Int:=(List.range 16).map fun p=>if p % 4 * 4 + p / 4 < k then m.getD (p % 4 * 4 + p / 4) 0 else 0
def tr (m:List Int):List Int:=(List.range 16).map fun p=>m.getD (p % 4 * 4 + p / 4) 0
theorem Ie (m:List Int) (k:Nat):(PH m k).length=16:=by simp [PH]
theorem tY (m:List Int):(tr m).length=16:=by simp [tr]
theorem Ig (m:List Int):PH m 16=tr m:=by
 unfold PH tr
 refine List.map_congr_left fun p hp=>?_
 rw [List.mem_range] at hp
 rw [aT (by omega)]
theorem YS (m:List Int) (k:Nat) (h:k < 16):(PH m k).set (k % 4 * 4 + k / 4) (m.getD k 0)=PH m (k + 1):=by
 refine List.ext_getElem (by simp [PH]) fun p h1 h2=>?_
 have hp:p < 16:=by simpa [PH] using h2
 rw [List.getElem_set]
 simp only [PH,List.getElem_map,List.getElem_range]
 by_cases e:k % 4 * 4 + k / 4=p
 ·have e2:p % 4 * 4 + p / 4=k:=by omega
  rw [aT e,e2,aT (by omega)]
 ·rw [aX e]
  have e2:p % 4 * 4 + p / 4≠k:=by omega
  by_cases e3:p % 4 * 4 + p / 4 < k
  ·rw [aT e3,aT (by omega)]
  ·rw [aX e3,aX (by omega)]
theorem YR (m:List Int):PH m 0=List.replicate 16 0:=by
 unfold PH
 simp only [Nat.not_lt_zero,if_false]
 rfl
theorem iW:(Tryz.prog.info? 25).map (·.size)=some 16:=by kernel_rfl
structure Gc (m:List Int) (k:Nat) (w W:World):Prop where
 a:W.heap[w.heap.size]?=some (.cells (mC m) 25 (0,0))
 r:W.heap[w.heap.size + 1]?=some (.cells (mC (List.replicate 16 0)) 25 (0,0))
 x:W.heap[w.heap.size + 1 + 1]?=some (.cells (mC (PH m k)) 25 (0,0))
 b:W.heap[w.heap.size + 1 + 1 + 1]?=some (.cells #[.slice (some ⟨w.heap.size,0,none⟩) 4 4] 171 (0,0))
 below:Below w.heap.size w W
theorem Gc.kept {m:List Int} {k B:Nat} {w W X:World} (hB:w.heap.size≤B) (h:Kept B W X) (s:Gc m k w W):Gc m k w X:=⟨h.cells s.a,h.cells s.r,h.cells s.x,h.cells s.b,h.below hB s.below⟩
theorem Gc.reads {m:List Int} {k:Nat} {w W:World} (hm:m.length=16) (s:Gc m k w W):Em m 4 w.heap.size 4 (w.heap.size + 1 + 1 + 1) W :=
 ⟨by rw [aF _ _ _ _ _ _ s.b];rfl,fun j hj=>by rw [aF _ _ _ _ _ _ s.a,wX _ _ (by omega)]⟩
theorem Gc.next {m:List Int} {k:Nat} {w W:World} (hk:k < 16) (s:Gc m k w W):Gc m (k + 1) w (W.setCell ⟨w.heap.size + 1 + 1,k % 4 * 4 + k / 4,none⟩ (.int .i64 (m.getD k 0))):=by
 refine ⟨?_,?_,?_,?_,s.below.setCell (p:=⟨w.heap.size + 1 + 1,k % 4 * 4 + k / 4,none⟩) (by show _≤w.heap.size + 1 + 1;omega) _⟩
 ·rw [aH _ _ _ _ (by show _≠w.heap.size + 1 + 1;omega)];exact s.a
 ·rw [aH _ _ _ _ (by show _≠w.heap.size + 1 + 1;omega)];exact s.r
 ·rw [aK _ _ _ _ _ _ s.x,FH,YS _ _ hk]
 ·rw [aH _ _ _ _ (by show _≠w.heap.size + 1 + 1;omega)];exact s.b
def AcA (m:List Int) (w:World) (k B:Nat) (a:Act):Prop :=
 a={ tmps:=#[.agg (mC m),.pointer (some ⟨w.heap.size,0,none⟩),.pointer (some ⟨w.heap.size + 1,0,none⟩),.pointer (some ⟨w.heap.size + 1 + 1,0,none⟩),.pointer (some ⟨B,0,none⟩),.int .i64 (m.getD k 0),.slice (some ⟨w.heap.size,0,none⟩) 4 4,
  .func (.func 149) #[] #[.pointer (some ⟨w.heap.size + 1 + 1 + 1,0,none⟩)],.agg #[.int .i64 ((k / 4:Nat):Int),.int .i64 ((k % 4:Nat):Int)],.int .i64 (m.getD k 0),undef,undef,undef,undef,undef,undef,undef,undef],defers:=[] }
def AcX (m:List Int) (w:World) (k:Nat) (a:Act) (W:World):Prop:=∃ B,AcA m w k B a∧W.heap[B]?=some (.cells #[.int .i64 ((k / 4:Nat):Int),.int .i64 ((k % 4:Nat):Int)] 192 (0,0))∧Gc m k w W
def RetM (m:List Int) (w:World) (e:Ending) (w':World):Prop:=e=.returned (.agg (mC m))∧Below w.heap.size w w'
theorem SE (w:World) (A B C D:Obj):((((w.alloc A).alloc B).alloc C).alloc D).heap[w.heap.size]?=some A∧((((w.alloc A).alloc B).alloc C).alloc D).heap[w.heap.size + 1]?=some B∧((((w.alloc A).alloc B).alloc C).alloc D).heap[w.heap.size + 1 + 1]?=some C∧((((w.alloc A).alloc B).alloc C).alloc D).heap[w.heap.size + 1 + 1 + 1]?=some D:=by
 have h0:=aG w A
 have h1:=aG (w.alloc A) B
 have h2:=aG ((w.alloc A).alloc B) C
 have h3:=aG (((w.alloc A).alloc B).alloc C) D
 simp only [aR] at h1 h2 h3
 exact ⟨dW (dW (dW h0)),dW (dW h1),dW h2,h3⟩
theorem AY (m:List Int) (w:World) (hm:m.length=16) :
  Calls Tryz.prog 150 #[.agg (mC m)] w (RetM (tr m) w):=by
 have HM:=aA hm;clear hm
 refine (aW (n:=5)).1 ?_
 refine callsIn_of_wp_marks Tryz.func150 rfl trivial ?_ rfl
 simp only [Tryz.ntmps150,aL,bK,List.length_nil,Nat.reduceAdd,Nat.reduceSub,Array.replicate_succ,Array.replicate_zero,List.push_toArray,List.append_toArray,bX,bT]
 refine bG.2 ?_
 go_wp2_with fail
 refine (DN _ _ _ _).mono ?_
 rintro e w' ⟨rfl,rfl⟩
 go_wp2_with fail
 obtain ⟨W0,hW0⟩:∃ W0,((((w.alloc (.cells (mC m) 25)).alloc (.cells #[.int .i64 0,.int .i64 0,.int .i64 0,.int .i64 0,.int .i64 0,.int .i64 0,.int .i64 0,.int .i64 0,.int .i64 0,.int .i64 0,.int .i64 0,.int .i64 0,.int .i64 0,.int .i64 0,.int .i64 0,.int .i64 0] 25)).alloc (.cells #[.int .i64 0,.int .i64 0,.int .i64 0,.int .i64 0,.int .i64 0,.int .i64 0,.int .i64 0,.int .i64 0,.int .i64 0,.int .i64 0,.int .i64 0,.int .i64 0,.int .i64 0,.int .i64 0,.int .i64 0,.int .i64 0] 25)).alloc (.cells #[.slice (some ⟨w.heap.size,0,none⟩) 4 4] 171))=W0:=⟨_,rfl⟩
 have hB0:Below w.heap.size w W0:=by rw [←hW0];go_grown
 have hS0:W0.heap.size=w.heap.size + 4:=by rw [←hW0];simp
 have am0:Gc m 0 w W0:=by
  have h:=SE w (.cells (mC m) 25) (.cells #[.int .i64 0,.int .i64 0,.int .i64 0,.int .i64 0,.int .i64 0,.int .i64 0,.int .i64 0,.int .i64 0,.int .i64 0,.int .i64 0,.int .i64 0,.int .i64 0,.int .i64 0,.int .i64 0,.int .i64 0,.int .i64 0] 25) (.cells #[.int .i64 0,.int .i64 0,.int .i64 0,.int .i64 0,.int .i64 0,.int .i64 0,.int .i64 0,.int .i64 0,.int .i64 0,.int .i64 0,.int .i64 0,.int .i64 0,.int .i64 0,.int .i64 0,.int .i64 0,.int .i64 0] 25) (.cells #[.slice (some ⟨w.heap.size,0,none⟩) 4 4] 171)
  rw [hW0] at h
  refine ⟨h.1,h.2.1,?_,h.2.2.2,hB0⟩
  rw [YR]
  exact h.2.2.1
 rw [hW0]
 clear hW0
 have Nk:(Tryz.prog.info? 25).map (·.size)=some (mC (tr m)).size:=by rw [iW,fT,tY]
 have Nl:(mC (List.replicate 16 0)).size=(mC (tr m)).size:=by rw [fT,fT,tY];rfl
 have HI1:=aA Nk
 have HI0:=aA Nl
 clear Nk Nl
 refine bG.1 (jO (F:=Fence.wide) (n:=5) rfl (by omega) (gf:=149) (lb:=#[.pointer (some ⟨w.heap.size + 1 + 1 + 1,0,none⟩)]) rfl trivial (enters_of Tryz.func149 (by kernel_rfl) rfl)
  (tK m 4 w.heap.size 4 (w.heap.size + 1 + 1 + 1) (by omega)) (fun _=>rfl) 0 (fun k W=>Gc m k w W) (fun _=>False) (AcX m w)
  ?i1 ?i2 ?i3 ?i4 ?i5 am0 ?assign ?body ?done ?stop)
 case i1=>intro k W X h hk;exact h.kept (by omega) hk
 case i2=>intro W X h hk;exact h
 case i3=>rintro k a W X ⟨B,h0,h1,h4⟩ hk;exact ⟨B,h0,hk.cells h1,h4.kept (by omega) hk⟩
 case i4=>intro k W h;exact h.reads HM.out
 case i5=>intro W h;exact h.elim
 case assign =>
  intro l k W C hk hI hC
  simp only [xU]
  gi_wp2
  exact hC _ _ ((KeepsOthers.alloc _ _).from _) ⟨_,rfl,aG _ _,hI.kept (aB _) (Kept.of_below ((aI _ W).alloc (aB _) _))⟩
 case body =>
  rintro l k a' W hk ⟨B,ha,hp,am⟩
  unfold AcA at ha
  subst ha
  have p0:W.cell? ⟨B,0,none⟩=some (.int .i64 ((k / 4:Nat):Int)):=by rw [aF _ _ _ _ _ _ hp];rfl
  have p1:W.cell? ⟨B,1,none⟩=some (.int .i64 ((k % 4:Nat):Int)):=by rw [aF _ _ _ _ _ _ hp];rfl
  have hnx:=am.next (by omega:k < 16)
  have hq:W.cell? ⟨w.heap.size + 1 + 1,k % 4 * 4 + k / 4,none⟩=some (.int .i64 ((PH m k).getD (k % 4 * 4 + k / 4) 0)):=by rw [aF _ _ _ _ _ _ am.x,wX _ _ (by rw [Ie];omega)]
  have hqf:W.frozen? ⟨w.heap.size + 1 + 1,k % 4 * 4 + k / 4,none⟩=false:=dU am.x
  have GY:=aA hnx
  have hBn:w.heap.size + 1 + 1≠B:=by
   rintro rfl
   rw [am.x] at hp
   simp only [Option.some.injEq,Obj.cells.injEq] at hp
   exact absurd hp.2.1 (by decide)
  clear hnx hp am
  have hr4:k / 4 < 4:=by omega
  have hc4:k % 4 < 4:=by omega
  obtain ⟨r,hr⟩:∃ r,k / 4=r:=⟨_,rfl⟩
  obtain ⟨c,hc⟩:∃ c,k % 4=c:=⟨_,rfl⟩
  obtain ⟨x,hx⟩:∃ x,m.getD k 0=x:=⟨_,rfl⟩
  rw [hr,hc,hx] at GY
  rw [hr,hc] at hq hqf
  rw [hr] at p0 hr4
  rw [hc] at p1 hc4
  rw [hr,hc,hx]
  generalize (PH m k).getD (c * 4 + r) 0=y at hq
  clear hr hc hx
  have r0:(0:Int)≤(r:Int):=by omega
  have r1:(r:Int) < 4:=by omega
  have c0:(0:Int)≤(c:Int):=by omega
  have c1:(c:Int) < 4:=by omega
  gi_wp2
  refine fD (S:=fun X=>X.cell? ⟨B,0,none⟩=some (.int .i64 (r:Int))∧X.cell? ⟨B,1,none⟩=some (.int .i64 (c:Int))) (by kernel_rfl) ⟨p0,p1⟩ (fun hHeld=>?_)
  refine dP (fun _=>trivial) (by kernel_rfl) (i:=0) (oi:=_) (v:=?_) rfl (by kernel_rfl) (by kernel_rfl) (by kernel_rfl) (fun _ _ _ h=>h) (by assumption) (Or.inl ⟨by kernel_rfl,?_⟩) ?_
  rotate_left
  ·intro wz hSw;obtain ⟨h1,h2⟩:=hSw;(first | (go_simp;done) | (go_simp;with_reducible rfl))
  try simp only [aQ]
  refine dP (fun _=>trivial) (by kernel_rfl) (i:=1) (oi:=_) (v:=?_) rfl (by kernel_rfl) (by kernel_rfl) (by kernel_rfl) (fun _ _ _ h=>h) (by assumption) (Or.inl ⟨by kernel_rfl,?_⟩) ?_
  rotate_left
  ·intro wz hSw;obtain ⟨h1,h2⟩:=hSw;(first | (go_simp;done) | (go_simp;with_reducible rfl))
  try simp only [aQ]
  refine dP (fun _=>trivial) (by kernel_rfl) (i:=2) (oi:=_) (v:=?_) rfl (by kernel_rfl) (by kernel_rfl) (by kernel_rfl) (fun _ _ _ h=>h) (by assumption) (Or.inl ⟨by kernel_rfl,?_⟩) ?_
  rotate_left
  ·intro wz hSw;obtain ⟨h1,h2⟩:=hSw;(first | (go_simp;done) | (go_simp;with_reducible rfl))
  try simp only [aQ]
  refine dP (fun _=>trivial) (by kernel_rfl) (i:=3) (oi:=_) (v:=?_) rfl (by kernel_rfl) (by kernel_rfl) (by kernel_rfl) (fun _ _ _ h=>h) (by assumption) (Or.inl ⟨by kernel_rfl,?_⟩) ?_
  rotate_left
  ·intro wz hSw;obtain ⟨h1,h2⟩:=hSw;(first | (go_simp;done) | (go_simp;with_reducible rfl))
  try simp only [aQ]
  refine dP (fun _=>trivial) (by kernel_rfl) (i:=4) (oi:=_) (v:=?_) rfl (by kernel_rfl) (by kernel_rfl) (by kernel_rfl) (fun _ _ _ h=>h) (by assumption) (Or.inl ⟨by kernel_rfl,?_⟩) ?_
  rotate_left
  ·intro wz hSw;obtain ⟨h1,h2⟩:=hSw;(first | (go_simp;done) | (go_simp;with_reducible rfl))
  try simp only [aQ]
  refine dP (fun _=>trivial) (by kernel_rfl) (i:=5) (oi:=_) (v:=?_) rfl (by kernel_rfl) (by kernel_rfl) (by kernel_rfl) (fun _ _ _ h=>h) (by assumption) (Or.inl ⟨by kernel_rfl,?_⟩) ?_
  rotate_left
  ·intro wz hSw;obtain ⟨h1,h2⟩:=hSw;(first | (go_simp;done) | (go_simp;with_reducible rfl))
  try simp only [aQ]
  refine dP (fun _=>trivial) (by kernel_rfl) (i:=6) (oi:=_) (v:=?_) rfl (by kernel_rfl) (by kernel_rfl) (by kernel_rfl) (fun _ _ _ h=>h) (by assumption) (Or.inl ⟨by kernel_rfl,?_⟩) ?_
  rotate_left
  ·intro wz hSw;obtain ⟨h1,h2⟩:=hSw;(first | (go_simp;done) | (go_simp;with_reducible rfl))
  try simp only [aQ]
  refine dX (fun _=>trivial) (i:=7) (o:=_) (by kernel_rfl) rfl (fun K hK=>?_)
  go_simp
  refine hK.out _ _ ⟨(World.cell?_setCell_far _ _ _ _ (by exact hBn)).trans p0,(World.cell?_setCell_far _ _ _ _ (by exact hBn)).trans p1⟩ (fun hHeld=>?_)
  clear hK K
  refine fC (by kernel_rfl) ?_ _
  clear hHeld
  gi_wp2
  exact ⟨((KeepsOthers.setCell _ _ _).trans (KeepsOthers.drew _)).from _,GY.out.kept (aB _) (Kept.of_below (fG _ _ 1))⟩
 case done =>
  rintro D W hD am hdef
  have hx:=am.x
  have hr:=am.r
  rw [Ig] at hx
  have HX:=aA hx
  have HR:=aA hr
  have hBl:=am.below
  clear hx hr am
  go_wp2_with (first | (refine wpList_load_row rfl 25 (.tmp 3) rfl (w.heap.size + 1 + 1) rfl _ _ _ _ HX.out aP rfl HI1.out ?_) | (refine dQ rfl 25 (.tmp 2) (.tmp 17) rfl (w.heap.size + 1) _ _ (mC (tr m)) rfl rfl HR.out HI1.out HI0.out (iY _) ?_))
  have hdf:(W.setRow (w.heap.size + 1) (mC (tr m))).heap[D]?=some (.deferred (some [])):=by rw [setRow_other _ _ _ _ (by omega)];exact hdef
  refine ⟨by simp,.inl ⟨_,_,rfl,run_takeDeferred hdf,?_⟩⟩
  refine ⟨_,results_cell_row rfl _ _ (w.heap.size + 1) _ _ _ _ rfl ((World.putObj_heap_other (by omega)).trans (setRow_heap _ _ _ _ _ _ HR.out)) aP rfl HI1.out,rfl,?_⟩
  exact (Below.row hBl (by omega) _).trans (belowK_b (w:=w) (aB _) _ D _ _ (by omega) hdf rfl rfl)
 case stop=>intro D W hD h;exact h.elim
end Fx
end Go.Proofs.YtbbhmhihpdmoiaaGreat
