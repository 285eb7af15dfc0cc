import Derived.Test.YtbbhmhihpdmoiaaGreatJr30
set_option linter.unusedVariables false
set_option linter.unusedSimpArgs false
set_option maxRecDepth 100000
set_option maxHeartbeats 32000000
namespace Go.Proofs.YtbbhmhihpdmoiaaGreat
namespace Cx
open Go Go.RowKit
def jD (x:Nat):Value:=.int .u8 (x:Int)
def Own (W:World) (B:Nat) (v:Value) (l:List Nat):Prop:=W.ownsRow B 5 1 v l.length (l.map jD)
theorem Own.below {w W:World} {B:Nat} {v:Value} {l:List Nat} (h:Below w.heap.size w W) (s:Own w B v l):Own W B v l:=by
 obtain ⟨h1,h2⟩:=s
 refine ⟨h1,?_⟩
 rcases h2 with h2 | ⟨g,cap,cur,e,hb,hg,h3⟩
 ·exact Or.inl h2
 ·exact Or.inr ⟨g,cap,cur,e,hb,dV h hg,h3⟩
theorem Own.mono {W:World} {B C:Nat} {v:Value} {l:List Nat} (hB:B≤C) (s:Own W C v l):Own W B v l:=by
 obtain ⟨h1,h2⟩:=s
 refine ⟨h1,?_⟩
 rcases h2 with h2 | ⟨g,cap,cur,e,hb,h3⟩
 ·exact Or.inl h2
 ·exact Or.inr ⟨g,cap,cur,e,bH hB hb,h3⟩
theorem Own.open {W:World} {B:Nat} {v:Value} {l:List Nat} (s:Own W B v l):∃ o cap,v=.slice o l.length cap∧Bs W o l∧l.length≤cap∧cap≤9223372036854775807∧(o=none→cap=0)∧(∀ a,o=some a→∃ g,a=⟨g,0,none⟩∧B≤g∧g < W.heap.size∧∀ j,W.frozen? ⟨g,j,none⟩=false):=by
 obtain ⟨h1,h2⟩:=s
 rcases h2 with ⟨rfl,h0⟩ | ⟨g,cap,cur,rfl,hb,hg,hc,hm,hs,ht⟩
 ·have : l=[]:=List.length_eq_zero_iff.1 h0
  subst this
  exact ⟨none,0,rfl,Bs.none,by simp,by omega,fun _=>rfl,fun a h=>by cases h⟩
 ·refine ⟨some ⟨g,0,none⟩,cap,rfl,fun j hj=>⟨g,0,rfl,?_⟩,hc,by unfold maxLen at hm;omega,(fun h=>by cases h),fun a h=>⟨g,(bF h).symm,hb,(aC.1 hg).1,fun j=>dU hg⟩⟩
  rw [bB,aF _ _ _ _ _ _ hg]
  have h3:(cur.toList.take (l.length * 1))[j]?=some (jD (l.getD j 0)):=by rw [ht];simp [hj,List.getD]
  rw [List.getElem?_take,aT (by omega)] at h3
  simpa [jD] using h3
theorem QI {W:World} {b off:Nat} {l:List Nat} (h:Bs W (some ⟨b,off,none⟩) l):∀ j u,(l.map jD)[j]?=some u→W.cell? ((⟨b,off,none⟩:Addr).add j)=some u:=by
 intro j u hu
 have hj:j < l.length:=by
  have:=(bD.1 hu).1
  simpa using this
 obtain ⟨b',off',e,hc⟩:=h j hj
 cases e
 rw [Addr.add_lit,hc,←hu]
 simp [hj,jD,List.getD]
theorem uW (l:List Nat):∀ u∈l.map jD,u.oneCell'=true:=by
 intro u hu
 obtain ⟨x,_,rfl⟩:=List.mem_map.1 hu
 rfl
theorem info5:(Tryz.prog.info? 5).map (fun i=>(i.zero,i.size,i.bytes))=some (some (.int .u8 0),1,1):=by kernel_rfl
theorem nZ (w:World) (t e:TypeId) (a:Option Addr) (l c:Nat) (h:Tryz.prog.underlying t=some (.slice e)):(binOp .eql t (.slice a l c) (.slice none 0 0)).run Tryz.prog w=.ok (.bool a.isNone) w:=by
 show ((do pure (.bool (← Op.equal t (.slice a l c) (.slice none 0 0)))):Sem Value).run Tryz.prog w=_
 simp [run_equal_slice_nil w t e a l c h]
theorem wM (l:List Nat) (b off cap:Nat) (w:World) (hlen:l.length≤140737488355328) (hb:Bs w (some ⟨b,off,none⟩) l) :
  Calls Tryz.prog 96 #[.slice (some ⟨b,off,none⟩) l.length cap] w fun e w'=>(∃ v,e=.returned v∧Own w' w.heap.size v l)∧Below w.heap.size w w':=by
 obtain ⟨i0,hi,hz0,hz1,hz2⟩:=info_parts info5
 have hE:(w.alloc (.cells #[] 5)).ownsRow w.heap.size 5 1 (.slice (some ⟨w.heap.size,0,none⟩) 0 0) 0 []:=World.ownsRow_lit w #[] 0 (aB _) (by unfold maxLen;omega) rfl
 have HN:=aA (QI (hb.below (W:=w.alloc (.cells #[] 5)) (by go_grown)))
 have HBel:Hid (Below w.heap.size w (w.alloc (.cells #[] 5))):=aA (by go_grown)
 clear hb
 have hq:=fun W=>nZ W 31 5 (some ⟨b,off,none⟩) l.length cap bS
 go_enter Tryz.func96,Tryz.ntmps96
 go_wp2_with (at_builtin;refine wpList_append_own _ rfl _ _ 31 rfl w.heap.size 5 i0 (.int .u8 0) 1 1 bS hi hz0 hz1 hz2 rfl (by decide) _ _ _ rfl hE ⟨b,off,none⟩ l.length cap (l.map jD) rfl (by simp) HN.out (uW l) (by unfold maxLen;omega) (by omega) (by simp) ?_;intro v' w1 hown hgrow _)
 have HO:Hid (Own w1 w.heap.size v' l):=aA (by
  unfold Own
  rw [bB,bX] at hown
  exact hown)
 have HB:Hid (Below w.heap.size w w1):=aA (HBel.out.grown hgrow (by simp) (by intro k hk;cases hk;exact aB _))
 clear hown hgrow
 go_ret
 exact ⟨⟨v',rfl,HO.out⟩,HB.out⟩
def pM (s:Nat):List Nat:=[s % 256,s / 256 % 256,s / 65536 % 256,s / 16777216 % 256]
theorem Rc (s:Nat):By (pM s):=by
 intro c hc
 simp only [pM,List.mem_cons,List.not_mem_nil,or_false] at hc
 rcases hc with rfl | rfl | rfl | rfl <;> exact cK _ (by omega)
def Rw (s k:Nat):List Nat:=(List.range 4).map fun i=>if i < k then (pM s).getD i 0 else 0
theorem Kn (s k:Nat):(Rw s k).length=4:=by simp [Rw]
theorem ZG:(Tryz.prog.info? 112).map (·.size)=some 4:=by kernel_rfl
theorem Dx (l:List Nat):(bR l).all (·.oneCell')=true:=by
 simp only [bR,List.all_toArray,List.all_map,bL]
 intro i _
 rfl
theorem Km (s k:Nat) (hk:k < 4):(bR (Rw s k)).setIfInBounds k (.int .u8 (((pM s).getD k 0:Nat):Int))=bR (Rw s (k + 1)):=by
 obtain rfl | rfl | rfl | rfl:k=0∨k=1∨k=2∨k=3:=by omega
 all_goals rfl
structure FB (s r b k:Nat) (w W:World):Prop where
 z:W.heap[r]?=some (.cells (bR (Rw s 0)) 112 (0,0))
 a:W.heap[b]?=some (.cells (bR (Rw s k)) 112 (0,0))
 ne:r≠b
 lo:w.heap.size≤r∧w.heap.size≤b
 below:Below w.heap.size w W
theorem FB.facts {s r b k:Nat} {w W:World} (h:FB s r b k w W) (hk:k < 4):(∃ v,W.cell? ⟨b,k,none⟩=some v)∧W.frozen? ⟨b,k,none⟩=false :=
 ⟨⟨_,by rw [aF _ _ _ _ _ _ h.a,GD _ (by rw [Kn];exact hk)]⟩,dU h.a⟩
theorem FB.set {s r b k:Nat} {w W:World} (h:FB s r b k w W) (hk:k < 4):FB s r b (k + 1) w (W.setCell ⟨b,k,none⟩ (.int .u8 (((pM s).getD k 0:Nat):Int))):=by
 refine ⟨?_,?_,h.ne,h.lo,h.below.setCell (p:=⟨b,k,none⟩) h.lo.2 _⟩
 ·rw [aH _ _ _ _ h.ne];exact h.z
 ·rw [aK _ _ _ _ _ _ h.a,Km _ _ hk]
theorem JX (s:Nat) (w:World) (hs:s < 4294967296) :
  Calls Tryz.prog 59 #[.int .u32 (s:Int)] w fun e w'=>e=.returned (.agg (bR (pM s)))∧Below w.heap.size w w':=by
 have S0:FB s w.heap.size (w.heap.size + 1) 0 w ((w.alloc (.cells #[.int .u8 0,.int .u8 0,.int .u8 0,.int .u8 0] 112)).alloc (.cells #[.int .u8 0,.int .u8 0,.int .u8 0,.int .u8 0] 112)):=by
  refine ⟨dW (aG w _),?_,by omega,by omega,by go_grown⟩
  have:=aG (w.alloc (.cells #[.int .u8 0,.int .u8 0,.int .u8 0,.int .u8 0] 112)) (.cells #[.int .u8 0,.int .u8 0,.int .u8 0,.int .u8 0] 112)
  rw [aR] at this
  exact this
 have BH:=aA S0
 clear S0
 go_enter Tryz.func59,Tryz.ntmps59
 go_wp2_with fail
 generalize ((w.alloc (.cells #[.int .u8 0,.int .u8 0,.int .u8 0,.int .u8 0] 112)).alloc (.cells #[.int .u8 0,.int .u8 0,.int .u8 0,.int .u8 0] 112))=W0 at BH ⊢
 go_loopg [5] 4 (fun g s5 wx=>∃ k:Nat,g=4 - k∧k≤4∧s5=.int .i64 (k:Int)∧FB s w.heap.size (w.heap.size + 1) k w wx)
 case atStart=>exact ⟨0,rfl,by omega,rfl,BH.out⟩
 case round =>
  clear BH
  obtain ⟨k,rfl,hk,rfl,pb⟩:=hrel
  obtain rfl | rfl | rfl | rfl | rfl:k=0∨k=1∨k=2∨k=3∨k=4:=by omega
  ·obtain ⟨⟨v,fc⟩,ff⟩:=pb.facts (by omega)
   have ps:=pb.set (by omega)
   rw [show (((pM s).getD 0 0:Nat):Int)=(s:Int) % 256 by simp [pM]] at ps
   have PS:=aA ps
   clear pb ps
   go_wp2_with fail
   go_roundg 3
   case measure=>omega
   case rel=>exact ⟨1,rfl,by omega,by go_num,PS.out⟩
  ·obtain ⟨⟨v,fc⟩,ff⟩:=pb.facts (by omega)
   have ps:=pb.set (by omega)
   rw [show (((pM s).getD 1 0:Nat):Int)=(s:Int) / 256 % 256 by simp [pM]] at ps
   have PS:=aA ps
   clear pb ps
   go_wp2_with fail
   go_roundg 2
   case measure=>omega
   case rel=>exact ⟨2,rfl,by omega,by go_num,PS.out⟩
  ·obtain ⟨⟨v,fc⟩,ff⟩:=pb.facts (by omega)
   have ps:=pb.set (by omega)
   rw [show (((pM s).getD 2 0:Nat):Int)=(s:Int) / 65536 % 256 by simp [pM]] at ps
   have PS:=aA ps
   clear pb ps
   go_wp2_with fail
   go_roundg 1
   case measure=>omega
   case rel=>exact ⟨3,rfl,by omega,by go_num,PS.out⟩
  ·obtain ⟨⟨v,fc⟩,ff⟩:=pb.facts (by omega)
   have ps:=pb.set (by omega)
   rw [show (((pM s).getD 3 0:Nat):Int)=(s:Int) / 16777216 by simp [pM];omega] at ps
   have PS:=aA ps
   clear pb ps
   go_wp2_with fail
   go_roundg 0
   case measure=>omega
   case rel=>exact ⟨4,rfl,by omega,by go_num,PS.out⟩
  ·have HZ:=aA pb.z
   have HA:Hid (wr.heap[w.heap.size + 1]?=some (.cells (bR (pM s)) 112 (0,0))):=aA pb.a
   have HB:=aA pb.below
   have HI:Hid ((Tryz.prog.info? 112).map (·.size)=some (bR (pM s)).size):=aA (by rw [yF];exact ZG)
   have HS:Hid ((bR (Rw s 0)).size=(bR (pM s)).size):=aA (by rw [yF,yF];rfl)
   clear pb
   go_wp2_with (first | (refine wpList_load_row rfl 112 (.tmp 3) rfl (w.heap.size + 1) rfl _ _ _ _ HA.out Tryz.underlying112 rfl HI.out ?_) | (refine dQ rfl 112 (.tmp 2) (.tmp 16) rfl (w.heap.size) _ _ (bR (pM s)) rfl rfl HZ.out HI.out HS.out (Dx _) ?_))
   refine aO (v:=.agg (bR (pM s))) (results_cell_row rfl _ _ (w.heap.size) _ _ _ _ rfl (setRow_heap _ _ _ _ _ _ HZ.out) Tryz.underlying112 rfl HI.out) rfl ?_
   exact ⟨rfl,Below.row HB.out (by omega) _⟩
end Cx
namespace Cx
open Fx (fC fD dX dP)
open Go Go.RowKit Go.Shelf
attribute [local go_sem] Oper.semAt_some
theorem rF {W:World} {o:Option Addr} {l:List Nat} (h:Bs W o l):∀ ad,o=some ad→∀ j u,(l.map jD)[j]?=some u→W.cell? (ad.add j)=some u:=by
 intro ad e j u hu
 have hj:j < l.length:=by
  have:=(bD.1 hu).1
  simpa using this
 obtain ⟨b,off,e2,hc⟩:=h j hj
 rw [e] at e2
 cases e2
 rw [Addr.add_lit,hc,←hu]
 simp [hj,jD,List.getD]
attribute [local go_sem] Oper.semAt_some
theorem kC:∀ (xs ys:List Nat),xs.length=ys.length→((List.range xs.length).all fun i=>xs.getD i 0 == ys.getD i 0)=(xs == ys)
 | [],[],_=>rfl
 | x :: xs,y :: ys,h=>by
  have ih:=kC xs ys (by simpa using h)
  rw [bK,List.range_succ_eq_map,List.all_cons,List.all_map]
  simp only [List.getD_cons_zero,Function.comp_def,List.getD_cons_succ,ih]
  simp [List.cons_beq_cons]
 | [],_ :: _,h=>by simp at h
 | _ :: _,[],h=>by simp at h
theorem VR (w:World) (d:Nat) (xs ys:List Nat) (hx:xs.length=4) (hy:ys.length=4) :
  (Op.equalIn (d + 2) 112 (.agg (xs.map jD).toArray) (.agg (ys.map jD).toArray)).run Tryz.prog w=.ok (xs == ys) w:=by
 have ht:=Tryz.underlying112
 have he:=dM
 have hsz:=Tryz.sizeOf5
 rw [←kC xs ys (hx.trans hy.symm),hx,List.range_eq_range',Op.equalIn]
 simp only [Sem.run_bind,run_underlying ht,Result.andThen_ok,hsz,Std.Legacy.Range.forIn_eq_forIn_range',Std.Legacy.Range.size,Nat.sub_zero,dC,Nat.div_one]
 have hl:∀ i∈List.range' 0 4 1,i < 4:=fun i hi=>by simpa using (List.mem_range'_1.1 hi).2
 generalize List.range' 0 4 1=l at hl ⊢
 induction l with
 | nil=>simp
 | cons i l ih =>
  have hi:i < 4:=hl i (by simp)
  have px:(part 5 (xs.map jD).toArray (i * 1)).run Tryz.prog w=.ok (jD (xs.getD i 0)) w:=by
   simp [part,isAgg,run_underlying he,List.getD,aJ (show i < xs.length by omega)]
  have py:(part 5 (ys.map jD).toArray (i * 1)).run Tryz.prog w=.ok (jD (ys.getD i 0)) w:=by
   simp [part,isAgg,run_underlying he,List.getD,aJ (show i < ys.length by omega)]
  have pe:(Op.equalIn (d + 1) 5 (jD (xs.getD i 0)) (jD (ys.getD i 0))).run Tryz.prog w=.ok (xs.getD i 0 == ys.getD i 0) w:=by
   rw [jD,jD,run_equalIn_int w d 5 .u8 .u8 _ _ he]
   congr 1
   rw [Bool.eq_iff_iff,beq_iff_eq,beq_iff_eq]
   omega
  simp only [List.forIn_cons,Sem.run_bind,px,py,pe,Result.andThen_ok,List.all_cons]
  cases hb:(xs.getD i 0 == ys.getD i 0)
  ·simp
  ·simp only [Bool.not_true,bE,if_false,Sem.run_pure,Result.andThen_ok,Bool.true_and]
   exact ih fun j hj=>hl j (by simp [hj])
theorem Au (w:World) (c0 c1 c2 c3:Nat) (ys:List Nat) (hy:ys.length=4) :
  (binOp .neq 112 (.agg #[.int .u8 (c0:Int),.int .u8 (c1:Int),.int .u8 (c2:Int),.int .u8 (c3:Int)]) (.agg (bR ys))).run Tryz.prog w=.ok (.bool (!([c0,c1,c2,c3] == ys))) w:=by
 have h:=VR w 9998 [c0,c1,c2,c3] ys rfl hy
 show ((do pure (.bool (!(← Op.equal 112 _ _)))):Sem Value).run Tryz.prog w=_
 have h2:(Op.equal 112 (.agg #[.int .u8 (c0:Int),.int .u8 (c1:Int),.int .u8 (c2:Int),.int .u8 (c3:Int)]) (.agg (bR ys))).run Tryz.prog w=.ok ([c0,c1,c2,c3] == ys) w:=h
 simp only [Sem.run_bind,h2,Result.andThen_ok,Sem.run_pure]
def No (w:World) (e:Ending) (w':World):Prop:=e=.returned (.tuple #[.slice none 0 0,.int .i64 40])∧Below w.heap.size w w'
theorem ND (n:Nat) (o:Option Addr) (cap:Nat) (w:World) (hn:n < 4) :
  Calls Tryz.prog 71 #[.slice o n cap] w (No w):=by
 have t1:(n:Int) - 4 < 0:=by omega
 go_enter Tryz.func71,Tryz.ntmps71
 go_wp2_with fail
 refine (bG (n:=5)).1 (fD (F:=Fence.wide) (S:=fun X=>Below w.heap.size w X) (by kernel_rfl) (fG _ _ 1) (fun hHeld=>?_))
 refine dP (fun _=>trivial) (by kernel_rfl) (i:=0) (oi:=_) (v:=?_) rfl (by kernel_rfl) (by kernel_rfl) (by kernel_rfl) (fun _ _ _ h=>h) (by assumption) (Or.inl ⟨by kernel_rfl,?_⟩) ?_
 rotate_left
 ·intro wz hSw;(first | (go_simp;done) | (go_simp;with_reducible rfl))
 try simp only [aQ]
 refine dP (fun _=>trivial) (by kernel_rfl) (i:=1) (oi:=_) (v:=?_) rfl (by kernel_rfl) (by kernel_rfl) (by kernel_rfl) (fun _ _ _ h=>h) (by assumption) (Or.inl ⟨by kernel_rfl,?_⟩) ?_
 rotate_left
 ·intro wz hSw;(first | (go_simp;done) | (go_simp;with_reducible rfl))
 try simp only [aQ]
 refine dP (fun _=>trivial) (by kernel_rfl) (i:=2) (oi:=_) (v:=?_) rfl (by kernel_rfl) (by kernel_rfl) (by kernel_rfl) (fun _ _ _ h=>h) (by assumption) (Or.inl ⟨by kernel_rfl,?_⟩) ?_
 rotate_left
 ·intro wz hSw;(first | (go_simp;done) | (go_simp;with_reducible rfl))
 try simp only [aQ]
 refine dP (fun _=>trivial) (by kernel_rfl) (i:=3) (oi:=_) (v:=undef) rfl (by kernel_rfl) (by kernel_rfl) (by kernel_rfl) (fun _ _ _ h=>h) (by assumption) (Or.inr ⟨by kernel_rfl,rfl⟩) ?_
 try simp only [aQ]
 refine dP (fun _=>trivial) (by kernel_rfl) (i:=4) (oi:=_) (v:=undef) rfl (by kernel_rfl) (by kernel_rfl) (by kernel_rfl) (fun _ _ _ h=>h) (by assumption) (Or.inr ⟨by kernel_rfl,rfl⟩) ?_
 try simp only [aQ]
 refine dP (fun _=>trivial) (by kernel_rfl) (i:=5) (oi:=_) (v:=undef) rfl (by kernel_rfl) (by kernel_rfl) (by kernel_rfl) (fun _ _ _ h=>h) (by assumption) (Or.inr ⟨by kernel_rfl,rfl⟩) ?_
 try simp only [aQ]
 refine dP (fun _=>trivial) (by kernel_rfl) (i:=6) (oi:=_) (v:=undef) rfl (by kernel_rfl) (by kernel_rfl) (by kernel_rfl) (fun _ _ _ h=>h) (by assumption) (Or.inr ⟨by kernel_rfl,rfl⟩) ?_
 try simp only [aQ]
 refine dP (fun _=>trivial) (by kernel_rfl) (i:=7) (oi:=_) (v:=undef) rfl (by kernel_rfl) (by kernel_rfl) (by kernel_rfl) (fun _ _ _ h=>h) (by assumption) (Or.inr ⟨by kernel_rfl,rfl⟩) ?_
 try simp only [aQ]
 refine dP (fun _=>trivial) (by kernel_rfl) (i:=8) (oi:=_) (v:=undef) rfl (by kernel_rfl) (by kernel_rfl) (by kernel_rfl) (fun _ _ _ h=>h) (by assumption) (Or.inr ⟨by kernel_rfl,rfl⟩) ?_
 try simp only [aQ]
 refine dP (fun _=>trivial) (by kernel_rfl) (i:=9) (oi:=_) (v:=undef) rfl (by kernel_rfl) (by kernel_rfl) (by kernel_rfl) (fun _ _ _ h=>h) (by assumption) (Or.inr ⟨by kernel_rfl,rfl⟩) ?_
 try simp only [aQ]
 refine dP (fun _=>trivial) (by kernel_rfl) (i:=10) (oi:=_) (v:=undef) rfl (by kernel_rfl) (by kernel_rfl) (by kernel_rfl) (fun _ _ _ h=>h) (by assumption) (Or.inr ⟨by kernel_rfl,rfl⟩) ?_
 try simp only [aQ]
 refine dX (fun _=>trivial) (i:=11) (o:=_) (by kernel_rfl) rfl (fun K hK=>?_)
 go_simp
 refine hK.out _ _ (hHeld) (fun hHeld=>?_)
 clear hK K
 try simp only [aQ]
 refine dX (fun _=>trivial) (i:=12) (o:=_) (by kernel_rfl) rfl (fun K hK=>?_)
 go_simp
 refine hK.out _ _ (hHeld) (fun hHeld=>?_)
 clear hK K
 try simp only [aQ]
 refine dP (fun _=>trivial) (by kernel_rfl) (i:=13) (oi:=_) (v:=undef) rfl (by kernel_rfl) (by kernel_rfl) (by kernel_rfl) (fun _ _ _ h=>h) (by assumption) (Or.inr ⟨by kernel_rfl,rfl⟩) ?_
 try simp only [aQ]
 refine dP (fun _=>trivial) (by kernel_rfl) (i:=14) (oi:=_) (v:=?_) rfl (by kernel_rfl) (by kernel_rfl) (by kernel_rfl) (fun _ _ _ h=>h) (by assumption) (Or.inl ⟨by kernel_rfl,?_⟩) ?_
 rotate_left
 ·intro wz hSw;(first | (go_simp;done) | (go_simp;with_reducible rfl))
 try simp only [aQ]
 refine fC (by kernel_rfl) ?_ _
 have HH:=aA hHeld
 clear hHeld
 go_wp2_with fail
 go_ret2
 exact ⟨rfl,HH.out⟩
theorem VD (l:List Nat) (c0 c1 c2 c3 b off cap:Nat) (w:World) (hl:By l) (hlen:l.length≤1000000) (hcap:l.length + 4≤cap) (hcap2:cap≤9223372036854775807) (hb:Bs w (some ⟨b,off,none⟩) l)
  (h0:w.cell? ⟨b,off + l.length,none⟩=some (.int .u8 (c0:Int))) (h1:w.cell? ⟨b,off + l.length + 1,none⟩=some (.int .u8 (c1:Int))) (h2:w.cell? ⟨b,off + l.length + 2,none⟩=some (.int .u8 (c2:Int))) (h3:w.cell? ⟨b,off + l.length + 3,none⟩=some (.int .u8 (c3:Int))) :
  Calls Tryz.prog 71 #[.slice (some ⟨b,off,none⟩) (l.length + 4) cap] w fun e w' =>
   if ([c0,c1,c2,c3] == pM (more 0 l))=true then (∃ v,e=.returned (.tuple #[v,.int .i64 0])∧Own w' w.heap.size v l)∧Below w.heap.size w w' else No w e w':=by
 have hs:=FE hl (show 0 < 4294967296 by omega)
 have H0:=aA (fun W h=>EK l (some ⟨b,off,none⟩) cap W hl (by omega) h)
 have H1:=aA (fun W=>JX (more 0 l) W hs)
 have H2:=aA (fun W h=>wM l b off cap W (by omega) h)
 have XQ:=aA hb
 have tV:=aA h0;have qK:=aA h1;have tT:=aA h2;have qW:=aA h3
 have hck:¬ cap=l.length:=by omega
 have hc1:(l.length:Int)≤(cap:Int):=by omega
 have hc2:(l.length:Int) + 4≤(cap:Int):=by omega
 have hc3:(l.length:Int)≤(l.length:Int) + 4:=by omega
 have hat:∀ W,(Instr.arrayAt 112 (.slice (some ⟨b,off + l.length,none⟩) 4 (cap - l.length))).run Tryz.prog W=.ok (.pointer (some ⟨b,off + l.length,none⟩)) W:=fun W=>run_arrayAt W 112 _ 4 _ 4 _ Tryz.underlying112 (by omega)
 have hneq:=fun W=>Au W c0 c1 c2 c3 (pM (more 0 l)) rfl
 clear hb h0 h1 h2 h3 hs hl
 generalize more 0 l=s at *
 generalize ([c0,c1,c2,c3] == pM s)=q at *
 go_enter Tryz.func71,Tryz.ntmps71
 go_wp2_with fail
 refine (bG (n:=5)).1 (fD (F:=Fence.wide) (S:=fun X=>Below w.heap.size w X) (by kernel_rfl) (fG _ _ 1) (fun hHeld=>?_))
 refine dP (fun _=>trivial) (by kernel_rfl) (i:=0) (oi:=_) (v:=?_) rfl (by kernel_rfl) (by kernel_rfl) (by kernel_rfl) (fun _ _ _ h=>h) (by assumption) (Or.inl ⟨by kernel_rfl,?_⟩) ?_
 rotate_left
 ·intro wz hSw;(first | (go_simp;done) | (go_simp;with_reducible rfl))
 try simp only [aQ]
 refine dP (fun _=>trivial) (by kernel_rfl) (i:=1) (oi:=_) (v:=?_) rfl (by kernel_rfl) (by kernel_rfl) (by kernel_rfl) (fun _ _ _ h=>h) (by assumption) (Or.inl ⟨by kernel_rfl,?_⟩) ?_
 rotate_left
 ·intro wz hSw;(first | (go_simp;done) | (go_simp;with_reducible rfl))
 try simp only [aQ]
 refine dP (fun _=>trivial) (by kernel_rfl) (i:=2) (oi:=_) (v:=?_) rfl (by kernel_rfl) (by kernel_rfl) (by kernel_rfl) (fun _ _ _ h=>h) (by assumption) (Or.inl ⟨by kernel_rfl,?_⟩) ?_
 rotate_left
 ·intro wz hSw;(first | (go_simp;done) | (go_simp;with_reducible rfl))
 try simp only [aQ]
 refine dP (fun _=>trivial) (by kernel_rfl) (i:=3) (oi:=_) (v:=?_) rfl (by kernel_rfl) (by kernel_rfl) (by kernel_rfl) (fun _ _ _ h=>h) (by assumption) (Or.inl ⟨by kernel_rfl,?_⟩) ?_
 rotate_left
 ·intro wz hSw;(first | (go_simp;done) | (go_simp;with_reducible rfl))
 try simp only [aQ]
 refine dP (fun _=>trivial) (by kernel_rfl) (i:=4) (oi:=_) (v:=?_) rfl (by kernel_rfl) (by kernel_rfl) (by kernel_rfl) (fun _ _ _ h=>h) (by assumption) (Or.inl ⟨by kernel_rfl,?_⟩) ?_
 rotate_left
 ·intro wz hSw;(first | (go_simp;done) | (go_simp;with_reducible rfl))
 try simp only [aQ]
 refine dP (fun _=>trivial) (by kernel_rfl) (i:=5) (oi:=_) (v:=?_) rfl (by kernel_rfl) (by kernel_rfl) (by kernel_rfl) (fun _ _ _ h=>h) (by assumption) (Or.inl ⟨by kernel_rfl,?_⟩) ?_
 rotate_left
 ·intro wz hSw;(first | (go_simp;done) | (go_simp;with_reducible rfl))
 try simp only [aQ]
 refine dP (fun _=>trivial) (by kernel_rfl) (i:=6) (oi:=_) (v:=?_) rfl (by kernel_rfl) (by kernel_rfl) (by kernel_rfl) (fun _ _ _ h=>h) (by assumption) (Or.inl ⟨by kernel_rfl,?_⟩) ?_
 rotate_left
 ·intro wz hSw;(first | (go_simp;done) | (go_simp;with_reducible rfl))
 try simp only [aQ]
 refine dP (fun _=>trivial) (by kernel_rfl) (i:=7) (oi:=_) (v:=?_) rfl (by kernel_rfl) (by kernel_rfl) (by kernel_rfl) (fun _ _ _ h=>h) (by assumption) (Or.inl ⟨by kernel_rfl,?_⟩) ?_
 rotate_left
 ·intro wz hSw;have d0:=dN hSw tV.out;have d1:=dN hSw qK.out;have d2:=dN hSw tT.out;have d3:=dN hSw qW.out;(first | (go_simp;done) | (go_simp;with_reducible rfl))
 try simp only [aQ]
 refine dP (fun _=>trivial) (by kernel_rfl) (i:=8) (oi:=_) (v:=?_) rfl (by kernel_rfl) (by kernel_rfl) (by kernel_rfl) (fun _ _ _ h=>h) (by assumption) (Or.inl ⟨by kernel_rfl,?_⟩) ?_
 rotate_left
 ·intro wz hSw;(first | (go_simp;done) | (go_simp;with_reducible rfl))
 try simp only [aQ]
 refine dP (fun _=>trivial) (by kernel_rfl) (i:=9) (oi:=_) (v:=?_) rfl (by kernel_rfl) (by kernel_rfl) (by kernel_rfl) (fun _ _ _ h=>h) (by assumption) (Or.inl ⟨by kernel_rfl,?_⟩) ?_
 rotate_left
 ·intro wz hSw;(first | (go_simp;done) | (go_simp;with_reducible rfl))
 try simp only [aQ]
 refine dP (fun _=>trivial) (by kernel_rfl) (i:=10) (oi:=_) (v:=?_) rfl (by kernel_rfl) (by kernel_rfl) (by kernel_rfl) (fun _ _ _ h=>h) (by assumption) (Or.inl ⟨by kernel_rfl,?_⟩) ?_
 rotate_left
 ·intro wz hSw;(first | (go_simp;done) | (go_simp;with_reducible rfl))
 try simp only [aQ]
 refine dX (fun _=>trivial) (i:=11) (o:=_) (by kernel_rfl) rfl (fun K hK=>?_)
 go_simp
 refine ⟨trivial,aW.2 ((H0.out _ (XQ.out.below hHeld)).mono ?_)⟩
 rintro e wz ⟨rfl,rfl⟩
 dsimp only
 refine hK.out _ _ (hHeld) (fun hHeld=>?_)
 clear hK K
 try simp only [aQ]
 refine dX (fun _=>trivial) (i:=12) (o:=_) (by kernel_rfl) rfl (fun K hK=>?_)
 go_simp
 refine ⟨trivial,aW.2 ((H1.out _).mono ?_)⟩
 rintro e wz ⟨rfl,hbz⟩
 dsimp only
 refine hK.out _ _ (dY hHeld hbz) (fun hHeld=>?_)
 clear hK K
 try simp only [aQ]
 refine dP (fun _=>trivial) (by kernel_rfl) (i:=13) (oi:=_) (v:=?_) rfl (by kernel_rfl) (by kernel_rfl) (by kernel_rfl) (fun _ _ _ h=>h) (by assumption) (Or.inl ⟨by kernel_rfl,?_⟩) ?_
 rotate_left
 ·intro wz hSw;(first | (go_simp;done) | (go_simp;with_reducible rfl))
 try simp only [aQ]
 refine dP (fun _=>trivial) (by kernel_rfl) (i:=14) (oi:=_) (v:=?_) rfl (by kernel_rfl) (by kernel_rfl) (by kernel_rfl) (fun _ _ _ h=>h) (by assumption) (Or.inl ⟨by kernel_rfl,?_⟩) ?_
 rotate_left
 ·intro wz hSw;(first | (go_simp;done) | (go_simp;with_reducible rfl))
 try simp only [aQ]
 refine fC (by kernel_rfl) ?_ _
 have HH:=aA hHeld
 have HBZ:=aA (XQ.out.below hHeld)
 clear hHeld
 rw [show decide ((l.length:Int) < 0)=false from aN (by omega)]
 cases q
 ·go_wp2_with fail
  go_ret2
  exact ⟨rfl,HH.out⟩
 ·go_wp2_with fail
  refine (H2.out _ HBZ.out).mono ?_
  rintro e w5 ⟨⟨v,rfl,hown⟩,hb5⟩
  go_wp2_with fail
  go_ret2
  exact ⟨⟨_,rfl,Own.mono HH.out.size hown⟩,dY HH.out hb5⟩
end Cx
namespace Cx
open Go Go.RowKit
def iP (l:List Nat):ByteArray:=⟨(l.map UInt8.ofNat).toArray⟩
theorem yY (l:List Nat):∀ (b:ByteArray),(l.map fun x:Nat=>(x:Int)).foldl (fun r n=>r.push (UInt8.ofNat n.toNat)) b=⟨b.data ++ (l.map UInt8.ofNat).toArray⟩:=by
 induction l with
 | nil=>intro b;simp
 | cons x l ih =>
  intro b
  simp only [List.map_cons,List.foldl_cons]
  rw [ih]
  simp [ByteArray.push]
theorem sW {W:World} {o:Option Addr} {l:List Nat} {n:Nat} (cap:Nat) (hn:l.length=n) (h:Bs W o l):(convert 31 9 (.slice o n cap)).run Tryz.prog W=.ok (.string (iP l)) W:=by
 subst hn
 rw [run_convert_bytes_string W _ _ _ _ _ _ bS dM Tryz.underlying9]
 cases o with
 | none =>
  have : l=[]:=by
   cases l with
   | nil=>rfl
   | cons x l=>obtain ⟨_,_,e,_⟩:=h 0 (by simp);cases e
  subst this
  rfl
 | some a =>
  have hl:=run_loadCells_list (P:=Tryz.prog) (w:=W) a (l.map jD) (rF h a rfl)
  rw [bI] at hl
  have hm:l.map jD=(l.map fun x:Nat=>(x:Int)).map (Value.int .u8):=by simp [jD]
  rw [hm] at hl
  rw [run_bytesToString W _ _ _ _ hl,yY]
  simp [iP,ByteArray.empty,ByteArray.emptyWithCapacity]
  rfl
theorem SC {W:World} {b off:Nat} {l m:List Nat} (h:Bs W (some ⟨b,off,none⟩) (l ++ m)):Bs W (some ⟨b,off,none⟩) l:=by
 have:=h.take l.length
 rwa [List.take_left] at this
theorem tO {W:World} {b off:Nat} {l:List Nat} (h:Bs W (some ⟨b,off,none⟩) l) {j:Nat} (hj:j < l.length):W.cell? ⟨b,off + j,none⟩=some (.int .u8 ((l.getD j 0:Nat):Int)):=by
 obtain ⟨_,_,e,hc⟩:=h j hj
 cases e
 exact hc
theorem Ja (l:List Nat) (c0 c1 c2 c3 b off cap:Nat) (w:World) (hl:By l) (hlen:l.length≤1000000) (hcap:l.length + 4≤cap) (hcap2:cap≤9223372036854775807) (hb:Bs w (some ⟨b,off,none⟩) (l ++ [c0,c1,c2,c3])) :
  Calls Tryz.prog 71 #[.slice (some ⟨b,off,none⟩) (l.length + 4) cap] w fun e w' =>
   if ([c0,c1,c2,c3] == pM (more 0 l))=true then (∃ v,e=.returned (.tuple #[v,.int .i64 0])∧Own w' w.heap.size v l)∧Below w.heap.size w w' else No w e w':=by
 have g0:=tO hb (j:=l.length) (by simp)
 have g1:=tO hb (j:=l.length + 1) (by simp)
 have g2:=tO hb (j:=l.length + 2) (by simp)
 have g3:=tO hb (j:=l.length + 3) (by simp)
 simp [List.getD] at g0 g1 g2 g3
 exact VD l c0 c1 c2 c3 b off cap w hl hlen hcap hcap2 (SC hb) g0 (by rw [Nat.add_assoc];exact g1) (by rw [Nat.add_assoc];exact g2) (by rw [Nat.add_assoc];exact g3)
end Cx
end Go.Proofs.YtbbhmhihpdmoiaaGreat
