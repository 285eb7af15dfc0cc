import Derived.Test.YtbbhmhihpdmoiaaGreatJr00
set_option linter.unusedVariables false
set_option linter.unusedSimpArgs false
set_option maxRecDepth 100000
set_option maxHeartbeats 32000000
namespace Go.Proofs.YtbbhmhihpdmoiaaGreat
namespace Pk
open Go Go.RowKit
def fl (made lost:Bool):Int:=if made then (if lost then 50 else 0) else 1
theorem IM (p:Nat) (made lost:Bool) (w:World) (c0:w.cell? ⟨p,0,none⟩=some (.bool made)) (c1:w.cell? ⟨p,1,none⟩=some (.bool lost)) :
  Calls Tryz.prog 108 #[.pointer (some ⟨p,0,none⟩)] w fun e w'=>e=.returned (.int .i64 (fl made lost))∧w=w':=by
 cases made with
 | false =>
  go_enter Tryz.func108,Tryz.ntmps108
  go_wp2_with fail
  go_ret
  exact ⟨rfl,rfl⟩
 | true =>
  cases lost with
  | true =>
   go_enter Tryz.func108,Tryz.ntmps108
   go_wp2_with fail
   go_ret
   exact ⟨rfl,rfl⟩
  | false =>
   go_enter Tryz.func108,Tryz.ntmps108
   go_wp2_with fail
   go_ret
   exact ⟨rfl,rfl⟩
theorem gU (p:Nat) (made lost:Bool) (w:World) (c0:w.cell? ⟨p,0,none⟩=some (.bool made)) (c1:w.cell? ⟨p,1,none⟩=some (.bool lost)) :
  Calls Tryz.prog 77 #[.pointer (some ⟨p,0,none⟩)] w fun e w'=>e=.returned (.int .i64 (fl made lost))∧w=w':=by
 have H0:=IM p made lost w c0 c1
 clear c0 c1
 generalize fl made lost=z at *
 have H:=aA H0
 clear H0
 go_enter Tryz.func77,Tryz.ntmps77
 go_wp2_with fail
 refine H.out.mono ?_
 rintro e w1 ⟨rfl,rfl⟩
 go_wp2_with fail
 go_ret
 exact ⟨rfl,rfl⟩
structure PW (B p:Nat) (v:Value) (l:List Nat) (lost:Bool) (W:World):Prop where
 row:W.heap[p]?=some (.cells #[.bool true,.bool lost,v] 120 (0,0))
 own:Own W B v l
structure Turn (p:Nat) (v v':Value) (w w':World):Prop where
 os:w'.os=w.os
 tape:w'.tape=w.tape
 output:w'.output=w.output
 size:w.heap.size≤w'.heap.size
 block:∀ k,k < w.heap.size→k≠p→v.ownBlock≠some k→w'.heap[k]?=w.heap[k]?
 own:∀ k,v'.ownBlock=some k→v.ownBlock=some k∨w.heap.size≤k
theorem Turn.refl (p:Nat) (v:Value) (w:World):Turn p v v w w:=⟨rfl,rfl,rfl,aB _,fun _ _ _ _=>rfl,fun _ h=>.inl h⟩
theorem Turn.trans {p:Nat} {v v' v'':Value} {w w' w'':World} (s:Turn p v v' w w') (t:Turn p v' v'' w' w''):Turn p v v'' w w'' :=
 ⟨t.os.trans s.os,t.tape.trans s.tape,t.output.trans s.output,bH s.size t.size,fun k hk hp hv=>by
  rw [t.block k (aM hk s.size) hp (fun h=>(s.own k h).elim hv (by omega)),s.block k hk hp hv],fun k hk=>by
  rcases t.own k hk with h | h
  ·exact s.own k h
  ·exact .inr (bH s.size h)⟩
theorem Turn.of_below {p:Nat} {v:Value} {w w':World} (h:Below w.heap.size w w'):Turn p v v w w':=⟨h.os,h.tape,h.output,h.size,fun k hk _ _=>h.block k hk,fun _ h=>.inl h⟩
theorem Turn.set (p j:Nat) (v u:Value) (w:World):Turn p v v w (w.setCell ⟨p,j,none⟩ u) :=
 ⟨rfl,rfl,rfl,by simp,fun k hk hp _=>aH _ _ _ _ hp,fun _ h=>.inl h⟩
theorem Turn.jP {p:Nat} {v v':Value} {w w':World} (hg:w.grownBy w' v.ownBlock) (h:∀ k,v'.ownBlock=some k→v.ownBlock=some k∨w.heap.size≤k):Turn p v v' w w' :=
 ⟨hg.os,hg.tape,hg.output,hg.size,fun k hk _ hv=>hg.block k hk (fun e=>hv e.symm),h⟩
end Pk
namespace Fx
open Go Go.RowKit
variable {F:Fence} {n:Nat} {P:Program} {ops:Array Oper} {Q:Exit→Act→World→Prop} {md:Region.Mode} {S:World→Prop}
def Calm (ops:Array Oper):Bool:=ops.all fun o=>match o.op with
 | .defer _=>false
 | _=>true
theorem yE {i:Nat} {o:Oper} (h:Calm ops=true) (hi:ops[i]?=some o) (c:Call):o.op≠.defer c:=by
 intro e
 unfold Calm at h
 rw [Array.all_eq_true_iff_forall_mem] at h
 have:=h o (Array.mem_of_getElem? hi)
 rw [e] at this
 cases this
theorem xY (hF:∀ f,F.fn f) (hd:Calm ops=true) {i:Nat} {o:Oper} {v:Value} {a:Act} (hi:ops[i]?=some o) (hy:YieldsIf P ops S o v a)
  {K:Act→World→Prop} {w:World} (hS:S w) (h:K (a.put o.dst v) w):wpOpIn F n P ops Q i K a w:=by
 unfold Go.wpOpIn
 simp only [hi]
 rcases hy with ⟨hw,hv⟩ | ⟨hw,rfl⟩
 ·simp only [hw,if_true,Oper.wpIn,Oper.semAt_plain F _ _ (yE hd hi),hv w hS,Oper.uponIn]
  exact ⟨fun f _=>hF f,h⟩
 ·simp only [hw,bE,if_false]
  exact ⟨fun f _=>hF f,h⟩
theorem KF (hF:∀ f,F.fn f) (hd:Calm ops=true) {j:Nat} {oi oj:Oper} {v:Value} (hj:ops[j]?=some oj) (hap:oi.apart ops oj=true)
  (hsi:∀ cs b,oi.op≠.select cs b) (hsj:∀ cs b,oj.op≠.select cs b)
  (hQ:∀ c a w,Q (.panic c) (a.put oi.dst v) w→Q (.panic c) a w) {K:Act→World→Prop} {a:Act} {w:World}
  (hy:YieldsIf P ops S oi v a) (h:wpOpIn F n P ops Q j K (a.put oi.dst v) w) :
  wpOpIn F n P ops Q j (fun a' w'=>YieldsIf P ops S oi v a'∧K (a'.put oi.dst v) w') a w:=by
 obtain ⟨h1,h2,h3⟩:=Oper.apart_spec hap
 have hcj:=yE hd hj
 have keep:∀ (a:Act),YieldsIf P ops S oi v a→∀ u,YieldsIf P ops S oi v (a.put oj.dst u):=fun a hy u =>
  hy.of_same (execOp_put oi hsi a oj.dst u h3) (wanted_put oi a oj.dst u h3)
 unfold wpOpIn at *
 simp only [hj] at *
 rw [wanted_put oj a oi.dst v h1] at h
 split
 ·rename_i hw
  simp only [hw,if_true] at h
  unfold Oper.wpIn at *
  rw [Oper.semAt_plain F _ _ hcj] at h ⊢
  rw [execOp_put oj hsj a oi.dst v h1] at h
  refine ⟨fun f _=>hF f,?_⟩
  obtain ⟨_,h⟩:=h
  generalize (execOp a.eval oj).run P w=r at *
  cases r with
  | ok x w' =>
   cases x <;> simp only [Oper.uponIn] at h ⊢
   case value u=>exact ⟨keep a hy u,by rw [←Act.put_comm a v u h2];exact h⟩
   case skip=>exact ⟨keep a hy _,by rw [←Act.put_comm a v undef h2];exact h⟩
   case defer d =>
    refine ⟨keep _ (show YieldsIf P ops S oi v { a with defers:=d :: a.defers } from hy.of_same rfl rfl) _,?_⟩
    rw [←Act.put_comm _ v undef h2,←Act.put_defers]
    exact h
   case enter f args =>
    refine ⟨h.1,CallsIn.mono h.2 fun e w'' he=>?_⟩
    cases e with
    | returned u=>exact ⟨keep a hy u,by rw [←Act.put_comm a v u h2];exact he⟩
    | panicked c=>exact hQ _ _ _ he
    | outgrown=>exact he
   case row row args=>exact ⟨h.1,RowsIn.mono h.2 fun u w'' he=>⟨keep a hy u,by rw [←Act.put_comm a v u h2];exact he⟩⟩
   case round l f tmps assign body =>
    refine ⟨h.1,RoundIn.mono h.2 fun e w'' he=>?_⟩
    cases e with
    | returned u=>exact ⟨keep a hy u,by rw [←Act.put_comm a v u h2];exact he⟩
    | panicked c=>exact hQ _ _ _ he
    | outgrown=>exact he
  | halt x w' =>
   cases x <;> simp only [Oper.uponIn] at h ⊢
   case panic u=>exact hQ _ _ _ h
 ·rename_i hw
  simp only [hw] at h
  exact ⟨fun f _=>hF f,keep a hy _,by rw [←Act.put_comm a v undef h2];exact h.2⟩
def jH (F:Fence) (n:Nat) (P:Program) (md:Region.Mode) (ops:Array Oper) (Q:Exit→Act→World→Prop) (S:World→Prop):Nat→Array Bool→Act→World→Prop
 | 0,listed,a,w=>Region.ready md ops listed=[]∧Q .normal a w
 | fuel + 1,listed,a,w =>
  (Region.ready md ops listed=[]→Q .normal a w) ∧
  ∀ i∈Region.ready md ops listed,wpOpIn F n P ops Q i (fun a' w'=>S w'∧jH F n P md ops Q S fuel (listed.setIfInBounds i true) a' w') a w
theorem jH.any:∀ (fuel:Nat) (listed:Array Bool) (a:Act) (w:World),jH F n P md ops Q S fuel listed a w→wpAnyIn F n P md ops Q fuel listed a w
 | 0,_,_,_,h=>h
 | fuel + 1,_,_,_,h=>⟨h.1,fun i hi=>wpOpIn_mono (fun a' w' h'=>jH.any fuel _ a' w' h'.2) (h.2 i hi)⟩
theorem NT (hF:∀ f,F.fn f) (hd:Calm ops=true) {i:Nat} {oi:Oper} {v:Value} (hi:ops[i]?=some oi) (hsel:∀ (j:Nat) (o:Oper) cs b,ops[j]?=some o→o.op≠.select cs b)
  (hQ:∀ c a w,Q (.panic c) (a.put oi.dst v) w→Q (.panic c) a w) (fuel:Nat) :
  ∀ (listed:Array Bool) (a:Act) (w:World),
   (∀ j oj,ops[j]?=some oj→j≠i→listed.getD j true=false→(∀ e∈oj.after,Region.binds md e=true→e.on≠i)→oi.apart ops oj=true) →
   i∈Region.ready md ops listed→YieldsIf P ops S oi v a→S w →
   jH F n P md ops Q S fuel (listed.setIfInBounds i true) (a.put oi.dst v) w→jH F n P md ops Q S (fuel + 1) listed a w:=by
 induction fuel with
 | zero =>
  intro listed a w _ hr hy hS H
  refine ⟨fun h=>(by rw [h] at hr;cases hr),fun j hj=>?_⟩
  by_cases hji:j=i
  ·subst hji;exact xY hF hd hi hy hS ⟨hS,H⟩
  ·have:=ready_mono hj hji
   rw [H.1] at this
   cases this
 | succ fuel ih =>
  intro listed a w hfree hr hy hS H
  refine ⟨fun h=>(by rw [h] at hr;cases hr),fun j hj=>?_⟩
  by_cases hji:j=i
  ·subst hji;exact xY hF hd hi hy hS ⟨hS,H⟩
  ·have h1:=H.2 j (ready_mono hj hji)
   obtain ⟨hjun,oj,hoj,hall⟩:=mem_ready.1 hj
   have hnot:∀ e∈oj.after,Region.binds md e=true→e.on≠i:=fun e he hb heq=>by
    have h1:=hall e he hb
    have h0:=(mem_ready.1 hr).1
    rw [heq] at h1
    rcases Nat.lt_or_ge i listed.size with h' | h'
    ·simp [h'] at h0 h1;rw [h0] at h1;cases h1
    ·simp [Array.getElem?_eq_none h'] at h1
   have h2:=KF hF hd hoj (hfree j oj hoj hji hjun hnot) (fun cs b=>hsel i oi cs b hi) (fun cs b=>hsel j oj cs b hoj) hQ hy h1
   refine wpOpIn_mono (fun a' w' h3=>⟨h3.2.1,ih (listed.setIfInBounds j true) a' w' (fun k ok hk hki hun hno=>hfree k ok hk hki ?_ hno) (ready_mono hr (Ne.symm hji)) h3.1 h3.2.1 ?_⟩) h2
   ·by_cases hjk:j=k
    ·subst hjk;exact hjun
    ·rw [getD_set_ne true hjk] at hun;exact hun
   ·rw [Array.setIfInBounds_comm _ _ hji]
    exact h3.2.2
theorem dP (hF:∀ f,F.fn f) (hd:Calm ops=true) {i:Nat} {oi:Oper} {v:Value} {fuel:Nat} {listed:Array Bool} {a:Act} {w:World} (hi:ops[i]?=some oi)
  (hs:Region.noSelect ops=true) (hf:Region.free md ops listed i=true) (hr:(Region.ready md ops listed).contains i=true)
  (hQ:∀ c a w,Q (.panic c) (a.put oi.dst v) w→Q (.panic c) a w) (hS:S w) (hy:YieldsIf P ops S oi v a)
  (h:jH F n P md ops Q S fuel (listed.setIfInBounds i true) (a.put oi.dst v) w):jH F n P md ops Q S (fuel + 1) listed a w :=
 NT hF hd hi (Region.noSelect_spec hs) hQ fuel listed a w (Region.free_spec hi hf) (by simpa using hr) hy hS h
theorem dX (hF:∀ f,F.fn f) {i:Nat} {o:Oper} {fuel:Nat} {listed:Array Bool} {a:Act} {w:World} (hr:Region.ready md ops listed=[i]) (ho:ops[i]?=some o)
  (h:∀ K':Act→World→Prop,Shut (∀ a w,S w→(S w→jH F n P md ops Q S fuel (listed.setIfInBounds i true) a w)→K' a w)→if Region.wanted o (yielded ops a.tmps)=true then Oper.wpIn F n P o a w K' Q else K' (a.put o.dst undef) w) :
  jH F n P md ops Q S (fuel + 1) listed a w:=by
 refine ⟨fun h0=>(by rw [hr] at h0;cases h0),fun j hj=>?_⟩
 rw [hr,List.mem_singleton] at hj
 subst hj
 unfold wpOpIn
 simp only [ho]
 have h':=h (fun a' w'=>S w'∧jH F n P md ops Q S fuel (listed.setIfInBounds j true) a' w') (fun a w hS hW=>⟨hS,hW hS⟩)
 split
 ·rename_i hw
  rw [aT hw] at h'
  exact h'
 ·rename_i hw
  rw [aX hw] at h'
  exact ⟨fun f _=>hF f,h'⟩
theorem kL (hF:∀ f,F.fn f) {i j:Nat} {o o2:Oper} {fuel:Nat} {listed:Array Bool} {a:Act} {w:World} (hr:Region.ready md ops listed=[i,j]) (ho:ops[i]?=some o) (ho2:ops[j]?=some o2)
  (h:∀ K':Act→World→Prop,Shut (∀ a w,S w→(S w→jH F n P md ops Q S fuel (listed.setIfInBounds i true) a w)→K' a w)→if Region.wanted o (yielded ops a.tmps)=true then Oper.wpIn F n P o a w K' Q else K' (a.put o.dst undef) w)
  (h2:∀ K':Act→World→Prop,Shut (∀ a w,S w→(S w→jH F n P md ops Q S fuel (listed.setIfInBounds j true) a w)→K' a w)→if Region.wanted o2 (yielded ops a.tmps)=true then Oper.wpIn F n P o2 a w K' Q else K' (a.put o2.dst undef) w) :
  jH F n P md ops Q S (fuel + 1) listed a w:=by
 refine ⟨fun h0=>(by rw [hr] at h0;cases h0),fun k hk=>?_⟩
 rw [hr] at hk
 simp only [List.mem_cons,List.not_mem_nil,or_false] at hk
 rcases hk with rfl | rfl
 ·unfold wpOpIn
  simp only [ho]
  have h':=h (fun a' w'=>S w'∧jH F n P md ops Q S fuel (listed.setIfInBounds k true) a' w') (fun a w hS hW=>⟨hS,hW hS⟩)
  split
  ·rename_i hw
   rw [aT hw] at h'
   exact h'
  ·rename_i hw
   rw [aX hw] at h'
   exact ⟨fun f _=>hF f,h'⟩
 ·unfold wpOpIn
  simp only [ho2]
  have h':=h2 (fun a' w'=>S w'∧jH F n P md ops Q S fuel (listed.setIfInBounds k true) a' w') (fun a w hS hW=>⟨hS,hW hS⟩)
  split
  ·rename_i hw
   rw [aT hw] at h'
   exact h'
  ·rename_i hw
   rw [aX hw] at h'
   exact ⟨fun f _=>hF f,h'⟩
theorem fC {listed:Array Bool} {a:Act} {w:World} (hr:Region.ready md ops listed=[]) (h:Q .normal a w):∀ fuel,jH F n P md ops Q S fuel listed a w
 | 0=>⟨hr,h⟩
 | _ + 1=>⟨fun _=>h,by rw [hr];simp⟩
theorem fD {id:Nat} {a:Act} {w:World} (hm:P.follows .mixedOrders=true) (hS:S w.drew)
  (h:S w.drew→jH F n P .any ops Q S ops.size (Array.replicate ops.size false) a w.drew):(Code.region id ops true).wpIn F n P Q a w :=
 wpIn_region_any hm (jH.any _ _ _ _ (h hS))
end Fx
namespace Pk
open Go Go.RowKit
theorem AU {ops:Array Oper} {rest:List Oper} {o:Oper} {a:Act} {Q:Exit→Act→World→Prop} {w:World} (hgd:o.guard=none) (s x:Operand)
  (ho:o.op=.call { callee:=.builtin .append,args:=#[s,x],argTypes:=#[31,31] })
  (B:Nat) (v:Value) (l:List Nat) (hs:a.eval s=v) (hown:Own w B v l) (ox:Option Addr) (m:List Nat) (c:Nat) (hx:a.eval x=.slice ox m.length c) (hc:ox=none→c=0) (hb:Bs w ox m)
  (hlen:l.length + m.length≤1000000000) (hbase:B≤w.heap.size)
  (h:∀ v' w',Own w' B v' (l ++ m)→w.grownBy w' v.ownBlock→(∀ k,v'.ownBlock=some k→v.ownBlock=some k∨w.heap.size≤k)→wpList Tryz.prog ops Q rest (a.put o.dst v') w'):wpList Tryz.prog ops Q (o :: rest) a w:=by
 obtain ⟨i0,hi,hz0,hz1,hz2⟩:=info_parts info5
 cases ox with
 | none =>
  obtain rfl:=FD hb
  obtain rfl:=hc rfl
  refine wpList_append_own_none hgd s x 31 ho B 5 i0 1 bS hi v l.length (l.map jD) hs hown hx ?_
  exact h v w (by rw [List.append_nil];exact hown) (cB _ _) (fun k h=>.inl h)
 | some ad =>
  refine wpList_append_own_at w hgd s x 31 ho B 5 i0 (.int .u8 0) 1 1 bS hi hz0 hz1 hz2 rfl (by decide) v l.length (l.map jD) hs hown ad m.length c (m.map jD) hx (by simp) (rF hb ad rfl) (uW m) (by unfold maxLen;omega) (by omega) hbase ?_
  intro v' w' hown' hgrow _ h5
  refine h v' w' (by unfold Own;rw [aY,List.map_append];exact hown') hgrow (fun k hk=>?_)
  rcases h5 with h5 | h5
  ·exact .inl (h5▸hk)
  ·rw [h5] at hk
   cases hk
   exact .inr (aB _)
end Pk
namespace Fx
open Go Go.RowKit
section
variable {n:Nat} {P:Program} {ops:Array Oper} {Q:Exit→Act→World→Prop} {md:Region.Mode} {S:World→Prop} {Z:List Nat}
def Gives (P:Program) (ops:Array Oper) (S:World→Prop) (o:Oper) (v:Value) (a:Act):Prop :=
 (Region.wanted o (yielded ops a.tmps)=true∧∀ w,S w→(execOp a.eval o).run P w=.ok (.value v) w ∨
  ∃ f args,(execOp a.eval o).run P w=.ok (.enter f args) w∧Calls P f args w fun e w'=>e=.returned v∧Below w.heap.size w w') ∨
 (Region.wanted o (yielded ops a.tmps)=false∧v=undef)
theorem Gives.of_same {o:Oper} {v:Value} {a a':Act} (hy:Gives P ops S o v a) (he:execOp a'.eval o=execOp a.eval o)
  (hw:Region.wanted o (yielded ops a'.tmps)=Region.wanted o (yielded ops a.tmps)):Gives P ops S o v a':=by
 unfold Gives at *
 rw [he,hw]
 exact hy
theorem putY {F:Fence} (hF:∀ f,F.fn f) (hd:Calm ops=true) {j:Nat} {oi oj:Oper} {v:Value} (hj:ops[j]?=some oj) (hap:oi.apart ops oj=true)
  (hsj:∀ cs b,oj.op≠.select cs b)
  (hQ:∀ c a w,Q (.panic c) (a.put oi.dst v) w→Q (.panic c) a w) {Y:Act→Prop} (keep:∀ a,Y a→∀ u,Y (a.put oj.dst u)) (keepD:∀ a d,Y a→Y { a with defers:=d }) {K:Act→World→Prop} {a:Act} {w:World}
  (hy:Y a) (h:wpOpIn F n P ops Q j K (a.put oi.dst v) w) :
  wpOpIn F n P ops Q j (fun a' w'=>Y a'∧K (a'.put oi.dst v) w') a w:=by
 obtain ⟨h1,h2,h3⟩:=Oper.apart_spec hap
 have hcj:=yE hd hj
 unfold wpOpIn at *
 simp only [hj] at *
 rw [wanted_put oj a oi.dst v h1] at h
 split
 ·rename_i hw
  simp only [hw,if_true] at h
  unfold Oper.wpIn at *
  rw [Oper.semAt_plain F _ _ hcj] at h ⊢
  rw [execOp_put oj hsj a oi.dst v h1] at h
  refine ⟨fun f _=>hF f,?_⟩
  obtain ⟨_,h⟩:=h
  generalize (execOp a.eval oj).run P w=r at *
  cases r with
  | ok x w' =>
   cases x <;> simp only [Oper.uponIn] at h ⊢
   case value u=>exact ⟨keep a hy u,by rw [←Act.put_comm a v u h2];exact h⟩
   case skip=>exact ⟨keep a hy _,by rw [←Act.put_comm a v undef h2];exact h⟩
   case defer d =>
    refine ⟨keep _ (keepD _ _ hy) _,?_⟩
    rw [←Act.put_comm _ v undef h2,←Act.put_defers]
    exact h
   case enter f args =>
    refine ⟨h.1,CallsIn.mono h.2 fun e w'' he=>?_⟩
    cases e with
    | returned u=>exact ⟨keep a hy u,by rw [←Act.put_comm a v u h2];exact he⟩
    | panicked c=>exact hQ _ _ _ he
    | outgrown=>exact he
   case row row args=>exact ⟨h.1,RowsIn.mono h.2 fun u w'' he=>⟨keep a hy u,by rw [←Act.put_comm a v u h2];exact he⟩⟩
   case round l f tmps assign body =>
    refine ⟨h.1,RoundIn.mono h.2 fun e w'' he=>?_⟩
    cases e with
    | returned u=>exact ⟨keep a hy u,by rw [←Act.put_comm a v u h2];exact he⟩
    | panicked c=>exact hQ _ _ _ he
    | outgrown=>exact he
  | halt x w' =>
   cases x <;> simp only [Oper.uponIn] at h ⊢
   case panic u=>exact hQ _ _ _ h
 ·rename_i hw
  simp only [hw] at h
  exact ⟨fun f _=>hF f,keep a hy _,by rw [←Act.put_comm a v undef h2];exact h.2⟩
theorem QV (hd:Calm ops=true) {i:Nat} {o:Oper} {v:Value} {a:Act} (hi:ops[i]?=some o) (hy:Gives P ops S o v a)
  {K:Act→World→Prop} {w:World} (hS:S w) (h:∀ w',Below w.heap.size w w'→K (a.put o.dst v) w'):wpOpIn Fence.wide n P ops Q i K a w:=by
 unfold Go.wpOpIn
 simp only [hi]
 rcases hy with ⟨hw,hv⟩ | ⟨hw,rfl⟩
 ·simp only [hw,if_true,Oper.wpIn,Oper.semAt_plain _ _ _ (yE hd hi)]
  rcases hv w hS with hv | ⟨f,args,hr,hc⟩
  ·rw [hv]
   exact ⟨fun f _=>trivial,h w (aI _ _)⟩
  ·rw [hr]
   refine ⟨fun f _=>trivial,fun h=>(by cases h),aW.2 (hc.mono ?_)⟩
   rintro e w' ⟨rfl,hb⟩
   exact h w' hb
 ·simp only [hw,bE,if_false]
  exact ⟨fun f _=>trivial,h w (aI _ _)⟩
def iJ (n:Nat) (P:Program) (md:Region.Mode) (ops:Array Oper) (Q:Exit→Act→World→Prop) (S:World→Prop) (Z:List Nat):Nat→Array Bool→Act→World→Prop
 | 0,listed,a,w=>Region.ready md ops listed=[]∧Q .normal a w
 | fuel + 1,listed,a,w =>
  (Region.ready md ops listed=[]→Q .normal a w) ∧
  ∀ i∈Region.ready md ops listed,wpOpIn Fence.wide n P ops Q i (fun a' w'=>(Z.contains i=false→S w')∧∀ w3,Below w'.heap.size w' w3→iJ n P md ops Q S Z fuel (listed.setIfInBounds i true) a' w3) a w
theorem iJ.any:∀ (fuel:Nat) (listed:Array Bool) (a:Act) (w:World),iJ n P md ops Q S Z fuel listed a w→wpAnyIn Fence.wide n P md ops Q fuel listed a w
 | 0,_,_,_,h=>h
 | fuel + 1,_,_,_,h=>⟨h.1,fun i hi=>wpOpIn_mono (fun a' w' h'=>iJ.any fuel _ a' w' (h'.2 w' (aI _ _))) (h.2 i hi)⟩
def Chain (md:Region.Mode) (ops:Array Oper) (L:Array Bool) (i:Nat) (D:List Nat):Bool :=
 D.all fun d=>!L.getD d true && (match ops[d]? with
  | some o=>o.after.any fun e=>Region.binds md e && (e.on == i || D.contains e.on)
  | none=>false)
def BO (md:Region.Mode) (ops:Array Oper) (L:Array Bool) (i:Nat) (D:List Nat):Prop :=
 ∀ d∈D,L.getD d true=false∧∃ o,ops[d]?=some o∧∃ e∈o.after,Region.binds md e=true∧(e.on=i∨e.on∈D)
theorem uC {L:Array Bool} {i:Nat} {D:List Nat} (h:Chain md ops L i D=true):BO md ops L i D:=by
 intro d hd
 unfold Chain at h
 rw [bL] at h
 have:=h d hd
 rw [Bool.and_eq_true] at this
 obtain ⟨h1,h2⟩:=this
 refine ⟨by simpa using h1,?_⟩
 cases ho:ops[d]? with
 | none=>rw [ho] at h2;cases h2
 | some o =>
  rw [ho] at h2
  refine ⟨o,rfl,?_⟩
  dsimp only at h2
  rw [Array.any_eq_true] at h2
  obtain ⟨x,hx,h2⟩:=h2
  simp only [Bool.and_eq_true,Bool.or_eq_true,beq_iff_eq,List.contains_iff_mem] at h2
  exact ⟨o.after[x],Array.getElem_mem hx,h2.1,h2.2⟩
theorem uK {L:Array Bool} {k:Nat} (h0:L.getD k true=false) (h1:L.getD k false=true):False:=by
 rcases Nat.lt_or_ge k L.size with h' | h'
 ·simp [h'] at h0 h1;rw [h0] at h1;cases h1
 ·simp [Array.getElem?_eq_none h'] at h1
theorem BO.wait {L:Array Bool} {i j:Nat} {D:List Nat} (h:BO md ops L i D) (hi:L.getD i true=false) (hj:j∈Region.ready md ops L):j∉D:=by
 intro hD
 obtain ⟨_,o,ho,e,he,hb,hc⟩:=h j hD
 obtain ⟨_,o',ho',hall⟩:=mem_ready.1 hj
 rw [ho] at ho'
 cases ho'
 have h1:=hall e he hb
 rcases hc with hc | hc
 ·rw [hc] at h1;exact uK hi h1
 ·exact uK (h _ hc).1 h1
theorem zT (hd:Calm ops=true) {i:Nat} {oi:Oper} {v:Value} (hi:ops[i]?=some oi) (hsel:∀ (j:Nat) (o:Oper) cs b,ops[j]?=some o→o.op≠.select cs b)
  (hQ:∀ c a w,Q (.panic c) (a.put oi.dst v) w→Q (.panic c) a w) (D:List Nat) (hZ:∀ z∈Z,z∈D) (hm:∀ w w',S w→Below w.heap.size w w'→S w') (fuel:Nat) :
  ∀ (listed:Array Bool) (a:Act) (w:World),
   (∀ j oj,ops[j]?=some oj→j≠i→listed.getD j true=false→(∀ e∈oj.after,Region.binds md e=true→e.on≠i)→oi.apart ops oj=true) →
   i∈Region.ready md ops listed→BO md ops listed i D→Gives P ops S oi v a→S w →
   (∀ w3,Below w.heap.size w w3→iJ n P md ops Q S Z fuel (listed.setIfInBounds i true) (a.put oi.dst v) w3)→iJ n P md ops Q S Z (fuel + 1) listed a w:=by
 induction fuel with
 | zero =>
  intro listed a w _ hr hch hy hS H
  refine ⟨fun h=>(by rw [h] at hr;cases hr),fun j hj=>?_⟩
  by_cases hji:j=i
  ·subst hji;exact QV hd hi hy hS fun w' hb=>⟨fun _=>hm _ _ hS hb,fun w3 hb3=>H w3 (hb.trans (hb3.mono hb.size))⟩
  ·have:=ready_mono hj hji
   rw [(H w (aI _ _)).1] at this
   cases this
 | succ fuel ih =>
  intro listed a w hfree hr hch hy hS H
  refine ⟨fun h=>(by rw [h] at hr;cases hr),fun j hj=>?_⟩
  by_cases hji:j=i
  ·subst hji;exact QV hd hi hy hS fun w' hb=>⟨fun _=>hm _ _ hS hb,fun w3 hb3=>H w3 (hb.trans (hb3.mono hb.size))⟩
  ·have h1:=(H w (aI _ _)).2 j (ready_mono hj hji)
   obtain ⟨hjun,oj,hoj,hall⟩:=mem_ready.1 hj
   have Cg:=(mem_ready.1 hr).1
   have hnot:∀ e∈oj.after,Region.binds md e=true→e.on≠i:=fun e he hb heq=>by
    have h1:=hall e he hb
    rw [heq] at h1
    exact uK Cg h1
   have hap:=hfree j oj hoj hji hjun hnot
   obtain ⟨_,_,h3'⟩:=Oper.apart_spec hap
   have h2:=putY (Y:=Gives P ops S oi v) (fun _=>trivial) hd hoj hap (fun cs b=>hsel j oj cs b hoj) hQ
    (fun a hy u=>hy.of_same (execOp_put oi (fun cs b=>hsel i oi cs b hi) a oj.dst u h3') (wanted_put oi a oj.dst u h3')) (fun a d hy=>hy.of_same rfl rfl) hy h1
   have Yy:=hch.wait Cg hj
   have hjZ:Z.contains j=false:=by
    rw [Bool.eq_false_iff]
    intro hc
    exact Yy (hZ j (List.contains_iff_mem.1 hc))
   refine wpOpIn_mono (fun a' w' h3=>⟨h3.2.1,fun w4 hb4=>ih (listed.setIfInBounds j true) a' w4 (fun k ok hk hki hun hno=>hfree k ok hk hki ?_ hno) (ready_mono hr (Ne.symm hji)) ?_ h3.1 (hm _ _ (h3.2.1 hjZ) hb4) ?_⟩) h2
   ·by_cases hjk:j=k
    ·subst hjk;exact hjun
    ·rw [getD_set_ne true hjk] at hun;exact hun
   ·intro d Zd
    obtain ⟨e1,e2⟩:=hch d Zd
    have hjd:j≠d:=by rintro rfl;exact Yy Zd
    exact ⟨by rw [getD_set_ne true hjd];exact e1,e2⟩
   ·intro w3 hb3
    rw [Array.setIfInBounds_comm _ _ hji]
    exact h3.2.2 w3 (hb4.trans (hb3.mono hb4.size))
structure Sound (P:Program) (ops:Array Oper) (Q:Exit→Act→World→Prop) (S:World→Prop):Prop where
 calm:Calm ops=true
 Nh:Region.noSelect ops=true
 mono:∀ w w',S w→Below w.heap.size w w'→S w'
 pan:∀ d v c a w,Q (.panic c) (Act.put a d v) w→Q (.panic c) a w
def lQ (md:Region.Mode) (ops:Array Oper) (Z:List Nat) (L:Array Bool) (i:Nat) (D:List Nat):Bool :=
 Region.free md ops L i && (Region.ready md ops L).contains i && Z.all (D.contains ·) && Chain md ops L i D
theorem oV (D:List Nat) (i:Nat) (v:Value) (s:Sound P ops Q S) {oi:Oper} {fuel:Nat} {listed:Array Bool} {a:Act} {w:World} (hi:ops[i]?=some oi)
  (hk:lQ md ops Z listed i D=true) (hS:S w) (hy:Gives P ops S oi v a)
  (h:∀ w3,S w3→iJ n P md ops Q S Z fuel (listed.setIfInBounds i true) (a.put oi.dst v) w3):iJ n P md ops Q S Z (fuel + 1) listed a w:=by
 unfold lQ at hk
 simp only [Bool.and_eq_true] at hk
 obtain ⟨⟨⟨hf,hr⟩,hz⟩,hc⟩:=hk
 refine zT s.calm hi (Region.noSelect_spec s.Nh) (fun c a w=>s.pan _ _ _ _ _) D (fun z hz'=>?_) s.mono fuel listed a w (Region.free_spec hi hf) (by simpa using hr) (uC hc) hy hS fun w3 hb=>h w3 (s.mono _ _ hS hb)
 have:=bL.1 hz z hz'
 exact List.contains_iff_mem.1 this
theorem dO (D:List Nat) (i:Nat) (v:Value) (s:Sound P ops Q S) {oi:Oper} {fuel:Nat} {listed:Array Bool} {a:Act} {w:World} (hi:ops[i]?=some oi)
  (hk:lQ md ops Z listed i D=true) (hS:S w) (hw:Region.wanted oi (yielded ops a.tmps)=true) (hv:∀ w,S w→(execOp a.eval oi).run P w=.ok (.value v) w)
  (h:∀ w3,S w3→iJ n P md ops Q S Z fuel (listed.setIfInBounds i true) (a.put oi.dst v) w3):iJ n P md ops Q S Z (fuel + 1) listed a w :=
 oV D i v s hi hk hS (Or.inl ⟨hw,fun w hS=>Or.inl (hv w hS)⟩) h
theorem kG (D:List Nat) (i:Nat) (s:Sound P ops Q S) {oi:Oper} {fuel:Nat} {listed:Array Bool} {a:Act} {w:World} (hi:ops[i]?=some oi)
  (hk:lQ md ops Z listed i D=true) (hS:S w) (hw:Region.wanted oi (yielded ops a.tmps)=false)
  (h:∀ w3,S w3→iJ n P md ops Q S Z fuel (listed.setIfInBounds i true) (a.put oi.dst undef) w3):iJ n P md ops Q S Z (fuel + 1) listed a w :=
 oV D i undef s hi hk hS (Or.inr ⟨hw,rfl⟩) h
theorem iB (i:Nat) {o:Oper} {fuel:Nat} {listed:Array Bool} {a:Act} {w:World} (hr:Region.ready md ops listed=[i]) (ho:ops[i]?=some o)
  (h:∀ K':Act→World→Prop,Shut (∀ a w,(Z.contains i=false→S w)→(∀ w3,Below w.heap.size w w3→iJ n P md ops Q S Z fuel (listed.setIfInBounds i true) a w3)→K' a w)→if Region.wanted o (yielded ops a.tmps)=true then Oper.wpIn Fence.wide n P o a w K' Q else K' (a.put o.dst undef) w) :
  iJ n P md ops Q S Z (fuel + 1) listed a w:=by
 refine ⟨fun h0=>(by rw [hr] at h0;cases h0),fun j hj=>?_⟩
 rw [hr,List.mem_singleton] at hj
 subst hj
 unfold wpOpIn
 simp only [ho]
 have h':=h (fun a' w'=>(Z.contains j=false→S w')∧∀ w3,Below w'.heap.size w' w3→iJ n P md ops Q S Z fuel (listed.setIfInBounds j true) a' w3) (fun a w hS hW=>⟨hS,hW⟩)
 split
 ·rename_i hw
  rw [aT hw] at h'
  exact h'
 ·rename_i hw
  rw [aX hw] at h'
  exact ⟨fun f _=>trivial,h'⟩
theorem fF {listed:Array Bool} {a:Act} {w:World} (hr:Region.ready md ops listed=[]) (h:Q .normal a w):∀ fuel,iJ n P md ops Q S Z fuel listed a w
 | 0=>⟨hr,h⟩
 | _ + 1=>⟨fun _=>h,by rw [hr];simp⟩
theorem fA (S:World→Prop) (Z:List Nat) {id:Nat} {a:Act} {w:World} (hmx:P.follows .mixedOrders=true) (hok:(Calm ops && Region.noSelect ops)=true) (hm:∀ w w',S w→Below w.heap.size w w'→S w')
  (pan:∀ d v c a w,Q (.panic c) (Act.put a d v) w→Q (.panic c) a w) (hS:S w.drew)
  (h:Sound P ops Q S→∀ w1,S w1→iJ n P .any ops Q S Z ops.size (Array.replicate ops.size false) a w1):(Code.region id ops true).wpIn Fence.wide n P Q a w :=
 wpIn_region_any hmx (iJ.any _ _ _ _ (h ⟨(Bool.and_eq_true _ _▸hok).1,(Bool.and_eq_true _ _▸hok).2,hm,pan⟩ _ hS))
theorem eU {V:World} (w w':World) (h:Below V.heap.size V w) (k:Below w.heap.size w w'):Below V.heap.size V w':=h.trans (k.mono h.size)
end
section
variable {F:Fence} {n:Nat} {P:Program} {ops:Array Oper} {Q:Exit→Act→World→Prop} {md:Region.Mode} {S:World→Prop} {Z:List Nat}
def oG (F:Fence) (n:Nat) (P:Program) (md:Region.Mode) (ops:Array Oper) (Q:Exit→Act→World→Prop) (S:World→Prop) (Z:List Nat):Nat→Array Bool→Act→World→Prop
 | 0,listed,a,w=>Region.ready md ops listed=[]∧Q .normal a w
 | fuel + 1,listed,a,w =>
  (Region.ready md ops listed=[]→Q .normal a w) ∧
  ∀ i∈Region.ready md ops listed,wpOpIn F n P ops Q i (fun a' w'=>(Z.contains i=false→S w')∧oG F n P md ops Q S Z fuel (listed.setIfInBounds i true) a' w') a w
theorem oG.any:∀ (fuel:Nat) (listed:Array Bool) (a:Act) (w:World),oG F n P md ops Q S Z fuel listed a w→wpAnyIn F n P md ops Q fuel listed a w
 | 0,_,_,_,h=>h
 | fuel + 1,_,_,_,h=>⟨h.1,fun i hi=>wpOpIn_mono (fun a' w' h'=>oG.any fuel _ a' w' h'.2) (h.2 i hi)⟩
theorem KE (hF:∀ f,F.fn f) (hd:Calm ops=true) {i:Nat} {oi:Oper} {v:Value} (hi:ops[i]?=some oi) (hsel:∀ (j:Nat) (o:Oper) cs b,ops[j]?=some o→o.op≠.select cs b)
  (hQ:∀ c a w,Q (.panic c) (a.put oi.dst v) w→Q (.panic c) a w) (D:List Nat) (hZ:∀ z∈Z,z∈D) (fuel:Nat) :
  ∀ (listed:Array Bool) (a:Act) (w:World),
   (∀ j oj,ops[j]?=some oj→j≠i→listed.getD j true=false→(∀ e∈oj.after,Region.binds md e=true→e.on≠i)→oi.apart ops oj=true) →
   i∈Region.ready md ops listed→BO md ops listed i D→YieldsIf P ops S oi v a→S w →
   oG F n P md ops Q S Z fuel (listed.setIfInBounds i true) (a.put oi.dst v) w→oG F n P md ops Q S Z (fuel + 1) listed a w:=by
 induction fuel with
 | zero =>
  intro listed a w _ hr hch hy hS H
  refine ⟨fun h=>(by rw [h] at hr;cases hr),fun j hj=>?_⟩
  by_cases hji:j=i
  ·subst hji;exact xY hF hd hi hy hS ⟨fun _=>hS,H⟩
  ·have:=ready_mono hj hji
   rw [H.1] at this
   cases this
 | succ fuel ih =>
  intro listed a w hfree hr hch hy hS H
  refine ⟨fun h=>(by rw [h] at hr;cases hr),fun j hj=>?_⟩
  by_cases hji:j=i
  ·subst hji;exact xY hF hd hi hy hS ⟨fun _=>hS,H⟩
  ·have h1:=H.2 j (ready_mono hj hji)
   obtain ⟨hjun,oj,hoj,hall⟩:=mem_ready.1 hj
   have Cg:=(mem_ready.1 hr).1
   have hnot:∀ e∈oj.after,Region.binds md e=true→e.on≠i:=fun e he hb heq=>by
    have h1:=hall e he hb
    rw [heq] at h1
    exact uK Cg h1
   have h2:=KF hF hd hoj (hfree j oj hoj hji hjun hnot) (fun cs b=>hsel i oi cs b hi) (fun cs b=>hsel j oj cs b hoj) hQ hy h1
   have Yy:=hch.wait Cg hj
   have hjZ:Z.contains j=false:=by
    rw [Bool.eq_false_iff]
    intro hc
    exact Yy (hZ j (List.contains_iff_mem.1 hc))
   refine wpOpIn_mono (fun a' w' h3=>⟨h3.2.1,ih (listed.setIfInBounds j true) a' w' (fun k ok hk hki hun hno=>hfree k ok hk hki ?_ hno) (ready_mono hr (Ne.symm hji)) ?_ h3.1 (h3.2.1 hjZ) ?_⟩) h2
   ·by_cases hjk:j=k
    ·subst hjk;exact hjun
    ·rw [getD_set_ne true hjk] at hun;exact hun
   ·intro d Zd
    obtain ⟨e1,e2⟩:=hch d Zd
    have hjd:j≠d:=by rintro rfl;exact Yy Zd
    exact ⟨by rw [getD_set_ne true hjd];exact e1,e2⟩
   ·rw [Array.setIfInBounds_comm _ _ hji]
    exact h3.2.2
theorem gQ (hF:∀ f,F.fn f) (D:List Nat) (i:Nat) (v:Value) (hok:(Calm ops && Region.noSelect ops)=true) {oi:Oper} {fuel:Nat} {listed:Array Bool} {a:Act} {w:World} (hi:ops[i]?=some oi)
  (hk:lQ md ops Z listed i D=true) (hQ:∀ c a w,Q (.panic c) (a.put oi.dst v) w→Q (.panic c) a w) (hS:S w) (hw:Region.wanted oi (yielded ops a.tmps)=true) (hv:∀ w,S w→(execOp a.eval oi).run P w=.ok (.value v) w)
  (h:oG F n P md ops Q S Z fuel (listed.setIfInBounds i true) (a.put oi.dst v) w):oG F n P md ops Q S Z (fuel + 1) listed a w:=by
 unfold lQ at hk
 simp only [Bool.and_eq_true] at hk hok
 obtain ⟨⟨⟨hf,hr⟩,hz⟩,hc⟩:=hk
 refine KE hF hok.1 hi (Region.noSelect_spec hok.2) hQ D (fun z hz'=>?_) fuel listed a w (Region.free_spec hi hf) (by simpa using hr) (uC hc) (Or.inl ⟨hw,hv⟩) hS h
 have:=bL.1 hz z hz'
 exact List.contains_iff_mem.1 this
theorem iZ (hF:∀ f,F.fn f) (i:Nat) {o:Oper} {fuel:Nat} {listed:Array Bool} {a:Act} {w:World} (hr:Region.ready md ops listed=[i]) (ho:ops[i]?=some o)
  (h:∀ K':Act→World→Prop,Shut (∀ a w,(Z.contains i=false→S w)→oG F n P md ops Q S Z fuel (listed.setIfInBounds i true) a w→K' a w)→if Region.wanted o (yielded ops a.tmps)=true then Oper.wpIn F n P o a w K' Q else K' (a.put o.dst undef) w) :
  oG F n P md ops Q S Z (fuel + 1) listed a w:=by
 refine ⟨fun h0=>(by rw [hr] at h0;cases h0),fun j hj=>?_⟩
 rw [hr,List.mem_singleton] at hj
 subst hj
 unfold wpOpIn
 simp only [ho]
 have h':=h (fun a' w'=>(Z.contains j=false→S w')∧oG F n P md ops Q S Z fuel (listed.setIfInBounds j true) a' w') (fun a w hS hW=>⟨hS,hW⟩)
 split
 ·rename_i hw
  rw [aT hw] at h'
  exact h'
 ·rename_i hw
  rw [aX hw] at h'
  exact ⟨fun f _=>hF f,h'⟩
theorem lS {listed:Array Bool} {a:Act} {w:World} (hr:Region.ready md ops listed=[]) (h:Q .normal a w):∀ fuel,oG F n P md ops Q S Z fuel listed a w
 | 0=>⟨hr,h⟩
 | _ + 1=>⟨fun _=>h,by rw [hr];simp⟩
theorem jT (S:World→Prop) (Z:List Nat) {id:Nat} {a:Act} {w:World} (hmx:P.follows .mixedOrders=true)
  (h:oG F n P .any ops Q S Z ops.size (Array.replicate ops.size false) a w.drew):(Code.region id ops true).wpIn F n P Q a w :=
 wpIn_region_any hmx (oG.any _ _ _ _ h)
end
end Fx
namespace Pk
open Go Go.RowKit
def fold (z:Int):Nat:=if 0≤z then 2 * z.toNat else 2 * (-(z + 1)).toNat + 1
def Jk (n most:Int):Bool:=decide (0≤n∧n≤most)
end Pk
end Go.Proofs.YtbbhmhihpdmoiaaGreat
