import Derived.Test.YtbbhmhihpdmoiaaGreatJr01
set_option linter.unusedVariables false
set_option linter.unusedSimpArgs false
set_option maxRecDepth 100000
set_option maxHeartbeats 32000000
namespace Go.Proofs.YtbbhmhihpdmoiaaGreat
namespace Pk
open Fx (Kept lS jT iZ gQ iU)
open Go Go.RowKit Go.Shelf
attribute [local go_sem] Oper.semAt_some
structure WS (B b p:Nat) (v:Value) (m:List Nat) (X:World):Prop where
 box:X.heap[b]?=some (.cells #[.pointer (some ⟨p,0,none⟩)] 75 (0,0))
 row:X.heap[p]?=some (.cells #[.bool true,.bool false,v] 120 (0,0))
 own:Own X B v m
theorem WS.below {B b p:Nat} {v:Value} {m:List Nat} {X Y:World} (s:WS B b p v m X) (h:Below X.heap.size X Y):WS B b p v m Y:=⟨dV h s.box,dV h s.row,s.own.below h⟩
theorem WS.alloc {B b p:Nat} {v:Value} {m:List Nat} {X:World} (s:WS B b p v m X) (o:Obj):WS B b p v m (X.alloc o):=⟨dW s.box,dW s.row,s.own.alloc o⟩
theorem WS.facts {B b p:Nat} {v:Value} {m:List Nat} {X:World} (s:WS B b p v m X):X.cell? ⟨b,0,none⟩=some (.pointer (some ⟨p,0,none⟩))∧X.cell? ⟨p,2,none⟩=some v :=
 ⟨by rw [aF _ _ _ _ _ _ s.box];rfl,by rw [aF _ _ _ _ _ _ s.row];rfl⟩
structure WT (B b p:Nat) (v v':Value) (m:List Nat) (W X:World):Prop where
 box:X.heap[b]?=some (.cells #[.pointer (some ⟨p,0,none⟩)] 75 (0,0))
 row:X.heap[p]?=some (.cells #[.bool true,.bool false,v] 120 (0,0))
 own:Own X B v' m
 turn:Turn p v v' W X
 keeps:KeepsOthers W X
theorem WT.facts {B b p:Nat} {v v2:Value} {m:List Nat} {W X:World} (s:WT B b p v v2 m W X):X.cell? ⟨b,0,none⟩=some (.pointer (some ⟨p,0,none⟩))∧X.cell? ⟨p,2,none⟩=some v :=
 ⟨by rw [aF _ _ _ _ _ _ s.box];rfl,by rw [aF _ _ _ _ _ _ s.row];rfl⟩
theorem WT.free {B b p:Nat} {v v':Value} {m:List Nat} {W X:World} (s:WT B b p v v' m W X):X.frozen? ⟨p,2,none⟩=false:=dU s.row
theorem jQ {W X:World} (h:Below W.heap.size W X):KeepsOthers W X :=
 ⟨h.size,fun k o hk _=>by rw [h.block k (aC.1 hk).1];exact hk⟩
theorem JV {W X:World} {v:Value} {B:Nat} {m:List Nat} (ho:Own W B v m) (h:W.grownBy X v.ownBlock):KeepsOthers W X :=
 ⟨h.size,fun k o hk hc=>by
  rw [h.block k (aC.1 hk).1 (fun e=>?_)]
  ·exact hk
  ·obtain ⟨_,h2⟩:=ho
   rcases h2 with ⟨rfl,_⟩ | ⟨g,cap,cur,rfl,hb,hg,_⟩
   ·cases e
   ·cases e
    rw [hg] at hk
    cases hk
    cases hc⟩
theorem WS.step {B b p:Nat} {v v':Value} {m m':List Nat} {W X Y:World} (s:WS B b p v m X) (hb:Below W.heap.size W X) (ho:Own Y B v' m') (hg:X.grownBy Y v.ownBlock) (hn:∀ k,v'.ownBlock=some k→v.ownBlock=some k∨X.heap.size≤k):WT B b p v v' m' W Y :=
 ⟨(hg.block b (aC.1 s.box).1 (fun e=>s.own.apart s.box (by decide) b e.symm rfl)).trans s.box,(hg.block p (aC.1 s.row).1 (fun e=>s.own.apart s.row (by decide) p e.symm rfl)).trans s.row,ho,
  (Turn.of_below hb).trans (Turn.jP hg hn),(jQ hb).trans (JV s.own hg)⟩
theorem WT.below {B b p:Nat} {v v':Value} {m:List Nat} {W X Y:World} (s:WT B b p v v' m W X) (h:Below X.heap.size X Y):WT B b p v v' m W Y :=
 ⟨dV h s.box,dV h s.row,s.own.below h,s.turn.trans (Turn.of_below h),s.keeps.trans (jQ h)⟩
structure WD (B b p:Nat) (v v':Value) (m:List Nat) (W X:World):Prop where
 ws:WS B b p v' m X
 turn:Turn p v v' W X
 keeps:KeepsOthers W X
theorem WT.put {B b p:Nat} {v v':Value} {m:List Nat} {W X Y:World} (s:WT B b p v v' m W X) (h:Below (X.setCell ⟨p,2,none⟩ v').heap.size (X.setCell ⟨p,2,none⟩ v') Y):WD B b p v v' m W Y:=by
 have hne:b≠p:=by
  rintro rfl
  have h1:=s.box
  rw [s.row] at h1
  cases h1
 have a1:=aK _ _ 2 _ _ v' s.row
 have a0:(X.setCell ⟨p,2,none⟩ v').heap[b]?=some (.cells #[.pointer (some ⟨p,0,none⟩)] 75 (0,0)):=by rw [aH _ _ _ _ hne];exact s.box
 have ao:Own (X.setCell ⟨p,2,none⟩ v') B v' m:=s.own.grown (fO _ _ _ _) (fun k hk e=>s.own.apart s.row (by decide) k hk (bF e))
 exact ⟨(WS.below ⟨a0,a1,ao⟩ h),(s.turn.trans (Turn.set p 2 v' v' X)).trans (Turn.of_below h),(s.keeps.trans (KeepsOthers.setCell _ _ _)).trans (jQ h)⟩
def UI (B p n:Nat) (v0:Value) (l:List Nat) (w:World) (k:Nat) (W:World):Prop :=
 ∃ v,WS B w.heap.size p v (l ++ (form n).take k) W∧Turn p v0 v w W∧W.heap[w.heap.size + 1]?=some (.cells #[.int .u64 (n:Int)] 89 (0,0))
theorem Turn.kept {p B:Nat} {v v':Value} {w W X:World} (s:Turn p v v' w W) (hB:w.heap.size≤B) (k:Kept B W X):Turn p v v' w X :=
 ⟨k.os.trans s.os,k.tape.trans s.tape,k.output.trans s.output,bH s.size k.size,fun i hi hp hv=>by
  have h:=s.block i hi hp hv
  rw [←h]
  have hi2:i < W.heap.size:=aM hi s.size
  rw [Array.getElem?_eq_getElem hi2]
  exact k.block i _ (Array.getElem?_eq_getElem hi2) (.inl (by omega)),s.own⟩
theorem Own.kept {B C:Nat} {v:Value} {m:List Nat} {W X:World} (s:Own W C v m) (k:Kept B W X):Own X C v m:=by
 obtain ⟨h1,h2⟩:=s
 refine ⟨h1,?_⟩
 rcases h2 with h2 | ⟨g,cap,cur,e,hb,hg,h3⟩
 ·exact .inl h2
 ·exact .inr ⟨g,cap,cur,e,hb,k.cells hg,h3⟩
theorem UI.kept {B p n k C:Nat} {v0:Value} {l:List Nat} {w W X:World} (hC:w.heap.size≤C) (s:UI B p n v0 l w k W) (hk:Kept C W X):UI B p n v0 l w k X:=by
 obtain ⟨v,ws,t,c⟩:=s
 exact ⟨v,⟨hk.cells ws.box,hk.cells ws.row,ws.own.kept hk⟩,t.kept hC hk,hk.cells c⟩
theorem UI.reads {B p n k:Nat} {v0:Value} {l:List Nat} {w W:World} (s:UI B p n v0 l w k W):XE n (w.heap.size + 1) W:=by
 obtain ⟨v,ws,t,c⟩:=s
 unfold XE
 rw [aF _ _ _ _ _ _ c]
 rfl
theorem IK {m:List Nat} {k:Nat} (h:k < m.length):m.take (k + 1)=m.take k ++ [m.getD k 0]:=by
 rw [dH]
 simp [h,List.getD]
def KW (B p:Nat) (v:Value) (l:List Nat) (lost:Bool) (w:World) (e:Ending) (w':World):Prop:=e=.returned undef∧∃ v',PW B p v' l lost w'∧Turn p v v' w w'
end Pk
namespace Pk
open Go Go.RowKit
theorem PW.cells {B p:Nat} {v:Value} {l:List Nat} {lost:Bool} {W:World} (h:PW B p v l lost W):W.cell? ⟨p,0,none⟩=some (.bool true)∧W.cell? ⟨p,1,none⟩=some (.bool lost)∧W.cell? ⟨p,2,none⟩=some v∧W.frozen? ⟨p,1,none⟩=false∧W.frozen? ⟨p,2,none⟩=false :=
 ⟨by rw [aF _ _ _ _ _ _ h.row];rfl,by rw [aF _ _ _ _ _ _ h.row];rfl,by rw [aF _ _ _ _ _ _ h.row];rfl,dU h.row,dU h.row⟩
theorem PW.below {B p:Nat} {v:Value} {l:List Nat} {lost:Bool} {W X:World} (h:PW B p v l lost W) (hb:Below W.heap.size W X):PW B p v l lost X:=⟨dV hb h.row,h.own.below hb⟩
theorem PW.DD {B p:Nat} {v:Value} {l:List Nat} {lost:Bool} {W:World} (h:PW B p v l lost W):PW B p v l true (W.setCell ⟨p,1,none⟩ (.bool true)) :=
 ⟨aK _ _ 1 _ _ (.bool true) h.row,h.own.grown (fO _ _ _ _) (fun k hk e=>h.own.apart h.row (by decide) k hk (bF e))⟩
theorem PW.lt {B p:Nat} {v:Value} {l:List Nat} {lost:Bool} {W:World} (h:PW B p v l lost W):p < W.heap.size:=(aC.1 h.row).1
theorem sO (w:World):Own (w.alloc (.cells #[] 5)) w.heap.size (.slice (some ⟨w.heap.size,0,none⟩) 0 0) [] :=
 ⟨rfl,.inr ⟨w.heap.size,0,#[],rfl,aB _,aG _ _,aB _,by unfold maxLen;omega,rfl,rfl⟩⟩
theorem wM (o:Option Addr) (c:Nat) (m:List Nat) (w:World) (hc:o=none→c=0) (hlen:m.length≤1000000000) (hb:Bs w o m) :
  Calls Tryz.prog 96 #[.slice o m.length c] w fun e w'=>(∃ v,e=.returned v∧Own w' w.heap.size v m)∧Below w.heap.size w w':=by
 cases o with
 | none =>
  obtain rfl:=FD hb
  obtain rfl:=hc rfl
  clear hb hc
  have ee:∀ w,(binOp .eql 31 (.slice none 0 0) (.slice none 0 0)).run Tryz.prog w=.ok (.bool true) w:=fun w=>nZ w 31 5 none 0 0 bS
  simp only [List.length_nil]
  go_enter Tryz.func96,Tryz.ntmps96
  go_wp2_with fail
  go_ret
  exact ⟨⟨_,rfl,dJ _ _ _ _⟩,aI _ _⟩
 | some a =>
  have HB:=aA hb
  have HL:=aA hlen
  clear hb hc hlen
  have ee:∀ w,(binOp .eql 31 (.slice (some a) m.length c) (.slice none 0 0)).run Tryz.prog w=.ok (.bool false) w:=fun w=>nZ w 31 5 (some a) m.length c bS
  go_enter Tryz.func96,Tryz.ntmps96
  have HO:=aA (sO w)
  have HB2:=aA (HB.out.below ((aI _ w).alloc (aB _) (.cells #[] 5)))
  have HN:=aA ((aI w.heap.size w).alloc (aB _) (.cells #[] 5))
  go_wp2_with (at_builtin;refine AU rfl (.tmp 5) (.tmp 6) rfl w.heap.size _ [] rfl HO.out (some a) m c rfl (fun h=>by cases h) HB2.out (by have:=HL.out;simp;omega) (by simp) ?_;intro v1 w1 ho1 hg1 _)
  have HE:Hid (Own w1 w.heap.size v1 m∧Below w.heap.size w w1):=aA ⟨ho1,HN.out.grown hg1 (by simp) (fun k hk=>by cases hk;exact aB _)⟩
  clear ho1 hg1 HO HB HB2 HN HL
  go_ret
  exact ⟨⟨v1,rfl,HE.out.1⟩,HE.out.2⟩
theorem Bs.turn {W X:World} {o:Option Addr} {m:List Nat} {p:Nat} {v v':Value} (hb:Bs W o m) (t:Turn p v v' W X) (h:∀ b off,o=some ⟨b,off,none⟩→0 < m.length→b≠p∧v.ownBlock≠some b):Bs X o m:=fun i hi=>by
 obtain ⟨b,off,e,hc⟩:=hb i hi
 refine ⟨b,off,e,?_⟩
 obtain ⟨h1,h2⟩:=h b off e (by omega)
 rw [dG (t.block b (block_lt_of_cell hc) h1 h2)]
 exact hc
end Pk
end Go.Proofs.YtbbhmhihpdmoiaaGreat
