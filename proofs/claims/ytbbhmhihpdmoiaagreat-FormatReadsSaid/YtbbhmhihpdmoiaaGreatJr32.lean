import Derived.Test.YtbbhmhihpdmoiaaGreatJr31
set_option linter.unusedVariables false
set_option linter.unusedSimpArgs false
set_option maxRecDepth 100000
set_option maxHeartbeats 32000000
namespace Go.Proofs.YtbbhmhihpdmoiaaGreat
namespace Cx
open Fx (fC fD dP)
open Go Go.RowKit Go.Shelf
attribute [local go_sem] Oper.semAt_some
theorem FD {W:World} {l:List Nat} (h:Bs W none l):l=[]:=by
 cases l with
 | nil=>rfl
 | cons x l=>obtain ⟨_,_,e,_⟩:=h 0 (by simp);cases e
theorem YP (l:List Nat) (o:Option Addr) (cap:Nat) (w:World) (hlen:l.length≤1000000) (hq:o=none→cap=0) (hb:Bs w o l) :
  Calls Tryz.prog 70 #[.slice o l.length cap] w fun e w'=>(∃ v,e=.returned v∧Own w' w.heap.size v l)∧Below w.heap.size w w':=by
 obtain ⟨i0,hi,hz0,hz1,hz2⟩:=info_parts info5
 cases o with
 | none =>
  obtain rfl:=FD hb
  obtain rfl:=hq rfl
  go_enter Tryz.func70,Tryz.ntmps70
  go_wp2_with (at_builtin;refine wpList_append_own_none rfl _ _ 31 rfl w.heap.size 5 i0 1 bS hi (.slice none 0 0) 0 [] rfl (dJ _ _ _ _) rfl ?_)
  go_ret
  exact ⟨⟨_,rfl,dJ _ _ _ _⟩,aI _ _⟩
 | some a =>
  have HN:=aA (rF hb a rfl)
  clear hb
  go_enter Tryz.func70,Tryz.ntmps70
  go_wp2_with (at_builtin;refine wpList_append_own _ rfl _ _ 31 rfl w.heap.size 5 i0 (.int .u8 0) 1 1 bS hi hz0 hz1 hz2 rfl (by decide) (.slice none 0 0) 0 [] rfl (dJ _ _ _ _) a l.length cap (l.map jD) rfl (by simp) HN.out (uW l) (by unfold maxLen;omega) (by omega) (by simp) ?_;intro v' w1 hown hgrow _)
  have HO:Hid (Own w1 w.heap.size v' l):=aA (by
   unfold Own
   rw [bB,bX] at hown
   exact hown)
  have HB:Hid (Below w.heap.size w w1):=aA ((aI _ w).grown hgrow (aB _) (by intro k hk;cases hk))
  clear hown hgrow
  go_ret
  exact ⟨⟨v',rfl,HO.out⟩,HB.out⟩
theorem IW (n:Nat) (o:Option Addr) (cap:Nat) (w:World) (hn:n < 4) :
  Calls Tryz.prog 85 #[.slice o n cap] w (No w):=by
 have t1:(n:Int) - 4 < 0:=by omega
 go_enter Tryz.func85,Tryz.ntmps85
 go_wp2_with fail
 go_ret2
 exact ⟨rfl,aI _ _⟩
theorem QO {c0 c1 c2 c3 s:Nat} (h0:c0 < 256) (h1:c1 < 256) (h2:c2 < 256) (h3:c3 < 256) (hs:s < 4294967296):(c0 + 256 * c1 + 65536 * c2 + 16777216 * c3=s)↔[c0,c1,c2,c3]=pM s:=by
 simp only [pM,List.cons.injEq,and_true]
 omega
theorem MR (l:List Nat) (c0 c1 c2 c3 b off cap:Nat) (w:World) (hl:By l) (k0:c0 < 256) (k1:c1 < 256) (k2:c2 < 256) (k3:c3 < 256) (hlen:l.length≤990000) (hcap:l.length + 4≤cap) (hcap2:cap≤9223372036854775807) (hb:Bs w (some ⟨b,off,none⟩) l)
  (h0:w.cell? ⟨b,off + l.length,none⟩=some (.int .u8 (c0:Int))) (h1:w.cell? ⟨b,off + (l.length + 1),none⟩=some (.int .u8 (c1:Int))) (h2:w.cell? ⟨b,off + (l.length + 2),none⟩=some (.int .u8 (c2:Int))) (h3:w.cell? ⟨b,off + (l.length + 3),none⟩=some (.int .u8 (c3:Int))) :
  Calls Tryz.prog 85 #[.slice (some ⟨b,off,none⟩) (l.length + 4) cap] w fun e w' =>
   if ([c0,c1,c2,c3] == pM (more 0 l))=true then (∃ v,e=.returned (.tuple #[v,.int .i64 0])∧Own w' w.heap.size v l)∧Below w.heap.size w w' else No w e w':=by
 have hs:=FE hl (show 0 < 4294967296 by omega)
 have H0:=aA (fun W h=>ZU l (some ⟨b,off,none⟩) cap W hl (by omega) h)
 have H2:=aA (fun W h=>YP l (some ⟨b,off,none⟩) cap W (by omega) (by intro h;cases h) h)
 have HCQ:Hid ((c0 + 256 * c1 + 65536 * c2 + 16777216 * c3=more 0 l)↔([c0,c1,c2,c3] == pM (more 0 l))=true):=aA (by rw [QO k0 k1 k2 k3 hs];simp)
 have XQ:=aA hb
 have tV:=aA h0;have qK:=aA h1;have tT:=aA h2;have qW:=aA h3
 have hc1:(l.length:Int)≤(cap:Int):=by omega
 have hc2:(l.length:Int) + 4≤(cap:Int):=by omega
 have hc3:(l.length:Int)≤(l.length:Int) + 4:=by omega
 have hl0:(0:Int)≤(l.length:Int):=by omega
 have i0:(l.length:Int) < (l.length:Int) + 4:=by omega
 have i1:(l.length:Int) + 1 < (l.length:Int) + 4:=by omega
 have i2:(l.length:Int) + 2 < (l.length:Int) + 4:=by omega
 have i3:(l.length:Int) + 3 < (l.length:Int) + 4:=by omega
 have p0:(l.length:Int)≤990000:=by omega
 have q0:(c0:Int)≤255:=by omega
 have q1:(c1:Int)≤255:=by omega
 have q2:(c2:Int)≤255:=by omega
 have q3:(c3:Int)≤255:=by omega
 have z1:IntKind.i64.wrap ((l.length:Int) + 1)=(l.length:Int) + 1:=IntWalk.i64_in _ ⟨by omega,by omega⟩
 have z2:IntKind.i64.wrap ((l.length:Int) + 2)=(l.length:Int) + 2:=IntWalk.i64_in _ ⟨by omega,by omega⟩
 have z3:IntKind.i64.wrap ((l.length:Int) + 3)=(l.length:Int) + 3:=IntWalk.i64_in _ ⟨by omega,by omega⟩
 have n1:((l.length:Int) + 1).toNat=l.length + 1:=by omega
 have n2:((l.length:Int) + 2).toNat=l.length + 2:=by omega
 have n3:((l.length:Int) + 3).toNat=l.length + 3:=by omega
 have g1:(0:Int)≤(l.length:Int) + 1:=by omega
 have g2:(0:Int)≤(l.length:Int) + 2:=by omega
 have g3:(0:Int)≤(l.length:Int) + 3:=by omega
 have uw:∀ z:Int,0≤z→z < 4294967296→IntKind.u32.wrap z=z:=fun z a b=>by rw [IntKind.wrap_u32'];omega
 have e0:IntKind.u32.wrap (c0:Int)=(c0:Int):=uw _ (by omega) (by omega)
 have e1:IntKind.u32.wrap (c1:Int)=(c1:Int):=uw _ (by omega) (by omega)
 have e2:IntKind.u32.wrap (c2:Int)=(c2:Int):=uw _ (by omega) (by omega)
 have e3:IntKind.u32.wrap (c3:Int)=(c3:Int):=uw _ (by omega) (by omega)
 have m1:IntKind.u32.wrap (256 * (c1:Int))=256 * (c1:Int):=uw _ (by omega) (by omega)
 have m2:IntKind.u32.wrap (65536 * (c2:Int))=65536 * (c2:Int):=uw _ (by omega) (by omega)
 have m3:IntKind.u32.wrap (16777216 * (c3:Int))=16777216 * (c3:Int):=uw _ (by omega) (by omega)
 have a1:IntKind.u32.wrap ((c0:Int) + 256 * (c1:Int))=(c0:Int) + 256 * (c1:Int):=uw _ (by omega) (by omega)
 have a2:IntKind.u32.wrap ((c0:Int) + 256 * (c1:Int) + 65536 * (c2:Int))=(c0:Int) + 256 * (c1:Int) + 65536 * (c2:Int):=uw _ (by omega) (by omega)
 have a3:IntKind.u32.wrap ((c0:Int) + 256 * (c1:Int) + 65536 * (c2:Int) + 16777216 * (c3:Int))=(c0:Int) + 256 * (c1:Int) + 65536 * (c2:Int) + 16777216 * (c3:Int):=uw _ (by omega) (by omega)
 clear hb h0 h1 h2 h3 hs hl uw
 generalize more 0 l=s at *
 generalize ([c0,c1,c2,c3] == pM s)=q at *
 go_enter Tryz.func85,Tryz.ntmps85
 go_wp2_with fail
 refine (bG (n:=5)).1 (fD (F:=Fence.wide) (S:=fun X=>Below w.heap.size w X) (by kernel_rfl) (fG _ _ 1) (fun hHeld=>?_))
 refine dP (fun _=>trivial) (by kernel_rfl) (i:=0) (oi:=_) (v:=?_) rfl (by kernel_rfl) (by kernel_rfl) (by kernel_rfl) (fun _ _ _ h=>h) (by assumption) (Or.inl ⟨by kernel_rfl,?_⟩) ?_
 rotate_left
 ·intro wz hSw;have d0:=dN hSw tV.out;have d1:=dN hSw qK.out;have d2:=dN hSw tT.out;have d3:=dN hSw qW.out;(first | (go_simp;done) | (go_simp;with_reducible rfl))
 try simp only [aQ]
 refine dP (fun _=>trivial) (by kernel_rfl) (i:=1) (oi:=_) (v:=?_) rfl (by kernel_rfl) (by kernel_rfl) (by kernel_rfl) (fun _ _ _ h=>h) (by assumption) (Or.inl ⟨by kernel_rfl,?_⟩) ?_
 rotate_left
 ·intro wz hSw;have d0:=dN hSw tV.out;have d1:=dN hSw qK.out;have d2:=dN hSw tT.out;have d3:=dN hSw qW.out;(first | (go_simp;done) | (go_simp;with_reducible rfl))
 try simp only [aQ]
 refine dP (fun _=>trivial) (by kernel_rfl) (i:=2) (oi:=_) (v:=?_) rfl (by kernel_rfl) (by kernel_rfl) (by kernel_rfl) (fun _ _ _ h=>h) (by assumption) (Or.inl ⟨by kernel_rfl,?_⟩) ?_
 rotate_left
 ·intro wz hSw;have d0:=dN hSw tV.out;have d1:=dN hSw qK.out;have d2:=dN hSw tT.out;have d3:=dN hSw qW.out;(first | (go_simp;done) | (go_simp;with_reducible rfl))
 try simp only [aQ]
 refine dP (fun _=>trivial) (by kernel_rfl) (i:=3) (oi:=_) (v:=?_) rfl (by kernel_rfl) (by kernel_rfl) (by kernel_rfl) (fun _ _ _ h=>h) (by assumption) (Or.inl ⟨by kernel_rfl,?_⟩) ?_
 rotate_left
 ·intro wz hSw;have d0:=dN hSw tV.out;have d1:=dN hSw qK.out;have d2:=dN hSw tT.out;have d3:=dN hSw qW.out;(first | (go_simp;done) | (go_simp;with_reducible rfl))
 try simp only [aQ]
 refine dP (fun _=>trivial) (by kernel_rfl) (i:=4) (oi:=_) (v:=?_) rfl (by kernel_rfl) (by kernel_rfl) (by kernel_rfl) (fun _ _ _ h=>h) (by assumption) (Or.inl ⟨by kernel_rfl,?_⟩) ?_
 rotate_left
 ·intro wz hSw;have d0:=dN hSw tV.out;have d1:=dN hSw qK.out;have d2:=dN hSw tT.out;have d3:=dN hSw qW.out;(first | (go_simp;done) | (go_simp;with_reducible rfl))
 try simp only [aQ]
 refine dP (fun _=>trivial) (by kernel_rfl) (i:=5) (oi:=_) (v:=?_) rfl (by kernel_rfl) (by kernel_rfl) (by kernel_rfl) (fun _ _ _ h=>h) (by assumption) (Or.inl ⟨by kernel_rfl,?_⟩) ?_
 rotate_left
 ·intro wz hSw;have d0:=dN hSw tV.out;have d1:=dN hSw qK.out;have d2:=dN hSw tT.out;have d3:=dN hSw qW.out;(first | (go_simp;done) | (go_simp;with_reducible rfl))
 try simp only [aQ]
 refine dP (fun _=>trivial) (by kernel_rfl) (i:=6) (oi:=_) (v:=?_) rfl (by kernel_rfl) (by kernel_rfl) (by kernel_rfl) (fun _ _ _ h=>h) (by assumption) (Or.inl ⟨by kernel_rfl,?_⟩) ?_
 rotate_left
 ·intro wz hSw;have d0:=dN hSw tV.out;have d1:=dN hSw qK.out;have d2:=dN hSw tT.out;have d3:=dN hSw qW.out;(first | (go_simp;done) | (go_simp;with_reducible rfl))
 try simp only [aQ]
 refine dP (fun _=>trivial) (by kernel_rfl) (i:=7) (oi:=_) (v:=?_) rfl (by kernel_rfl) (by kernel_rfl) (by kernel_rfl) (fun _ _ _ h=>h) (by assumption) (Or.inl ⟨by kernel_rfl,?_⟩) ?_
 rotate_left
 ·intro wz hSw;have d0:=dN hSw tV.out;have d1:=dN hSw qK.out;have d2:=dN hSw tT.out;have d3:=dN hSw qW.out;(first | (go_simp;done) | (go_simp;with_reducible rfl))
 try simp only [aQ]
 refine dP (fun _=>trivial) (by kernel_rfl) (i:=8) (oi:=_) (v:=?_) rfl (by kernel_rfl) (by kernel_rfl) (by kernel_rfl) (fun _ _ _ h=>h) (by assumption) (Or.inl ⟨by kernel_rfl,?_⟩) ?_
 rotate_left
 ·intro wz hSw;have d0:=dN hSw tV.out;have d1:=dN hSw qK.out;have d2:=dN hSw tT.out;have d3:=dN hSw qW.out;(first | (go_simp;done) | (go_simp;with_reducible rfl))
 try simp only [aQ]
 refine dP (fun _=>trivial) (by kernel_rfl) (i:=9) (oi:=_) (v:=?_) rfl (by kernel_rfl) (by kernel_rfl) (by kernel_rfl) (fun _ _ _ h=>h) (by assumption) (Or.inl ⟨by kernel_rfl,?_⟩) ?_
 rotate_left
 ·intro wz hSw;have d0:=dN hSw tV.out;have d1:=dN hSw qK.out;have d2:=dN hSw tT.out;have d3:=dN hSw qW.out;(first | (go_simp;done) | (go_simp;with_reducible rfl))
 try simp only [aQ]
 refine dP (fun _=>trivial) (by kernel_rfl) (i:=10) (oi:=_) (v:=?_) rfl (by kernel_rfl) (by kernel_rfl) (by kernel_rfl) (fun _ _ _ h=>h) (by assumption) (Or.inl ⟨by kernel_rfl,?_⟩) ?_
 rotate_left
 ·intro wz hSw;have d0:=dN hSw tV.out;have d1:=dN hSw qK.out;have d2:=dN hSw tT.out;have d3:=dN hSw qW.out;(first | (go_simp;done) | (go_simp;with_reducible rfl))
 try simp only [aQ]
 refine dP (fun _=>trivial) (by kernel_rfl) (i:=11) (oi:=_) (v:=?_) rfl (by kernel_rfl) (by kernel_rfl) (by kernel_rfl) (fun _ _ _ h=>h) (by assumption) (Or.inl ⟨by kernel_rfl,?_⟩) ?_
 rotate_left
 ·intro wz hSw;have d0:=dN hSw tV.out;have d1:=dN hSw qK.out;have d2:=dN hSw tT.out;have d3:=dN hSw qW.out;(first | (go_simp;done) | (go_simp;with_reducible rfl))
 try simp only [aQ]
 refine dP (fun _=>trivial) (by kernel_rfl) (i:=12) (oi:=_) (v:=?_) rfl (by kernel_rfl) (by kernel_rfl) (by kernel_rfl) (fun _ _ _ h=>h) (by assumption) (Or.inl ⟨by kernel_rfl,?_⟩) ?_
 rotate_left
 ·intro wz hSw;have d0:=dN hSw tV.out;have d1:=dN hSw qK.out;have d2:=dN hSw tT.out;have d3:=dN hSw qW.out;(first | (go_simp;done) | (go_simp;with_reducible rfl))
 try simp only [aQ]
 refine dP (fun _=>trivial) (by kernel_rfl) (i:=13) (oi:=_) (v:=?_) rfl (by kernel_rfl) (by kernel_rfl) (by kernel_rfl) (fun _ _ _ h=>h) (by assumption) (Or.inl ⟨by kernel_rfl,?_⟩) ?_
 rotate_left
 ·intro wz hSw;have d0:=dN hSw tV.out;have d1:=dN hSw qK.out;have d2:=dN hSw tT.out;have d3:=dN hSw qW.out;(first | (go_simp;done) | (go_simp;with_reducible rfl))
 try simp only [aQ]
 refine dP (fun _=>trivial) (by kernel_rfl) (i:=14) (oi:=_) (v:=?_) rfl (by kernel_rfl) (by kernel_rfl) (by kernel_rfl) (fun _ _ _ h=>h) (by assumption) (Or.inl ⟨by kernel_rfl,?_⟩) ?_
 rotate_left
 ·intro wz hSw;have d0:=dN hSw tV.out;have d1:=dN hSw qK.out;have d2:=dN hSw tT.out;have d3:=dN hSw qW.out;(first | (go_simp;done) | (go_simp;with_reducible rfl))
 try simp only [aQ]
 refine dP (fun _=>trivial) (by kernel_rfl) (i:=15) (oi:=_) (v:=?_) rfl (by kernel_rfl) (by kernel_rfl) (by kernel_rfl) (fun _ _ _ h=>h) (by assumption) (Or.inl ⟨by kernel_rfl,?_⟩) ?_
 rotate_left
 ·intro wz hSw;have d0:=dN hSw tV.out;have d1:=dN hSw qK.out;have d2:=dN hSw tT.out;have d3:=dN hSw qW.out;(first | (go_simp;done) | (go_simp;with_reducible rfl))
 try simp only [aQ]
 refine dP (fun _=>trivial) (by kernel_rfl) (i:=16) (oi:=_) (v:=?_) rfl (by kernel_rfl) (by kernel_rfl) (by kernel_rfl) (fun _ _ _ h=>h) (by assumption) (Or.inl ⟨by kernel_rfl,?_⟩) ?_
 rotate_left
 ·intro wz hSw;have d0:=dN hSw tV.out;have d1:=dN hSw qK.out;have d2:=dN hSw tT.out;have d3:=dN hSw qW.out;(first | (go_simp;done) | (go_simp;with_reducible rfl))
 try simp only [aQ]
 refine dP (fun _=>trivial) (by kernel_rfl) (i:=17) (oi:=_) (v:=?_) rfl (by kernel_rfl) (by kernel_rfl) (by kernel_rfl) (fun _ _ _ h=>h) (by assumption) (Or.inl ⟨by kernel_rfl,?_⟩) ?_
 rotate_left
 ·intro wz hSw;have d0:=dN hSw tV.out;have d1:=dN hSw qK.out;have d2:=dN hSw tT.out;have d3:=dN hSw qW.out;(first | (go_simp;done) | (go_simp;with_reducible rfl))
 try simp only [aQ]
 refine dP (fun _=>trivial) (by kernel_rfl) (i:=18) (oi:=_) (v:=?_) rfl (by kernel_rfl) (by kernel_rfl) (by kernel_rfl) (fun _ _ _ h=>h) (by assumption) (Or.inl ⟨by kernel_rfl,?_⟩) ?_
 rotate_left
 ·intro wz hSw;have d0:=dN hSw tV.out;have d1:=dN hSw qK.out;have d2:=dN hSw tT.out;have d3:=dN hSw qW.out;(first | (go_simp;done) | (go_simp;with_reducible rfl))
 try simp only [aQ]
 refine dP (fun _=>trivial) (by kernel_rfl) (i:=19) (oi:=_) (v:=?_) rfl (by kernel_rfl) (by kernel_rfl) (by kernel_rfl) (fun _ _ _ h=>h) (by assumption) (Or.inl ⟨by kernel_rfl,?_⟩) ?_
 rotate_left
 ·intro wz hSw;have d0:=dN hSw tV.out;have d1:=dN hSw qK.out;have d2:=dN hSw tT.out;have d3:=dN hSw qW.out;(first | (go_simp;done) | (go_simp;with_reducible rfl))
 try simp only [aQ]
 refine dP (fun _=>trivial) (by kernel_rfl) (i:=20) (oi:=_) (v:=?_) rfl (by kernel_rfl) (by kernel_rfl) (by kernel_rfl) (fun _ _ _ h=>h) (by assumption) (Or.inl ⟨by kernel_rfl,?_⟩) ?_
 rotate_left
 ·intro wz hSw;have d0:=dN hSw tV.out;have d1:=dN hSw qK.out;have d2:=dN hSw tT.out;have d3:=dN hSw qW.out;(first | (go_simp;done) | (go_simp;with_reducible rfl))
 try simp only [aQ]
 refine dP (fun _=>trivial) (by kernel_rfl) (i:=21) (oi:=_) (v:=?_) rfl (by kernel_rfl) (by kernel_rfl) (by kernel_rfl) (fun _ _ _ h=>h) (by assumption) (Or.inl ⟨by kernel_rfl,?_⟩) ?_
 rotate_left
 ·intro wz hSw;have d0:=dN hSw tV.out;have d1:=dN hSw qK.out;have d2:=dN hSw tT.out;have d3:=dN hSw qW.out;(first | (go_simp;done) | (go_simp;with_reducible rfl))
 try simp only [aQ]
 refine dP (fun _=>trivial) (by kernel_rfl) (i:=22) (oi:=_) (v:=?_) rfl (by kernel_rfl) (by kernel_rfl) (by kernel_rfl) (fun _ _ _ h=>h) (by assumption) (Or.inl ⟨by kernel_rfl,?_⟩) ?_
 rotate_left
 ·intro wz hSw;have d0:=dN hSw tV.out;have d1:=dN hSw qK.out;have d2:=dN hSw tT.out;have d3:=dN hSw qW.out;(first | (go_simp;done) | (go_simp;with_reducible rfl))
 try simp only [aQ]
 refine dP (fun _=>trivial) (by kernel_rfl) (i:=23) (oi:=_) (v:=?_) rfl (by kernel_rfl) (by kernel_rfl) (by kernel_rfl) (fun _ _ _ h=>h) (by assumption) (Or.inl ⟨by kernel_rfl,?_⟩) ?_
 rotate_left
 ·intro wz hSw;have d0:=dN hSw tV.out;have d1:=dN hSw qK.out;have d2:=dN hSw tT.out;have d3:=dN hSw qW.out;(first | (go_simp;done) | (go_simp;with_reducible rfl))
 try simp only [aQ]
 refine dP (fun _=>trivial) (by kernel_rfl) (i:=24) (oi:=_) (v:=?_) rfl (by kernel_rfl) (by kernel_rfl) (by kernel_rfl) (fun _ _ _ h=>h) (by assumption) (Or.inl ⟨by kernel_rfl,?_⟩) ?_
 rotate_left
 ·intro wz hSw;have d0:=dN hSw tV.out;have d1:=dN hSw qK.out;have d2:=dN hSw tT.out;have d3:=dN hSw qW.out;(first | (go_simp;done) | (go_simp;with_reducible rfl))
 try simp only [aQ]
 refine dP (fun _=>trivial) (by kernel_rfl) (i:=25) (oi:=_) (v:=?_) rfl (by kernel_rfl) (by kernel_rfl) (by kernel_rfl) (fun _ _ _ h=>h) (by assumption) (Or.inl ⟨by kernel_rfl,?_⟩) ?_
 rotate_left
 ·intro wz hSw;have d0:=dN hSw tV.out;have d1:=dN hSw qK.out;have d2:=dN hSw tT.out;have d3:=dN hSw qW.out;(first | (go_simp;done) | (go_simp;with_reducible rfl))
 try simp only [aQ]
 refine dP (fun _=>trivial) (by kernel_rfl) (i:=26) (oi:=_) (v:=?_) rfl (by kernel_rfl) (by kernel_rfl) (by kernel_rfl) (fun _ _ _ h=>h) (by assumption) (Or.inl ⟨by kernel_rfl,?_⟩) ?_
 rotate_left
 ·intro wz hSw;have d0:=dN hSw tV.out;have d1:=dN hSw qK.out;have d2:=dN hSw tT.out;have d3:=dN hSw qW.out;(first | (go_simp;done) | (go_simp;with_reducible rfl))
 try simp only [aQ]
 refine dP (fun _=>trivial) (by kernel_rfl) (i:=27) (oi:=_) (v:=?_) rfl (by kernel_rfl) (by kernel_rfl) (by kernel_rfl) (fun _ _ _ h=>h) (by assumption) (Or.inl ⟨by kernel_rfl,?_⟩) ?_
 rotate_left
 ·intro wz hSw;have d0:=dN hSw tV.out;have d1:=dN hSw qK.out;have d2:=dN hSw tT.out;have d3:=dN hSw qW.out;(first | (go_simp;done) | (go_simp;with_reducible rfl))
 try simp only [aQ]
 refine dP (fun _=>trivial) (by kernel_rfl) (i:=28) (oi:=_) (v:=?_) rfl (by kernel_rfl) (by kernel_rfl) (by kernel_rfl) (fun _ _ _ h=>h) (by assumption) (Or.inl ⟨by kernel_rfl,?_⟩) ?_
 rotate_left
 ·intro wz hSw;have d0:=dN hSw tV.out;have d1:=dN hSw qK.out;have d2:=dN hSw tT.out;have d3:=dN hSw qW.out;(first | (go_simp;done) | (go_simp;with_reducible rfl))
 try simp only [aQ]
 refine dP (fun _=>trivial) (by kernel_rfl) (i:=29) (oi:=_) (v:=?_) rfl (by kernel_rfl) (by kernel_rfl) (by kernel_rfl) (fun _ _ _ h=>h) (by assumption) (Or.inl ⟨by kernel_rfl,?_⟩) ?_
 rotate_left
 ·intro wz hSw;have d0:=dN hSw tV.out;have d1:=dN hSw qK.out;have d2:=dN hSw tT.out;have d3:=dN hSw qW.out;(first | (go_simp;done) | (go_simp;with_reducible rfl))
 try simp only [aQ]
 refine fC (by kernel_rfl) ?_ _
 have HH:=aA hHeld
 have HBZ:=aA (XQ.out.below hHeld)
 clear hHeld
 rw [show ((c0:Int) + 256 * (c1:Int) + 65536 * (c2:Int) + 16777216 * (c3:Int))=((c0 + 256 * c1 + 65536 * c2 + 16777216 * c3:Nat):Int) by simp]
 rw [show decide ((l.length:Int) < 0)=false from aN (by omega)]
 clear e0 e1 e2 e3 m1 m2 m3 a1 a2 a3 z1 z2 z3 n1 n2 n3 g1 g2 g3 q0 q1 q2 q3 i1 i2 i3
 generalize c0 + 256 * c1 + 65536 * c2 + 16777216 * c3=z at *
 go_wp2_with fail
 refine (H0.out _ HBZ.out).mono ?_
 rintro e wz ⟨rfl,rfl⟩
 by_cases hzs:z=s
 ·obtain rfl:=HCQ.out.1 hzs
  subst hzs
  go_wp2_with fail
  refine (H2.out _ HBZ.out).mono ?_
  rintro e w5 ⟨⟨v,rfl,hown⟩,hb5⟩
  go_wp2_with fail
  go_ret2
  exact ⟨⟨_,rfl,Own.mono HH.out.size hown⟩,dY HH.out hb5⟩
 ·obtain rfl:q=false:=by
   cases q
   ·rfl
   ·exact absurd (HCQ.out.2 rfl) hzs
  have hzi:¬ ((z:Int)=(s:Int)):=by omega
  go_wp2_with fail
  go_ret2
  exact ⟨rfl,HH.out⟩
end Cx
namespace Cx
open Fx (fC fD dX dP)
open Go Go.RowKit Go.Shelf
attribute [local go_sem] Oper.semAt_some
theorem sZ (l:List Nat):(iP l).size=l.length:=by
 show (l.map UInt8.ofNat).toArray.size=_
 simp
def opened (l:List Nat):Option (List Nat):=if 4≤l.length∧l.drop (l.length - 4)=pM (more 0 (l.take (l.length - 4))) then some (l.take (l.length - 4)) else none
def erO (R:Option (List Nat)):Int:=if R.isSome then 0 else 40
def Tm (R:Option (List Nat)) (B:Nat) (e:Ending) (w':World):Prop:=∃ v,e=.returned (.tuple #[v,.int .i64 (erO R)])∧Own w' B v (R.getD [])
theorem No.ret {w w':World} {e:Ending} (h:No w e w'):Tm none w.heap.size e w'∧Below w.heap.size w w':=⟨⟨_,h.1,dJ _ _ _ _⟩,h.2⟩
theorem FW {l:List Nat} {n:Nat} (h:l.length=n + 4):l=l.take n ++ [l.getD n 0,l.getD (n + 1) 0,l.getD (n + 2) 0,l.getD (n + 3) 0]:=by
 have e:l.drop n=[l.getD n 0,l.getD (n + 1) 0,l.getD (n + 2) 0,l.getD (n + 3) 0]:=by
  apply List.ext_getElem?
  intro i
  rw [List.getElem?_drop]
  have g:∀ j,j < l.length→l[j]?=some (l.getD j 0):=fun j hj=>by simp [List.getD,hj]
  match i with
  | 0=>exact g _ (by omega)
  | 1=>exact g _ (by omega)
  | 2=>exact g _ (by omega)
  | 3=>exact g _ (by omega)
  | i + 4 =>
   rw [List.getElem?_eq_none (by omega)]
   rfl
 rw [←e,List.take_append_drop]
theorem rD {l t:List Nat} {c0 c1 c2 c3:Nat} (h:l=t ++ [c0,c1,c2,c3]):opened l=if ([c0,c1,c2,c3] == pM (more 0 t))=true then some t else none:=by
 have hl:l.length=t.length + 4:=by rw [h];simp
 have ht:l.take (l.length - 4)=t:=by rw [hl,dC,h,List.take_left]
 have hd:l.drop (l.length - 4)=[c0,c1,c2,c3]:=by rw [hl,dC,h,List.drop_left]
 unfold opened
 rw [ht,hd]
 by_cases hc:[c0,c1,c2,c3]=pM (more 0 t)
 ·rw [aT ⟨by omega,hc⟩,aT (by rw [hc];exact beq_self_eq_true _)]
 ·rw [aX (fun h=>hc h.2),aX (fun h=>hc (by simpa using h))]
theorem uR {l:List Nat} (h:l.length < 4):opened l=none:=by
 unfold opened
 rw [aX (fun h2=>by omega)]
theorem Am (l:List Nat) (n:Nat) (hn:l.length=n) (o:Option Addr) (cap:Nat) (w:World) (hl:By l) (hlen:l.length≤900000) (hcap:l.length≤cap) (hcap2:cap≤9223372036854775807) (hb:Bs w o l) :
  Calls Tryz.prog 71 #[.slice o n cap] w fun e w'=>Tm (opened l) w.heap.size e w'∧Below w.heap.size w w':=by
 subst hn
 by_cases h4:l.length < 4
 ·rw [uR h4]
  exact (ND _ o cap w h4).mono fun e w' h=>h.ret
 ·obtain ⟨b,off,rfl,_⟩:=hb 0 (by omega)
  have hf:=FW (l:=l) (n:=l.length - 4) (by omega)
  have hlt:(l.take (l.length - 4)).length + 4=l.length:=by rw [bZ];omega
  rw [rD hf]
  have:=Ja (l.take (l.length - 4)) _ _ _ _ b off cap w (hl.take _) (by omega) (by omega) hcap2 (by rw [←hf];exact hb)
  rw [hlt] at this
  refine this.mono ?_
  intro e w' h
  split at h
  ·rename_i hc
   rw [aT hc]
   obtain ⟨⟨v,he,ho⟩,hbel⟩:=h
   exact ⟨⟨v,he,ho⟩,hbel⟩
  ·rename_i hc
   rw [aX hc]
   exact h.ret
theorem UR (l:List Nat) (n:Nat) (hn:l.length=n) (o:Option Addr) (cap:Nat) (w:World) (hl:By l) (hlen:l.length≤900000) (hcap:l.length≤cap) (hcap2:cap≤9223372036854775807) (hb:Bs w o l) :
  Calls Tryz.prog 85 #[.slice o n cap] w fun e w'=>Tm (opened l) w.heap.size e w'∧Below w.heap.size w w':=by
 subst hn
 by_cases h4:l.length < 4
 ·rw [uR h4]
  exact (IW _ o cap w h4).mono fun e w' h=>h.ret
 ·obtain ⟨b,off,rfl,_⟩:=hb 0 (by omega)
  have hf:=FW (l:=l) (n:=l.length - 4) (by omega)
  have hlt:(l.take (l.length - 4)).length + 4=l.length:=by rw [bZ];omega
  rw [rD hf]
  have hlt2:(l.take (l.length - 4)).length=l.length - 4:=by omega
  have:=MR (l.take (l.length - 4)) _ _ _ _ b off cap w (hl.take _) (hl.get _) (hl.get (l.length - 4 + 1)) (hl.get (l.length - 4 + 2)) (hl.get (l.length - 4 + 3)) (by omega) (by omega) hcap2 (hb.take _) (by rw [hlt2];exact tO hb (by omega)) (by rw [hlt2];exact tO hb (by omega)) (by rw [hlt2];exact tO hb (by omega)) (by rw [hlt2];exact tO hb (by omega))
  rw [hlt] at this
  refine this.mono ?_
  intro e w' h
  split at h
  ·rename_i hc
   rw [aT hc]
   obtain ⟨⟨v,he,ho⟩,hbel⟩:=h
   exact ⟨⟨v,he,ho⟩,hbel⟩
  ·rename_i hc
   rw [aX hc]
   exact h.ret
theorem rV {a b c:World} {r:Option Nat} (h1:a.grownBy b r) (h2:b.grownBy c r):a.grownBy c r :=
 ⟨h2.os.trans h1.os,h2.tape.trans h1.tape,h2.output.trans h1.output,bH h1.size h2.size,fun k hk hr=>(h2.block k (aM hk h1.size) hr).trans (h1.block k hk hr)⟩
theorem bump {W:World} {B g cap k:Nat} {ls:List Nat} (h:Own W B (.slice (some ⟨g,0,none⟩) ls.length cap) ls) (c:Nat) :
  Own (W.setCell ⟨g,k,none⟩ (.int .u8 (c:Int))) B (.slice (some ⟨g,0,none⟩) ls.length cap) (ls.set k c)∧W.grownBy (W.setCell ⟨g,k,none⟩ (.int .u8 (c:Int))) (some g):=by
 obtain ⟨h1,h2⟩:=World.ownsRow.stored h k (.int .u8 (c:Int))
 refine ⟨?_,h2⟩
 unfold Own
 rw [List.length_set,List.map_set]
 exact h1
def Bump (W0:World) (B N:Nat) (v:Value) (wx:World):Prop:=∃ ls,ls.length=N∧By ls∧Own wx B v ls∧W0.grownBy wx v.ownBlock
theorem Bump.start {W0:World} {B:Nat} {v:Value} {l:List Nat} (h:Own W0 B v l) (hl:By l):Bump W0 B l.length v W0:=⟨l,rfl,hl,h,cB _ _⟩
theorem Bump.facts {W0 wx:World} {B N k cap:Nat} {o:Option Addr} (h:Bump W0 B N (.slice o N cap) wx) (hk:k < N) :
  ∃ g c,o=some ⟨g,0,none⟩∧c < 256∧wx.cell? ⟨g,k,none⟩=some (.int .u8 ((c:Nat):Int))∧wx.frozen? ⟨g,k,none⟩=false ∧
   Bump W0 B N (.slice (some ⟨g,0,none⟩) N cap) (wx.setCell ⟨g,k,none⟩ (.int .u8 (((c + 1) % 256:Nat):Int))):=by
 obtain ⟨ls,hN,hby,hown,hgr⟩:=h
 obtain ⟨o2,cap2,e,hbs,_,_,_,hfr⟩:=hown.open
 cases e
 obtain ⟨b,off,e,hc⟩:=hbs k (by omega)
 obtain ⟨g,e2,_,_,hf⟩:=hfr _ e
 cases e2
 subst e
 have hb:=bump (k:=k) hown ((ls.getD k 0 + 1) % 256)
 refine ⟨b,ls.getD k 0,rfl,hby.get k,by simpa using hc,hf k,ls.set k ((ls.getD k 0 + 1) % 256),by simp,?_,hb.1,rV hgr hb.2⟩
 intro c hc2
 rcases List.mem_or_eq_of_mem_set hc2 with h | rfl
 ·exact hby c h
 ·exact cK _ (by omega)
end Cx
namespace Fx
open Go Go.RowKit Go.Lib
open Pk (Bs By)
def nE (l:List Nat):List Nat:=l ++ Cx.pM (Cx.more 0 l)
theorem yL {ops:Array Oper} {rest:List Oper} {o:Oper} {a:Act} {Q:Exit→Act→World→Prop} {W:World} (hgd:o.guard=none) (x:Operand) (src dst:TypeId)
  (ho:o.op=.convert src dst x) (vx v:Value) (X:World) (hx:a.eval x=vx) (hrun:(convert src dst vx).run Tryz.prog W=.ok v X)
  (h:wpList Tryz.prog ops Q rest (a.put o.dst v) X):wpList Tryz.prog ops Q (o :: rest) a W:=by
 refine wpList_plain hgd fun K hK'=>?_
 unfold Oper.wp
 simp [execOp,ho,hx,hrun,Result.andThen]
 exact hK' _ _ h
theorem sZ (l:List Nat):(Pk.iP l).size=l.length:=by simp [Pk.iP,ByteArray.size]
theorem Lc {l:List Nat} (h:By l) {j:Nat} (hj:j < l.length):((Pk.iP l).data.toList.getD j 0).toNat=l.getD j 0:=by
 have h1:=h _ (List.getElem_mem hj)
 simp [Pk.iP,aS,hj]
 omega
theorem bytesWorld_below (w:World) (e:TypeId) (s:ByteArray):Below w.heap.size w (bytesWorld w e s):=by
 refine ⟨rfl,rfl,rfl,by rw [bytesWorld_size];omega,fun k hk=>bytesWorld_at_old w e s k hk⟩
theorem mJ {B b:Nat} {a:World} (hb:B≤b):∀ (vs:List Value) (o:Nat) {w:World},Below B a w→Below B a (w.setCells b o vs)
 | [],_,_,h=>h
 | v :: vs,o,w,h=>by
  rw [World.setCells]
  exact mJ hb vs (o + 1) (h.setCell (p:=⟨b,o,none⟩) hb v)
theorem Ah {W:World} {B:Nat} {v:Value} {l:List Nat} (h:Cx.Own W B v l):Pk.Own W B v l:=h
theorem Oe {W:World} {o:Option Addr} {l:List Nat} (h:Pk.Bs W o l):Cx.Bs W o l:=h
theorem Od {l:List Nat} (h:Pk.By l):Cx.By l:=h
end Fx
end Go.Proofs.YtbbhmhihpdmoiaaGreat
