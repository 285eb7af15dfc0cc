import Derived.Test.YtbbhmhihpdmoiaaGreatJf15
import Derived.Test.YtbbhmhihpdmoiaaGreatJf16
set_option linter.unusedVariables false
set_option linter.unusedSimpArgs false
set_option maxRecDepth 100000
set_option maxHeartbeats 32000000
namespace Go.Proofs.YtbbhmhihpdmoiaaGreat
open Go.Proofs.Tryz
namespace Cx
open Fx (eH eI dH)
open Go Go.RowKit Go.Shelf
attribute [local go_sem] Oper.semAt_some
theorem wA {W:World}{l:List Nat}(h:Bs W none l):l=[]:=by
 cases l with
 | nil=>rfl
 | cons x l=>obtain ⟨_,_,e,_⟩:=h 0 (by simp);cases e
theorem PU (l:List Nat)(o:Option Addr)(cap:Nat)(w:World)(hlen:l.length≤1000000)(hq:o=none→cap=0)(hb:Bs w o l) :
  Calls prog 70 #[.slice o l.length cap] w fun e w'=>(∃v,e=.returned v∧Own w' w.heap.size v l)∧Below w.heap.size w w':=by
 obtain ⟨i0,hi,hz0,hz1,hz2⟩:=info_parts info5
 cases o with
 | none =>
  obtain rfl:=wA hb;obtain rfl:=hq rfl;go_enter func70,ntmps70;go_wp2_with (at_builtin;refine wpList_append_own_none rfl _ _ 31 rfl w.heap.size 5 i0 1 bJ hi (.slice none 0 0) 0 [] rfl (bV _ _ _ _) rfl ?_)
  go_ret;exact ⟨⟨_,rfl,bV _ _ _ _⟩,aJ _ _⟩
 | some a =>
  have HN:=aA (kO hb a rfl);clear hb;go_enter func70,ntmps70;go_wp2_with (at_builtin;refine wpList_append_own _ rfl _ _ 31 rfl w.heap.size 5 i0 (.int .u8 0) 1 1 bJ hi hz0 hz1 hz2 rfl (by decide) (.slice none 0 0) 0 [] rfl (bV _ _ _ _) a l.length cap (l.map fO) rfl (by simp) HN.out (kN l) (by unfold maxLen;omega) (by omega) (by simp) ?_;intro v' w1 hown hgrow _)
  have HO:Hid (Own w1 w.heap.size v' l):=aA (by
   unfold Own;rw[bE,cB] at hown;exact hown)
  have HB:Hid (Below w.heap.size w w1):=aA ((aJ _ w).grown hgrow (aB _) (by intro k hk;cases hk));clear hown hgrow;go_ret;exact ⟨⟨v',rfl,HO.out⟩,HB.out⟩
theorem Vn (s:Nat)(hs:s<4294967296):bR (mH s)=#[.int .u8 ((s:Int)%256),.int .u8 ((s:Int)/256%256),.int .u8 ((s:Int)/65536%256),.int .u8 ((s:Int)/16777216)]:=by
 have e:((s/16777216%256:Nat):Int)=(s:Int)/16777216:=by omega
 simp only[bR,mH,List.map_cons,List.map_nil,e];simp
theorem JW (l:List Nat)(o:Option Addr)(cap:Nat)(w:World)(hl:By l)(hlen:l.length≤990000)(hq:o=none→cap=0)(hb:Bs w o l) :
  Calls prog 39 #[.slice o l.length cap] w fun e w'=>(∃v,e=.returned v∧Own w' w.heap.size v (l++mH (more 0 l)))∧Below w.heap.size w w':=by
 obtain ⟨i0,hi,hz0,hz1,hz2⟩:=info_parts info5;have hs:=xE hl (show 0<4294967296 by omega);have hs1:((more 0 l:Nat):Int)≤4294967295:=by omega
 have H0:=aA (fun W h=>QC l o cap W hl (by omega) h);have H1:=aA (fun W h=>PU l o cap W (by omega) hq h);have GY:=aA hb;have HR:=aA (Vn (more 0 l) hs);have HL4:Hid ((mH (more 0 l)).length=4):=aA rfl;clear hb hl;generalize more 0 l=s at *;go_enter func39,ntmps39;go_wp2_with fail;refine (H0.out _ GY.out).mono ?_;rintro e w' ⟨rfl,rfl⟩;go_wp2_with fail;refine (H1.out _ GY.out).mono ?_;rintro e w2 ⟨⟨v,rfl,hown⟩,hb2⟩;have HOW:=aA hown;have mI:=aA hb2;clear hown hb2;go_wp2_with (at_builtin;refine wpList_append_own _ rfl _ _ 31 rfl w'.heap.size 5 i0 (.int .u8 0) 1 1 bJ hi hz0 hz1 hz2 rfl (by decide) v l.length (l.map fO) rfl (HOW.out.alloc _) ⟨w2.heap.size,0,none⟩ 4 4 ((mH s).map fO) rfl (by simp[mH]) (MO (Bs.row (by rw[HR.out];exact aG w2 _))) (kN _) (by unfold maxLen;omega) (by omega) (by have:=mI.out.size;simp;omega) ?_;intro v' w3 hown hgrow _)
 have HO:Hid (Own w3 w'.heap.size v' (l++mH s)):=aA (by
  unfold Own;rw[List.map_append,aI,HL4.out];exact hown)
 have LF:Hid (Below w'.heap.size w' w3):=aA ((mI.out.alloc (mI.out.size) _).grown hgrow (by have:=mI.out.size;simp;omega) (fun k hk=>(HOW.out.lt k hk).1));clear hown hgrow;go_ret;exact ⟨⟨v',rfl,HO.out⟩,LF.out⟩
theorem QE (n:Nat)(o:Option Addr)(cap:Nat)(w:World)(hn:n<4) :
  Calls prog 85 #[.slice o n cap] w (No w):=by
 have t1:(n:Int)-4<0:=by omega
 go_enter func85,ntmps85;go_wp2_with fail;go_ret2;exact ⟨rfl,aJ _ _⟩
theorem Ag {c0 c1 c2 c3 s:Nat}(h0:c0<256)(h1:c1<256)(h2:c2<256)(h3:c3<256)(hs:s<4294967296):(c0+256*c1+65536*c2+16777216*c3=s)↔[c0,c1,c2,c3]=mH s:=by
 simp only[mH,List.cons.injEq,and_true];omega
theorem VZ (l:List Nat)(c0 c1 c2 c3 b off cap:Nat)(w:World)(hl:By l)(k0:c0<256)(k1:c1<256)(k2:c2<256)(k3:c3<256)(hlen:l.length≤990000)(gR:l.length+4≤cap)(tZ:cap≤9223372036854775807)(hb:Bs w (some ⟨b,off,none⟩) l)
  (h0:w.cell? ⟨b,off+l.length,none⟩=some (.int .u8 (c0:Int))) (h1:w.cell? ⟨b,off+(l.length+1),none⟩=some (.int .u8 (c1:Int))) (h2:w.cell? ⟨b,off+(l.length+2),none⟩=some (.int .u8 (c2:Int))) (h3:w.cell? ⟨b,off+(l.length+3),none⟩=some (.int .u8 (c3:Int))) :
  Calls prog 85 #[.slice (some ⟨b,off,none⟩) (l.length+4) cap] w fun e w' =>
   if ([c0,c1,c2,c3] == mH (more 0 l))=true then (∃v,e=.returned (.tuple #[v,.int .i64 0])∧Own w' w.heap.size v l)∧Below w.heap.size w w' else No w e w':=by
 have hs:=xE hl (show 0<4294967296 by omega);have H0:=aA (fun W h=>QC l (some ⟨b,off,none⟩) cap W hl (by omega) h);have H2:=aA (fun W h=>PU l (some ⟨b,off,none⟩) cap W (by omega) (by intro h;cases h) h);have HCQ:Hid ((c0+256*c1+65536*c2+16777216*c3=more 0 l)↔([c0,c1,c2,c3] == mH (more 0 l))=true):=aA (by rw[Ag k0 k1 k2 k3 hs];simp);have GY:=aA hb;have vV:=aA h0;have pH:=aA h1;have rW:=aA h2;have qT:=aA h3;have hc1:(l.length:Int)≤(cap:Int):=by omega
 have hc2:(l.length:Int)+4≤(cap:Int):=by omega
 have hc3:(l.length:Int)≤(l.length:Int)+4:=by omega
 have hl0:(0:Int)≤(l.length:Int):=by omega
 have i0:(l.length:Int)<(l.length:Int)+4:=by omega
 have i1:(l.length:Int)+1<(l.length:Int)+4:=by omega
 have i2:(l.length:Int)+2<(l.length:Int)+4:=by omega
 have i3:(l.length:Int)+3<(l.length:Int)+4:=by omega
 have p0:(l.length:Int)≤990000:=by omega
 have q0:(c0:Int)≤255:=by omega
 have q1:(c1:Int)≤255:=by omega
 have q2:(c2:Int)≤255:=by omega
 have q3:(c3:Int)≤255:=by omega
 have z1:IntKind.i64.wrap ((l.length:Int)+1)=(l.length:Int)+1:=IntWalk.i64_in _ ⟨by omega,by omega⟩;have z2:IntKind.i64.wrap ((l.length:Int)+2)=(l.length:Int)+2:=IntWalk.i64_in _ ⟨by omega,by omega⟩;have z3:IntKind.i64.wrap ((l.length:Int)+3)=(l.length:Int)+3:=IntWalk.i64_in _ ⟨by omega,by omega⟩;have n1:((l.length:Int)+1).toNat=l.length+1:=by omega
 have n2:((l.length:Int)+2).toNat=l.length+2:=by omega
 have n3:((l.length:Int)+3).toNat=l.length+3:=by omega
 have g1:(0:Int)≤(l.length:Int)+1:=by omega
 have g2:(0:Int)≤(l.length:Int)+2:=by omega
 have g3:(0:Int)≤(l.length:Int)+3:=by omega
 have uw:∀z:Int,0≤z→z<4294967296→IntKind.u32.wrap z=z:=fun z a b=>by rw[IntKind.wrap_u32'];omega
 have e0:IntKind.u32.wrap (c0:Int)=(c0:Int):=uw _ (by omega) (by omega);have e1:IntKind.u32.wrap (c1:Int)=(c1:Int):=uw _ (by omega) (by omega);have e2:IntKind.u32.wrap (c2:Int)=(c2:Int):=uw _ (by omega) (by omega);have e3:IntKind.u32.wrap (c3:Int)=(c3:Int):=uw _ (by omega) (by omega);have m1:IntKind.u32.wrap (256*(c1:Int))=256*(c1:Int):=uw _ (by omega) (by omega);have m2:IntKind.u32.wrap (65536*(c2:Int))=65536*(c2:Int):=uw _ (by omega) (by omega);have m3:IntKind.u32.wrap (16777216*(c3:Int))=16777216*(c3:Int):=uw _ (by omega) (by omega);have a1:IntKind.u32.wrap ((c0:Int)+256*(c1:Int))=(c0:Int)+256*(c1:Int):=uw _ (by omega) (by omega);have a2:IntKind.u32.wrap ((c0:Int)+256*(c1:Int)+65536*(c2:Int))=(c0:Int)+256*(c1:Int)+65536*(c2:Int):=uw _ (by omega) (by omega);have a3:IntKind.u32.wrap ((c0:Int)+256*(c1:Int)+65536*(c2:Int)+16777216*(c3:Int))=(c0:Int)+256*(c1:Int)+65536*(c2:Int)+16777216*(c3:Int):=uw _ (by omega) (by omega);clear hb h0 h1 h2 h3 hs hl uw;generalize more 0 l=s at *;generalize ([c0,c1,c2,c3] == mH s)=q at *;go_enter func85,ntmps85;go_wp2_with fail;refine (bN (n:=5)).1 (eI (F:=Fence.wide) (S:=fun X=>Below w.heap.size w X) (by kernel_rfl) (eM _ _ 1) (fun hHeld=>?_));refine dH (fun _=>trivial) (by kernel_rfl) (i:=0) (oi:=_) (v:=?_) rfl (by kernel_rfl) (by kernel_rfl) (by kernel_rfl) (fun _ _ _ h=>h) (by assumption) (Or.inl ⟨by kernel_rfl,?_⟩) ?_;rotate_left
 ·intro wz hSw;have d0:=dE hSw vV.out;have d1:=dE hSw pH.out;have d2:=dE hSw rW.out;have d3:=dE hSw qT.out;(first|(go_simp;done)|(go_simp;with_reducible rfl))
 try simp only[aQ]
 refine dH (fun _=>trivial) (by kernel_rfl) (i:=1) (oi:=_) (v:=?_) rfl (by kernel_rfl) (by kernel_rfl) (by kernel_rfl) (fun _ _ _ h=>h) (by assumption) (Or.inl ⟨by kernel_rfl,?_⟩) ?_;rotate_left
 ·intro wz hSw;have d0:=dE hSw vV.out;have d1:=dE hSw pH.out;have d2:=dE hSw rW.out;have d3:=dE hSw qT.out;(first|(go_simp;done)|(go_simp;with_reducible rfl))
 try simp only[aQ]
 refine dH (fun _=>trivial) (by kernel_rfl) (i:=2) (oi:=_) (v:=?_) rfl (by kernel_rfl) (by kernel_rfl) (by kernel_rfl) (fun _ _ _ h=>h) (by assumption) (Or.inl ⟨by kernel_rfl,?_⟩) ?_;rotate_left
 ·intro wz hSw;have d0:=dE hSw vV.out;have d1:=dE hSw pH.out;have d2:=dE hSw rW.out;have d3:=dE hSw qT.out;(first|(go_simp;done)|(go_simp;with_reducible rfl))
 try simp only[aQ]
 refine dH (fun _=>trivial) (by kernel_rfl) (i:=3) (oi:=_) (v:=?_) rfl (by kernel_rfl) (by kernel_rfl) (by kernel_rfl) (fun _ _ _ h=>h) (by assumption) (Or.inl ⟨by kernel_rfl,?_⟩) ?_;rotate_left
 ·intro wz hSw;have d0:=dE hSw vV.out;have d1:=dE hSw pH.out;have d2:=dE hSw rW.out;have d3:=dE hSw qT.out;(first|(go_simp;done)|(go_simp;with_reducible rfl))
 try simp only[aQ]
 refine dH (fun _=>trivial) (by kernel_rfl) (i:=4) (oi:=_) (v:=?_) rfl (by kernel_rfl) (by kernel_rfl) (by kernel_rfl) (fun _ _ _ h=>h) (by assumption) (Or.inl ⟨by kernel_rfl,?_⟩) ?_;rotate_left
 ·intro wz hSw;have d0:=dE hSw vV.out;have d1:=dE hSw pH.out;have d2:=dE hSw rW.out;have d3:=dE hSw qT.out;(first|(go_simp;done)|(go_simp;with_reducible rfl))
 try simp only[aQ]
 refine dH (fun _=>trivial) (by kernel_rfl) (i:=5) (oi:=_) (v:=?_) rfl (by kernel_rfl) (by kernel_rfl) (by kernel_rfl) (fun _ _ _ h=>h) (by assumption) (Or.inl ⟨by kernel_rfl,?_⟩) ?_;rotate_left
 ·intro wz hSw;have d0:=dE hSw vV.out;have d1:=dE hSw pH.out;have d2:=dE hSw rW.out;have d3:=dE hSw qT.out;(first|(go_simp;done)|(go_simp;with_reducible rfl))
 try simp only[aQ]
 refine dH (fun _=>trivial) (by kernel_rfl) (i:=6) (oi:=_) (v:=?_) rfl (by kernel_rfl) (by kernel_rfl) (by kernel_rfl) (fun _ _ _ h=>h) (by assumption) (Or.inl ⟨by kernel_rfl,?_⟩) ?_;rotate_left
 ·intro wz hSw;have d0:=dE hSw vV.out;have d1:=dE hSw pH.out;have d2:=dE hSw rW.out;have d3:=dE hSw qT.out;(first|(go_simp;done)|(go_simp;with_reducible rfl))
 try simp only[aQ]
 refine dH (fun _=>trivial) (by kernel_rfl) (i:=7) (oi:=_) (v:=?_) rfl (by kernel_rfl) (by kernel_rfl) (by kernel_rfl) (fun _ _ _ h=>h) (by assumption) (Or.inl ⟨by kernel_rfl,?_⟩) ?_;rotate_left
 ·intro wz hSw;have d0:=dE hSw vV.out;have d1:=dE hSw pH.out;have d2:=dE hSw rW.out;have d3:=dE hSw qT.out;(first|(go_simp;done)|(go_simp;with_reducible rfl))
 try simp only[aQ]
 refine dH (fun _=>trivial) (by kernel_rfl) (i:=8) (oi:=_) (v:=?_) rfl (by kernel_rfl) (by kernel_rfl) (by kernel_rfl) (fun _ _ _ h=>h) (by assumption) (Or.inl ⟨by kernel_rfl,?_⟩) ?_;rotate_left
 ·intro wz hSw;have d0:=dE hSw vV.out;have d1:=dE hSw pH.out;have d2:=dE hSw rW.out;have d3:=dE hSw qT.out;(first|(go_simp;done)|(go_simp;with_reducible rfl))
 try simp only[aQ]
 refine dH (fun _=>trivial) (by kernel_rfl) (i:=9) (oi:=_) (v:=?_) rfl (by kernel_rfl) (by kernel_rfl) (by kernel_rfl) (fun _ _ _ h=>h) (by assumption) (Or.inl ⟨by kernel_rfl,?_⟩) ?_;rotate_left
 ·intro wz hSw;have d0:=dE hSw vV.out;have d1:=dE hSw pH.out;have d2:=dE hSw rW.out;have d3:=dE hSw qT.out;(first|(go_simp;done)|(go_simp;with_reducible rfl))
 try simp only[aQ]
 refine dH (fun _=>trivial) (by kernel_rfl) (i:=10) (oi:=_) (v:=?_) rfl (by kernel_rfl) (by kernel_rfl) (by kernel_rfl) (fun _ _ _ h=>h) (by assumption) (Or.inl ⟨by kernel_rfl,?_⟩) ?_;rotate_left
 ·intro wz hSw;have d0:=dE hSw vV.out;have d1:=dE hSw pH.out;have d2:=dE hSw rW.out;have d3:=dE hSw qT.out;(first|(go_simp;done)|(go_simp;with_reducible rfl))
 try simp only[aQ]
 refine dH (fun _=>trivial) (by kernel_rfl) (i:=11) (oi:=_) (v:=?_) rfl (by kernel_rfl) (by kernel_rfl) (by kernel_rfl) (fun _ _ _ h=>h) (by assumption) (Or.inl ⟨by kernel_rfl,?_⟩) ?_;rotate_left
 ·intro wz hSw;have d0:=dE hSw vV.out;have d1:=dE hSw pH.out;have d2:=dE hSw rW.out;have d3:=dE hSw qT.out;(first|(go_simp;done)|(go_simp;with_reducible rfl))
 try simp only[aQ]
 refine dH (fun _=>trivial) (by kernel_rfl) (i:=12) (oi:=_) (v:=?_) rfl (by kernel_rfl) (by kernel_rfl) (by kernel_rfl) (fun _ _ _ h=>h) (by assumption) (Or.inl ⟨by kernel_rfl,?_⟩) ?_;rotate_left
 ·intro wz hSw;have d0:=dE hSw vV.out;have d1:=dE hSw pH.out;have d2:=dE hSw rW.out;have d3:=dE hSw qT.out;(first|(go_simp;done)|(go_simp;with_reducible rfl))
 try simp only[aQ]
 refine dH (fun _=>trivial) (by kernel_rfl) (i:=13) (oi:=_) (v:=?_) rfl (by kernel_rfl) (by kernel_rfl) (by kernel_rfl) (fun _ _ _ h=>h) (by assumption) (Or.inl ⟨by kernel_rfl,?_⟩) ?_;rotate_left
 ·intro wz hSw;have d0:=dE hSw vV.out;have d1:=dE hSw pH.out;have d2:=dE hSw rW.out;have d3:=dE hSw qT.out;(first|(go_simp;done)|(go_simp;with_reducible rfl))
 try simp only[aQ]
 refine dH (fun _=>trivial) (by kernel_rfl) (i:=14) (oi:=_) (v:=?_) rfl (by kernel_rfl) (by kernel_rfl) (by kernel_rfl) (fun _ _ _ h=>h) (by assumption) (Or.inl ⟨by kernel_rfl,?_⟩) ?_;rotate_left
 ·intro wz hSw;have d0:=dE hSw vV.out;have d1:=dE hSw pH.out;have d2:=dE hSw rW.out;have d3:=dE hSw qT.out;(first|(go_simp;done)|(go_simp;with_reducible rfl))
 try simp only[aQ]
 refine dH (fun _=>trivial) (by kernel_rfl) (i:=15) (oi:=_) (v:=?_) rfl (by kernel_rfl) (by kernel_rfl) (by kernel_rfl) (fun _ _ _ h=>h) (by assumption) (Or.inl ⟨by kernel_rfl,?_⟩) ?_;rotate_left
 ·intro wz hSw;have d0:=dE hSw vV.out;have d1:=dE hSw pH.out;have d2:=dE hSw rW.out;have d3:=dE hSw qT.out;(first|(go_simp;done)|(go_simp;with_reducible rfl))
 try simp only[aQ]
 refine dH (fun _=>trivial) (by kernel_rfl) (i:=16) (oi:=_) (v:=?_) rfl (by kernel_rfl) (by kernel_rfl) (by kernel_rfl) (fun _ _ _ h=>h) (by assumption) (Or.inl ⟨by kernel_rfl,?_⟩) ?_;rotate_left
 ·intro wz hSw;have d0:=dE hSw vV.out;have d1:=dE hSw pH.out;have d2:=dE hSw rW.out;have d3:=dE hSw qT.out;(first|(go_simp;done)|(go_simp;with_reducible rfl))
 try simp only[aQ]
 refine dH (fun _=>trivial) (by kernel_rfl) (i:=17) (oi:=_) (v:=?_) rfl (by kernel_rfl) (by kernel_rfl) (by kernel_rfl) (fun _ _ _ h=>h) (by assumption) (Or.inl ⟨by kernel_rfl,?_⟩) ?_;rotate_left
 ·intro wz hSw;have d0:=dE hSw vV.out;have d1:=dE hSw pH.out;have d2:=dE hSw rW.out;have d3:=dE hSw qT.out;(first|(go_simp;done)|(go_simp;with_reducible rfl))
 try simp only[aQ]
 refine dH (fun _=>trivial) (by kernel_rfl) (i:=18) (oi:=_) (v:=?_) rfl (by kernel_rfl) (by kernel_rfl) (by kernel_rfl) (fun _ _ _ h=>h) (by assumption) (Or.inl ⟨by kernel_rfl,?_⟩) ?_;rotate_left
 ·intro wz hSw;have d0:=dE hSw vV.out;have d1:=dE hSw pH.out;have d2:=dE hSw rW.out;have d3:=dE hSw qT.out;(first|(go_simp;done)|(go_simp;with_reducible rfl))
 try simp only[aQ]
 refine dH (fun _=>trivial) (by kernel_rfl) (i:=19) (oi:=_) (v:=?_) rfl (by kernel_rfl) (by kernel_rfl) (by kernel_rfl) (fun _ _ _ h=>h) (by assumption) (Or.inl ⟨by kernel_rfl,?_⟩) ?_;rotate_left
 ·intro wz hSw;have d0:=dE hSw vV.out;have d1:=dE hSw pH.out;have d2:=dE hSw rW.out;have d3:=dE hSw qT.out;(first|(go_simp;done)|(go_simp;with_reducible rfl))
 try simp only[aQ]
 refine dH (fun _=>trivial) (by kernel_rfl) (i:=20) (oi:=_) (v:=?_) rfl (by kernel_rfl) (by kernel_rfl) (by kernel_rfl) (fun _ _ _ h=>h) (by assumption) (Or.inl ⟨by kernel_rfl,?_⟩) ?_;rotate_left
 ·intro wz hSw;have d0:=dE hSw vV.out;have d1:=dE hSw pH.out;have d2:=dE hSw rW.out;have d3:=dE hSw qT.out;(first|(go_simp;done)|(go_simp;with_reducible rfl))
 try simp only[aQ]
 refine dH (fun _=>trivial) (by kernel_rfl) (i:=21) (oi:=_) (v:=?_) rfl (by kernel_rfl) (by kernel_rfl) (by kernel_rfl) (fun _ _ _ h=>h) (by assumption) (Or.inl ⟨by kernel_rfl,?_⟩) ?_;rotate_left
 ·intro wz hSw;have d0:=dE hSw vV.out;have d1:=dE hSw pH.out;have d2:=dE hSw rW.out;have d3:=dE hSw qT.out;(first|(go_simp;done)|(go_simp;with_reducible rfl))
 try simp only[aQ]
 refine dH (fun _=>trivial) (by kernel_rfl) (i:=22) (oi:=_) (v:=?_) rfl (by kernel_rfl) (by kernel_rfl) (by kernel_rfl) (fun _ _ _ h=>h) (by assumption) (Or.inl ⟨by kernel_rfl,?_⟩) ?_;rotate_left
 ·intro wz hSw;have d0:=dE hSw vV.out;have d1:=dE hSw pH.out;have d2:=dE hSw rW.out;have d3:=dE hSw qT.out;(first|(go_simp;done)|(go_simp;with_reducible rfl))
 try simp only[aQ]
 refine dH (fun _=>trivial) (by kernel_rfl) (i:=23) (oi:=_) (v:=?_) rfl (by kernel_rfl) (by kernel_rfl) (by kernel_rfl) (fun _ _ _ h=>h) (by assumption) (Or.inl ⟨by kernel_rfl,?_⟩) ?_;rotate_left
 ·intro wz hSw;have d0:=dE hSw vV.out;have d1:=dE hSw pH.out;have d2:=dE hSw rW.out;have d3:=dE hSw qT.out;(first|(go_simp;done)|(go_simp;with_reducible rfl))
 try simp only[aQ]
 refine dH (fun _=>trivial) (by kernel_rfl) (i:=24) (oi:=_) (v:=?_) rfl (by kernel_rfl) (by kernel_rfl) (by kernel_rfl) (fun _ _ _ h=>h) (by assumption) (Or.inl ⟨by kernel_rfl,?_⟩) ?_;rotate_left
 ·intro wz hSw;have d0:=dE hSw vV.out;have d1:=dE hSw pH.out;have d2:=dE hSw rW.out;have d3:=dE hSw qT.out;(first|(go_simp;done)|(go_simp;with_reducible rfl))
 try simp only[aQ]
 refine dH (fun _=>trivial) (by kernel_rfl) (i:=25) (oi:=_) (v:=?_) rfl (by kernel_rfl) (by kernel_rfl) (by kernel_rfl) (fun _ _ _ h=>h) (by assumption) (Or.inl ⟨by kernel_rfl,?_⟩) ?_;rotate_left
 ·intro wz hSw;have d0:=dE hSw vV.out;have d1:=dE hSw pH.out;have d2:=dE hSw rW.out;have d3:=dE hSw qT.out;(first|(go_simp;done)|(go_simp;with_reducible rfl))
 try simp only[aQ]
 refine dH (fun _=>trivial) (by kernel_rfl) (i:=26) (oi:=_) (v:=?_) rfl (by kernel_rfl) (by kernel_rfl) (by kernel_rfl) (fun _ _ _ h=>h) (by assumption) (Or.inl ⟨by kernel_rfl,?_⟩) ?_;rotate_left
 ·intro wz hSw;have d0:=dE hSw vV.out;have d1:=dE hSw pH.out;have d2:=dE hSw rW.out;have d3:=dE hSw qT.out;(first|(go_simp;done)|(go_simp;with_reducible rfl))
 try simp only[aQ]
 refine dH (fun _=>trivial) (by kernel_rfl) (i:=27) (oi:=_) (v:=?_) rfl (by kernel_rfl) (by kernel_rfl) (by kernel_rfl) (fun _ _ _ h=>h) (by assumption) (Or.inl ⟨by kernel_rfl,?_⟩) ?_;rotate_left
 ·intro wz hSw;have d0:=dE hSw vV.out;have d1:=dE hSw pH.out;have d2:=dE hSw rW.out;have d3:=dE hSw qT.out;(first|(go_simp;done)|(go_simp;with_reducible rfl))
 try simp only[aQ]
 refine dH (fun _=>trivial) (by kernel_rfl) (i:=28) (oi:=_) (v:=?_) rfl (by kernel_rfl) (by kernel_rfl) (by kernel_rfl) (fun _ _ _ h=>h) (by assumption) (Or.inl ⟨by kernel_rfl,?_⟩) ?_;rotate_left
 ·intro wz hSw;have d0:=dE hSw vV.out;have d1:=dE hSw pH.out;have d2:=dE hSw rW.out;have d3:=dE hSw qT.out;(first|(go_simp;done)|(go_simp;with_reducible rfl))
 try simp only[aQ]
 refine dH (fun _=>trivial) (by kernel_rfl) (i:=29) (oi:=_) (v:=?_) rfl (by kernel_rfl) (by kernel_rfl) (by kernel_rfl) (fun _ _ _ h=>h) (by assumption) (Or.inl ⟨by kernel_rfl,?_⟩) ?_;rotate_left
 ·intro wz hSw;have d0:=dE hSw vV.out;have d1:=dE hSw pH.out;have d2:=dE hSw rW.out;have d3:=dE hSw qT.out;(first|(go_simp;done)|(go_simp;with_reducible rfl))
 try simp only[aQ]
 refine eH (by kernel_rfl) ?_ _;have HH:=aA hHeld;have Tg:=aA (GY.out.below hHeld);clear hHeld;rw[show ((c0:Int)+256*(c1:Int)+65536*(c2:Int)+16777216*(c3:Int))=((c0+256*c1+65536*c2+16777216*c3:Nat):Int) by simp];rw[show decide ((l.length:Int)<0)=false from aN (by omega)];clear e0 e1 e2 e3 m1 m2 m3 a1 a2 a3 z1 z2 z3 n1 n2 n3 g1 g2 g3 q0 q1 q2 q3 i1 i2 i3;generalize c0+256*c1+65536*c2+16777216*c3=z at *;go_wp2_with fail;refine (H0.out _ Tg.out).mono ?_;rintro e wz ⟨rfl,rfl⟩;by_cases hzs:z=s
 ·obtain rfl:=HCQ.out.1 hzs
  subst hzs;go_wp2_with fail;refine (H2.out _ Tg.out).mono ?_;rintro e w5 ⟨⟨v,rfl,hown⟩,jT⟩;go_wp2_with fail;go_ret2;exact ⟨⟨_,rfl,Own.mono HH.out.size hown⟩,dN HH.out jT⟩
 ·obtain rfl:q=false:=by
   cases q
   ·rfl
   ·exact absurd (HCQ.out.2 rfl) hzs
  have hzi:¬ ((z:Int)=(s:Int)):=by omega
  go_wp2_with fail;go_ret2;exact ⟨rfl,HH.out⟩
end Cx
namespace Cx
open Fx (eH eI dO dH)
open Go Go.RowKit Go.Shelf
attribute [local go_sem] Oper.semAt_some
theorem oL (l:List Nat):(fR l).size=l.length:=by
 show (l.map UInt8.ofNat).toArray.size=_;simp
def opened (l:List Nat):Option (List Nat):=if 4≤l.length∧l.drop (l.length-4)=mH (more 0 (l.take (l.length-4))) then some (l.take (l.length-4)) else none
def erO (R:Option (List Nat)):Int:=if R.isSome then 0 else 40
def RetO (R:Option (List Nat))(B:Nat)(e:Ending)(w':World):Prop:=∃v,e=.returned (.tuple #[v,.int .i64 (erO R)])∧Own w' B v (R.getD [])
theorem No.ret {w w':World}{e:Ending}(h:No w e w'):RetO none w.heap.size e w'∧Below w.heap.size w w':=⟨⟨_,h.1,bV _ _ _ _⟩,h.2⟩
theorem NS {l:List Nat}{n:Nat}(h:l.length=n+4):l=l.take n++[l.getD n 0,l.getD (n+1) 0,l.getD (n+2) 0,l.getD (n+3) 0]:=by
 have e:l.drop n=[l.getD n 0,l.getD (n+1) 0,l.getD (n+2) 0,l.getD (n+3) 0]:=by
  apply List.ext_getElem?
  intro i;rw[List.getElem?_drop];have g:∀j,j<l.length→l[j]?=some (l.getD j 0):=fun j hj=>by simp[List.getD,hj]
  match i with
  | 0=>exact g _ (by omega)
  | 1=>exact g _ (by omega)
  | 2=>exact g _ (by omega)
  | 3=>exact g _ (by omega)
  | i+4 =>
   rw[List.getElem?_eq_none (by omega)];rfl
 rw[←e,List.take_append_drop]
theorem tK {l t:List Nat}{c0 c1 c2 c3:Nat}(h:l=t++[c0,c1,c2,c3]):opened l=if ([c0,c1,c2,c3] == mH (more 0 t))=true then some t else none:=by
 have hl:l.length=t.length+4:=by rw[h];simp
 have ht:l.take (l.length-4)=t:=by rw[hl,cY,h,List.take_left]
 have hd:l.drop (l.length-4)=[c0,c1,c2,c3]:=by rw[hl,cY,h,List.drop_left]
 unfold opened;rw[ht,hd];by_cases hc:[c0,c1,c2,c3]=mH (more 0 t)
 ·rw[aZ ⟨by omega,hc⟩,aZ (by rw[hc];exact beq_self_eq_true _)]
 ·rw[bF (fun h=>hc h.2),bF (fun h=>hc (by simpa using h))]
theorem xA {l:List Nat}(h:l.length<4):opened l=none:=by
 unfold opened;rw[bF (fun h2=>by omega)]
theorem Ld (l:List Nat)(n:Nat)(hn:l.length=n)(o:Option Addr)(cap:Nat)(w:World)(hl:By l)(hlen:l.length≤900000)(gR:l.length≤cap)(tZ:cap≤9223372036854775807)(hb:Bs w o l) :
  Calls prog 71 #[.slice o n cap] w fun e w'=>RetO (opened l) w.heap.size e w'∧Below w.heap.size w w':=by
 subst hn;by_cases h4:l.length<4
 ·rw[xA h4]
  exact (WN _ o cap w h4).mono fun e w' h=>h.ret
 ·obtain ⟨b,off,rfl,_⟩:=hb 0 (by omega)
  have hf:=NS (l:=l) (n:=l.length-4) (by omega);have hlt:(l.take (l.length-4)).length+4=l.length:=by rw[bT];omega
  rw[tK hf];have:=Uy (l.take (l.length-4)) _ _ _ _ b off cap w (hl.take _) (by omega) (by omega) tZ (by rw[←hf];exact hb);rw[hlt] at this;refine this.mono ?_;intro e w' h
  split at h
  ·rename_i hc
   rw[aZ hc];obtain ⟨⟨v,he,ho⟩,hbel⟩:=h;exact ⟨⟨v,he,ho⟩,hbel⟩
  ·rename_i hc
   rw[bF hc];exact h.ret
theorem Ef (l:List Nat)(n:Nat)(hn:l.length=n)(o:Option Addr)(cap:Nat)(w:World)(hl:By l)(hlen:l.length≤900000)(gR:l.length≤cap)(tZ:cap≤9223372036854775807)(hb:Bs w o l) :
  Calls prog 85 #[.slice o n cap] w fun e w'=>RetO (opened l) w.heap.size e w'∧Below w.heap.size w w':=by
 subst hn;by_cases h4:l.length<4
 ·rw[xA h4]
  exact (QE _ o cap w h4).mono fun e w' h=>h.ret
 ·obtain ⟨b,off,rfl,_⟩:=hb 0 (by omega)
  have hf:=NS (l:=l) (n:=l.length-4) (by omega);have hlt:(l.take (l.length-4)).length+4=l.length:=by rw[bT];omega
  rw[tK hf];have Wc:(l.take (l.length-4)).length=l.length-4:=by omega
  have:=VZ (l.take (l.length-4)) _ _ _ _ b off cap w (hl.take _) (hl.get _) (hl.get (l.length-4+1)) (hl.get (l.length-4+2)) (hl.get (l.length-4+3)) (by omega) (by omega) tZ (hb.take _) (by rw[Wc];exact vS hb (by omega)) (by rw[Wc];exact vS hb (by omega)) (by rw[Wc];exact vS hb (by omega)) (by rw[Wc];exact vS hb (by omega));rw[hlt] at this;refine this.mono ?_;intro e w' h
  split at h
  ·rename_i hc
   rw[aZ hc];obtain ⟨⟨v,he,ho⟩,hbel⟩:=h;exact ⟨⟨v,he,ho⟩,hbel⟩
  ·rename_i hc
   rw[bF hc];exact h.ret
theorem uB {a b c:World}{r:Option Nat}(h1:a.grownBy b r)(h2:b.grownBy c r):a.grownBy c r :=
 ⟨h2.os.trans h1.os,h2.tape.trans h1.tape,h2.output.trans h1.output,bH h1.size h2.size,fun k hk hr=>(h2.block k (aP hk h1.size) hr).trans (h1.block k hk hr)⟩
theorem bump {W:World}{B g cap k:Nat}{ls:List Nat}(h:Own W B (.slice (some ⟨g,0,none⟩) ls.length cap) ls)(c:Nat) :
  Own (W.setCell ⟨g,k,none⟩ (.int .u8 (c:Int))) B (.slice (some ⟨g,0,none⟩) ls.length cap) (ls.set k c)∧W.grownBy (W.setCell ⟨g,k,none⟩ (.int .u8 (c:Int))) (some g):=by
 obtain ⟨h1,h2⟩:=World.ownsRow.stored h k (.int .u8 (c:Int));refine ⟨?_,h2⟩;unfold Own;rw[List.length_set,List.map_set];exact h1
def Bump (W0:World)(B N:Nat)(v:Value)(wx:World):Prop:=∃ls,ls.length=N∧By ls∧Own wx B v ls∧W0.grownBy wx v.ownBlock
theorem Bump.start {W0:World}{B:Nat}{v:Value}{l:List Nat}(h:Own W0 B v l)(hl:By l):Bump W0 B l.length v W0:=⟨l,rfl,hl,h,cG _ _⟩
theorem Bump.facts {W0 wx:World}{B N k cap:Nat}{o:Option Addr}(h:Bump W0 B N (.slice o N cap) wx)(hk:k<N) :
  ∃g c,o=some ⟨g,0,none⟩∧c<256∧wx.cell? ⟨g,k,none⟩=some (.int .u8 ((c:Nat):Int))∧wx.frozen? ⟨g,k,none⟩=false ∧
   Bump W0 B N (.slice (some ⟨g,0,none⟩) N cap) (wx.setCell ⟨g,k,none⟩ (.int .u8 (((c+1)%256:Nat):Int))):=by
 obtain ⟨ls,hN,hby,hown,hgr⟩:=h;obtain ⟨o2,cap2,e,mJ,_,_,_,BJ⟩:=hown.open
 cases e;obtain ⟨b,off,e,hc⟩:=mJ k (by omega);obtain ⟨g,e2,_,_,hf⟩:=BJ _ e
 cases e2;subst e;have hb:=bump (k:=k) hown ((ls.getD k 0+1)%256);refine ⟨b,ls.getD k 0,rfl,hby.get k,by simpa using hc,hf k,ls.set k ((ls.getD k 0+1)%256),by simp,?_,hb.1,uB hgr hb.2⟩;intro c hc2
 rcases List.mem_or_eq_of_mem_set hc2 with h|rfl
 ·exact hby c h
 ·exact cO _ (by omega)
end Cx
namespace Fx
open Go Go.RowKit Go.Lib
open Pk (Bs By)
def iK (l:List Nat):List Nat:=l++Cx.mH (Cx.more 0 l)
theorem PO {ops:Array Oper}{rest:List Oper}{o:Oper}{a:Act}{Q:Exit→Act→World→Prop}{W:World}(hgd:o.guard=none)(s x:Operand)(ts:TypeId)
  (ho:o.op=.call { callee:=.builtin .append,args:=#[s,x],argTypes:=#[ts,ts] }) (va vx v:Value) (X:World) (hs:a.eval s=va) (hx:a.eval x=vx) (hrun:(Builtin.append_ #[ts,ts] o.type #[va,vx]).run prog W=.ok v X)
  (h:wpList prog ops Q rest (a.put o.dst v) X):wpList prog ops Q (o::rest) a W:=by
 refine wpList_plain hgd fun K hK'=>?_
 unfold Oper.wp;simp[execOp,ho,resolve,invoke,builtin,hs,hx,hrun,Result.andThen];exact hK' _ _ h
theorem vW {ops:Array Oper}{rest:List Oper}{o:Oper}{a:Act}{Q:Exit→Act→World→Prop}{W:World}(hgd:o.guard=none)(x:Operand)(src dst:TypeId)
  (ho:o.op=.convert src dst x) (vx v:Value) (X:World) (hx:a.eval x=vx) (hrun:(convert src dst vx).run prog W=.ok v X)
  (h:wpList prog ops Q rest (a.put o.dst v) X):wpList prog ops Q (o::rest) a W:=by
 refine wpList_plain hgd fun K hK'=>?_
 unfold Oper.wp;simp[execOp,ho,hx,hrun,Result.andThen];exact hK' _ _ h
theorem oL (l:List Nat):(Pk.fR l).size=l.length:=by simp[Pk.fR,ByteArray.size]
theorem Bv {l:List Nat}(h:By l){j:Nat}(hj:j<l.length):((Pk.fR l).data.toList.getD j 0).toNat=l.getD j 0:=by
 have h1:=h _ (List.getElem_mem hj);simp[Pk.fR,aS,hj];omega
theorem bytesWorld_below (w:World)(e:TypeId)(s:ByteArray):Below w.heap.size w (bytesWorld w e s):=by
 refine ⟨rfl,rfl,rfl,by rw[bytesWorld_size];omega,fun k hk=>bytesWorld_at_old w e s k hk⟩
theorem lG {B b:Nat}{a:World}(hb:B≤b):∀ (vs:List Value) (o:Nat) {w:World},Below B a w→Below B a (w.setCells b o vs)
 | [],_,_,h=>h
 | v::vs,o,w,h=>by
  rw[World.setCells];exact lG hb vs (o+1) (h.setCell (p:=⟨b,o,none⟩) hb v)
theorem Ls (mk m:List Nat)(Mv:By mk)(W:World)(ox:Option Addr)(c:Nat)(hm:0<m.length)(hl:mk.length+m.length≤1000000)(hb:Bs (bytesWorld W 5 (Pk.fR mk)) ox m)(ty:TypeId) :
  ∃o cap X,(Builtin.append_ #[31,31] ty #[.slice (some ⟨W.heap.size,0,none⟩) mk.length (grownCap W mk.length 0 5),.slice ox m.length c]).run prog (bytesWorld W 5 (Pk.fR mk))=.ok (.slice o (mk++m).length cap) X∧Bs X o (mk++m)∧(o=none→cap=0)∧Below W.heap.size W X:=by
 obtain ⟨i0,hi,hz0,hz1,hz2⟩:=info_parts Pk.info5;obtain ⟨b,off,rfl,_⟩:=hb 0 hm;have hnews:∀j u,(m.map Pk.fO)[j]?=some u→(bytesWorld W 5 (Pk.fR mk)).cell? ((⟨b,off,none⟩:Addr).add j)=some u:=fun j u hj=>by
  have hlt:=(aY.1 hj).1;rw[aT] at hlt;obtain ⟨b',off',e,hc⟩:=hb j hlt
  cases e;rw[Addr.add_lit,hc,←hj,bZ,aF hlt];simp[Pk.fO,aS,hlt]
 have iM:∀u∈m.map Pk.fO,u.oneCell'=true:=fun u hu=>by
  obtain ⟨z,_,rfl⟩:=List.mem_map.1 hu;rfl
 have hnew:=bytesWorld_at_new W 5 (Pk.fR mk);have hold:∀j,j<mk.length→(bytesWorld W 5 (Pk.fR mk)).cell? ⟨W.heap.size,j,none⟩=some (.int .u8 ((mk.getD j 0:Nat):Int)):=fun j hj=>by
  rw[bytesWorld_cell _ _ _ _ (by rw[oL];exact hj),Bv Mv hj]
 have Fg:=bytesWorld_below W 5 (Pk.fR mk);have hsz:=bytesWorld_size W 5 (Pk.fR mk);have gR:mk.length≤grownCap W mk.length 0 5:=grownCap_ge W mk.length 0 5;have hcs:(bytesCells W 5 (Pk.fR mk)).size=grownCap W mk.length 0 5:=by
  unfold bytesCells;rw[oL];simp[Pk.fR];omega
 by_cases hr:mk.length+m.length≤grownCap W mk.length 0 5
 ·have hsome:∀j,j<(m.map Pk.fO).length→((bytesWorld W 5 (Pk.fR mk)).cell? ⟨W.heap.size,0+mk.length*i0.size+j,none⟩).isSome=true:=fun j hj=>by
   rw[aT] at hj;rw[aD _ _ _ _ _ _ hnew,hz1];simp;omega
  have hfro:∀j,j<(m.map Pk.fO).length→(bytesWorld W 5 (Pk.fR mk)).frozen? ⟨W.heap.size,0+mk.length*i0.size+j,none⟩=false:=fun j hj=>by
   rw[aT] at hj;unfold World.frozen?;rw[hz1];simp only[hnew];simp;omega
  have hrun:=run_append_room_cells (P:=prog) (w:=bytesWorld W 5 (Pk.fR mk)) 31 ty 5 i0 bJ hi W.heap.size 0 mk.length _ ⟨b,off,none⟩ m.length c (m.map Pk.fO) (by rw[hz1];simp) hnews iM hr hsome hfro;rw[hz1] at hrun hsome;refine ⟨_,_,_,by rw[aI];exact hrun,fun j hj=>⟨W.heap.size,0,rfl,?_⟩,(fun h=>by cases h),lG (aB _) _ _ Fg⟩;rw[aI] at hj;by_cases EL:j<mk.length
  ·rw[World.cell?_setCells_out _ _ _ _ _ (fun _ _=>Or.inl (by show 0+j<_;omega)),bE,hold j EL]
   congr 3
   simp[aS,cX EL]
  ·have:=World.cell?_setCells_in W.heap.size (m.map Pk.fO) (0+mk.length*1) (bytesWorld W 5 (Pk.fR mk)) hsome (j-mk.length) (by rw[aT];omega)
   rw[show 0+mk.length*1+(j-mk.length)=0+j by omega] at this;rw[this];have h2:j-mk.length<m.length:=by omega
   congr 1
   simp[Pk.fO,aS,List.getElem?_append_right (show mk.length≤j by omega),h2]
 ·obtain ⟨v',X,hrun,hown,hg⟩:=run_append_arg_grows (P:=prog) (w:=bytesWorld W 5 (Pk.fR mk)) 31 ty 5 i0 (.int .u8 0) 1 1 bJ hi hz0 hz1 hz2 rfl (by decide) ⟨W.heap.size,0,none⟩ mk.length (grownCap W mk.length 0 5) (mk.map Pk.fO) (by simp) (fun j u hj=>by
   have hlt:=(aY.1 hj).1;rw[aT] at hlt;rw[Addr.add_lit,bE,hold j hlt,←hj,bZ,aF hlt];simp[Pk.fO,aS,hlt]) ⟨b,off,none⟩ m.length c (m.map Pk.fO) (by simp) hnews (by omega) (by unfold maxLen;omega) (by omega)
  have ho:Pk.Own X (bytesWorld W 5 (Pk.fR mk)).heap.size v' (mk++m):=by
   unfold Pk.Own;rw[aI,List.map_append];exact hown
  obtain ⟨o,cap,rfl,mJ,_,_,hn,_⟩:=ho.open;refine ⟨o,cap,X,hrun,mJ,hn,dN Fg (XX hg)⟩
theorem WL {W:World}{B:Nat}{v:Value}{l:List Nat}(h:Cx.Own W B v l):Pk.Own W B v l:=h
theorem TT {W:World}{o:Option Addr}{l:List Nat}(h:Pk.Bs W o l):Cx.Bs W o l:=h
theorem TS {l:List Nat}(h:Pk.By l):Cx.By l:=h
def mh (l:List Nat)(w:World)(e:Ending)(w':World):Prop:=(∃v,e=.returned v∧Pk.Own w' w.heap.size v l)∧Below w.heap.size w w'
theorem zB (mk:List Nat)(Mv:By mk)(p:Nat)(l:List Nat)(w:World)(hby:By l)(h0:0<l.length)(hl:mk.length+l.length≤1000000)(h:wQ p l w) :
  Calls prog 33 #[.string (Pk.fR mk),.pointer (some ⟨p,0,none⟩)] w (mh (iK (mk++l)) w):=by
 obtain ⟨v,hw⟩:=h;have HB:=aA (Pk.WK (p+1) p v l false w (by omega) hw);clear hw;go_enter func33,ntmps33;go_wp2_with fail;refine HB.out.mono ?_;rintro e w1 ⟨⟨v1,rfl,ho⟩,hb1⟩;simp only[bD,if_false] at ho;obtain ⟨o1,c1,rfl,mJ,_,_,oF,_⟩:=ho.open;have hcv:(convert 9 31 (.string (Pk.fR mk))).run prog w1=.ok (.slice (some ⟨w1.heap.size,0,none⟩) (Pk.fR mk).size (grownCap w1 (Pk.fR mk).size 0 5)) (bytesWorld w1 5 (Pk.fR mk)):=Go.Lib.run_convert_string_bytes w1 _ _ _ _ underlying9 bJ dB;rw[oL] at hcv;have IM:=mJ.below (bytesWorld_below w1 5 (Pk.fR mk));obtain ⟨o3,c3,X3,KI,hbs3,XC,hb3⟩:=Ls mk l Mv w1 o1 c1 h0 hl IM 31;obtain ⟨cp,Wn⟩:∃c,grownCap w1 mk.length 0 5=c:=⟨_,rfl⟩;obtain ⟨W4,Ih⟩:∃W,bytesWorld w1 5 (Pk.fR mk)=W:=⟨_,rfl⟩;rw[Wn,Ih] at hcv KI;have UJ:=aA (Cx.Kg (mk++l) o3 c3 X3 (TS (By.app Mv hby)) (by rw[aI];exact hl) XC (TT hbs3));have LF:=aA (dN hb1 hb3);obtain ⟨n3,hn3'⟩:∃n,(mk++l).length=n:=⟨_,rfl⟩;obtain ⟨n2,hn2'⟩:∃n,mk.length=n:=⟨_,rfl⟩;obtain ⟨n1,hn1'⟩:∃n,l.length=n:=⟨_,rfl⟩;rw[hn3'] at KI UJ;rw[hn2'] at KI hcv;rw[hn1'] at KI ⊢;have xZ:=aA KI;have JC:=aA hcv;clear mJ IM hb1 hcv KI hbs3 hb3 ho HB Wn Ih hn3' hn2' hn1' XC oF h0 hl hby Mv;generalize Pk.fR mk=bs at JC ⊢;generalize Pk.fl true false=ef;go_wp2_with (first|(with_reducible refine dQ (some 13) rfl ?_;refine aA ?_;refine vW rfl (.tmp 12) 9 31 rfl (.string bs) (.slice (some ⟨w1.heap.size,0,none⟩) n2 cp) W4 rfl JC.out ?_)|(at_builtin;refine PO rfl (.tmp 13) (.tmp 14) 31 rfl (.slice (some ⟨w1.heap.size,0,none⟩) n2 cp) (.slice o1 n1 c1) (.slice o3 n3 c3) X3 rfl rfl xZ.out ?_))
 refine UJ.out.mono ?_;rintro e w4 ⟨⟨v4,rfl,vP⟩,hb4⟩;have HE:=aA (show mh (iK (mk++l)) w (.returned v4) w4 from ⟨⟨v4,rfl,(WL vP).mono LF.out.size⟩,dN LF.out hb4⟩);clear vP hb4 UJ JC xZ;go_wp2_with fail;go_ret;exact HE.out
end Fx
namespace Fx
open Go Go.RowKit
open Pk (PR fW)
def opt {κ:Type}(lost:Bool)(x:κ):Option κ:=if lost=true then none else some x
theorem mD.use {α κ:Type}{P:pO κ}{key:α→κ}{El:α→World→Prop}{val:α→Value}{o:Option Addr}{c:Nat}{l:List Nat}{p a:Nat}{lost:Bool}{w:World}{e:Ending}{w':World}(h:mD P key El val o c l p a lost w e w') :
  w.grownBy w' (some p)∧∃x b fX,e=.returned (val x)∧El x w'∧PR o c l p b fX w'∧b≤l.length∧eP lost P l a=opt fX (key x,b):=by
 obtain ⟨hg,x,he,hx,hm⟩:=h;refine ⟨hg,x,?_⟩
 cases hr:eP lost P l a with
 | none =>
  rw[hr] at hm;obtain ⟨b,hb,hp⟩:=hm;exact ⟨b,true,he,hx,hp,hb,rfl⟩
 | some q =>
  obtain ⟨k,b⟩:=q;rw[hr] at hm;obtain ⟨hk,hb,hp⟩:=hm;exact ⟨b,false,he,hx,hp,hb,by rw[hk];rfl⟩
theorem mD.make {α κ:Type}{P:pO κ}{key:α→κ}{El:α→World→Prop}{val:α→Value}{o:Option Addr}{c:Nat}{l:List Nat}{p a:Nat}{lost:Bool}{w:World}{w':World}{x:α}{b:Nat}{fX:Bool}
  (hg:w.grownBy w' (some p)) (hx:El x w') (hp:PR o c l p b fX w') (hb:b≤l.length) (hr:eP lost P l a=opt fX (key x,b)):mD P key El val o c l p a lost w (.returned (val x)) w':=by
 refine ⟨hg,x,rfl,hx,?_⟩;rw[hr]
 cases fX
 ·exact ⟨rfl,hb,hp⟩
 ·exact ⟨b,hb,hp⟩
theorem fZ {κ μ:Type}{P:pO κ}{Q:pO μ}{l:List Nat}{lost tR fX:Bool}{a a1 a2:Nat}{k:κ}{m:μ}(h:eP lost P l a=opt tR (k,a1))(h2:eP tR Q l a1=opt fX (m,a2)):eP lost (sJ P Q) l a=opt fX ((k,m),a2):=by
 unfold eP opt sJ at *
 cases lost <;> cases tR <;> cases fX <;> simp_all
theorem kW {κ:Type}(P:pO κ)(l:List Nat)(n a:Nat):fE P (n+1) l a=match P l a with
  | none=>none
  | some (k,b)=>match fE P n l b with
   | none=>none
   | some (ks,c)=>some (k::ks,c):=rfl
theorem DT {κ:Type}(P:pO κ)(l:List Nat):∀ (n a:Nat),fE P (n+1) l a=match fE P n l a with
  | none=>none
  | some (ks,b)=>match P l b with
   | none=>none
   | some (k,c)=>some (ks++[k],c)
 | 0,a=>by
  rw[kW];show (match P l a with
   | none=>none
   | some (k,b)=>some ([k],b))=(match P l a with
   | none=>none
   | some (k,c)=>some ([]++[k],c))
  cases P l a with
  | none=>rfl
  | some q=>rfl
 | n+1,a=>by
  rw[kW,kW]
  cases P l a with
  | none=>rfl
  | some q =>
   obtain ⟨k,b⟩:=q;dsimp only;rw[DT P l n b]
   cases fE P n l b with
   | none=>rfl
   | some q2 =>
    obtain ⟨ks,c⟩:=q2;dsimp only
    cases P l c with
    | none=>rfl
    | some q3=>rfl
theorem nI {κ:Type}(P:pO κ)(l:List Nat)(lost:Bool)(a:Nat):eP lost (fE P 0) l a=opt lost ([],a):=by
 cases lost <;> rfl
theorem iD {κ:Type}{P:pO κ}{l:List Nat}{lost tR fX:Bool}{n a a1 a2:Nat}{ks:List κ}{k:κ}(h:eP lost (fE P n) l a=opt tR (ks,a1))(h2:eP tR P l a1=opt fX (k,a2)):eP lost (fE P (n+1)) l a=opt fX (ks++[k],a2):=by
 unfold eP opt at *;rw[DT]
 cases lost <;> cases tR <;> cases fX <;> simp_all
theorem CY {κ μ:Type}{P:pO κ}(f:κ→μ){l:List Nat}{lost tR:Bool}{a a1:Nat}{k:κ}(h:eP lost P l a=opt tR (k,a1)):eP lost (QT f P) l a=opt tR (f k,a1):=by
 unfold eP opt QT at *
 cases lost <;> cases tR <;> simp_all
theorem iH {l:List Nat}{a b:Nat}(k:fW l a)(hb:b≤l.length):fW l b:=⟨k.by',k.len,hb⟩
theorem qM {o:Option Addr}{c:Nat}{l:List Nat}{p a B:Nat}{lost:Bool}{W X:World}(h:PR o c l p a lost W)(hp:p<B)(iE:∀b off,o=some ⟨b,off,none⟩→0<l.length→b<B)(hb:Below B W X):PR o c l p a lost X :=
 ⟨by rw[hb.block p hp];exact h.row,fun j hj=>by
  obtain ⟨b,off,e,hc⟩:=h.bs j hj;exact ⟨b,off,e,by rw[cZ (w:=W) (hb.block b (iE b off e (by omega)))];exact hc⟩,h.ok⟩
theorem gW {w W X:World}{row:Option Nat}(hg:w.grownBy W row)(hb:Below w.heap.size W X):w.grownBy X row :=
 ⟨hb.os.trans hg.os,hb.tape.trans hg.tape,hb.output.trans hg.output,bH hg.size hb.size,fun k hk hn=>(hb.block k hk).trans (hg.block k hk hn)⟩
theorem fA {t:TypeId}{g m:Nat}{c:Array Value}{W X:World}(h:dI t g c W)(hg:W.grownBy X (some m))(e:g≠m):dI t g c X:=by
 unfold dI;rw[hg.block g h.lt (fun hh=>e (by cases hh;rfl))];exact h
def PVal (p a:Nat)(lost:Bool)(o:Option Addr)(c:Nat)(l:List Nat)(w:World):Ending→World→Prop:=mD oT (fun z:List Int=>z) (fun z _=>jI z) (fun z=>.agg (z.map encI).toArray) o c l p a lost w
theorem Ju {x y z:Int}(hx:Num x)(hy:Num y)(hz:Num z):jI [x,y,z]:=⟨rfl,fun j=>by
 match j with
 | 0=>exact hx
 | 1=>exact hy
 | 2=>exact hz
 | j+3=>exact ⟨by simp,by simp⟩⟩
theorem Dr (o:Option Addr)(c:Nat)(l:List Nat)(p a:Nat)(lost:Bool)(w:World)(k:fW l a)(h:PR o c l p a lost w)(iE:∀b off,o=some ⟨b,off,none⟩→0<l.length→b<w.heap.size) :
  Calls prog 79 #[.pointer (some ⟨p,0,none⟩)] w (PVal p a lost o c l w):=by
 obtain ⟨V0,jR⟩:∃V,w.alloc (.cells #[.int .i64 0,.int .i64 0,.int .i64 0] 85)=V:=⟨_,rfl⟩;have hb0:Below w.heap.size w V0:=by rw[←jR];exact (aJ _ _).alloc (aB _) _
 have zS:dI 85 w.heap.size #[.int .i64 0,.int .i64 0,.int .i64 0] V0:=by rw[←jR];exact dI.new _ _ _
 have tA:=aA zS;have vG:=aA (Pk.below_grown hb0 (some p));have HP0:=aA (h.below hb0);have HI:=aA (fun (b:Nat) (lo:Bool) (W:World) (hb:b≤l.length) (hp:PR o c l p b lo W)=>QF o c l p b lo W (iH k hb) hp);have HK:=aA k.at';have qR:=aA h.lt;have jA:=aA iE;have oJ:=aA jR;clear h hb0 zS k jR iE;go_enter func79,ntmps79;go_wp2_with (rw[oJ.out])
 refine (HI.out a lost _ HK.out HP0.out).mono ?_;rintro e w1 h1;obtain ⟨hg1,x1,a1,lo1,rfl,oF,qP,zV,hr1⟩:=h1.use;have H1:=aA (show PR o c l p a1 lo1 w1∧a1≤l.length∧Num x1∧eP lost pI l a=opt lo1 (x1,a1)∧w.grownBy w1 (some p) from ⟨qP,zV,oF,hr1,vG.out.trans hg1⟩);have qQ:Hid (dI 85 w.heap.size #[.int .i64 0,.int .i64 0,.int .i64 0] w1):=aA (fA tA.out hg1 (by have:=qR.out;omega));clear h1 hg1 oF qP zV hr1 tA oJ;go_wp2_with fail;refine (HI.out a1 lo1 _ H1.out.2.1 H1.out.1).mono ?_;rintro e w2 h2;obtain ⟨hg2,x2,a2,lo2,rfl,nS,rH,hl2,hr2⟩:=h2.use;have H2:=aA (show PR o c l p a2 lo2 w2∧a2≤l.length∧Num x2∧eP lo1 pI l a1=opt lo2 (x2,a2)∧w.grownBy w2 (some p) from ⟨rH,hl2,nS,hr2,H1.out.2.2.2.2.trans hg2⟩);have iP:Hid (dI 85 w.heap.size #[.int .i64 0,.int .i64 0,.int .i64 0] w2):=aA (fA qQ.out hg2 (by have:=qR.out;omega));clear h2 hg2 nS rH hl2 hr2 qQ;go_wp2_with fail;refine (HI.out a2 lo2 _ H2.out.2.1 H2.out.1).mono ?_;rintro e w3 h3;obtain ⟨hg3,x3,a3,lo3,rfl,XC,xX,BI,hr3⟩:=h3.use;have hR3:dI 85 w.heap.size #[.int .i64 0,.int .i64 0,.int .i64 0] w3:=fA iP.out hg3 (by have:=qR.out;omega);obtain ⟨Y3,NQ⟩:∃V,w3.setRow w.heap.size #[.int .i64 x1,.int .i64 x2,.int .i64 x3]=V:=⟨_,rfl⟩;have HE:Hid (PVal p a lost o c l w (.returned (.agg #[.int .i64 x1,.int .i64 x2,.int .i64 x3])) Y3):=aA (by
  have hg:=H2.out.2.2.2.2.trans hg3;have EN:Below w.heap.size w3 Y3:=by rw[←NQ];exact Below.row ⟨rfl,rfl,rfl,aB _,fun _ _=>rfl⟩ (aB _) _
  have hgY:=gW hg EN;have zT:=qM xX qR.out jA.out EN;have h3:=iD (iD (iD (nI pI l lost a) H1.out.2.2.2.1) H2.out.2.2.2.1) hr3;exact mD.make (x:=[x1,x2,x3]) hgY (Ju H1.out.2.2.1 H2.out.2.2.1 XC) zT BI h3)
 have xZ:=aA hR3;have Yi:=aA NQ;have hi:=aA (show (prog.info? 85).map (·.size)=some (#[Value.int .i64 x1,Value.int .i64 x2,Value.int .i64 x3]:Array Value).size by kernel_rfl);have iM:=aA (show (#[Value.int .i64 x1,Value.int .i64 x2,Value.int .i64 x3]:Array Value).all (·.oneCell')=true by simp[Value.oneCell']);have hsz:=aA (show (#[Value.int .i64 0,Value.int .i64 0,Value.int .i64 0]:Array Value).size=(#[Value.int .i64 x1,Value.int .i64 x2,Value.int .i64 x3]:Array Value).size from rfl);clear h3 hg3 XC xX BI hr3 hR3 NQ iP H1 H2;go_wp2_with (refine dG rfl 85 (.tmp 2) (.tmp 9) rfl w.heap.size _ _ #[.int .i64 x1,.int .i64 x2,.int .i64 x3] rfl rfl xZ.out hi.out hsz.out iM.out ?_)
 refine aO (v:=.agg #[.int .i64 x1,.int .i64 x2,.int .i64 x3]) (results_cell_row rfl _ _ w.heap.size _ #[.int .i64 x1,.int .i64 x2,.int .i64 x3] _ _ rfl (setRow_heap _ _ _ _ _ _ xZ.out) cU rfl hi.out) rfl ?_;rw[Yi.out];exact HE.out
def Yd (p a:Nat)(lost:Bool)(o:Option Addr)(c:Nat)(l:List Nat)(w:World):Ending→World→Prop:=mD (pU 4294967295) (fun z:Int=>z) (fun z _=>0≤z∧z≤4294967295) (fun z=>.int .u32 z) o c l p a lost w
theorem Dw (o:Option Addr)(c:Nat)(l:List Nat)(p a:Nat)(lost:Bool)(w:World)(k:fW l a)(h:PR o c l p a lost w) :
  Calls prog 83 #[.pointer (some ⟨p,0,none⟩)] w (Yd p a lost o c l w):=by
 have hu:=Pk.DN o c l p a lost w k h;have hr:eP lost (pU 4294967295) l a=match Pk.rq lost 18446744073709551615 (l.drop a) with
   | none=>none
   | some (n,j)=>if n≤4294967295 then some ((n:Int),a+j) else none:=by
  unfold eP pU Pk.rq
  cases lost
  ·rw[bF (by simp),bF (by simp),Pk.wY _ (by unfold Pk.pP;omega)]
   show Option.map _ (match Pk.rd Pk.pP (l.drop a) with|none=>none|some (v,j)=>if v≤4294967295 then some (v,j) else none)=match Pk.rd Pk.pP (l.drop a) with|none=>none|some (n,j)=>if n≤4294967295 then some ((n:Int),a+j) else none
   cases Pk.rd Pk.pP (l.drop a) with
   | none=>rfl
   | some q =>
    obtain ⟨n,j⟩:=q;dsimp only
    split <;> rfl
  ·rfl
 have hj:∀n j,Pk.rq lost 18446744073709551615 (l.drop a)=some (n,j)→a+j≤l.length∧n≤18446744073709551615:=fun n j hq=>by
  unfold Pk.rq at hq
  split at hq
  ·cases hq
  ·have:=Pk.tI hq
   have Wk:(l.drop a).length=l.length-a:=by simp
   have:=k.at';omega
 have HK:=aA k.at';generalize Pk.rq lost 18446744073709551615 (l.drop a)=r at hu hr hj;have HU:=aA hu;have HR:=aA hr;clear hu hr k h
 cases r with
 | none =>
  go_enter func83,ntmps83;go_wp2_with fail;refine HU.out.mono ?_;rintro e w1 ⟨rfl,qP,hg1⟩;have HE:Hid (Yd p a lost o c l w (.returned (.int .u32 0)) w1):=aA (mD.make (x:=(0:Int)) (fX:=true) hg1 ⟨by omega,by omega⟩ qP HK.out (by rw[HR.out];rfl));simp only[Pk.pR];clear qP hg1 HU HR hj;go_wp2_with fail;go_ret;exact HE.out
 | some q =>
  obtain ⟨n,j⟩:=q;obtain ⟨EL,oF⟩:=hj n j rfl;have n0:(0:Int)≤(n:Int):=by omega
  have n1:(n:Int)≤18446744073709551615:=by omega
  by_cases hn:n≤4294967295
  ·have t1:¬ (4294967295:Int)<(n:Int):=by omega
   have hm:(n:Int)%4294967296=n:=by omega
   go_enter func83,ntmps83;go_wp2_with fail;refine HU.out.mono ?_;rintro e w1 ⟨rfl,qP,hg1⟩;have HE:Hid (Yd p a lost o c l w (.returned (.int .u32 (n:Int))) w1):=aA (mD.make (x:=(n:Int)) (fX:=false) hg1 ⟨by omega,by omega⟩ qP EL (by rw[HR.out,aZ hn];rfl));simp only[Pk.pR];clear qP hg1 HU HR hj EL oF hn;go_wp2_with fail;go_ret
   first|exact HE.out|(simp only[hm];exact HE.out)
  ·have t1:(4294967295:Int)<(n:Int):=by omega
   go_enter func83,ntmps83;go_wp2_with fail;refine HU.out.mono ?_;rintro e w1 ⟨rfl,qP,hg1⟩;have HSP:=aA (Pk.WG o c l p _ _ w1 qP);have GF:=aA hg1;have mG:Hid (eP lost (pU 4294967295) l a=none):=aA (by rw[HR.out];simp[hn]);simp only[Pk.pR];clear qP hg1 HU HR hj oF hn;go_wp2_with fail;refine HSP.out.mono ?_;rintro e w2 ⟨rfl,rH,hg2⟩;have HE:Hid (∀z:Int,0≤z→z≤4294967295→Yd p a lost o c l w (.returned (.int .u32 z)) w2):=aA (fun z h0 h1=>mD.make (x:=z) (fX:=true) (GF.out.trans hg2) ⟨h0,h1⟩ rH EL (by rw[mG.out];rfl));clear rH hg2 HSP GF mG;go_wp2_with fail;go_ret;exact HE.out _ (by omega) (by omega)
end Fx
namespace Fx
open Go Go.RowKit Go.Shelf
open Pk (PR fW)
attribute [local go_sem] Oper.semAt_some
def PTri (p a:Nat)(lost:Bool)(o:Option Addr)(c:Nat)(l:List Nat)(w:World):Ending→World→Prop:=mD tJ (fun t:gB=>t) (fun t _=>mN t) (fun t=>.agg (fC t).toArray) o c l p a lost w
theorem kX {z n:Int}(hn:n≤9223372036854775807)(h:0≤z∧z≤n):Num z:=⟨by omega,by omega⟩
theorem Dt (o:Option Addr)(c:Nat)(l:List Nat)(p a:Nat)(lost:Bool)(w:World)(k:fW l a)(h:PR o c l p a lost w)(iE:∀b off,o=some ⟨b,off,none⟩→0<l.length→b<w.heap.size) :
  Calls prog 82 #[.pointer (some ⟨p,0,none⟩)] w (PTri p a lost o c l w):=by
 obtain ⟨V0,jR⟩:∃V,w.alloc (.cells #[.int .i64 0,.int .i64 0,.int .i64 0,.int .u32 0] 87)=V:=⟨_,rfl⟩;have hb0:Below w.heap.size w V0:=by rw[←jR];exact (aJ _ _).alloc (aB _) _
 have zS:dI 87 w.heap.size #[.int .i64 0,.int .i64 0,.int .i64 0,.int .u32 0] V0:=by rw[←jR];exact dI.new _ _ _
 have tA:=aA zS;have vG:=aA (Pk.below_grown hb0 (some p));have HP0:=aA (h.below hb0);have HI:=aA (fun (b:Nat) (lo:Bool) (W:World) (hb:b≤l.length) (hp:PR o c l p b lo W)=>sI 63 (by omega) o c l p b lo W (iH k hb) hp);have HC:=aA (fun (b:Nat) (lo:Bool) (W:World) (hb:b≤l.length) (hp:PR o c l p b lo W)=>Dw o c l p b lo W (iH k hb) hp);have HK:=aA k.at';have qR:=aA h.lt;have jA:=aA iE;have oJ:=aA jR;clear h hb0 zS k jR iE;go_enter func82,ntmps82;go_wp2_with (rw[oJ.out])
 refine (HI.out a lost _ HK.out HP0.out).mono ?_;rintro e w1 h1;obtain ⟨hg1,x1,a1,lo1,rfl,oF,qP,zV,hr1⟩:=h1.use;have H1:=aA (show PR o c l p a1 lo1 w1∧a1≤l.length∧(0≤x1∧x1≤63)∧eP lost (pU 63) l a=opt lo1 (x1,a1)∧w.grownBy w1 (some p) from ⟨qP,zV,oF,hr1,vG.out.trans hg1⟩);have qQ:Hid (dI 87 w.heap.size #[.int .i64 0,.int .i64 0,.int .i64 0,.int .u32 0] w1):=aA (fA tA.out hg1 (by have:=qR.out;omega));clear h1 hg1 oF qP zV hr1 tA oJ;go_wp2_with fail;refine (HI.out a1 lo1 _ H1.out.2.1 H1.out.1).mono ?_;rintro e w2 h2;obtain ⟨hg2,x2,a2,lo2,rfl,nS,rH,hl2,hr2⟩:=h2.use;have H2:=aA (show PR o c l p a2 lo2 w2∧a2≤l.length∧(0≤x2∧x2≤63)∧eP lo1 (pU 63) l a1=opt lo2 (x2,a2)∧w.grownBy w2 (some p) from ⟨rH,hl2,nS,hr2,H1.out.2.2.2.2.trans hg2⟩);have iP:Hid (dI 87 w.heap.size #[.int .i64 0,.int .i64 0,.int .i64 0,.int .u32 0] w2):=aA (fA qQ.out hg2 (by have:=qR.out;omega));clear h2 hg2 nS rH hl2 hr2 qQ;go_wp2_with fail;refine (HI.out a2 lo2 _ H2.out.2.1 H2.out.1).mono ?_;rintro e w3 h3;obtain ⟨hg3,x3,a3,lo3,rfl,XC,xX,BI,hr3⟩:=h3.use;have H3:=aA (show PR o c l p a3 lo3 w3∧a3≤l.length∧(0≤x3∧x3≤63)∧eP lo2 (pU 63) l a2=opt lo3 (x3,a3)∧w.grownBy w3 (some p) from ⟨xX,BI,XC,hr3,H2.out.2.2.2.2.trans hg3⟩);have xZ:Hid (dI 87 w.heap.size #[.int .i64 0,.int .i64 0,.int .i64 0,.int .u32 0] w3):=aA (fA iP.out hg3 (by have:=qR.out;omega));clear h3 hg3 XC xX BI hr3 iP;go_wp2_with fail;refine (HC.out a3 lo3 _ H3.out.2.1 H3.out.1).mono ?_;rintro e w4 h4;obtain ⟨hg4,x4,a4,Ad,rfl,Vz,NC,hl4,hr4⟩:=mD.use h4;have hR4:dI 87 w.heap.size #[.int .i64 0,.int .i64 0,.int .i64 0,.int .u32 0] w4:=fA xZ.out hg4 (by have:=qR.out;omega);obtain ⟨Y4,xN⟩:∃V,w4.setRow w.heap.size #[.int .i64 x1,.int .i64 x2,.int .i64 x3,.int .u32 x4]=V:=⟨_,rfl⟩;have HE:Hid (PTri p a lost o c l w (.returned (.agg #[.int .i64 x1,.int .i64 x2,.int .i64 x3,.int .u32 x4])) Y4):=aA (by
  have hg:=H3.out.2.2.2.2.trans hg4;have EN:Below w.heap.size w4 Y4:=by rw[←xN];exact Below.row ⟨rfl,rfl,rfl,aB _,fun _ _=>rfl⟩ (aB _) _
  have h4:=CY JN (fZ H1.out.2.2.2.1 (fZ H2.out.2.2.2.1 (fZ H3.out.2.2.2.1 hr4)));exact mD.make (x:=(⟨x1,x2,x3,x4⟩:gB)) (gW hg EN) ⟨kX (by omega) H1.out.2.2.1,kX (by omega) H2.out.2.2.1,kX (by omega) H3.out.2.2.1,by have:=Vz;exact ⟨this.1,by show x4<4294967296;omega⟩⟩ (qM NC qR.out jA.out EN) hl4 h4)
 have Sz:=aA hR4;have UV:=aA xN;have hi:=aA (show (prog.info? 87).map (·.size)=some (#[Value.int .i64 x1,Value.int .i64 x2,Value.int .i64 x3,Value.int .u32 x4]:Array Value).size by kernel_rfl);have iM:=aA (show (#[Value.int .i64 x1,Value.int .i64 x2,Value.int .i64 x3,Value.int .u32 x4]:Array Value).all (·.oneCell')=true by simp[Value.oneCell']);have hsz:=aA (show (#[Value.int .i64 0,Value.int .i64 0,Value.int .i64 0,Value.int .u32 0]:Array Value).size=(#[Value.int .i64 x1,Value.int .i64 x2,Value.int .i64 x3,Value.int .u32 x4]:Array Value).size from rfl);clear h4 hg4 Vz NC hl4 hr4 hR4 xN xZ H1 H2 H3;go_wp2_with (refine dG rfl 87 (.tmp 2) (.tmp 11) rfl w.heap.size _ _ #[.int .i64 x1,.int .i64 x2,.int .i64 x3,.int .u32 x4] rfl rfl Sz.out hi.out hsz.out iM.out ?_)
 refine aO (v:=.agg #[.int .i64 x1,.int .i64 x2,.int .i64 x3,.int .u32 x4]) (results_cell_row rfl _ _ w.heap.size _ #[.int .i64 x1,.int .i64 x2,.int .i64 x3,.int .u32 x4] _ _ rfl (setRow_heap _ _ _ _ _ _ Sz.out) cR rfl hi.out) rfl ?_;rw[UV.out];exact HE.out
structure lg (o:Option Addr)(c:Nat)(l:List Nat)(p a:Nat)(lost:Bool)(zs:List Int)(b:Nat)(lo:Bool)(w W:World):Prop where
 box:W.heap[w.heap.size]?=some (.cells #[.pointer (some ⟨p,0,none⟩)] 90 (0,0))
 res:W.heap[w.heap.size+1]?=some (.cells #[.int .i64 0,.int .i64 0,.int .i64 0,.int .i64 0,.int .i64 0,.int .i64 0,.int .i64 0,.int .i64 0,.int .i64 0,.int .i64 0,.int .i64 0,.int .i64 0,.int .i64 0,.int .i64 0,.int .i64 0,.int .i64 0] 25 (0,0))
 GJ:W.heap[w.heap.size+1+1]?=some (.cells (mC (zs++List.replicate (16-zs.length) 0)) 25 (0,0))
 it:W.heap[w.heap.size+1+1+1]?=some (.cells #[.pointer (some ⟨w.heap.size+1+1,0,none⟩)] 158 (0,0))
 rd:PR o c l p b lo W
 grow:w.grownBy W (some p)
 le:b≤l.length
 num:∀z∈zs,Num z
 run:eP lost (fE pI zs.length) l a=opt lo (zs,b)
theorem Cl {o:Option Addr}{c:Nat}{l:List Nat}{p a B:Nat}{lost:Bool}{W X:World}(h:PR o c l p a lost W)(k:Kept B W X):PR o c l p a lost X :=
 ⟨k.cells h.row,fun j hj=>by
  obtain ⟨b,off,e,hc⟩:=h.bs j hj;exact ⟨b,off,e,k.cell hc⟩,h.ok⟩
theorem ES {B:Nat}{w W X:World}{row:Option Nat}(hB:w.heap.size≤B)(hg:w.grownBy W row)(k:Kept B W X):w.grownBy X row :=
 ⟨k.os.trans hg.os,k.tape.trans hg.tape,k.output.trans hg.output,bH hg.size k.size,fun i hi hn=>by
  have h1:=hg.block i hi hn;rw[Array.getElem?_eq_getElem hi] at h1 ⊢;exact k.block i _ h1 (.inl (by omega))⟩
theorem lg.kept {o:Option Addr}{c:Nat}{l:List Nat}{p a:Nat}{lost:Bool}{zs:List Int}{b B:Nat}{lo:Bool}{w W X:World}(hB:w.heap.size≤B)(k:Kept B W X)(i:lg o c l p a lost zs b lo w W):lg o c l p a lost zs b lo w X :=
 ⟨k.cells i.box,k.cells i.res,k.cells i.GJ,k.cells i.it,Cl i.rd k,ES hB i.grow k,i.le,i.num,i.run⟩
theorem Lt {zs:List Int}{z:Int}(h:zs.length<16):(mC (zs++List.replicate (16-zs.length) 0)).setIfInBounds zs.length (.int .i64 z)=mC ((zs++[z])++List.replicate (16-(zs++[z]).length) 0):=by
 have e:16-zs.length=(16-(zs++[z]).length)+1:=by simp;omega
 rw[e,List.replicate_succ];simp[mC,encI,List.set_append]
theorem lg.step {o:Option Addr}{c:Nat}{l:List Nat}{p a:Nat}{lost:Bool}{zs:List Int}{b b2:Nat}{lo lo2:Bool}{z:Int}{w W X:World}(hp:p<w.heap.size)(iE:∀b off,o=some ⟨b,off,none⟩→0<l.length→b<w.heap.size)(i:lg o c l p a lost zs b lo w W)(hz:zs.length<16)
  (hg:W.grownBy X (some p)) (hn:Num z) (hr:PR o c l p b2 lo2 X) (hl:b2≤l.length) (hrun:eP lo pI l b=opt lo2 (z,b2)):lg o c l p a lost (zs++[z]) b2 lo2 w (X.setCell ⟨w.heap.size+1+1,zs.length,none⟩ (.int .i64 z)):=by
 have keep:∀ {g:Nat} {ob:Obj},g≠p→W.heap[g]?=some ob→X.heap[g]?=some ob:=fun hne h=>by
  rw[hg.block _ (aC.1 h).1 (fun e=>hne (bK e))];exact h
 have k2:∀ {g:Nat} {ob:Obj},g≠p→g≠w.heap.size+1+1→W.heap[g]?=some ob→(X.setCell ⟨w.heap.size+1+1,zs.length,none⟩ (.int .i64 z)).heap[g]?=some ob:=fun h1 h2 h=>by
  rw[aK _ _ _ _ h2];exact keep h1 h
 have Fh:Below w.heap.size X (X.setCell ⟨w.heap.size+1+1,zs.length,none⟩ (.int .i64 z)):=Below.setCell (p:=⟨w.heap.size+1+1,zs.length,none⟩) ⟨rfl,rfl,rfl,aB _,fun _ _=>rfl⟩ (by show _≤w.heap.size+1+1;omega) _;refine ⟨k2 (by omega) (by omega) i.box,k2 (by omega) (by omega) i.res,?_,k2 (by omega) (by omega) i.it,qM hr hp iE Fh,gW (i.grow.trans hg) Fh,hl,fun y hy=>?_,?_⟩
 ·rw[aM _ _ zs.length _ _ _ (keep (by omega) i.GJ),Lt hz]
 ·rcases bS.1 hy with hy|hy
  ·exact i.num y hy
  ·simp at hy
   subst hy;exact hn
 ·rw[aI]
  exact iD i.run hrun
def TmI (o:Option Addr)(c:Nat)(l:List Nat)(p a:Nat)(lost:Bool)(w:World)(k:Nat)(W:World):Prop:=∃zs b lo,zs.length=k∧lg o c l p a lost zs b lo w W
def TmA (p:Nat)(w:World)(k:Nat)(ac:Act):Prop :=
 ac={ tmps:=#[.pointer (some ⟨p,0,none⟩),.pointer (some ⟨w.heap.size,0,none⟩),.pointer (some ⟨w.heap.size+1,0,none⟩),.pointer (some ⟨w.heap.size+1+1,0,none⟩),.pointer (some ⟨w.heap.size+1+1,k,none⟩),.func (.func 131) #[] #[.pointer (some ⟨w.heap.size+1+1+1,0,none⟩)],.pointer (some ⟨w.heap.size+1+1,k,none⟩),undef,undef,undef,undef,undef],defers:=[] }
def PMat (p a:Nat)(lost:Bool)(o:Option Addr)(c:Nat)(l:List Nat)(w:World):Ending→World→Prop:=mD QS (fun m:List Int=>m) (fun m _=>xS 16 m) (fun m=>.agg (mC m)) o c l p a lost w
theorem JO (o:Option Addr)(c:Nat)(l:List Nat)(p a:Nat)(lost:Bool)(w:World)(k:fW l a)(h:PR o c l p a lost w)(iE:∀b off,o=some ⟨b,off,none⟩→0<l.length→b<w.heap.size) :
  Calls prog 74 #[.pointer (some ⟨p,0,none⟩)] w (PMat p a lost o c l w):=by
 have hlt:=h.lt;obtain ⟨W1,hW1⟩:∃V,((w.alloc (.cells #[.pointer (some ⟨p,0,none⟩)] 90)).alloc (.cells #[.int .i64 0,.int .i64 0,.int .i64 0,.int .i64 0,.int .i64 0,.int .i64 0,.int .i64 0,.int .i64 0,.int .i64 0,.int .i64 0,.int .i64 0,.int .i64 0,.int .i64 0,.int .i64 0,.int .i64 0,.int .i64 0] 25)).alloc (.cells #[.int .i64 0,.int .i64 0,.int .i64 0,.int .i64 0,.int .i64 0,.int .i64 0,.int .i64 0,.int .i64 0,.int .i64 0,.int .i64 0,.int .i64 0,.int .i64 0,.int .i64 0,.int .i64 0,.int .i64 0,.int .i64 0] 25)=V:=⟨_,rfl⟩;obtain ⟨W0,hW0⟩:∃V,W1.alloc (.cells #[.pointer (some ⟨w.heap.size+1+1,0,none⟩)] 158)=V:=⟨_,rfl⟩;have z1:W1.heap.size=w.heap.size+1+1+1:=by rw[←hW1];simp
 have b1:Below w.heap.size w W1:=by rw[←hW1];exact (((aJ _ w).alloc (aB _) _).alloc (by simp) _).alloc (by simp;omega) _
 have b0:Below W1.heap.size W1 W0:=by rw[←hW0];exact (aJ _ W1).alloc (aB _) _
 have F0:lg o c l p a lost [] a lost w W0:=by
  have hb:=dN b1 b0;have hz:mC (([]:List Int)++List.replicate (16-([]:List Int).length) 0)=#[.int .i64 0,.int .i64 0,.int .i64 0,.int .i64 0,.int .i64 0,.int .i64 0,.int .i64 0,.int .i64 0,.int .i64 0,.int .i64 0,.int .i64 0,.int .i64 0,.int .i64 0,.int .i64 0,.int .i64 0,.int .i64 0]:=rfl;refine ⟨dL b0 ?_,dL b0 ?_,dL b0 ?_,?_,h.below hb,Pk.below_grown hb (some p),k.at',fun z hz=>by simp at hz,nI _ _ _ _⟩
  ·rw[←hW1];exact dM (dM (aG _ _))
  ·rw[←hW1]
   have:=aG (w.alloc (.cells #[.pointer (some ⟨p,0,none⟩)] 90)) (.cells #[.int .i64 0,.int .i64 0,.int .i64 0,.int .i64 0,.int .i64 0,.int .i64 0,.int .i64 0,.int .i64 0,.int .i64 0,.int .i64 0,.int .i64 0,.int .i64 0,.int .i64 0,.int .i64 0,.int .i64 0,.int .i64 0] 25);rw[aR] at this;exact dM this
  ·rw[←hW1,hz]
   have:=aG ((w.alloc (.cells #[.pointer (some ⟨p,0,none⟩)] 90)).alloc (.cells #[.int .i64 0,.int .i64 0,.int .i64 0,.int .i64 0,.int .i64 0,.int .i64 0,.int .i64 0,.int .i64 0,.int .i64 0,.int .i64 0,.int .i64 0,.int .i64 0,.int .i64 0,.int .i64 0,.int .i64 0,.int .i64 0] 25)) (.cells #[.int .i64 0,.int .i64 0,.int .i64 0,.int .i64 0,.int .i64 0,.int .i64 0,.int .i64 0,.int .i64 0,.int .i64 0,.int .i64 0,.int .i64 0,.int .i64 0,.int .i64 0,.int .i64 0,.int .i64 0,.int .i64 0] 25);rw[aR,aR] at this;exact this
  ·rw[←hW0,←z1]
   exact aG W1 _
 have Hr:Hid (TmI o c l p a lost w 0 W0):=aA ⟨[],a,lost,rfl,F0⟩;have wO:Hid (W0.heap.size=w.heap.size+1+1+1+1):=aA (by rw[←hW0,aR,z1]);have wS:=aA z1;have xY:=aA hW1;have HW0:=aA hW0;have HP:=aA hlt;have jA:=aA iE;have HK:=aA k;clear F0 b0 b1 z1 hW0 hW1 hlt h iE k;refine (bG (n:=5)).1 ?_;refine callsIn_of_wp_marks func74 rfl trivial ?_ rfl;simp only[ntmps74,aL,bO,List.length_nil,Nat.reduceAdd,Nat.reduceSub,Array.replicate_succ,Array.replicate_zero,List.push_toArray,List.append_toArray,cB,cC];refine bN.2 ?_;go_wp2_with (rw[xY.out])
 refine (Lf _ _).mono ?_;rintro e w' ⟨rfl,rfl⟩;rw[wS.out,HW0.out];go_wp2_with fail;refine bN.1 (gJ (F:=Fence.wide) (n:=5) rfl (by omega) (gf:=131) (lb:=#[.pointer (some ⟨w.heap.size+1+1+1,0,none⟩)]) rfl trivial (enters_of func131 (by kernel_rfl) rfl)
  (DY (w.heap.size+1+1+1) (w.heap.size+1+1)) (fun _=>rfl) .ret (TmI o c l p a lost w) (fun _=>False) (fun j a' W=>TmA p w j a'∧TmI o c l p a lost w j W)
  ?i1 ?i2 ?i3 ?i4 ?i5 Hr.out ?assign ?body ?done ?stop)
 case i1=>rintro j W X ⟨zs,b,lo,h0,h1⟩ hk;exact ⟨zs,b,lo,h0,h1.kept (by have:=wO.out;omega) hk⟩
 case i2=>rintro W X h;exact h.elim
 case i3=>rintro j ac W X ⟨ha,zs,b,lo,h0,h1⟩ hk;exact ⟨ha,zs,b,lo,h0,h1.kept (by have:=wO.out;omega) hk⟩
 case i4=>rintro j W ⟨zs,b,lo,h0,h1⟩;unfold NuM;rw[aD _ _ _ _ _ _ h1.it];rfl
 case i5=>rintro W h;exact h.elim
 case assign =>
  intro l1 j W C hk hI hC;simp only[ZZ];gi_wp2;exact hC _ _ (KeepsFrom.refl _ _) ⟨rfl,hI⟩
 case body =>
  rintro l1 j a' W hk ⟨ha,zs,b,lo,hzl,fs⟩;unfold TmA at ha;subst ha;have c0:W.cell? ⟨w.heap.size,0,none⟩=some (.pointer (some ⟨p,0,none⟩)):=by rw[aD _ _ _ _ _ _ fs.box];rfl
  have HS:=aA fs;have HZL:=aA hzl;have HJ:Hid (j<16):=aA hk;have HI:=aA (QF o c l p b lo W (iH HK.out fs.le) fs.rd);clear fs hzl hk;gi_wp2;refine ⟨trivial,CallsIn.mono (CallsIn.inRound _ (bG.2 HI.out)) ?_⟩;rintro e w2 h2;obtain ⟨hg2,z,b2,lo2,rfl,nS,rH,hl2,hr2⟩:=h2.use;have hj:zs.length<16:=by rw[HZL.out];exact HJ.out
  have HT:=aA (HS.out.step HP.out jA.out hj hg2 nS rH hl2 hr2);have lL:w2.heap[w.heap.size+1+1]?=some (.cells (mC (zs++List.replicate (16-zs.length) 0)) 25 (0,0)):=by
   rw[hg2.block _ (aC.1 HS.out.GJ).1 (fun e=>by have:=bK e;have:=HP.out;omega)];exact HS.out.GJ
  have q0:(w2.cell? ⟨w.heap.size+1+1,j,none⟩)=some (.int .i64 0):=by
   have hzj:=HZL.out;rw[aD _ _ _ _ _ _ lL,Ac (by rw[aI,List.length_replicate];omega)];rw[aS,List.getElem?_append_right (by omega),List.getElem?_replicate,aZ (by omega)];rfl
  have f0:w2.frozen? ⟨w.heap.size+1+1,j,none⟩=false:=dJ lL;have Ip:Hid (KeepsFrom W0.heap.size W (w2.setCell ⟨w.heap.size+1+1,j,none⟩ (.int .i64 z))):=aA (KeepsFrom.trans ⟨hg2.size,fun k o _ hk ho=>by
   rw[hg2.block k (aC.1 hk).1 (fun e=>by
    have e2:=bK e;subst e2;rw[HS.out.rd.row] at hk
    cases hk
    cases ho)]
   exact hk⟩ ((KeepsOthers.setCell _ _ _).from _))
  rw[HZL.out] at HT;clear h2 hg2 nS rH hl2 hr2 lL c0 HI HS hj;gi_wp2;exact ⟨Ip.out,zs++[z],b2,lo2,by rw[aI,HZL.out];rfl,HT.out⟩
 case done =>
  rintro D W hD ⟨zs,b,lo,hzl,fs⟩ iF;have Md:zs++List.replicate (16-zs.length) 0=zs:=by rw[hzl];simp
  have Mw:W.heap[w.heap.size+1+1]?=some (.cells (mC zs) 25 (0,0)):=by have:=fs.GJ;rwa [Md] at this
  have og:=aA (show W.rangeAt (w.heap.size+1+1) 0 (zs.map encI) from fun i u hi=>by rw[aD _ _ _ _ _ _ Mw,bE];simpa[mC] using hi);have hi:=aA (show (prog.info? 25).map (·.size)=some (zs.map encI).length by rw[aT,hzl];kernel_rfl);have nT:=aA (show (prog.info? 25).map (·.size)=some (mC zs).size by rw[eV,hzl];kernel_rfl);have h16:=aA (show (#[Value.int .i64 0,Value.int .i64 0,Value.int .i64 0,Value.int .i64 0,Value.int .i64 0,Value.int .i64 0,Value.int .i64 0,Value.int .i64 0,Value.int .i64 0,Value.int .i64 0,Value.int .i64 0,Value.int .i64 0,Value.int .i64 0,Value.int .i64 0,Value.int .i64 0,Value.int .i64 0]:Array Value).size=(mC zs).size by rw[eV,hzl];rfl);have iM:=aA (iV zs);have Cq:=aA fs.res;have UM:Hid (w.heap.size+1+1+1+1≤D):=aA (by have:=wO.out;omega);have Hs:=aA iF;have HS:=aA fs;have HZL:=aA hzl;clear fs hD iF Md Mw hzl;go_wp2_with (first|(with_reducible refine dQ (some 11) rfl ?_;refine aA ?_;refine wpList_load_mid rfl 25 (.tmp 3) rfl (w.heap.size+1+1) 0 rfl (zs.map encI) _ og.out aU rfl hi.out ?_)|(refine dG rfl 25 (.tmp 2) (.tmp 11) rfl (w.heap.size+1) _ _ (mC zs) rfl rfl Cq.out nT.out h16.out iM.out ?_))
  have yM:(W.setRow (w.heap.size+1) (mC zs)).heap[D]?=some (.deferred (some [])):=by rw[setRow_other _ _ _ _ (by have:=UM.out;omega)];exact Hs.out
  refine ⟨by simp,.inl ⟨_,_,rfl,run_takeDeferred yM,?_⟩⟩;refine ⟨_,results_cell_row rfl _ _ (w.heap.size+1) _ (mC zs) _ _ rfl ((World.putObj_heap_other (by have:=UM.out;omega)).trans (setRow_heap _ _ _ _ _ _ Cq.out)) aU rfl nT.out,?_⟩;have hk:Kept w.heap.size (W.setRow (w.heap.size+1) (mC zs)) ((W.setRow (w.heap.size+1) (mC zs)).putObj D (.deferred none)):=Kept.putObj _ (by have:=UM.out;omega) yM rfl;have hbS:Below w.heap.size W (W.setRow (w.heap.size+1) (mC zs)):=Below.row ⟨rfl,rfl,rfl,aB _,fun _ _=>rfl⟩ (by omega) _;have hr:=HS.out.run;rw[HZL.out] at hr;exact mD.make (x:=zs) (ES (aB _) (gW HS.out.grow hbS) hk) ⟨HZL.out,HS.out.num⟩ (Cl (qM HS.out.rd HP.out jA.out hbS) hk) HS.out.le hr
 case stop =>
  rintro D W hD h iF;exact h.elim
end Fx
end Go.Proofs.YtbbhmhihpdmoiaaGreat
