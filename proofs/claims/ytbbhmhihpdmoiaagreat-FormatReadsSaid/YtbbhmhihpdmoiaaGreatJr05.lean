import Derived.Test.YtbbhmhihpdmoiaaGreatJr04
set_option linter.unusedVariables false
set_option linter.unusedSimpArgs false
set_option maxRecDepth 100000
set_option maxHeartbeats 32000000
namespace Go.Proofs.YtbbhmhihpdmoiaaGreat
namespace Pk
open Go Go.RowKit
def vW:Nat→Nat→List Nat→Nat
 | _,n,[]=>n
 | k,n,c :: s=>if c < 128 then n + c % 128 * 128 ^ k % 18446744073709551616 else vW (k + 1) (n + c % 128 * 128 ^ k % 18446744073709551616) s
def vV (s:List Nat):Nat:=vW 0 0 (s.take 10)
theorem Qm (k:Nat):(2:Nat) ^ (7 * k)=128 ^ k:=by rw [Nat.pow_mul]
theorem Iz {n c k:Nat} (hn:n < 128 ^ k) (hk:k≤9):n ||| (c % 128 * 128 ^ k % 18446744073709551616)=n + c % 128 * 128 ^ k % 18446744073709551616:=by
 have e:c % 128 * 128 ^ k % 18446744073709551616=2 ^ (7 * k) * (c % 128 % 2 ^ (64 - 7 * k)):=by
  rw [←Qm,bN,show (18446744073709551616:Nat)=2 ^ (7 * k) * 2 ^ (64 - 7 * k) by rw [←Nat.pow_add,show 7 * k + (64 - 7 * k)=64 by omega],Nat.mul_mod_mul_left]
 rw [e,Nat.or_comm,←Nat.two_pow_add_eq_or_of_lt (by rw [Qm];exact hn),Nat.add_comm]
theorem EW {n c k:Nat} (hn:n < 128 ^ k) (hk:k≤8):n + c % 128 * 128 ^ k % 18446744073709551616 < 128 ^ (k + 1):=by
 have h1:c % 128 * 128 ^ k % 18446744073709551616≤c % 128 * 128 ^ k:=Nat.mod_le _ _
 have h2:c % 128 * 128 ^ k≤127 * 128 ^ k:=Nat.mul_le_mul_right _ (by omega)
 rw [bM]
 omega
theorem Af {n c:Nat} (hn:n < 128 ^ 9):n + c % 128 * 128 ^ 9 % 18446744073709551616 < 18446744073709551616:=by
 have h9:(128:Nat) ^ 9=9223372036854775808:=by decide
 rw [h9] at hn ⊢
 omega
theorem Ag {n c k:Nat} (hn:n < 128 ^ k) (hk:k≤9):n + c % 128 * 128 ^ k % 18446744073709551616 < 18446744073709551616:=by
 rcases Nat.lt_or_ge k 9 with h | h
 ·have h1:=EW (c:=c) hn (show k≤8 by omega)
  have h2:(128:Nat) ^ (k + 1)≤128 ^ 9:=Nat.pow_le_pow_right (by omega) (by omega)
  have h9:(128:Nat) ^ 9=9223372036854775808:=by decide
  omega
 ·obtain rfl:k=9:=by omega
  exact Af hn
theorem OZ:∀ (s:List Nat) (k n:Nat),k + s.length≤10→n < 128 ^ k→n < 18446744073709551616→vW k n s < 18446744073709551616
 | [],_,_,_,_,h=>h
 | c :: s,k,n,hk,hn,_=>by
  simp only [bK] at hk
  rw [vW]
  have h64:=Ag (c:=c) hn (show k≤9 by omega)
  split
  ·exact h64
  ·cases s with
   | nil=>exact h64
   | cons d s =>
    simp only [bK] at hk
    exact OZ _ _ _ (by simp;omega) (EW hn (by omega)) h64
theorem EI (s:List Nat):vV s < 18446744073709551616:=OZ _ _ _ (by simp;omega) (by simp) (by omega)
theorem CY:∀ (f m k a:Nat) (t:List Nat),m < 128 ^ f→a + m * 128 ^ k < 18446744073709551616→vW k a (form m ++ t)=a + m * 128 ^ k
 | 0,m,k,a,t,hf,h=>by
  have hm0:m=0:=by simpa using hf
  subst hm0
  rw [lT (by omega)]
  simp [vW]
 | f + 1,m,k,a,t,hf,h=>by
  by_cases h128:m < 128
  ·rw [lT h128]
   simp only [bT,bX,vW]
   rw [aT h128,Nat.mod_eq_of_lt h128,Nat.mod_eq_of_lt (by omega)]
  ·have Cb:m < 18446744073709551616:=by
    have : m * 1≤m * 128 ^ k:=Nat.mul_le_mul_left _ (Nat.pow_pos (by omega))
    omega
   rw [vM h128 Cb]
   have hc:(128 + m % 128) % 128=m % 128:=by omega
   have hsum:a + m % 128 * 128 ^ k + m / 128 * 128 ^ (k + 1)=a + m * 128 ^ k:=by
    rw [bM]
    have e:m=m % 128 + 128 * (m / 128):=by omega
    have : m * 128 ^ k=(m % 128 + 128 * (m / 128)) * 128 ^ k:=by rw [←e]
    rw [this,Nat.add_mul,Nat.add_assoc]
    congr 2
    rw [bN (128 ^ k) 128,←Nat.mul_assoc,bN (m / 128) 128]
   simp only [bT,vW]
   rw [aX (by omega),hc,Nat.mod_eq_of_lt (by omega),CY f (m / 128) (k + 1) _ t (by rw [bM] at hf;omega) (by rw [hsum];exact h),hsum]
theorem JE:∀ {s:List Nat} {most k n a j:Nat},k≤9→yV most k n s=some (a,j)→j≤10
 | [],_,_,_,_,_,_,h=>by simp [yV] at h
 | c :: s,most,k,n,a,j,hk,h=>by
  rw [yV] at h
  split at h
  ·cases h
  ·rename_i h9
   split at h
   ·rename_i h128
    exact JE (by omega) h
   ·split at h
    ·cases h
    ·cases h
     omega
theorem NV {n:Nat} (h:n < 18446744073709551616):(form n).length≤10:=by
 have hr:=xP n nW [] h (by unfold nW;omega)
 have:=JE (by omega) hr
 simpa using this
theorem UC {n:Nat} (t:List Nat) (hn:n < 18446744073709551616):vV (form n ++ t)=n:=by
 unfold vV
 rw [List.take_append,bO (NV hn)]
 have h1:(128:Nat) ^ 10=1180591620717411303424:=by decide
 have:=CY 10 n 0 0 (t.take (10 - (form n).length)) (by rw [h1];omega) (by simpa using hn)
 simpa using this
theorem rd_val (s:List Nat) (hb:By s):rd nW s=if (form (vV s)).isPrefixOf s then some (vV s,(form (vV s)).length) else none:=by
 cases h:rd nW s with
 | none =>
  rw [aX]
  intro hp
  obtain ⟨t,ht⟩:=List.isPrefixOf_iff_prefix.1 hp
  have:=xP (vV s) nW t (EI s) (by have:=EI s;unfold nW;omega)
  rw [ht,h] at this
  cases this
 | some r =>
  obtain ⟨n,j⟩:=r
  obtain ⟨h1,h2,h3⟩:=MW hb h
  have hs:form n ++ s.drop j=s:=by rw [←h1];exact List.take_append_drop j s
  have hv:vV s=n:=by
   have:=UC (s.drop j) h2
   rw [hs] at this
   exact this
  rw [hv,aT (List.isPrefixOf_iff_prefix.2 ⟨_,hs⟩),h3]
theorem JD:∀ {s:List Nat} {most k a:Nat},most≤nW→yV most k a s=match yV nW k a s with | none=>none | some (v,j)=>if v≤most then some (v,j) else none
 | [],_,_,_,_=>by simp [yV]
 | c :: s,most,k,a,hm=>by
  rw [yV,yV]
  split
  ·rfl
  ·split
   ·exact JD hm
   ·by_cases h0:0 < k∧c=0
    ·rw [aT (.inl h0),aT (.inl h0)]
    ·by_cases h1:nW < a + c % 128 * 128 ^ k
     ·rw [aT (.inr (by omega)),aT (.inr h1)]
     ·rw [aX (show ¬((0 < k∧c=0)∨nW < a + c % 128 * 128 ^ k) by rintro (h | h);exact h0 h;exact h1 h)]
      dsimp only
      by_cases h2:a + c % 128 * 128 ^ k≤most
      ·rw [aT h2,aX (by rintro (h | h);exact h0 h;omega)]
      ·rw [aX h2,aT (.inr (by omega))]
theorem uP (s:List Nat) {most:Nat} (hm:most≤nW):rd most s=match rd nW s with | none=>none | some (v,j)=>if v≤most then some (v,j) else none:=JD hm
theorem ME (x:Nat) (h:x < 256):bits .andNot .u8 (x:Int) 128=((x % 128:Nat):Int):=by
 have h0:∀ x:Fin 256,bits .andNot .u8 ((x.val:Nat):Int) 128=((x.val % 128:Nat):Int):=by decide
 exact h0 ⟨x,h⟩
theorem UB (o:Option Addr) (c:Nat) (l:List Nat) (w:World) (hby:By l) (hlen:l.length≤1000000000) (hc:l.length≤c∧c≤9223372036854775807∧(o=none→c=0)) (hb:Bs w o l) :
  Calls Tryz.prog 138 #[.slice o l.length c] w fun e w'=>e=.returned (.int .u64 ((vV l:Nat):Int))∧w=w':=by
 obtain ⟨hc1,hc2,hc3⟩:=hc
 obtain ⟨s,hs⟩:∃ s,l.take 10=s:=⟨_,rfl⟩
 obtain ⟨N,hN⟩:∃ N,s.length=N:=⟨_,rfl⟩
 have hN10:N≤10:=by rw [←hN,←hs];simp;omega
 have hNl:N≤l.length:=by rw [←hN,←hs,bZ];omega
 have hmin:min (l.length:Int) 10=(N:Int):=by rw [←hN,←hs,bZ];omega
 have hmax:max (N:Int) 0=(N:Int):=by omega
 have hV:vW 0 0 s=vV l:=by unfold vV;rw [hs]
 have hbs:=hb.take 10
 rw [hs] at hbs
 have Ze:By s:=by rw [←hs];exact hby.take 10
 have XQ:=aA hbs
 have yH:=aA Ze
 have HN:=aA hN
 have HV:=aA hV
 obtain ⟨V,hVV⟩:∃ V,vV l=V:=⟨_,rfl⟩
 rw [hVV] at HV ⊢
 clear hs hN hb hbs Ze hV hVV hby
 go_enter Tryz.func138,Tryz.ntmps138
 go_wp2_with fail
 go_loopg [3,12] 10 (fun g s3 s12 wr=>∃ (k n:Nat),g=10 - k∧k≤N∧s12=.int .i64 (k:Int)∧s3=.int .u64 (n:Int)∧n < 128 ^ k∧n < 18446744073709551616∧vW k n (s.drop k)=V∧wr=w)
 case atStart=>exact ⟨0,0,rfl,by omega,rfl,rfl,by simp,by omega,HV.out,rfl⟩
 case round =>
  obtain ⟨k,n,hg,hk,rfl,rfl,hn,zL,hv,rfl⟩:=hrel
  subst hg
  have k0:(0:Int)≤(k:Int):=by omega
  have HVV:=aA hv
  have TI:=aA hn
  clear hv hn HV
  by_cases hkN:k < N
  ·have k1:(k:Int) < (N:Int):=by omega
   have k9:k≤9:=by omega
   have hkl:k < s.length:=by rw [HN.out];exact hkN
   obtain ⟨b,off,rfl,hcell⟩:=XQ.out k hkl
   obtain ⟨x,hx⟩:∃ x,s.getD k 0=x:=⟨_,rfl⟩
   have hx256:=yH.out.get k
   have hdrop:s.drop k=x :: s.drop (k + 1):=by
    rw [List.drop_eq_getElem_cons hkl,←hx]
    simp [List.getD,hkl]
   rw [hx] at hcell hx256
   have HX:=HVV.out
   rw [hdrop,vW] at HX
   have HX:=aA HX
   have hand:=ME x hx256
   have hwr:IntKind.u64.wrap ((x:Int) % 128 * 2 ^ (7 * k))=((x % 128 * 128 ^ k % 18446744073709551616:Nat):Int):=by
    rw [aU,←Qm]
    simp
   have hor:=u64_or_nat n (x % 128 * 128 ^ k % 18446744073709551616) zL (by omega)
   rw [Iz TI.out k9] at hor
   have hp:=Ag (c:=x) TI.out k9
   have hp8:k≤8→n + x % 128 * 128 ^ k % 18446744073709551616 < 128 ^ (k + 1):=fun h=>EW TI.out h
   have HP8:=aA hp8
   have hmul:IntKind.i64.wrap (7 * (k:Int))=7 * (k:Int):=by rw [aZ];omega
   clear hx hdrop HVV hp8
   generalize x % 128 * 128 ^ k % 18446744073709551616=M at *
   obtain ⟨Y,hY⟩:∃ Y,n + M=Y:=⟨_,rfl⟩
   rw [hY] at hor hp HP8 HX
   have HPP:=aA hp
   clear hY hp
   by_cases h128:x < 128
   ·have t1:(x:Int) < 128:=by omega
    have hV2:Y=V:=by
     have:=HX.out
     rw [aT h128] at this
     exact this
    subst hV2
    clear HX HP8
    go_wp2_with fail
    go_ret
    exact ⟨rfl,rfl⟩
   ·have t1:¬ (x:Int) < 128:=by omega
    have uJ:Hid (vW (k + 1) Y (s.drop (k + 1))=V):=aA (by
     have:=HX.out
     rw [aX h128] at this
     exact this)
    have HP9:Hid (Y < 128 ^ (k + 1)):=aA (by
     rcases Nat.lt_or_ge k 9 with h | h
     ·exact HP8.out (by omega)
     ·obtain rfl:k=9:=by omega
      have h10:(128:Nat) ^ (9 + 1)=1180591620717411303424:=by decide
      have:=HPP.out
      omega)
    clear HX HP8
    go_wp2_with fail
    go_roundg (10 - (k + 1))
    case measure=>omega
    case rel=>exact ⟨k + 1,Y,rfl,by omega,by go_num,rfl,HP9.out,HPP.out,uJ.out,rfl⟩
  ·have k1:¬ (k:Int) < (N:Int):=by omega
   have hkk:k=s.length:=by rw [HN.out];omega
   have hV2:n=V:=by
    have:=HVV.out
    rw [hkk,List.drop_length,vW] at this
    exact this
   subst hV2
   clear HVV hkk
   go_wp2_with fail
   go_ret
   exact ⟨rfl,rfl⟩
end Pk
namespace Pk
open Fx (Kept lS jT iZ gQ iU)
open Go Go.RowKit Go.Shelf
attribute [local go_sem] Oper.semAt_some
structure Ft (o:Option Addr) (c:Nat) (l:List Nat) (n k:Nat) (x y:Int) (w W:World):Prop where
 box:W.heap[w.heap.size]?=some (.cells #[.slice o l.length c] 31 (0,0))
 r1:W.heap[w.heap.size + 1]?=some (.cells #[.int .u64 x] 89 (0,0))
 r2:W.heap[w.heap.size + 1 + 1]?=some (.cells #[.int .i64 y] 3 (0,0))
 len:W.heap[w.heap.size + 1 + 1 + 1]?=some (.cells #[.int .i64 (k:Int)] 3 (0,0))
 jS:W.heap[w.heap.size + 1 + 1 + 1 + 1]?=some (.cells #[.int .u64 (n:Int)] 89 (0,0))
 below:Below w.heap.size w W
theorem Ft.kept {o:Option Addr} {c:Nat} {l:List Nat} {n k B:Nat} {x y:Int} {w W X:World} (hB:w.heap.size≤B) (h:Kept B W X) (s:Ft o c l n k x y w W):Ft o c l n k x y w X :=
 ⟨h.cells s.box,h.cells s.r1,h.cells s.r2,h.cells s.len,h.cells s.jS,h.below hB s.below⟩
theorem Ft.drew {o:Option Addr} {c:Nat} {l:List Nat} {n k:Nat} {x y:Int} {w W:World} (s:Ft o c l n k x y w W):Ft o c l n k x y w W.drew:=⟨s.box,s.r1,s.r2,s.len,s.jS,⟨s.below.os,s.below.tape,s.below.output,s.below.size,s.below.block⟩⟩
theorem Ft.facts {o:Option Addr} {c:Nat} {l:List Nat} {n k:Nat} {x y:Int} {w W:World} (s:Ft o c l n k x y w W) :
  W.cell? ⟨w.heap.size,0,none⟩=some (.slice o l.length c)∧W.cell? ⟨w.heap.size + 1,0,none⟩=some (.int .u64 x)∧W.cell? ⟨w.heap.size + 1 + 1,0,none⟩=some (.int .i64 y)∧W.cell? ⟨w.heap.size + 1 + 1 + 1,0,none⟩=some (.int .i64 (k:Int)) ∧
  W.frozen? ⟨w.heap.size + 1,0,none⟩=false∧W.frozen? ⟨w.heap.size + 1 + 1,0,none⟩=false∧W.frozen? ⟨w.heap.size + 1 + 1 + 1,0,none⟩=false :=
 ⟨by rw [aF _ _ _ _ _ _ s.box];rfl,by rw [aF _ _ _ _ _ _ s.r1];rfl,by rw [aF _ _ _ _ _ _ s.r2];rfl,by rw [aF _ _ _ _ _ _ s.len];rfl,dU s.r1,dU s.r2,dU s.len⟩
theorem Ft.reads {o:Option Addr} {c:Nat} {l:List Nat} {n k:Nat} {x y:Int} {w W:World} (s:Ft o c l n k x y w W):XE n (w.heap.size + 1 + 1 + 1 + 1) W:=by
 unfold XE
 rw [aF _ _ _ _ _ _ s.jS]
 rfl
theorem Ft.next {o:Option Addr} {c:Nat} {l:List Nat} {n k:Nat} {x y:Int} {w W:World} (s:Ft o c l n k x y w W) (j:Nat) (z:Int) (hz:z=(j:Int)):Ft o c l n j x y w (W.setCell ⟨w.heap.size + 1 + 1 + 1,0,none⟩ (.int .i64 z)):=by
 subst hz
 exact ⟨by rw [aH _ _ _ _ (by show _≠w.heap.size + 1 + 1 + 1;omega)];exact s.box,by rw [aH _ _ _ _ (by show _≠w.heap.size + 1 + 1 + 1;omega)];exact s.r1,by rw [aH _ _ _ _ (by show _≠w.heap.size + 1 + 1 + 1;omega)];exact s.r2,
  aK _ _ 0 _ _ _ s.len,by rw [aH _ _ _ _ (by show _≠w.heap.size + 1 + 1 + 1;omega)];exact s.jS,s.below.setCell (p:=⟨w.heap.size + 1 + 1 + 1,0,none⟩) (by show _≤w.heap.size + 1 + 1 + 1;omega) _⟩
theorem Ft.put {o:Option Addr} {c:Nat} {l:List Nat} {n k:Nat} {x y x2 y2:Int} {w W:World} (s:Ft o c l n k x y w W):Ft o c l n k x2 y2 w ((W.setCell ⟨w.heap.size + 1,0,none⟩ (.int .u64 x2)).setCell ⟨w.heap.size + 1 + 1,0,none⟩ (.int .i64 y2)):=by
 have a1:=aK W _ 0 _ _ (.int .u64 x2) s.r1
 have o1:∀ {g:Nat} {ob:Obj},g≠w.heap.size + 1→g≠w.heap.size + 1 + 1→W.heap[g]?=some ob→((W.setCell ⟨w.heap.size + 1,0,none⟩ (.int .u64 x2)).setCell ⟨w.heap.size + 1 + 1,0,none⟩ (.int .i64 y2)).heap[g]?=some ob:=fun h1 h2 h=>by
  rw [aH _ _ _ _ h2,aH _ _ _ _ h1]
  exact h
 refine ⟨o1 (by omega) (by omega) s.box,?_,?_,o1 (by omega) (by omega) s.len,o1 (by omega) (by omega) s.jS,(s.below.setCell (p:=⟨w.heap.size + 1,0,none⟩) (by show _≤w.heap.size + 1;omega) _).setCell (p:=⟨w.heap.size + 1 + 1,0,none⟩) (by show _≤w.heap.size + 1 + 1;omega) _⟩
 ·rw [aH _ _ _ _ (by show _≠w.heap.size + 1 + 1;omega)]
  exact a1
 ·have a2:(W.setCell ⟨w.heap.size + 1,0,none⟩ (.int .u64 x2)).heap[w.heap.size + 1 + 1]?=some (.cells #[.int .i64 y] 3 (0,0)):=by
   rw [aH _ _ _ _ (by show _≠w.heap.size + 1;omega)]
   exact s.r2
  exact aK _ _ 0 _ _ (.int .i64 y2) a2
def FI (o:Option Addr) (c:Nat) (l:List Nat) (n:Nat) (w:World) (k:Nat) (W:World):Prop:=Ft o c l n k 0 0 w W∧k≤l.length∧l.take k=(form n).take k
def FX (o:Option Addr) (c:Nat) (l:List Nat) (n:Nat) (w:World) (W:World):Prop:=(∃ k,Ft o c l n k 0 0 w W)∧(form n).isPrefixOf l=false
def FA (o:Option Addr) (c:Nat) (l:List Nat) (n:Nat) (w:World) (k:Nat) (a:Act):Prop :=
 a={ tmps:=#[.slice o l.length c,.pointer (some ⟨w.heap.size,0,none⟩),.pointer (some ⟨w.heap.size + 1,0,none⟩),.pointer (some ⟨w.heap.size + 1 + 1,0,none⟩),.int .u64 (n:Int),.pointer (some ⟨w.heap.size + 1 + 1 + 1,0,none⟩),.int .u8 (((form n).getD k 0:Nat):Int),
  .slice o l.length c,.int .u64 (n:Int),.int .u64 (n:Int),.func (.func 139) #[] #[.pointer (some ⟨w.heap.size + 1 + 1 + 1 + 1,0,none⟩)],.int .u8 (((form n).getD k 0:Nat):Int),undef,undef,undef,undef,undef,undef,undef,undef,undef,undef,undef,undef,undef,undef,undef,undef],defers:=[] }
theorem Ip {l m:List Nat} {k:Nat} (hk:k=m.length) (h:l.take k=m.take k):m.isPrefixOf l=true:=by
 subst hk
 rw [List.take_length] at h
 exact List.isPrefixOf_iff_prefix.2 ⟨l.drop m.length,by
  have:=List.take_append_drop m.length l
  rw [h] at this
  exact this⟩
theorem UW {l m:List Nat} {k:Nat} (hk:k < m.length) (h:k=l.length):m.isPrefixOf l=false:=by
 rw [Bool.eq_false_iff]
 intro hp
 have:=(List.isPrefixOf_iff_prefix.1 hp).length_le
 omega
theorem Ql {l m:List Nat} {k:Nat} (hk:k < m.length) (hl:k < l.length) (h:l.getD k 0≠m.getD k 0):m.isPrefixOf l=false:=by
 rw [Bool.eq_false_iff]
 intro hp
 obtain ⟨t,rfl⟩:=List.isPrefixOf_iff_prefix.1 hp
 apply h
 simp [List.getD,dI hk]
theorem Ih {l m:List Nat} {k:Nat} (hk:k < m.length) (hl:k < l.length) (h:l.getD k 0=m.getD k 0) (ht:l.take k=m.take k):l.take (k + 1)=m.take (k + 1):=by
 rw [IK hk,IK hl,h,ht]
def Vf (r:Option (Nat×Nat)):Value:=.tuple #[.int .u64 ((qU r:Nat):Int),.int .i64 (((r.map (·.2)).getD 0:Nat):Int)]
def XG (l:List Nat) (w:World) (e:Ending) (w':World):Prop:=e=.returned (Vf (rd nW l))∧Below w.heap.size w w'
theorem VL (o:Option Addr) (c:Nat) (l:List Nat) (w:World) (hby:By l) (hlen:l.length≤1000000000) (hc:l.length≤c∧c≤9223372036854775807∧(o=none→c=0)) (hb:Bs w o l) :
  Calls Tryz.prog 114 #[.slice o l.length c] w (XG l w):=by
 have hrd:=rd_val l hby
 obtain ⟨n,hn⟩:∃ n,vV l=n:=⟨_,rfl⟩
 have zL:n < 18446744073709551616:=by rw [←hn];exact EI l
 have HVAL:Hid (∀ W:World,Below w.heap.size w W→Calls Tryz.prog 138 #[.slice o l.length c] W fun e w'=>e=.returned (.int .u64 (n:Int))∧W=w'):=aA (fun W h=>by
  have:=UB o c l W hby hlen hc (hb.below h)
  rw [hn] at this
  exact this)
 rw [hn] at hrd
 have Ug:=aA hrd
 have XQ:=aA hb
 have yH:=aA hby
 have HLEN:=aA hlen
 clear hrd hn hb hby hlen hc
 obtain ⟨W1,hW1⟩:∃ W1,((w.alloc (.cells #[.slice o l.length c] 31)).alloc (.cells #[.int .u64 0] 89)).alloc (.cells #[.int .i64 0] 3)=W1:=⟨_,rfl⟩
 have b1:Below w.heap.size w W1:=by rw [←hW1];exact (((aI _ w).alloc (aB _) _).alloc (by simp) _).alloc (by simp;omega) _
 have HV:=aA (HVAL.out W1 b1)
 obtain ⟨W0,hW0⟩:∃ W0,(W1.alloc (.cells #[.int .i64 0] 3)).alloc (.cells #[.int .u64 (n:Int)] 89)=W0:=⟨_,rfl⟩
 have hs1:W1.heap.size=w.heap.size + 1 + 1 + 1:=by rw [←hW1];simp
 have h12:Below W1.heap.size W1 W0:=by rw [←hW0];exact ((aI _ W1).alloc (aB _) _).alloc (by simp) _
 have F0:Ft o c l n 0 0 0 w W0:=by
  obtain ⟨x1,x2,x3⟩:=jU w (.cells #[.slice o l.length c] 31) (.cells #[.int .u64 0] 89) (.cells #[.int .i64 0] 3)
  rw [hW1] at x1 x2 x3
  refine ⟨dV h12 x1,dV h12 x2,dV h12 x3,?_,?_,dY b1 h12⟩
  ·rw [←hW0,←hs1]
   exact dW (aG _ _)
  ·rw [←hW0,←hs1]
   have:=aG (W1.alloc (.cells #[.int .i64 0] 3)) (.cells #[.int .u64 (n:Int)] 89)
   rw [aR] at this
   exact this
 have Pj:Hid (FI o c l n w 0 W0):=aA ⟨F0,dF _,rfl⟩
 have BH:Hid (W0.heap.size=w.heap.size + 5):=aA (by rw [←hW0];simp [hs1])
 have HW1:=aA hW1
 have HW0:=aA hW0
 clear F0 h12 b1 HVAL hW1 hW0
 refine (aW (n:=5)).1 ?_
 refine callsIn_of_wp_marks Tryz.func114 rfl trivial ?_ rfl
 simp only [Tryz.ntmps114,aL,bK,List.length_nil,Nat.reduceAdd,Nat.reduceSub,Array.replicate_succ,Array.replicate_zero,List.push_toArray,List.append_toArray,bX,bT]
 refine bG.2 ?_
 go_wp2_with fail
 rw [HW1.out]
 refine HV.out.mono ?_
 rintro e w1 ⟨rfl,rfl⟩
 clear HV
 go_wp2_with fail
 refine (Rv _ _).mono ?_
 rintro e w' ⟨rfl,rfl⟩
 go_wp2_with fail
 rw [HW0.out]
 refine bG.1 (iU (F:=Fence.wide) (n:=5) rfl (by omega) (gf:=139) (lb:=#[.pointer (some ⟨w.heap.size + 1 + 1 + 1 + 1,0,none⟩)]) rfl trivial (enters_of Tryz.func139 (by kernel_rfl) rfl)
  (NW n (w.heap.size + 1 + 1 + 1 + 1) zL) (fun _=>rfl) .ret (FI o c l n w) (FX o c l n w) (fun j a' W=>FA o c l n w j a'∧FI o c l n w j W)
  ?i1 ?i2 ?i3 ?i4 ?i5 Pj.out ?assign ?body ?done ?stop)
 case i1=>rintro j W X ⟨h1,h2⟩ hk;exact ⟨h1.kept (by have:=BH.out;omega) hk,h2⟩
 case i2=>rintro W X ⟨⟨k,h1⟩,h2⟩ hk;exact ⟨⟨k,h1.kept (by have:=BH.out;omega) hk⟩,h2⟩
 case i3=>rintro j a W X ⟨h0,h1,h2⟩ hk;exact ⟨h0,h1.kept (by have:=BH.out;omega) hk,h2⟩
 case i4=>rintro j W h4;exact h4.1.reads
 case i5=>rintro W ⟨⟨k,h⟩,_⟩;exact h.reads
 case assign =>
  intro l1 j W C hk hI hC
  obtain ⟨x,hx⟩:∃ x,(form n).getD j 0=x:=⟨_,rfl⟩
  simp only [xZ]
  rw [hx]
  have HX:=aA hx
  clear hx
  gi_wp2
  exact hC _ _ (KeepsFrom.refl _ _) ⟨by unfold FA;rw [HX.out],hI⟩
 case body =>
  rintro l1 j a' W hk ⟨ha,fs,hjl,htk⟩
  unfold FA at ha
  subst ha
  obtain ⟨y,hy⟩:∃ y,(form n).getD j 0=y:=⟨_,rfl⟩
  rw [hy]
  obtain ⟨c0,c1,c2,c3,f1,f2,f3⟩:=fs.facts
  have HK:=aA hk
  have HY:=aA hy
  have HT:=aA htk
  have HS:=aA fs
  have HB:=aA (XQ.out.below fs.below)
  have hl9:=HLEN.out
  clear hk hy htk fs
  have j0:(0:Int)≤(j:Int):=by omega
  by_cases hj:j=l.length
  ·have t1:(j:Int)=(l.length:Int):=by omega
   have HE:Hid (FX o c l n w ((W.setCell ⟨w.heap.size + 1,0,none⟩ (.int .u64 0)).setCell ⟨w.heap.size + 1 + 1,0,none⟩ (.int .i64 0))):=aA ⟨⟨j,HS.out.put⟩,UW HK.out hj⟩
   have Gx:Hid (KeepsFrom W0.heap.size W ((W.setCell ⟨w.heap.size + 1,0,none⟩ (.int .u64 0)).setCell ⟨w.heap.size + 1 + 1,0,none⟩ (.int .i64 0))):=aA (((KeepsOthers.setCell _ _ _).trans (KeepsOthers.setCell _ _ _)).from _)
   clear hj HS HB
   gi_wp2
   exact ⟨rfl,Gx.out,HE.out⟩
  ·have hj2:j < l.length:=by omega
   have t1:¬ (j:Int)=(l.length:Int):=by omega
   have t2:(j:Int) < (l.length:Int):=by omega
   obtain ⟨b,off,rfl,hcell⟩:=HB.out j hj2
   obtain ⟨x,hx⟩:∃ x,l.getD j 0=x:=⟨_,rfl⟩
   rw [hx] at hcell
   have HX:=aA hx
   clear hx
   by_cases hxy:x=y
   ·subst hxy
    have HE:Hid (∀ z:Int,z=((j + 1:Nat):Int)→FI (some ⟨b,off,none⟩) c l n w (j + 1) (W.setCell ⟨w.heap.size + 1 + 1 + 1,0,none⟩ (.int .i64 z))):=aA (fun z hz=>⟨HS.out.next (j + 1) z hz,by omega,Ih HK.out hj2 (by rw [HX.out,HY.out]) HT.out⟩)
    have hw:IntKind.i64.wrap ((j:Int) + 1)=(j:Int) + 1:=by rw [aZ];omega
    clear HS HB hj
    gi_wp2
    exact ⟨(KeepsOthers.setCell _ _ _).from _,HE.out _ (by omega)⟩
   ·have hxy2:¬ (x:Int)=(y:Int):=by omega
    have hne:((x:Int) != (y:Int))=true:=by simpa using hxy2
    have hbq:((j:Int) == (l.length:Int))=false:=by simpa using t1
    have HE:Hid (FX (some ⟨b,off,none⟩) c l n w ((W.setCell ⟨w.heap.size + 1,0,none⟩ (.int .u64 0)).setCell ⟨w.heap.size + 1 + 1,0,none⟩ (.int .i64 0))):=aA ⟨⟨j,HS.out.put⟩,Ql HK.out hj2 (by rw [HX.out,HY.out];exact hxy)⟩
    have Gx:Hid (KeepsFrom W0.heap.size W ((W.setCell ⟨w.heap.size + 1,0,none⟩ (.int .u64 0)).setCell ⟨w.heap.size + 1 + 1,0,none⟩ (.int .i64 0))):=aA (((KeepsOthers.setCell _ _ _).trans (KeepsOthers.setCell _ _ _)).from _)
    clear hj HS HB
    gi_wp2
    exact ⟨rfl,Gx.out,HE.out⟩
 case done =>
  rintro D W hD ⟨fs,hjl,htk⟩ hdef
  have hr:rd nW l=some (n,(form n).length):=by rw [Ug.out,aT (Ip rfl htk)]
  obtain ⟨L,hL⟩:∃ L,(form n).length=L:=⟨_,rfl⟩
  rw [hL] at fs hr
  obtain ⟨c0,c1,c2,c3,f1,f2,f3⟩:=fs.facts
  have HS:=aA fs
  have HR:=aA hr
  have KZ:Hid (w.heap.size + 5≤D):=aA (by have:=BH.out;omega)
  clear fs hjl htk hr hL hD
  go_wp2_with fail
  refine wp_region_noPanic ?_
  refine (bG (n:=5)).1 ?_
  refine jT (S:=fun X=>X.cell? ⟨w.heap.size + 1 + 1 + 1,0,none⟩=some (.int .i64 (L:Int))) (Z:=[]) (by kernel_rfl) ?_
  refine gQ (fun _=>trivial) [] 0 (?_) (by kernel_rfl) rfl (by kernel_rfl) (fun _ _ _ h=>h) c3 (by kernel_rfl) ?_ ?_
  rotate_left
  ·intro wz hSw;(first | (go_simp;done) | (go_simp;with_reducible rfl))
  try simp only [aQ]
  refine gQ (fun _=>trivial) [] 1 (.int .i64 (L:Int)) (by kernel_rfl) rfl (by kernel_rfl) (fun _ _ _ h=>h) c3 (by kernel_rfl) ?_ ?_
  ·intro wz hSw;(first | (go_simp;done) | (go_simp;with_reducible rfl))
  try simp only [aQ]
  refine iZ (fun _=>trivial) 2 (by kernel_rfl) rfl (fun K hK=>?_)
  go_simp
  refine hK.out _ _ (fun _=>by simp [go_sem, *]) ?_
  clear hK K
  try simp only [aQ]
  refine iZ (fun _=>trivial) 3 (by kernel_rfl) rfl (fun K hK=>?_)
  go_simp
  refine hK.out _ _ (fun _=>by simp [go_sem, *]) ?_
  clear hK K
  try simp only [aQ]
  refine lS (by kernel_rfl) ?_ _
  refine NoPanic.normal ?_
  go_wp2_with fail
  have hdf:(((W.setCell ⟨w.heap.size + 1,0,none⟩ (.int .u64 (n:Int))).setCell ⟨w.heap.size + 1 + 1,0,none⟩ (.int .i64 (L:Int))).drew).heap[D]?=some (.deferred (some [])):=(((KeepsOthers.setCell W ⟨w.heap.size + 1,0,none⟩ (.int .u64 (n:Int))).trans (KeepsOthers.setCell _ ⟨w.heap.size + 1 + 1,0,none⟩ (.int .i64 (L:Int)))).same D _ hdef rfl)
  have oJ:=((HS.out.put (x2:=(n:Int)) (y2:=(L:Int))).drew).kept (B:=w.heap.size) (aB _) (Kept.putObj (.deferred none) (by have:=KZ.out;omega) hdf rfl)
  refine ⟨by simp,.inl ⟨_,_,rfl,run_takeDeferred hdf,?_⟩⟩
  have hv:Vf (rd nW l)=.tuple #[.int .u64 (n:Int),.int .i64 (L:Int)]:=by rw [HR.out];rfl
  generalize ((((W.setCell ⟨w.heap.size + 1,0,none⟩ (.int .u64 (n:Int))).setCell ⟨w.heap.size + 1 + 1,0,none⟩ (.int .i64 (L:Int))).drew).putObj D (.deferred none))=Y at oJ ⊢
  obtain ⟨_,d1,d2,_,_,_,_⟩:=oJ.facts
  have vR:=aA oJ.below
  clear oJ hdf hdef c0 c1 c2 c3 f1 f2 f3
  refine ⟨.tuple #[.int .u64 (n:Int),.int .i64 (L:Int)],?_,by rw [hv],vR.out⟩
  clear hv
  simp [results,Tryz.results114,go_sem, *]
 case stop =>
  rintro D W hD ⟨⟨k,fs⟩,hpre⟩ hdef
  have hr:rd nW l=none:=by rw [Ug.out,hpre];rfl
  have HR:=aA hr
  have HS:=aA fs
  have KZ:Hid (w.heap.size + 5≤D):=aA (by have:=BH.out;omega)
  clear fs hr hpre hD
  refine bG.2 ?_
  go_wp2_with fail
  have oJ:=HS.out.kept (B:=w.heap.size) (aB _) (Kept.putObj (.deferred none) (by have:=KZ.out;omega) hdef rfl)
  refine ⟨by simp,.inl ⟨_,_,rfl,run_takeDeferred hdef,?_⟩⟩
  have hv:Vf (rd nW l)=.tuple #[.int .u64 0,.int .i64 0]:=by rw [HR.out];rfl
  generalize W.putObj D (.deferred none)=Y at oJ ⊢
  obtain ⟨_,d1,d2,_,_,_,_⟩:=oJ.facts
  have vR:=aA oJ.below
  clear oJ hdef
  refine ⟨.tuple #[.int .u64 0,.int .i64 0],?_,by rw [hv],vR.out⟩
  clear hv
  simp [results,Tryz.results114,go_sem, *]
end Pk
end Go.Proofs.YtbbhmhihpdmoiaaGreat
