import Derived.Test.YtbbhmhihpdmoiaaGreatJr25
set_option linter.unusedVariables false
set_option linter.unusedSimpArgs false
set_option maxRecDepth 100000
set_option maxHeartbeats 32000000
namespace Go.Proofs.YtbbhmhihpdmoiaaGreat
namespace Fx
open Go Go.RowKit Go.Shelf
def tZ {α:Type} (p:α→Bool) (l:List α):Int:=((l.findIdx? p).map Int.ofNat).getD (-1)
theorem vG {α:Type} {p:α→Bool} {l:List α} {n:Nat} (hn:l.length≤n) (h:(l.take n).any p=false):tZ p l=-1:=by
 rw [bO hn] at h
 unfold tZ
 rw [List.findIdx?_eq_none_iff.2 (by simpa using h)]
 rfl
theorem xW {α:Type} {p:α→Bool} {l:List α} {k:Nat} {x:α} (hx:l[k]?=some x) (h:(l.take k).any p=false) (hp:p x=true):tZ p l=(k:Int):=by
 obtain ⟨hkl,hx'⟩:=bD.1 hx
 unfold tZ
 have e:l.findIdx? p=some k:=by
  rw [←List.take_append_drop k l,List.findIdx?_append,List.findIdx?_eq_none_iff.2 (by simpa using h),List.drop_eq_getElem_cons hkl]
  simp [List.findIdx?_cons,hx',hp]
  omega
 rw [e]
 rfl
theorem xX {α:Type} (p:α→Bool) (l:List α):(l.any p=true∧0≤tZ p l)∨(l.any p=false∧tZ p l < 0):=by
 unfold tZ
 cases h:l.findIdx? p with
 | none =>
  right
  rw [List.findIdx?_eq_none_iff] at h
  exact ⟨by simpa using h,by simp⟩
 | some k =>
  left
  have:=List.findIdx?_eq_some_iff_getElem.1 h
  obtain ⟨h1,h2,_⟩:=this
  exact ⟨List.any_eq_true.2 ⟨_,List.getElem_mem h1,h2⟩,by simp⟩
def TG {α:Type} (p:α→Bool) (l:List α) (w:World) (n g:Nat) (s5 s8:Value) (W:World):Prop :=
 ∃ k:Nat,g=n - k∧s8=.int .i64 (k:Int)∧k≤n∧Below w.heap.size w W∧(l.take k).any p=false
theorem vN {α:Type} {p:α→Bool} {l:List α} {k:Nat} {x:α} (hx:l[k]?=some x) (h:(l.take k).any p=false) (hp:p x=false):(l.take (k + 1)).any p=false:=by
 rw [dH,hx,List.any_append,h]
 simp [hp]
def GI (z:Int) (w:World) (e:Ending) (w':World):Prop:=e=.returned (.int .i64 z)∧Below w.heap.size w w'
theorem Xo (p:List Int→Bool) (g:Nat) (lb:Array Value) (eg:∀ args w,(callFunc g args).run Tryz.prog w=.ok (.enter g args) w) (o:Option Addr) (c:Nat) (l:List (List Int)) (w:World)
  (hl:gN w o l) (hlen:l.length≤9223372036854775807)
  (hp:∀ W x,Below w.heap.size w W→x∈l→Calls Tryz.prog g (#[.agg (x.map encI).toArray] ++ lb) W fun e w'=>e=.returned (.bool (p x))∧Below W.heap.size W w') :
  Calls Tryz.prog 142 #[.slice o l.length c,.func (.func g) #[] lb] w (GI (tZ p l) w):=by
 obtain ⟨n,hn⟩:∃ n,l.length=n:=⟨_,rfl⟩
 have HN:=aA hn
 have HL:=aA hl
 have HP:=aA hp
 rw [hn] at hlen ⊢
 have n0:(0:Int)≤(n:Int):=by omega
 have n1:(n:Int)≤9223372036854775807:=by omega
 clear hn hl hp hlen
 go_enter Tryz.func142,Tryz.ntmps142
 go_wp2_with fail
 go_loopg [5,8] n (TG p l w n)
 case atStart=>exact ⟨0,rfl,rfl,by omega,aI _ _,rfl⟩
 case round =>
  obtain ⟨k,hg,rfl,hk,hbl,ha⟩:=hrel
  subst hg
  have HB:=aA hbl
  have HA:=aA ha
  clear ha
  have k0:(0:Int)≤(k:Int):=by omega
  by_cases hkn:k < n
  ·have t1:(k:Int) < (n:Int):=by omega
   obtain ⟨x,hx⟩:∃ x,l[k]?=some x:=⟨_,aJ (by rw [HN.out];exact hkn)⟩
   obtain ⟨b,off,e,hr,hwf⟩:=(HL.out.below hbl) k x hx
   have kZ:=aA (show (Tryz.prog.info? 85).map (·.size)=some (x.map encI).length by (first | (rw [bI,hwf.len];kernel_rfl) | kernel_rfl))
   have HR:=aA hr
   have HC:=aA (HP.out wr x hbl (bJ hx))
   have HX:=aA hx
   subst e
   clear hbl hx hr hwf
   cases hq:p x with
   | true =>
    rw [hq] at HC
    have HR2:=aA (xW HX.out HA.out hq)
    clear hq
    go_wp2_with (first | (go_at_fn g;refine HC.out.mono ?_;rintro e w' ⟨rfl,hb'⟩) | (refine wpList_load_mid rfl 85 (.tmp 14) rfl b (off + k * 3) rfl (x.map encI) _ HR.out dA rfl kZ.out ?_))
    go_ret
    exact ⟨by rw [HR2.out];rfl,dY HB.out hb'⟩
   | false =>
    rw [hq] at HC
    have HR2:=aA (vN HX.out HA.out hq)
    clear hq
    go_wp2_with (first | (go_at_fn g;refine HC.out.mono ?_;rintro e w' ⟨rfl,hb'⟩) | (refine wpList_load_mid rfl 85 (.tmp 14) rfl b (off + k * 3) rfl (x.map encI) _ HR.out dA rfl kZ.out ?_))
    go_roundg (n - (k + 1))
    case measure=>omega
    case rel=>exact ⟨k + 1,rfl,by go_num,by omega,dY HB.out hb',HR2.out⟩
  ·obtain rfl:k=n:=by omega
   have t1:¬ (k:Int) < (k:Int):=by omega
   have HR2:=aA (vG (p:=p) (by rw [HN.out];omega) HA.out)
   clear hbl
   go_wp2_with fail
   go_ret
   exact ⟨by rw [HR2.out];rfl,HB.out⟩
theorem Zf (p:List Int→Bool) (g:Nat) (lb:Array Value) (eg:∀ args w,(callFunc g args).run Tryz.prog w=.ok (.enter g args) w) (o:Option Addr) (c:Nat) (l:List (List Int)) (w:World)
  (hl:gN w o l) (hlen:l.length≤9223372036854775807)
  (hp:∀ W x,Below w.heap.size w W→x∈l→Calls Tryz.prog g (#[.agg (x.map encI).toArray] ++ lb) W fun e w'=>e=.returned (.bool (p x))∧Below W.heap.size W w') :
  Calls Tryz.prog 124 #[.slice o l.length c,.func (.func g) #[] lb] w (gH (l.any p) w):=by
 have HC:=aA (Xo p g lb eg o c l w hl hlen hp)
 have HZ:=aA (xX p l)
 clear hp hl eg
 generalize tZ p l=z at HC HZ
 generalize l.any p=r at HZ ⊢
 generalize l.length=n at *
 rcases HZ.out with ⟨rfl,hz⟩ | ⟨rfl,hz⟩
 ·clear HZ
  go_enter Tryz.func124,Tryz.ntmps124
  go_wp2_with fail
  refine HC.out.mono ?_
  rintro e w1 ⟨rfl,hb⟩
  have HB:=aA hb
  clear hb
  go_wp2_with fail
  go_ret
  exact ⟨rfl,HB.out⟩
 ·clear HZ
  have hz2:¬ 0≤z:=by omega
  go_enter Tryz.func124,Tryz.ntmps124
  go_wp2_with fail
  refine HC.out.mono ?_
  rintro e w1 ⟨rfl,hb⟩
  have HB:=aA hb
  clear hb
  go_wp2_with fail
  go_ret
  exact ⟨by show Ending.returned (.bool (decide (0≤z)))=_;rw [aN (show ¬ 0≤z by omega)],HB.out⟩
theorem Xp (p:iH→Bool) (g:Nat) (lb:Array Value) (eg:∀ args w,(callFunc g args).run Tryz.prog w=.ok (.enter g args) w) (o:Option Addr) (c:Nat) (l:List (iH)) (w:World)
  (hl:iL w o l) (hlen:l.length≤9223372036854775807)
  (hp:∀ W x,Below w.heap.size w W→x∈l→Calls Tryz.prog g (#[.agg (fV x).toArray] ++ lb) W fun e w'=>e=.returned (.bool (p x))∧Below W.heap.size W w') :
  Calls Tryz.prog 147 #[.slice o l.length c,.func (.func g) #[] lb] w (GI (tZ p l) w):=by
 obtain ⟨n,hn⟩:∃ n,l.length=n:=⟨_,rfl⟩
 have HN:=aA hn
 have HL:=aA hl
 have HP:=aA hp
 rw [hn] at hlen ⊢
 have n0:(0:Int)≤(n:Int):=by omega
 have n1:(n:Int)≤9223372036854775807:=by omega
 clear hn hl hp hlen
 go_enter Tryz.func147,Tryz.ntmps147
 go_wp2_with fail
 go_loopg [5,8] n (TG p l w n)
 case atStart=>exact ⟨0,rfl,rfl,by omega,aI _ _,rfl⟩
 case round =>
  obtain ⟨k,hg,rfl,hk,hbl,ha⟩:=hrel
  subst hg
  have HB:=aA hbl
  have HA:=aA ha
  clear ha
  have k0:(0:Int)≤(k:Int):=by omega
  by_cases hkn:k < n
  ·have t1:(k:Int) < (n:Int):=by omega
   obtain ⟨x,hx⟩:∃ x,l[k]?=some x:=⟨_,aJ (by rw [HN.out];exact hkn)⟩
   obtain ⟨b,off,e,hr,hwf⟩:=(HL.out.below hbl) k x hx
   have kZ:=aA (show (Tryz.prog.info? 87).map (·.size)=some (fV x).length by (first | (rw [bI,hwf.len];kernel_rfl) | kernel_rfl))
   have HR:=aA hr
   have HC:=aA (HP.out wr x hbl (bJ hx))
   have HX:=aA hx
   subst e
   clear hbl hx hr hwf
   cases hq:p x with
   | true =>
    rw [hq] at HC
    have HR2:=aA (xW HX.out HA.out hq)
    clear hq
    go_wp2_with (first | (go_at_fn g;refine HC.out.mono ?_;rintro e w' ⟨rfl,hb'⟩) | (refine wpList_load_mid rfl 87 (.tmp 14) rfl b (off + k * 4) rfl (fV x) _ HR.out cZ rfl kZ.out ?_))
    go_ret
    exact ⟨by rw [HR2.out];rfl,dY HB.out hb'⟩
   | false =>
    rw [hq] at HC
    have HR2:=aA (vN HX.out HA.out hq)
    clear hq
    go_wp2_with (first | (go_at_fn g;refine HC.out.mono ?_;rintro e w' ⟨rfl,hb'⟩) | (refine wpList_load_mid rfl 87 (.tmp 14) rfl b (off + k * 4) rfl (fV x) _ HR.out cZ rfl kZ.out ?_))
    go_roundg (n - (k + 1))
    case measure=>omega
    case rel=>exact ⟨k + 1,rfl,by go_num,by omega,dY HB.out hb',HR2.out⟩
  ·obtain rfl:k=n:=by omega
   have t1:¬ (k:Int) < (k:Int):=by omega
   have HR2:=aA (vG (p:=p) (by rw [HN.out];omega) HA.out)
   clear hbl
   go_wp2_with fail
   go_ret
   exact ⟨by rw [HR2.out];rfl,HB.out⟩
theorem Zg (p:iH→Bool) (g:Nat) (lb:Array Value) (eg:∀ args w,(callFunc g args).run Tryz.prog w=.ok (.enter g args) w) (o:Option Addr) (c:Nat) (l:List (iH)) (w:World)
  (hl:iL w o l) (hlen:l.length≤9223372036854775807)
  (hp:∀ W x,Below w.heap.size w W→x∈l→Calls Tryz.prog g (#[.agg (fV x).toArray] ++ lb) W fun e w'=>e=.returned (.bool (p x))∧Below W.heap.size W w') :
  Calls Tryz.prog 129 #[.slice o l.length c,.func (.func g) #[] lb] w (gH (l.any p) w):=by
 have HC:=aA (Xp p g lb eg o c l w hl hlen hp)
 have HZ:=aA (xX p l)
 clear hp hl eg
 generalize tZ p l=z at HC HZ
 generalize l.any p=r at HZ ⊢
 generalize l.length=n at *
 rcases HZ.out with ⟨rfl,hz⟩ | ⟨rfl,hz⟩
 ·clear HZ
  go_enter Tryz.func129,Tryz.ntmps129
  go_wp2_with fail
  refine HC.out.mono ?_
  rintro e w1 ⟨rfl,hb⟩
  have HB:=aA hb
  clear hb
  go_wp2_with fail
  go_ret
  exact ⟨rfl,HB.out⟩
 ·clear HZ
  have hz2:¬ 0≤z:=by omega
  go_enter Tryz.func129,Tryz.ntmps129
  go_wp2_with fail
  refine HC.out.mono ?_
  rintro e w1 ⟨rfl,hb⟩
  have HB:=aA hb
  clear hb
  go_wp2_with fail
  go_ret
  exact ⟨by show Ending.returned (.bool (decide (0≤z)))=_;rw [aN (show ¬ 0≤z by omega)],HB.out⟩
theorem Xq (p:Int→Bool) (g:Nat) (lb:Array Value) (eg:∀ args w,(callFunc g args).run Tryz.prog w=.ok (.enter g args) w) (o:Option Addr) (c:Nat) (l:List (Int)) (w:World)
  (hl:oN w o l) (hlen:l.length≤9223372036854775807)
  (hp:∀ W x,Below w.heap.size w W→x∈l→Calls Tryz.prog g (#[.int .i64 x] ++ lb) W fun e w'=>e=.returned (.bool (p x))∧Below W.heap.size W w') :
  Calls Tryz.prog 152 #[.slice o l.length c,.func (.func g) #[] lb] w (GI (tZ p l) w):=by
 obtain ⟨n,hn⟩:∃ n,l.length=n:=⟨_,rfl⟩
 have HN:=aA hn
 have HL:=aA hl
 have HP:=aA hp
 rw [hn] at hlen ⊢
 have n0:(0:Int)≤(n:Int):=by omega
 have n1:(n:Int)≤9223372036854775807:=by omega
 clear hn hl hp hlen
 go_enter Tryz.func152,Tryz.ntmps152
 go_wp2_with fail
 go_loopg [5,8] n (TG p l w n)
 case atStart=>exact ⟨0,rfl,rfl,by omega,aI _ _,rfl⟩
 case round =>
  obtain ⟨k,hg,rfl,hk,hbl,ha⟩:=hrel
  subst hg
  have HB:=aA hbl
  have HA:=aA ha
  clear ha
  have k0:(0:Int)≤(k:Int):=by omega
  by_cases hkn:k < n
  ·have t1:(k:Int) < (n:Int):=by omega
   obtain ⟨x,hx⟩:∃ x,l[k]?=some x:=⟨_,aJ (by rw [HN.out];exact hkn)⟩
   obtain ⟨b,off,e,hr⟩:=(HL.out.below hbl) k (by rw [HN.out];exact hkn)
   rw [aS,hx,Option.getD_some] at hr
   have HC:=aA (HP.out wr x hbl (bJ hx))
   have HX:=aA hx
   subst e
   clear hbl hx 
   cases hq:p x with
   | true =>
    rw [hq] at HC
    have HR2:=aA (xW HX.out HA.out hq)
    clear hq
    go_wp2_with (first | (go_at_fn g;refine HC.out.mono ?_;rintro e w' ⟨rfl,hb'⟩) | fail)
    go_ret
    exact ⟨by rw [HR2.out];rfl,dY HB.out hb'⟩
   | false =>
    rw [hq] at HC
    have HR2:=aA (vN HX.out HA.out hq)
    clear hq
    go_wp2_with (first | (go_at_fn g;refine HC.out.mono ?_;rintro e w' ⟨rfl,hb'⟩) | fail)
    go_roundg (n - (k + 1))
    case measure=>omega
    case rel=>exact ⟨k + 1,rfl,by go_num,by omega,dY HB.out hb',HR2.out⟩
  ·obtain rfl:k=n:=by omega
   have t1:¬ (k:Int) < (k:Int):=by omega
   have HR2:=aA (vG (p:=p) (by rw [HN.out];omega) HA.out)
   clear hbl
   go_wp2_with fail
   go_ret
   exact ⟨by rw [HR2.out];rfl,HB.out⟩
theorem Zh (p:Int→Bool) (g:Nat) (lb:Array Value) (eg:∀ args w,(callFunc g args).run Tryz.prog w=.ok (.enter g args) w) (o:Option Addr) (c:Nat) (l:List (Int)) (w:World)
  (hl:oN w o l) (hlen:l.length≤9223372036854775807)
  (hp:∀ W x,Below w.heap.size w W→x∈l→Calls Tryz.prog g (#[.int .i64 x] ++ lb) W fun e w'=>e=.returned (.bool (p x))∧Below W.heap.size W w') :
  Calls Tryz.prog 143 #[.slice o l.length c,.func (.func g) #[] lb] w (gH (l.any p) w):=by
 have HC:=aA (Xq p g lb eg o c l w hl hlen hp)
 have HZ:=aA (xX p l)
 clear hp hl eg
 generalize tZ p l=z at HC HZ
 generalize l.any p=r at HZ ⊢
 generalize l.length=n at *
 rcases HZ.out with ⟨rfl,hz⟩ | ⟨rfl,hz⟩
 ·clear HZ
  go_enter Tryz.func143,Tryz.ntmps143
  go_wp2_with fail
  refine HC.out.mono ?_
  rintro e w1 ⟨rfl,hb⟩
  have HB:=aA hb
  clear hb
  go_wp2_with fail
  go_ret
  exact ⟨rfl,HB.out⟩
 ·clear HZ
  have hz2:¬ 0≤z:=by omega
  go_enter Tryz.func143,Tryz.ntmps143
  go_wp2_with fail
  refine HC.out.mono ?_
  rintro e w1 ⟨rfl,hb⟩
  have HB:=aA hb
  clear hb
  go_wp2_with fail
  go_ret
  exact ⟨by show Ending.returned (.bool (decide (0≤z)))=_;rw [aN (show ¬ 0≤z by omega)],HB.out⟩
theorem Xr (p:Int→Bool) (g:Nat) (lb:Array Value) (eg:∀ args w,(callFunc g args).run Tryz.prog w=.ok (.enter g args) w) (o:Option Addr) (c:Nat) (l:List (Int)) (w:World)
  (hl:oN w o l) (hlen:l.length≤9223372036854775807)
  (hp:∀ W x,Below w.heap.size w W→x∈l→Calls Tryz.prog g (#[.int .i64 x] ++ lb) W fun e w'=>e=.returned (.bool (p x))∧Below W.heap.size W w') :
  Calls Tryz.prog 153 #[.slice o l.length c,.func (.func g) #[] lb] w (GI (tZ p l) w):=by
 obtain ⟨n,hn⟩:∃ n,l.length=n:=⟨_,rfl⟩
 have HN:=aA hn
 have HL:=aA hl
 have HP:=aA hp
 rw [hn] at hlen ⊢
 have n0:(0:Int)≤(n:Int):=by omega
 have n1:(n:Int)≤9223372036854775807:=by omega
 clear hn hl hp hlen
 go_enter Tryz.func153,Tryz.ntmps153
 go_wp2_with fail
 go_loopg [5,8] n (TG p l w n)
 case atStart=>exact ⟨0,rfl,rfl,by omega,aI _ _,rfl⟩
 case round =>
  obtain ⟨k,hg,rfl,hk,hbl,ha⟩:=hrel
  subst hg
  have HB:=aA hbl
  have HA:=aA ha
  clear ha
  have k0:(0:Int)≤(k:Int):=by omega
  by_cases hkn:k < n
  ·have t1:(k:Int) < (n:Int):=by omega
   obtain ⟨x,hx⟩:∃ x,l[k]?=some x:=⟨_,aJ (by rw [HN.out];exact hkn)⟩
   obtain ⟨b,off,e,hr⟩:=(HL.out.below hbl) k (by rw [HN.out];exact hkn)
   rw [aS,hx,Option.getD_some] at hr
   have HC:=aA (HP.out wr x hbl (bJ hx))
   have HX:=aA hx
   subst e
   clear hbl hx 
   cases hq:p x with
   | true =>
    rw [hq] at HC
    have HR2:=aA (xW HX.out HA.out hq)
    clear hq
    go_wp2_with (first | (go_at_fn g;refine HC.out.mono ?_;rintro e w' ⟨rfl,hb'⟩) | fail)
    go_ret
    exact ⟨by rw [HR2.out];rfl,dY HB.out hb'⟩
   | false =>
    rw [hq] at HC
    have HR2:=aA (vN HX.out HA.out hq)
    clear hq
    go_wp2_with (first | (go_at_fn g;refine HC.out.mono ?_;rintro e w' ⟨rfl,hb'⟩) | fail)
    go_roundg (n - (k + 1))
    case measure=>omega
    case rel=>exact ⟨k + 1,rfl,by go_num,by omega,dY HB.out hb',HR2.out⟩
  ·obtain rfl:k=n:=by omega
   have t1:¬ (k:Int) < (k:Int):=by omega
   have HR2:=aA (vG (p:=p) (by rw [HN.out];omega) HA.out)
   clear hbl
   go_wp2_with fail
   go_ret
   exact ⟨by rw [HR2.out];rfl,HB.out⟩
theorem Zi (p:Int→Bool) (g:Nat) (lb:Array Value) (eg:∀ args w,(callFunc g args).run Tryz.prog w=.ok (.enter g args) w) (o:Option Addr) (c:Nat) (l:List (Int)) (w:World)
  (hl:oN w o l) (hlen:l.length≤9223372036854775807)
  (hp:∀ W x,Below w.heap.size w W→x∈l→Calls Tryz.prog g (#[.int .i64 x] ++ lb) W fun e w'=>e=.returned (.bool (p x))∧Below W.heap.size W w') :
  Calls Tryz.prog 145 #[.slice o l.length c,.func (.func g) #[] lb] w (gH (l.any p) w):=by
 have HC:=aA (Xr p g lb eg o c l w hl hlen hp)
 have HZ:=aA (xX p l)
 clear hp hl eg
 generalize tZ p l=z at HC HZ
 generalize l.any p=r at HZ ⊢
 generalize l.length=n at *
 rcases HZ.out with ⟨rfl,hz⟩ | ⟨rfl,hz⟩
 ·clear HZ
  go_enter Tryz.func145,Tryz.ntmps145
  go_wp2_with fail
  refine HC.out.mono ?_
  rintro e w1 ⟨rfl,hb⟩
  have HB:=aA hb
  clear hb
  go_wp2_with fail
  go_ret
  exact ⟨rfl,HB.out⟩
 ·clear HZ
  have hz2:¬ 0≤z:=by omega
  go_enter Tryz.func145,Tryz.ntmps145
  go_wp2_with fail
  refine HC.out.mono ?_
  rintro e w1 ⟨rfl,hb⟩
  have HB:=aA hb
  clear hb
  go_wp2_with fail
  go_ret
  exact ⟨by show Ending.returned (.bool (decide (0≤z)))=_;rw [aN (show ¬ 0≤z by omega)],HB.out⟩
theorem VA (n:Int) (w:World):Calls Tryz.prog 144 #[.int .i64 n] w fun e w'=>e=.returned (.bool (mQ n))∧w'=w:=by
 by_cases h2:n < -1073741824
 ·have e:mQ n=true:=by unfold mQ;rw [aV h2,Bool.or_true]
  rw [e]
  clear e
  go_enter Tryz.func144,Tryz.ntmps144
  go_wp2_with fail
  go_ret
  exact ⟨rfl,rfl⟩
 ·by_cases h1:1073741824 < n
  ·have e:mQ n=true:=by unfold mQ;rw [aV h1];rfl
   rw [e]
   clear e
   go_enter Tryz.func144,Tryz.ntmps144
   go_wp2_with fail
   go_ret
   exact ⟨rfl,rfl⟩
  ·have e:mQ n=false:=by unfold mQ;rw [aN h1,aN h2];rfl
   rw [e]
   clear e
   go_enter Tryz.func144,Tryz.ntmps144
   go_wp2_with fail
   go_ret
   exact ⟨rfl,rfl⟩
theorem Cu {v:List Int} (h:v.length=3):v.any mQ = !oZ v:=by
 match v,h with
 | [a,b,c],_=>simp [oZ,Bool.or_assoc]
theorem Ae (v:List Int) (w:World) (hv:v.length=3):Calls Tryz.prog 125 #[.agg (v.map encI).toArray] w (gH (!oZ v) w):=by
 have hI:oN (w.alloc (.cells (v.map encI).toArray 85)) (some ⟨w.heap.size,0,none⟩) v:=fun i hi=>⟨_,_,rfl,by
  rw [aF _ _ _ _ _ _ (aG _ _),bB]
  simp [aJ hi,aS,encI]⟩
 have HC:=aA (Zh mQ 144 #[] (enters_of Tryz.func144 (by kernel_rfl) rfl) _ 3 v _ hI (by omega) (fun W x _ _=>(VA x W).mono fun _ _ h=>⟨h.1,h.2▸aI _ _⟩))
 have HB:Hid (Below w.heap.size w (w.alloc (.cells (v.map encI).toArray 85))):=aA ((aI _ w).alloc (aB _) _)
 rw [Cu hv,hv] at HC
 generalize oZ v=r at HC ⊢
 generalize (v.map encI).toArray=cs at *
 clear hI hv
 go_enter Tryz.func125,Tryz.ntmps125
 go_wp2_with fail
 refine HC.out.mono ?_
 rintro e w1 ⟨rfl,hb⟩
 have HB1:=aA (dY HB.out hb)
 clear hb
 go_wp2_with fail
 go_ret
 exact ⟨rfl,HB1.out⟩
structure mR (x:fE) (B:Nat) (V:World):Prop where
 row:V.heap[B]?=some (.cells (eF x).toArray 73 (0,0))
 wf:kD x
theorem mR.at {x:fE} {B j:Nat} {V:World} (i:mR x B V):V.cell? ⟨B,j,none⟩=(eF x)[j]?:=by
 rw [aF _ _ _ _ _ _ i.row]
 simp
theorem mR.c0 {x:fE} {B:Nat} {V:World} (i:mR x B V):V.cell? ⟨B,0,none⟩=some (.int .i64 x.id):=i.at
theorem mR.c17 {x:fE} {B:Nat} {V:World} (i:mR x B V):V.cell? ⟨B,17,none⟩=some (.slice x.vo x.vs.length x.vc):=i.at.trans (uS i.wf)
theorem mR.c18 {x:fE} {B:Nat} {V:World} (i:mR x B V):V.cell? ⟨B,18,none⟩=some (.slice x.tq x.ts.length x.tc):=i.at.trans (uT i.wf)
theorem mR.BQ {x:fE} {B:Nat} {V:World} (i:mR x B V):V.rangeAt B 1 (x.m.map encI):=fun j v hj=>i.at.trans (NF hj)
theorem mR.up {x:fE} {B:Nat} {V X:World} (hb:Below V.heap.size V X) (i:mR x B V):mR x B X:=⟨dV hb i.row,i.wf⟩
theorem mR.new (x:fE) (w:World) (h:kD x):mR x w.heap.size (w.alloc (.cells (eF x).toArray 73)):=⟨aG _ _,h⟩
theorem fM.wf {W:World} {o:Option Addr} {l:List fE} {k:Nat} {x:fE} (h:fM W o l) (hx:l[k]?=some x):kD x∧gN W x.vo x.vs∧iL W x.tq x.ts:=by
 obtain ⟨b,off,e,hat⟩:=h k x hx
 exact ⟨hat.wf,hat.wT,hat.IG⟩
theorem gF.all {A:Nat} {s:fH} {W:World} (h:gF A s W):W.rangeAt A 0 (jF s):=fun j v hj=>by
 rw [bB]
 exact h.at.trans hj
theorem PN {s:fH} (hs:jE s):(Tryz.prog.info? 28).map (·.size)=some (jF s).length:=by rw [uN hs];kernel_rfl
theorem NY {s:fH} {x:fE} {k:Nat} (hx:s.os[k]?=some x):((s.os.take k).all fun y=>decide (y.id≠x.id))=decide ((kR s.os x.id).getD 0=k):=by
 obtain ⟨hkl,hx'⟩:=bD.1 hx
 cases h:kR (s.os.take k) x.id with
 | none =>
  rw [KJ hx h rfl]
  have : ((s.os.take k).all fun y=>decide (y.id≠x.id))=true:=by
   unfold kR at h
   rw [List.findIdx?_eq_none_iff] at h
   rw [bL]
   intro y hy
   have:=h y hy
   simpa using this
  rw [this]
  simp
 | some i =>
  have hi:kR s.os x.id=some i:=by
   unfold kR at h ⊢
   rw [←List.take_append_drop k s.os,List.findIdx?_append,h]
   rfl
  have hlt:i < k:=by
   unfold kR at h
   obtain ⟨h1,_⟩:=List.findIdx?_eq_some_iff_getElem.1 h
   simp at h1
   omega
  have : ((s.os.take k).all fun y=>decide (y.id≠x.id))=false:=by
   unfold kR at h
   obtain ⟨h1,h2,_⟩:=List.findIdx?_eq_some_iff_getElem.1 h
   rw [List.all_eq_false]
   exact ⟨_,List.getElem_mem h1,by simpa using h2⟩
  rw [this,hi]
  simp
  omega
theorem duty1 (s:fH) (x:fE) (k A:Nat) (w:World) (hs:jE s) (ha:gF A s w) (h:fM w s.oo s.os) (hx:s.os[k]?=some x) :
  Calls Tryz.prog 118 #[.int .i64 (k:Int),.agg (eF x).toArray,.pointer (some ⟨A,0,none⟩)] w (gH (qG s x k) w):=by
 have HB:Hid (Below w.heap.size w (w.alloc (.cells (eF x).toArray 73))):=aA ((aI _ w).alloc (aB _) _)
 have HX:=aA (mR.new x w (h.wf hx).1)
 have HA:=aA (ha.below HB.out)
 have hall:=aA (PN hs)
 have HF:=aA (UZ s x.id _ hs (h.below HB.out))
 have HK:Hid (qG s x k=(decide ((kR s.os x.id).getD 0=k) && (decide (1≤x.id) && decide (x.id≤65535)))):=aA (by unfold qG;rw [NY hx])
 have c0:=HX.out.c0
 have k0:(0:Int)≤(k:Int):=by omega
 unfold TA at HF
 rw [HK.out]
 clear h hx ha hs HK
 generalize x.id=z at c0 HF ⊢
 generalize kR s.os z=fz at HF ⊢
 generalize fz.isSome=fb at HF
 generalize fz.getD 0=f at HF ⊢
 go_enter Tryz.func118,Tryz.ntmps118
 go_wp2_with (refine wpList_load_mid rfl 28 (.tmp 2) rfl A 0 rfl (jF s) _ HA.out.all bA rfl hall.out ?_)
 refine HF.out.mono ?_
 rintro e w1 ⟨rfl,hb⟩
 have c1:=dN hb c0
 have HB1:=aA (dY HB.out hb)
 clear hb HF c0
 by_cases h1:1≤z
 ·by_cases h2:z≤65535
  ·by_cases h3:f=k
   ·subst h3
    go_wp2_with fail
    go_ret
    exact ⟨by (first | (simp [*];done) | (simp;omega) | (simp [*];omega)),HB1.out⟩
   ·have t3:¬ (f:Int)=(k:Int):=by omega
    go_wp2_with fail
    go_ret
    exact ⟨by (first | (simp [*];done) | (simp;omega) | (simp [*];omega)),HB1.out⟩
  ·go_wp2_with fail
   go_ret
   exact ⟨by (first | (simp [*];done) | (simp;omega) | (simp [*];omega)),HB1.out⟩
 ·go_wp2_with fail
  go_ret
  exact ⟨by (first | (simp [*];done) | (simp;omega) | (simp [*];omega)),HB1.out⟩
theorem duty2 (s:fH) (x:fE) (k:Nat) (w:World) (hx:kD x) :
  Calls Tryz.prog 120 #[.int .i64 (k:Int),.agg (eF x).toArray] w (gH (vF s x k) w):=by
 have HB:Hid (Below w.heap.size w (w.alloc (.cells (eF x).toArray 73))):=aA ((aI _ w).alloc (aB _) _)
 have HX:=aA (mR.new x w hx)
 have hM:=aA (nY hx.len)
 have HC:=aA (wN x.m 16777216 (w.alloc (.cells (eF x).toArray 73)) hx.len (by omega) (by omega))
 have HK:Hid (vF s x k=wB 16777216 x.m 16):=aA rfl
 rw [HK.out]
 clear hx HK
 cases hb:wB 16777216 x.m 16 with
 | true =>
  rw [hb] at HC
  clear hb
  go_enter Tryz.func120,Tryz.ntmps120
  go_wp2_with (refine wpList_load_mid rfl 25 (.tmp 5) rfl w.heap.size 1 rfl (x.m.map encI) _ HX.out.BQ aP rfl hM.out ?_)
  refine HC.out.mono ?_
  rintro e w1 ⟨rfl,hb⟩
  have HB1:=aA (dY HB.out hb)
  clear hb
  go_wp2_with fail
  go_ret
  exact ⟨rfl,HB1.out⟩
 | false =>
  rw [hb] at HC
  clear hb
  go_enter Tryz.func120,Tryz.ntmps120
  go_wp2_with (refine wpList_load_mid rfl 25 (.tmp 5) rfl w.heap.size 1 rfl (x.m.map encI) _ HX.out.BQ aP rfl hM.out ?_)
  refine HC.out.mono ?_
  rintro e w1 ⟨rfl,hb⟩
  have HB1:=aA (dY HB.out hb)
  clear hb
  go_wp2_with fail
  go_ret
  exact ⟨rfl,HB1.out⟩
def wF (s:fH) (k:Nat):Bool:=wB 67108864 ((mI s (k:Int)).getD eX) 16
theorem VZ (s:fH) (k:Int):((mI s k).getD eX).length=16:=by
 cases h:mI s k with
 | none=>rfl
 | some m =>
  unfold mI at h
  split at h
  ·cases hx:s.os[k.toNat]? with
   | none=>rw [hx] at h;cases h
   | some x =>
    rw [hx] at h
    exact uX h
  ·cases h
theorem duty3 (s:fH) (x:fE) (k A:Nat) (w:World) (hs:jE s) (ha:gF A s w) (h:fM w s.oo s.os) (hx:s.os[k]?=some x) :
  Calls Tryz.prog 121 #[.int .i64 (k:Int),.agg (eF x).toArray,.pointer (some ⟨A,0,none⟩)] w (gH (wF s k) w):=by
 have HB:Hid (Below w.heap.size w (w.alloc (.cells (eF x).toArray 73))):=aA ((aI _ w).alloc (aB _) _)
 have HA:=aA (ha.below HB.out)
 have hall:=aA (PN hs)
 have HF:=aA (VB s (k:Int) _ hs (h.below HB.out))
 have HU:=aA (VZ s (k:Int))
 have HC:=aA (fun (W:World)=>wN ((mI s (k:Int)).getD eX) 67108864 W HU.out (by omega) (by omega))
 have HK:Hid (wF s k=wB 67108864 ((mI s (k:Int)).getD eX) 16):=aA rfl
 unfold TD at HF
 rw [HK.out]
 clear h hx ha hs HK
 generalize (if (mI s (k:Int)).isSome=true then (0:Int) else 60)=er at HF
 generalize (mI s (k:Int)).getD eX=u at *
 have hM:=aA (nY HU.out)
 have hUA:=aA (show (Tryz.prog.info? 25).map (·.size)=some (mC u).size by rw [iW,fT,HU.out])
 have hUL:=aA (show 16=(mC u).size by rw [fT,HU.out])
 cases hb:wB 67108864 u 16 with
 | true =>
  rw [hb] at HC
  clear hb
  go_enter Tryz.func121,Tryz.ntmps121
  go_wp2_with (refine wpList_load_mid rfl 28 (.tmp 2) rfl A 0 rfl (jF s) _ HA.out.all bA rfl hall.out ?_)
  refine HF.out.mono ?_
  rintro e w1 ⟨rfl,hb⟩
  have HB1:=aA (dY HB.out hb)
  have HB2:Hid (Below w.heap.size w (w1.alloc (.cells (mC u) 25))):=aA (Below.alloc HB1.out HB1.out.size _)
  have Ez:=aA (yX (aG w1 (.cells (mC u) 25)))
  clear hb
  go_wp2_with (first | (refine fB rfl 25 (.tmp 6) (.tmp 12) rfl w1.heap.size _ _ (mC u) rfl rfl rfl hUA.out hUL.out (iY _) ?_) | (refine wpList_load_mid rfl 25 (.tmp 6) rfl w1.heap.size 0 rfl (u.map encI) _ Ez.out aP rfl hM.out ?_))
  refine (HC.out _).mono ?_
  rintro e w2 ⟨rfl,hb⟩
  have HB3:=aA (dY HB2.out hb)
  clear hb
  go_wp2_with fail
  go_ret
  exact ⟨rfl,HB3.out⟩
 | false =>
  rw [hb] at HC
  clear hb
  go_enter Tryz.func121,Tryz.ntmps121
  go_wp2_with (refine wpList_load_mid rfl 28 (.tmp 2) rfl A 0 rfl (jF s) _ HA.out.all bA rfl hall.out ?_)
  refine HF.out.mono ?_
  rintro e w1 ⟨rfl,hb⟩
  have HB1:=aA (dY HB.out hb)
  have HB2:Hid (Below w.heap.size w (w1.alloc (.cells (mC u) 25))):=aA (Below.alloc HB1.out HB1.out.size _)
  have Ez:=aA (yX (aG w1 (.cells (mC u) 25)))
  clear hb
  go_wp2_with (first | (refine fB rfl 25 (.tmp 6) (.tmp 12) rfl w1.heap.size _ _ (mC u) rfl rfl rfl hUA.out hUL.out (iY _) ?_) | (refine wpList_load_mid rfl 25 (.tmp 6) rfl w1.heap.size 0 rfl (u.map encI) _ Ez.out aP rfl hM.out ?_))
  refine (HC.out _).mono ?_
  rintro e w2 ⟨rfl,hb⟩
  have HB3:=aA (dY HB2.out hb)
  clear hb
  go_wp2_with fail
  go_ret
  exact ⟨rfl,HB3.out⟩
theorem SK {α:Type} (l:List α) (p:α→Bool):l.any (fun x=>!p x) = !l.all p:=by
 induction l with
 | nil=>rfl
 | cons a t ih=>simp [ih,Bool.not_and]
theorem duty4 (s:fH) (x:fE) (k:Nat) (w:World) (hx:kD x) (hv:gN w x.vo x.vs) :
  Calls Tryz.prog 123 #[.int .i64 (k:Int),.agg (eF x).toArray] w (gH (tN s x k) w):=by
 have HB:Hid (Below w.heap.size w (w.alloc (.cells (eF x).toArray 73))):=aA ((aI _ w).alloc (aB _) _)
 have HX:=aA (mR.new x w hx)
 have HC:=aA (Zf (fun v=>!oZ v) 125 #[] (enters_of Tryz.func125 (by kernel_rfl) rfl) x.vo x.vc x.vs _ (hv.below HB.out) (by have:=hx.UA.1;omega) (fun W v _ hm=>by
  obtain ⟨i,hi⟩:=List.mem_iff_getElem?.1 hm
  obtain ⟨b,off,e,h1,h2⟩:=hv i v hi
  exact Ae v W h2.len))
 have c17:=HX.out.c17
 have HK:Hid (tN s x k=(x.vs.all oZ && decide ((x.vs.length:Int)≤64))):=aA rfl
 have hc:=hx.UA.1
 rw [HK.out]
 rw [SK] at HC
 clear hx hv HK
 generalize x.vs.all oZ=r at HC ⊢
 generalize x.vs.length=m at *
 have m0:(0:Int)≤(m:Int):=by omega
 by_cases hm:(m:Int)≤64
 ·go_enter Tryz.func123,Tryz.ntmps123
  go_wp2_with fail
  refine HC.out.mono ?_
  rintro e w1 ⟨rfl,hb⟩
  have HB1:=aA (dY HB.out hb)
  clear hb
  go_wp2_with fail
  go_ret
  exact ⟨by simp [hm],HB1.out⟩
 ·go_enter Tryz.func123,Tryz.ntmps123
  go_wp2_with fail
  go_ret
  exact ⟨by simp [hm],HB.out⟩
def xC (n z:Int):Bool:=decide (z < 0) || decide (n≤z)
theorem ET (A:Nat) (o:Option Addr) (n c:Nat) (z:Int) (w:World) (h:w.cell? ⟨A,0,none⟩=some (.slice o n c)):Calls Tryz.prog 146 #[.int .i64 z,.pointer (some ⟨A,0,none⟩)] w fun e w'=>e=.returned (.bool (xC (n:Int) z))∧w'=w:=by
 have n0:(0:Int)≤(n:Int):=by omega
 by_cases h2:z < 0
 ·have e:xC (n:Int) z=true:=by unfold xC;rw [aV h2];rfl
  rw [e]
  clear e
  go_enter Tryz.func146,Tryz.ntmps146
  go_wp2_with fail
  go_ret
  exact ⟨rfl,rfl⟩
 ·by_cases h1:(n:Int)≤z
  ·have e:xC (n:Int) z=true:=by unfold xC;rw [aV h1,Bool.or_true]
   rw [e]
   clear e
   go_enter Tryz.func146,Tryz.ntmps146
   go_wp2_with fail
   go_ret
   exact ⟨rfl,rfl⟩
  ·have e:xC (n:Int) z=false:=by unfold xC;rw [aN h1,aN h2];rfl
   rw [e]
   clear e
   go_enter Tryz.func146,Tryz.ntmps146
   go_wp2_with fail
   go_ret
   exact ⟨rfl,rfl⟩
theorem JH (o o2:Option Addr) (n c c2:Nat) (l:List Int) (w:World) (hl:oN w o2 l) (hn:l.length=3):Calls Tryz.prog 128 #[.slice o n c,.slice o2 3 c2] w (gH (!l.any (xC (n:Int))) w):=by
 have HB:Hid (Below w.heap.size w (w.alloc (.cells #[.slice o n c] 70))):=aA ((aI _ w).alloc (aB _) _)
 have h0:(w.alloc (.cells #[.slice o n c] 70)).cell? ⟨w.heap.size,0,none⟩=some (.slice o n c):=by
  rw [aF _ _ _ _ _ _ (aG _ _)]
  rfl
 have HC:=aA (Zi (xC (n:Int)) 146 #[.pointer (some ⟨w.heap.size,0,none⟩)] (enters_of Tryz.func146 (by kernel_rfl) rfl) o2 c2 l _ (hl.below HB.out) (by omega) (fun W z hb _=>(ET w.heap.size o n c z W (dN hb h0)).mono fun _ _ h=>⟨h.1,h.2▸aI _ _⟩))
 rw [hn] at HC
 generalize l.any (xC (n:Int))=r at HC ⊢
 clear hl hn h0
 go_enter Tryz.func128,Tryz.ntmps128
 go_wp2_with fail
 refine HC.out.mono ?_
 rintro e w1 ⟨rfl,hb⟩
 have HB1:=aA (dY HB.out hb)
 clear hb
 go_wp2_with fail
 go_ret
 exact ⟨rfl,HB1.out⟩
theorem Ct (n:Int) (t:iH):(!([t.a,t.b,t.c].any (xC n)))=qH n t:=by
 unfold qH xC
 simp only [List.any_cons,List.any_nil,Bool.or_false]
 congr 1
 cases decide (t.a < 0) <;> cases decide (t.b < 0) <;> cases decide (t.c < 0) <;> cases decide (n≤t.a) <;> cases decide (n≤t.b) <;> cases decide (n≤t.c) <;> rfl
theorem UX (x:fE) (B:Nat) (t:iH) (w:World) (i:mR x B w):Calls Tryz.prog 127 #[.agg (fV t).toArray,.pointer (some ⟨B,0,none⟩)] w (gH (!qH (x.vs.length:Int) t) w):=by
 obtain ⟨V,hV⟩:∃ V,w.alloc (.cells (fV t).toArray 87)=V:=⟨_,rfl⟩
 have HB:Hid (Below w.heap.size w V):=aA (by rw [←hV];exact (aI _ w).alloc (aB _) _)
 have c17:=(i.up HB.out).c17
 have hrow:V.heap[w.heap.size]?=some (.cells (fV t).toArray 87 (0,0)):=by rw [←hV];exact aG _ _
 have d0:V.cell? ⟨w.heap.size,0,none⟩=some (.int .i64 t.a):=by rw [aF _ _ _ _ _ _ hrow];rfl
 have d1:V.cell? ⟨w.heap.size,1,none⟩=some (.int .i64 t.b):=by rw [aF _ _ _ _ _ _ hrow];rfl
 have d2:V.cell? ⟨w.heap.size,2,none⟩=some (.int .i64 t.c):=by rw [aF _ _ _ _ _ _ hrow];rfl
 have HC:=aA (JH x.vo (some ⟨V.heap.size,0,none⟩) x.vs.length x.vc 3 [t.a,t.b,t.c] (V.alloc (.cells #[.int .i64 t.a,.int .i64 t.b,.int .i64 t.c] 3)) (fun j hj=>⟨_,_,rfl,by
  rw [aF _ _ _ _ _ _ (aG _ _),bB]
  match j,hj with
  | 0,_=>rfl
  | 1,_=>rfl
  | 2,_=>rfl⟩) rfl)
 have HB2:Hid (Below w.heap.size w (V.alloc (.cells #[.int .i64 t.a,.int .i64 t.b,.int .i64 t.c] 3))):=aA (HB.out.alloc HB.out.size _)
 rw [Ct] at HC
 have HV:=aA hV
 clear hrow i hV
 generalize qH (x.vs.length:Int) t=r at HC ⊢
 generalize t.a=ta at *
 generalize t.b=tb at *
 generalize t.c=tc at *
 generalize (fV t).toArray=tl at HV ⊢
 go_enter Tryz.func127,Tryz.ntmps127
 go_wp2_with (rw [HV.out])
 refine HC.out.mono ?_
 rintro e w1 ⟨rfl,hb⟩
 have HB1:=aA (dY HB2.out hb)
 clear hb
 go_wp2_with fail
 go_ret
 exact ⟨rfl,HB1.out⟩
theorem duty5 (s:fH) (x:fE) (k:Nat) (w:World) (hx:kD x) (hv:iL w x.tq x.ts) :
  Calls Tryz.prog 126 #[.int .i64 (k:Int),.agg (eF x).toArray] w (gH (tL s x k) w):=by
 have HB:Hid (Below w.heap.size w (w.alloc (.cells (eF x).toArray 73))):=aA ((aI _ w).alloc (aB _) _)
 have HX:=aA (mR.new x w hx)
 have HC:=aA (Zg (fun t=>!qH (x.vs.length:Int) t) 127 #[.pointer (some ⟨w.heap.size,0,none⟩)] (enters_of Tryz.func127 (by kernel_rfl) rfl) x.tq x.tc x.ts _ (hv.below HB.out) (by have:=hx.YV.1;omega) (fun W t hb _ =>
  UX x w.heap.size t W (HX.out.up hb)))
 have c18:=HX.out.c18
 have HK:Hid (tL s x k=(x.ts.all (qH (x.vs.length:Int)) && decide ((x.ts.length:Int)≤64))):=aA rfl
 have hc:=hx.YV.1
 rw [HK.out]
 rw [SK] at HC
 clear hx hv HK
 generalize x.ts.all (qH (x.vs.length:Int))=r at HC ⊢
 generalize x.ts.length=m at *
 have m0:(0:Int)≤(m:Int):=by omega
 by_cases hm:(m:Int)≤64
 ·go_enter Tryz.func126,Tryz.ntmps126
  go_wp2_with fail
  refine HC.out.mono ?_
  rintro e w1 ⟨rfl,hb⟩
  have HB1:=aA (dY HB.out hb)
  clear hb
  go_wp2_with fail
  go_ret
  exact ⟨by simp [hm],HB1.out⟩
 ·go_enter Tryz.func126,Tryz.ntmps126
  go_wp2_with fail
  go_ret
  exact ⟨by simp [hm],HB.out⟩
end Fx
namespace Fx
open Go Go.RowKit
def Mx (x y:fE):Prop:=x.id=y.id∧x.m=y.m∧x.vs=y.vs∧x.ts=y.ts
instance (x y:fE):Decidable (Mx x y):=by unfold Mx;infer_instance
theorem ZF {x:fE} (h:kD x):(Tryz.prog.info? 25).map (·.size)=some (x.m.map encI).length:=by rw [bI,h.len];exact iW
structure TwoO (x y:fE) (w V:World):Prop where
 a:mR x w.heap.size V
 b:mR y (w.heap.size + 1) V
 va:gN V x.vo x.vs
 vb:gN V y.vo y.vs
 ta:iL V x.tq x.ts
 tb:iL V y.tq y.ts
 jI:Below w.heap.size w V
theorem TwoO.new {x y:fE} {w:World} (wx:kD x) (wy:kD y) (a1:gN w x.vo x.vs) (a2:gN w y.vo y.vs) (b1:iL w x.tq x.ts) (b2:iL w y.tq y.ts):TwoO x y w ((w.alloc (.cells (eF x).toArray 73)).alloc (.cells (eF y).toArray 73)):=by
 have hB:Below w.heap.size w ((w.alloc (.cells (eF x).toArray 73)).alloc (.cells (eF y).toArray 73)):=by go_grown
 refine ⟨⟨dW (aG _ _),wx⟩,?_,a1.below hB,a2.below hB,b1.below hB,b2.below hB,hB⟩
 have:=mR.new y (w.alloc (.cells (eF x).toArray 73)) wy
 rw [aR] at this
 exact this
def jC (x:fE):Int×List Int×List (List Int)×List iH:=(x.id,x.m,x.vs,x.ts)
theorem vX {x:fE} (h:kD x):(Tryz.prog.info? 73).map (·.size)=some (eF x).length:=by rw [eZ h];kernel_rfl
theorem wC (x:fE):(eF x).toArray.all (·.oneCell')=true:=by
 rw [Array.all_eq_true_iff_forall_mem]
 intro v hv
 simp only [eF,List.mem_toArray,List.mem_cons,bU,List.mem_map,List.not_mem_nil,or_false] at hv
 rcases hv with rfl | ⟨z,_,rfl⟩ | rfl | rfl <;> rfl
end Fx
end Go.Proofs.YtbbhmhihpdmoiaaGreat
