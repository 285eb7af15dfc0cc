import Derived.Test.YtbbhmhihpdmoiaaGreatJr01
import Derived.Test.YtbbhmhihpdmoiaaGreatJr09
set_option linter.unusedVariables false
set_option linter.unusedSimpArgs false
set_option maxRecDepth 100000
set_option maxHeartbeats 32000000
namespace Go.Proofs.YtbbhmhihpdmoiaaGreat
namespace Fx
open Go.RowKit
set_option maxRecDepth 100000
def BF (Y Y1 Y0:Nat):Prop:=Y / 4294967296=Y1∧Y % 4294967296=Y0
def mu (m:Nat):Nat:=4294967296 - m
theorem QL {m a:Nat} (h:0 < a) (h2:m < 4294967296):mu (m + a) < mu m:=by unfold mu;omega
def Ow (U V1 Y Y1 n m:Nat):Prop:=U=n * Y1 + m∧Fm.Q U V1 Y≤n∧n≤4294967297∧m < 4294967296
theorem pX {U V1 Y Y1 Y0 n m z:Nat} (hy:9223372036854775808≤Y) (hU:U < Y) (h1:V1 < 4294967296) (HY:BF Y Y1 Y0)
  (Hu:Hid (U=n * Y1 + m)) (hz:n * Y0=z) (hn:n≤4294967297) (ht:4294967296≤n∨4294967296 * m + V1 < z) :
  ∃ k,n=k + 1∧Fm.Q U V1 Y≤k∧Hid (U=k * Y1 + (m + Y1))∧(4294967296≤m + Y1→Hid (k=Fm.Q U V1 Y)):=by
 obtain ⟨h2,h3⟩:=HY
 have hu:=Hu.out
 subst hz h2 h3
 obtain ⟨a,b⟩:=Fm.Qg (by omega) hU h1 hu ht
 have c:=Fm.Qh b hu
 refine ⟨n - 1,by omega,a,aA c,fun hr=>aA (Fm.Qf (by omega) c (by omega) hr a)⟩
theorem zG {U V1 Y Y1 Y0 n m z:Nat} (hy:9223372036854775808≤Y) (HY:BF Y Y1 Y0)
  (Hu:Hid (U=n * Y1 + m)) (hz:n * Y0=z) (hQ:Fm.Q U V1 Y≤n) (ht:z≤4294967296 * m + V1):Hid (n=Fm.Q U V1 Y):=by
 obtain ⟨h2,h3⟩:=HY
 have hu:=Hu.out
 subst hz h2 h3
 exact aA (Fm.Qi (by omega) hu ht hQ)
theorem DI {u v y:Nat} (hy:y < 18446744073709551616) (h0:0 < y) :
  IntKind.u64.wrap (IntKind.u64.wrap (IntKind.u64.wrap ((u:Int) * 4294967296) + (v:Int)) - IntKind.u64.wrap ((Fm.Q u v y:Nat) * (y:Int)))=(Fm.R u v y:Int):=by
 rw [aU,aU,aU,aU,Int.emod_add_emod]
 have h:=Fm.MU (Fm.Q u v y) y (u * 4294967296 + v) (Fm.R u v y) (Fm.QR u v y) (Nat.lt_trans (Fm.Lr h0) hy)
 rw [Int.natCast_add,Int.natCast_mul,Int.natCast_mul] at h
 exact h
def Gb (hi lo y s Y U V:Nat):Prop:=(Fm.Q U (V / 4294967296) Y) * 4294967296 + Fm.Q (Fm.R U (V / 4294967296) Y) (V % 4294967296) Y=(hi * 18446744073709551616 + lo) / y ∧
 Fm.R (Fm.R U (V / 4294967296) Y) (V % 4294967296) Y=((hi * 18446744073709551616 + lo) % y) * 2 ^ s
theorem Kv {hi lo y s Y U V V1 V0 Q1 R1 Q2 R2:Nat} (hf:Gb hi lo y s Y U V) (hv:BF V V1 V0) (h1:Hid (Fm.Q U V1 Y=Q1)) (h2:Hid (Fm.R U V1 Y=R1)) (h3:Hid (Fm.Q R1 V0 Y=Q2)) (h4:Hid (Fm.R R1 V0 Y=R2)) :
  Ending.returned (.tuple #[.int .u64 ((Q1:Int) * 4294967296 + (Q2:Int)),.int .u64 ((R2:Int) / 2 ^ s)])=.returned (.tuple #[.int .u64 (((hi * 18446744073709551616 + lo) / y:Nat):Int),.int .u64 (((hi * 18446744073709551616 + lo) % y:Nat):Int)]):=by
 obtain ⟨a,b⟩:=hf
 obtain ⟨c,d⟩:=hv
 rw [c,d,h2.out,h1.out,h3.out] at a
 rw [c,d,h2.out,h4.out] at b
 have e:R2 / 2 ^ s=(hi * 18446744073709551616 + lo) % y:=by rw [b];exact Nat.mul_div_cancel _ (Nat.two_pow_pos s)
 rw [show ((R2:Int) / 2 ^ s)=((R2 / 2 ^ s:Nat):Int) from by simp,e,←a]
 simp
def LzIs (y s:Nat):Prop:=∀ w,Calls Tryz.prog 187 #[.int .u64 (y:Int)] w fun e w'=>e=.returned (.int .i64 (s:Int))∧w=w'
theorem Dh (hi lo y s Y U V:Nat) (w:World) (H:LzIs y s) (hs:s≤63) (hy:y < 18446744073709551616) (hlo:lo < 18446744073709551616) (hh:hi < y) (h0:0 < hi)
  (e1:IntKind.u64.wrap ((y:Int) * 2 ^ s)=(Y:Int)) (wZ:9223372036854775808≤Y) (hY2:Y < 18446744073709551616)
  (e2:bits .or .u64 (IntKind.u64.wrap ((hi:Int) * 2 ^ s)) ((lo:Int) / 2 ^ (64 - s))=(U:Int)) (hU:U < Y)
  (e3:IntKind.u64.wrap ((lo:Int) * 2 ^ s)=(V:Int)) (hV:V < 18446744073709551616) (hf:Gb hi lo y s Y U V) :
  Calls Tryz.prog 185 #[.int .u64 hi,.int .u64 lo,.int .u64 y] w fun e w'=>e=.returned (.tuple #[.int .u64 (((hi * 18446744073709551616 + lo) / y:Nat):Int),.int .u64 (((hi * 18446744073709551616 + lo) % y:Nat):Int)])∧∃ n,w'=w.drewN n:=by
 obtain ⟨Y1,Ka⟩:∃ Y1,Y / 4294967296=Y1:=⟨_,rfl⟩
 obtain ⟨Y0,Ro⟩:∃ Y0,Y % 4294967296=Y0:=⟨_,rfl⟩
 obtain ⟨V1,Zl⟩:∃ V1,V / 4294967296=V1:=⟨_,rfl⟩
 obtain ⟨V0,Rp⟩:∃ V0,V % 4294967296=V0:=⟨_,rfl⟩
 obtain ⟨q,hq⟩:∃ q,U / Y1=q:=⟨_,rfl⟩
 obtain ⟨r,hr⟩:∃ r,U % Y1=r:=⟨_,rfl⟩
 have b1:2147483648≤Y1:=by omega
 have b2:Y1 < 4294967296:=by omega
 have b3:Y0 < 4294967296:=by omega
 have b4:V1 < 4294967296:=by omega
 have b5:V0 < 4294967296:=by omega
 have b6:r < Y1:=by rw [←hr];exact cK _ (by omega)
 have hu:U=q * Y1 + r:=by rw [←hq,←hr,bN];exact (Nat.div_add_mod U Y1).symm
 have b7:q≤4294967297:=by rw [←hq,←Ka];exact Fm.PX wZ hU
 have b8:Fm.Q U V1 Y≤q:=by
  have:=Fm.PV (u1:=V1) wZ hU
  rw [Ka,hq] at this
  omega
 have e4:bits .and .u64 (Y:Int) 4294967295=(Y0:Int):=by rw [Mul64.maskN Y hY2,Ro]
 have e5:bits .and .u64 (V:Int) 4294967295=(V0:Int):=by rw [Mul64.maskN V hV,Rp]
 have e6:(Y:Int) / 4294967296=(Y1:Int):=by omega
 have e7:(V:Int) / 4294967296=(V1:Int):=by omega
 have e8:(U:Int) / (Y1:Int)=(q:Int):=by rw [←hq];exact (Int.natCast_ediv U Y1).symm
 obtain ⟨p,hp⟩:∃ p,q * Y1=p:=⟨_,rfl⟩
 have b9:p≤U:=by omega
 have e9:IntKind.u64.wrap ((q:Int) * (Y1:Int))=(p:Int):=by rw [←hp,Mul64.mulN];exact Mul64.wrapN _ (by omega)
 have e10:(U:Int) - (p:Int)=(r:Int):=by omega
 have Hu:=aA hu;clear hu
 have HY:BF Y Y1 Y0:=⟨Ka,Ro⟩
 clear Ka Ro
 have HV:BF V V1 V0:=⟨Zl,Rp⟩
 clear Zl Rp
 have Hq:=aA hq;clear hq
 have Hr:=aA hr;clear hr
 have Hp:=aA hp;clear hp
 have t1:((y:Int) == 0)=false:=by simp;omega
 have t2:((hi:Int) == 0)=false:=by simp;omega
 have t3:¬ y≤hi:=by omega
 have t4:¬ (Y1:Int)=0:=by omega
 go_enter Tryz.func185,Tryz.ntmps185
 go_wp2_with fail
 refine (H _).mono ?_
 rintro e w' ⟨rfl,rfl⟩
 go_upto_block 0 with fail
 go_cut [15] (fun s15 wx=>s15=.int .u64 (Fm.Q U V1 Y:Nat)∧w=wx)
 case first =>
  go_wp2_with fail
  go_loopg [15,16] (mu r) (fun g s15 s16 wx=>∃ n m:Nat,g=mu m∧s15=.int .u64 n∧s16=.int .u64 m∧wx=w∧Ow U V1 Y Y1 n m)
  case atStart=>exact ⟨q,r,rfl,rfl,rfl,rfl,Hu.out,b8,b7,by omega⟩
  case round =>
   clear b6 b7 b8 e8 e9 e10 b9 Hu Hq Hr Hp e1 e2 e3 e4 e5 e6 e7
   obtain ⟨n,m,rfl,rfl,rfl,rfl,hu,hQ,hn,hm⟩:=hrel
   have Hu:=aA hu;clear hu
   obtain ⟨z,hz⟩:∃ z,n * Y0=z:=⟨_,rfl⟩
   by_cases hbig:4294967296≤n
   ·obtain ⟨k,rfl,hQ',Lv,hstop⟩:=pX wZ hU b4 HY Hu hz hn (.inl hbig)
    have tb:¬ ((k:Int) + 1 < 4294967296):=by omega
    clear hz hQ
    by_cases hst:4294967296≤m + Y1
    ·have Hk:=hstop hst
     have ts:(4294967296:Int)≤(m:Int) + (Y1:Int):=by omega
     have ts':¬ ((m:Int) + (Y1:Int) < 4294967296):=by omega
     clear hstop
     go_wp2_with fail
     go_meet
     case rel=>exact ⟨by rw [Hk.out],rfl⟩
    ·have ts:¬ (4294967296:Int)≤(m:Int) + (Y1:Int):=by omega
     have ts':((m:Int) + (Y1:Int) < 4294967296):=by omega
     clear hstop
     go_wp2_with fail
     go_roundg (mu (m + Y1))
     case measure=>exact QL (by omega) hm
     case rel=>exact ⟨k,m + Y1,rfl,rfl,by go_num,rfl,Lv.out,hQ',by omega,by omega⟩
   ·have hz2:z≤18446744069414584320:=by rw [←hz];exact bH (Nat.mul_le_mul (show n≤4294967296 by omega) (show Y0≤4294967295 by omega)) (by decide)
    have ez:IntKind.u64.wrap ((n:Int) * (Y0:Int))=(z:Int):=by rw [Mul64.mulN,hz];exact Mul64.wrapN _ (by omega)
    have tb:(n:Int) < 4294967296:=by omega
    have tb':¬ (4294967296≤(n:Int)):=by omega
    by_cases ht:4294967296 * m + V1 < z
    ·have D:=pX wZ hU b4 HY Hu hz hn (.inr ht)
     have tt:4294967296 * (m:Int) + (V1:Int) < (z:Int):=by omega
     have tn:1≤n:=by obtain ⟨k,hk,_⟩:=D;omega
     clear hz hQ ht
     by_cases hst:4294967296≤m + Y1
     ·have ts:(4294967296:Int)≤(m:Int) + (Y1:Int):=by omega
      have ts':¬ ((m:Int) + (Y1:Int) < 4294967296):=by omega
      go_wp2_with fail
      go_meet
      case rel =>
       obtain ⟨k,rfl,hQ',Lv,hstop⟩:=D
       exact ⟨by rw [←(hstop hst).out];go_num,rfl⟩
     ·have ts:¬ (4294967296:Int)≤(m:Int) + (Y1:Int):=by omega
      have ts':((m:Int) + (Y1:Int) < 4294967296):=by omega
      go_wp2_with fail
      go_roundg (mu (m + Y1))
      case measure=>exact QL (by omega) hm
      case rel =>
       obtain ⟨k,rfl,hQ',Lv,hstop⟩:=D
       exact ⟨k,m + Y1,rfl,by go_num,by go_num,rfl,Lv.out,hQ',by omega,by omega⟩
    ·have Hk:=zG wZ HY Hu hz hQ (by omega)
     have tt:¬ (4294967296 * (m:Int) + (V1:Int) < (z:Int)):=by omega
     have tt':(z:Int)≤4294967296 * (m:Int) + (V1:Int):=by omega
     clear hz hQ ht
     go_wp2_with fail
     go_meet
     case rel=>exact ⟨by rw [Hk.out],rfl⟩
 case rest =>
  obtain ⟨rfl,rfl⟩:=hcut
  clear b6 b7 b8 e8 e9 e10 b9 Hu Hq Hr Hp
  obtain ⟨Q1,Zn⟩:∃ Q1,Fm.Q U V1 Y=Q1:=⟨_,rfl⟩
  obtain ⟨R1,hR1⟩:∃ R1,Fm.R U V1 Y=R1:=⟨_,rfl⟩
  have c1:R1 < Y:=by rw [←hR1];exact Fm.Lr (by omega)
  have c0:Q1 < 4294967296:=by rw [←Zn];exact Fm.GK hU b4
  have f11:=DI (u:=U) (v:=V1) (y:=Y) hY2 (by omega)
  rw [Zn,hR1] at f11
  rw [Zn]
  obtain ⟨q2,hq2⟩:∃ q2,R1 / Y1=q2:=⟨_,rfl⟩
  obtain ⟨r2,hr2⟩:∃ r2,R1 % Y1=r2:=⟨_,rfl⟩
  have gu:R1=q2 * Y1 + r2:=by rw [←hq2,←hr2,bN];exact (Nat.div_add_mod R1 Y1).symm
  have c6:r2 < Y1:=by rw [←hr2];exact cK _ (by omega)
  have c7:q2≤4294967297:=by rw [←hq2,←HY.1];exact Fm.PX wZ c1
  have c8:Fm.Q R1 V0 Y≤q2:=by
   have:=Fm.PV (u1:=V0) wZ c1
   rw [HY.1,hq2] at this
   omega
  have f8:(R1:Int) / (Y1:Int)=(q2:Int):=by rw [←hq2];exact (Int.natCast_ediv R1 Y1).symm
  obtain ⟨p2,hp2⟩:∃ p2,q2 * Y1=p2:=⟨_,rfl⟩
  have c9:p2≤R1:=by omega
  have f9:IntKind.u64.wrap ((q2:Int) * (Y1:Int))=(p2:Int):=by rw [←hp2,Mul64.mulN];exact Mul64.wrapN _ (by omega)
  have f10:(R1:Int) - (p2:Int)=(r2:Int):=by omega
  obtain ⟨Q2,hQ2⟩:∃ Q2,Fm.Q R1 V0 Y=Q2:=⟨_,rfl⟩
  obtain ⟨R2,hR2⟩:∃ R2,Fm.R R1 V0 Y=R2:=⟨_,rfl⟩
  have c2:Q2 < 4294967296:=by rw [←hQ2];exact Fm.GK c1 b5
  have f12:=DI (u:=R1) (v:=V0) (y:=Y) hY2 (by omega)
  rw [hQ2,hR2] at f12
  have c3:R2 < Y:=by rw [←hR2];exact Fm.Lr (by omega)
  have Gu:=aA gu;clear gu
  have Gq:=aA hq2;clear hq2
  have Gr:=aA hr2;clear hr2
  have Gp:=aA hp2;clear hp2
  have GQ1:=aA Zn;clear Zn
  have GR1:=aA hR1;clear hR1
  have GQ2:=aA hQ2;clear hQ2
  have GR2:=aA hR2;clear hR2
  go_upto_block 2 with fail
  go_cut [18] (fun Im wx=>Im=.int .u64 (Fm.Q R1 V0 Y:Nat)∧w=wx)
  case first =>
   go_wp2_with fail
   go_loopg [16,18] (mu r2) (fun g s16 Im wx=>∃ n m:Nat,g=mu m∧Im=.int .u64 n∧s16=.int .u64 m∧wx=w∧Ow R1 V0 Y Y1 n m)
   case atStart=>exact ⟨q2,r2,rfl,rfl,rfl,rfl,Gu.out,c8,c7,by omega⟩
   case round =>
    clear c6 c7 c8 f8 f9 f10 c9 Gu Gq Gr Gp f11 f12 e1 e2 e3 e4 e5 e6 e7
    obtain ⟨n,m,rfl,rfl,rfl,rfl,hu,hQ,hn,hm⟩:=hrel
    have Hu:=aA hu;clear hu
    obtain ⟨z,hz⟩:∃ z,n * Y0=z:=⟨_,rfl⟩
    by_cases hbig:4294967296≤n
    ·obtain ⟨k,rfl,hQ',Lv,hstop⟩:=pX wZ c1 b5 HY Hu hz hn (.inl hbig)
     have tb:¬ ((k:Int) + 1 < 4294967296):=by omega
     clear hz hQ
     by_cases hst:4294967296≤m + Y1
     ·have Hk:=hstop hst
      have ts:(4294967296:Int)≤(m:Int) + (Y1:Int):=by omega
      have ts':¬ ((m:Int) + (Y1:Int) < 4294967296):=by omega
      clear hstop
      go_wp2_with fail
      go_meet
      case rel=>exact ⟨by rw [Hk.out],rfl⟩
     ·have ts:¬ (4294967296:Int)≤(m:Int) + (Y1:Int):=by omega
      have ts':((m:Int) + (Y1:Int) < 4294967296):=by omega
      clear hstop
      go_wp2_with fail
      go_roundg (mu (m + Y1))
      case measure=>exact QL (by omega) hm
      case rel=>exact ⟨k,m + Y1,rfl,by go_num,rfl,rfl,Lv.out,hQ',by omega,by omega⟩
    ·have hz2:z≤18446744069414584320:=by rw [←hz];exact bH (Nat.mul_le_mul (show n≤4294967296 by omega) (show Y0≤4294967295 by omega)) (by decide)
     have ez:IntKind.u64.wrap ((n:Int) * (Y0:Int))=(z:Int):=by rw [Mul64.mulN,hz];exact Mul64.wrapN _ (by omega)
     have tb:(n:Int) < 4294967296:=by omega
     have tb':¬ (4294967296≤(n:Int)):=by omega
     by_cases ht:4294967296 * m + V0 < z
     ·have D:=pX wZ c1 b5 HY Hu hz hn (.inr ht)
      have tt:4294967296 * (m:Int) + (V0:Int) < (z:Int):=by omega
      have tn:1≤n:=by obtain ⟨k,hk,_⟩:=D;omega
      clear hz hQ ht
      by_cases hst:4294967296≤m + Y1
      ·have ts:(4294967296:Int)≤(m:Int) + (Y1:Int):=by omega
       have ts':¬ ((m:Int) + (Y1:Int) < 4294967296):=by omega
       go_wp2_with fail
       go_meet
       case rel =>
        obtain ⟨k,rfl,hQ',Lv,hstop⟩:=D
        exact ⟨by rw [←(hstop hst).out];go_num,rfl⟩
      ·have ts:¬ (4294967296:Int)≤(m:Int) + (Y1:Int):=by omega
       have ts':((m:Int) + (Y1:Int) < 4294967296):=by omega
       go_wp2_with fail
       go_roundg (mu (m + Y1))
       case measure=>exact QL (by omega) hm
       case rel =>
        obtain ⟨k,rfl,hQ',Lv,hstop⟩:=D
        exact ⟨k,m + Y1,rfl,by go_num,by go_num,rfl,Lv.out,hQ',by omega,by omega⟩
     ·have Hk:=zG wZ HY Hu hz hQ (by omega)
      have tt:¬ (4294967296 * (m:Int) + (V0:Int) < (z:Int)):=by omega
      have tt':(z:Int)≤4294967296 * (m:Int) + (V0:Int):=by omega
      clear hz hQ ht
      go_wp2_with fail
      go_meet
      case rel=>exact ⟨by rw [Hk.out],rfl⟩
  case rest =>
   obtain ⟨rfl,rfl⟩:=hcut
   rw [GQ2.out]
   clear c6 c7 c8 f8 f9 f10 c9 Gu Gq Gr Gp f11
   go_wp2_with fail
   go_ret2
   exact ⟨Kv hf HV GQ1 GR1 GQ2 GR2,0,rfl⟩
theorem VV (lo y:Nat) (w:World) (hy:y < 18446744073709551616) (hlo:lo < 18446744073709551616) (hh:0 < y) :
  Calls Tryz.prog 185 #[.int .u64 0,.int .u64 lo,.int .u64 y] w fun e w'=>e=.returned (.tuple #[.int .u64 ((lo / y:Nat):Int),.int .u64 ((lo % y:Nat):Int)])∧∃ n,w'=w.drewN n:=by
 have t1:((y:Int) == 0)=false:=by simp;omega
 have t3:¬ (y:Int)≤0:=by omega
 have t4:¬ (y:Int)=0:=by omega
 have t5:IntKind.u64.wrap ((lo:Int) / (y:Int))=((lo / y:Nat):Int):=by rw [←Int.natCast_ediv];exact Mul64.wrapN _ (Nat.lt_of_le_of_lt (Nat.div_le_self _ _) hlo)
 go_enter Tryz.func185,Tryz.ntmps185
 go_wp2_with fail
 go_quiet (fail)
 go_wp2_with fail
 go_ret2
 exact ⟨by simp,_,rfl⟩
theorem AL:∀ (f x:Nat),0 < x→x < 2 ^ f→2 ^ (Lib.bitLenAux f x)≤2 * x∧x < 2 ^ (Lib.bitLenAux f x)
 | 0,x,h0,h=>by simp at h;omega
 | f + 1,x,h0,h=>by
  have hx:x≠0:=by omega
  simp only [Lib.bitLenAux,aX hx]
  by_cases h1:x / 2=0
  ·have : x=1:=by omega
   subst this
   cases f <;> simp [Lib.bitLenAux]
  ·have hr:=AL f (x / 2) (by omega) (by rw [bM] at h;omega)
   rw [Nat.add_comm,bM]
   omega
theorem OG (y:Nat) (h0:0 < y) (h:y < 18446744073709551616):9223372036854775808≤y * 2 ^ (64 - Lib.bitLen y)∧y * 2 ^ (64 - Lib.bitLen y) < 18446744073709551616:=by
 have hb:Lib.bitLen y≤64:=Lib.bitLen_le y 64 (by omega) (by omega)
 obtain ⟨a,b⟩:=AL 64 y h0 (by omega)
 have e:(2:Nat) ^ Lib.bitLen y * 2 ^ (64 - Lib.bitLen y)=18446744073709551616:=by rw [←Nat.pow_add,show Lib.bitLen y + (64 - Lib.bitLen y)=64 from by omega]
 have hp:0 < 2 ^ (64 - Lib.bitLen y):=Nat.two_pow_pos _
 have a':=Nat.mul_le_mul_right (2 ^ (64 - Lib.bitLen y)) a
 have b':=Nat.mul_lt_mul_of_pos_right b hp
 rw [show Lib.bitLenAux 64 y=Lib.bitLen y from rfl,e] at a' b'
 rw [Nat.mul_assoc] at a'
 omega
theorem Vv (a:Nat):IntKind.u64.wrap (a:Int)=((a % 18446744073709551616:Nat):Int):=Mul64.wrapM a
theorem NK (a s:Nat):(a:Int) * 2 ^ s=((a * 2 ^ s:Nat):Int):=by simp
theorem Sb (a s:Nat):(a:Int) / 2 ^ s=((a / 2 ^ s:Nat):Int):=by simp
theorem Kw (hi lo y:Nat) (w:World) (HL:∀ w,Calls Tryz.prog 187 #[.int .u64 (y:Int)] w fun e w'=>e=.returned (.int .i64 ((64:Int) - (Lib.bitLen y:Int)))∧w'=w) (hy:y < 18446744073709551616) (hlo:lo < 18446744073709551616) (hh:hi < y) :
  Calls Tryz.prog 185 #[.int .u64 hi,.int .u64 lo,.int .u64 y] w fun e w'=>e=.returned (.tuple #[.int .u64 (((hi * 18446744073709551616 + lo) / y:Nat):Int),.int .u64 (((hi * 18446744073709551616 + lo) % y:Nat):Int)])∧∃ n,w'=w.drewN n:=by
 by_cases h0:hi=0
 ·subst h0
  rw [Nat.zero_mul,bB]
  exact VV lo y w hy hlo hh
 ·have hy0:0 < y:=by omega
  obtain ⟨a,b⟩:=OG y hy0 hy
  have hb:Lib.bitLen y≤64:=Lib.bitLen_le y 64 (by omega) (by omega)
  have hb1:64 - Lib.bitLen y≤63:=by
   have : Lib.bitLen y≠0:=by
    intro h
    rw [h] at b
    omega
   omega
  have H:LzIs y (64 - Lib.bitLen y):=fun w=>(HL w).mono fun e w' ⟨h1,h2⟩=>⟨by rw [h1];exact EP (by omega),h2.symm⟩
  generalize 64 - Lib.bitLen y=s at *
  have D:=Fm.Sg (hi:=hi) (lo:=lo) (s:=s) (by omega) hlo hh a b
  obtain ⟨hU,hQ,hR⟩:=D
  have c1:hi * 2 ^ s < 18446744073709551616:=Nat.lt_of_le_of_lt (Nat.mul_le_mul_right _ (Nat.le_of_lt hh)) b
  have c2:lo / 2 ^ (64 - s) < 2 ^ s:=by
   refine (Nat.div_lt_iff_lt_mul (Nat.two_pow_pos _)).2 ?_
   rw [←Nat.pow_add,show s + (64 - s)=64 from by omega]
   exact hlo
  have c3:lo / 2 ^ (64 - s) < 18446744073709551616:=Nat.lt_of_le_of_lt (Nat.div_le_self _ _) hlo
  refine Dh hi lo y s (y * 2 ^ s) (hi * 2 ^ s + lo / 2 ^ (64 - s)) (lo * 2 ^ s % 18446744073709551616) w H hb1 hy hlo hh (by omega) ?_ a b ?_ hU ?_ (cK _ (by decide)) ⟨hQ,hR⟩
  ·rw [NK];exact Mul64.wrapN _ b
  ·rw [NK,Sb,Mul64.wrapN _ c1,bits_or_u64_nat _ _ c1 c3,nat_join s _ _ (Nat.mul_mod_left _ _) c2]
  ·rw [NK];exact Vv _
end Fx
namespace Wm
def dv (x c:Int):Int:=if 0 < c then x / c else (-x) / (-c)
def rs (x c:Int):Int:=x - dv x c * c
theorem Je {N C:Nat} (hC:0 < C):(-(N:Int)) / (C:Int)=if N % C=0 then -((N / C:Nat):Int) else -((N / C + 1:Nat):Int):=by
 have h:=Nat.div_add_mod N C
 have hr:=cK N hC
 generalize N / C=q at *
 generalize N % C=r at *
 have e:(C:Int) * (q:Int) + (r:Int)=(N:Int):=by rw [←h];simp
 split
 ·rename_i h0
  subst h0
  refine ((Int.ediv_emod_unique (r:=0) (by omega)).2 ⟨?_,by omega,by omega⟩).1
  rw [Int.mul_neg]
  omega
 ·rename_i h0
  refine ((Int.ediv_emod_unique (r:=(C:Int) - (r:Int)) (by omega)).2 ⟨?_,by omega,by omega⟩).1
  rw [Int.mul_neg,Int.natCast_add,Int.mul_add]
  omega
theorem RF {x c:Int} (hc:c≠0) (h:x < 0↔c < 0):dv x c=((x.natAbs / c.natAbs:Nat):Int)∧rs x c=if c < 0 then -((x.natAbs % c.natAbs:Nat):Int) else ((x.natAbs % c.natAbs:Nat):Int):=by
 have e:=Nat.div_add_mod x.natAbs c.natAbs
 have e2:(c.natAbs:Int) * ((x.natAbs / c.natAbs:Nat):Int) + ((x.natAbs % c.natAbs:Nat):Int)=(x.natAbs:Int):=by rw [←Int.natCast_mul,←Int.natCast_add,e]
 have d:dv x c=((x.natAbs / c.natAbs:Nat):Int):=by
  unfold dv
  by_cases c0:c < 0
  ·rw [aX (by omega),Int.natCast_ediv,show -x=(x.natAbs:Int) from by omega,show -c=(c.natAbs:Int) from by omega]
  ·rw [aT (by omega),Int.natCast_ediv,show (x.natAbs:Int)=x from by omega,show (c.natAbs:Int)=c from by omega]
 refine ⟨d,?_⟩
 unfold rs
 rw [d]
 generalize x.natAbs / c.natAbs=q at *
 generalize x.natAbs % c.natAbs=r at *
 by_cases c0:c < 0
 ·rw [aT c0]
  have : (c.natAbs:Int)=-c:=by omega
  rw [this,Int.neg_mul] at e2
  rw [Int.mul_comm]
  omega
 ·rw [aX c0]
  have : (c.natAbs:Int)=c:=by omega
  rw [this] at e2
  rw [Int.mul_comm]
  omega
theorem wI {x c:Int} (hc:c≠0) (h:¬ (x < 0↔c < 0)) :
  (x.natAbs % c.natAbs=0→dv x c=-((x.natAbs / c.natAbs:Nat):Int)∧rs x c=0) ∧
  (x.natAbs % c.natAbs≠0→dv x c=-((x.natAbs / c.natAbs + 1:Nat):Int)∧rs x c=if c < 0 then -((c.natAbs - x.natAbs % c.natAbs:Nat):Int) else ((c.natAbs - x.natAbs % c.natAbs:Nat):Int)):=by
 have hp:0 < c.natAbs:=by omega
 have e:=Nat.div_add_mod x.natAbs c.natAbs
 have hr:=cK x.natAbs hp
 have e2:(c.natAbs:Int) * ((x.natAbs / c.natAbs:Nat):Int) + ((x.natAbs % c.natAbs:Nat):Int)=(x.natAbs:Int):=by rw [←Int.natCast_mul,←Int.natCast_add,e]
 have d:dv x c=(-(x.natAbs:Int)) / (c.natAbs:Int):=by
  unfold dv
  by_cases c0:c < 0
  ·rw [aX (by omega),show -x=-(x.natAbs:Int) from by omega,show -c=(c.natAbs:Int) from by omega]
  ·rw [aT (by omega),show -(x.natAbs:Int)=x from by omega,show (c.natAbs:Int)=c from by omega]
 rw [Je hp] at d
 generalize x.natAbs / c.natAbs=q at *
 generalize x.natAbs % c.natAbs=r at *
 refine ⟨fun h0=>?_,fun h0=>?_⟩
 ·rw [aT h0] at d
  refine ⟨d,?_⟩
  unfold rs
  rw [d,Int.neg_mul,Int.mul_comm]
  by_cases c0:c < 0
  ·rw [show (c.natAbs:Int)=-c from by omega,Int.neg_mul] at e2
   omega
  ·rw [show (c.natAbs:Int)=c from by omega] at e2
   omega
 ·rw [aX h0] at d
  refine ⟨d,?_⟩
  unfold rs
  rw [d,Int.neg_mul,Int.mul_comm,Int.natCast_add,Int.mul_add]
  by_cases c0:c < 0
  ·rw [aT c0]
   rw [show (c.natAbs:Int)=-c from by omega,Int.neg_mul] at e2
   omega
  ·rw [aX c0]
   rw [show (c.natAbs:Int)=c from by omega] at e2
   omega
end Wm
namespace Fx
open Go Go.RowKit Wm
theorem YC {n:Nat} (h:n < 18446744073709551616):IntKind.u64.wrap (n:Int)=(n:Int):=by rw [aU];omega
theorem oM {B:Nat} {a w:World} (n:Nat) (h:Below B a w):Below B a (w.drewN n):=⟨h.os,h.tape,h.output,h.size,h.block⟩
def Lm (q r:Nat) (w:World) (e:Ending) (w':World):Prop:=∃ h l:Nat,e=.returned (.tuple #[.agg #[.int .u64 h,.int .u64 l],.int .u64 r])∧Na q h l∧Below w.heap.size w w'
theorem by_w (h l c q r a b:Nat) (w:World) (hc:¬ (c:Int)=0) (e1:(h:Int) / (c:Int)=(q:Int)) (e2:(h:Int) % (c:Int)=(r:Int)) (e3:IntKind.u64.wrap (q:Int)=(q:Int))
  (hd:∀ w,Calls Tryz.prog 185 #[.int .u64 r,.int .u64 l,.int .u64 c] w fun e w'=>e=.returned (.tuple #[.int .u64 (a:Int),.int .u64 (b:Int)])∧∃ n,w'=w.drewN n) :
  Calls Tryz.prog 175 #[.agg #[.int .u64 h,.int .u64 l],.int .u64 c] w fun e w'=>e=.returned (.tuple #[.agg #[.int .u64 q,.int .u64 a],.int .u64 b])∧Below w.heap.size w w':=by
 have HD:=aA hd
 clear hd
 go_enter Tryz.func175,Tryz.ntmps175
 go_wp2
 go_quiet (fail)
 go_wp2_with fail
 refine (HD.out _).mono ?_
 rintro e w' ⟨rfl,n,rfl⟩
 go_wp2
 refine aO (v:=.tuple #[.agg #[.int .u64 q,.int .u64 a],.int .u64 b]) (by simp [results,Tryz.results175,go_sem, *]) rfl ⟨rfl,?_⟩
 repeat' (first | (with_reducible exact aI _ _) | (with_reducible assumption) | (with_reducible refine Below.drew ?_) | (with_reducible refine oM _ ?_) | (with_reducible refine Below.setCell ?_ ?_ _) | (with_reducible refine dY ?_ (by assumption)) | (with_reducible refine Below.alloc ?_ ?_ _) | go_size)
theorem Sq (x h l c:Nat) (w:World) (a:Na x h l) (hc:0 < c) (hc2:c < 18446744073709551616) :
  Calls Tryz.prog 175 #[.agg #[.int .u64 h,.int .u64 l],.int .u64 c] w (Lm (x / c) (x % c) w):=by
 have D:=Qv a hc hc2
 have hl:=a.2.1
 have hr:=cK h hc
 have hq:h / c < 18446744073709551616:=Nat.lt_of_le_of_lt (Nat.div_le_self _ _) a.2.2
 rw [D.2]
 exact (by_w h l c (h / c) (h % c) _ _ w (by omega) (Int.natCast_ediv h c).symm (Int.natCast_emod h c).symm (YC hq)
  (fun w=>Kw (h % c) l c w (fun w=>Tryz.bits_LeadingZeros64 (c:Int) w (by omega) (by omega)) hc2 hl hr)).mono fun e w' ⟨he,hb⟩=>⟨_,_,he,D.1,hb⟩
def Lp (q:Int) (r s:Int) (w:World) (e:Ending) (w':World):Prop:=∃ h:Int,∃ l:Nat,e=.returned (.tuple #[.agg #[.int .i64 h,.int .u64 l],.int .i64 r,.int .i64 s])∧At q h l∧Below w.heap.size w w'
def jD (x:Int):Value:=.int .u8 x
def iP (l:List Int):ByteArray:=⟨(l.map fun n=>UInt8.ofNat n.toNat).toArray⟩
theorem dU {w:World} {g j:Nat} {cs:Array Value} {t:TypeId} (hg:w.heap[g]?=some (.cells cs t (0,0))):w.frozen? ⟨g,j,none⟩=false:=by
 simp [World.frozen?,hg]
theorem dV {w w':World} {b:Nat} {o:Obj} (hb:Below w.heap.size w w') (h:w.heap[b]?=some o):w'.heap[b]?=some o:=by
 rw [hb.block b (aC.1 h).1]
 exact h
theorem dW {w:World} {o:Obj} {b:Nat} {x:Obj} (h:w.heap[b]?=some x):(w.alloc o).heap[b]?=some x:=by
 rw [heap_alloc_old _ _ (aC.1 h).1]
 exact h
end Fx
namespace Fx
open Go Go.RowKit Go.Shelf
attribute [local go_sem] Oper.semAt_some
def Sl (W:World) (o:Option Addr) (xs:List Int):Prop :=
 ∀ j,j < xs.length→∃ b off,o=some ⟨b,off,none⟩∧W.cell? ⟨b,off + j,none⟩=some (.int .i64 (xs.getD j 0))
theorem Sl.below {w W:World} (h:Below w.heap.size w W) {o:Option Addr} {xs:List Int} (s:Sl w o xs):Sl W o xs:=fun j hj =>
 let ⟨b,off,e,hc⟩:=s j hj
 ⟨b,off,e,dN h hc⟩
def Ep (xs ys:List Int) (oa ob:Option Addr) (ca cb A B:Nat) (X:World):Prop :=
 X.cell? ⟨A,0,none⟩=some (.slice oa xs.length ca)∧X.cell? ⟨B,0,none⟩=some (.slice ob ys.length cb)∧Sl X oa xs∧Sl X ob ys
def zB (xs ys:List Int) (k:Nat):Array Value:=#[.int .i64 (xs.getD k 0),.int .i64 (ys.getD k 0)]
theorem JI (xs ys:List Int) (oa ob:Option Addr) (ca cb A B:Nat) (lx:xs.length≤1000000) (ly:ys.length≤1000000) :
  Hands Fence.wide 4 Tryz.prog 181 #[.pointer (some ⟨A,0,none⟩),.pointer (some ⟨B,0,none⟩)] (zB xs ys) (min xs.length ys.length) (Ep xs ys oa ob ca cb A B):=by
 intro l J Jx W QU hJ2 GU vK hY h0
 obtain ⟨ca',cb',_,_⟩:=GU 0 W h0
 have HY:=aA hY;clear hY
 have TL:=aA QU;clear QU
 have HJ2:=aA hJ2;clear hJ2
 have Gy:=aA GU;clear GU
 have Fp:=aA vK;clear vK
 refine callsIn_of_wp Tryz.func181 rfl trivial ?_ rfl
 simp only [Tryz.ntmps181,aL,bK,List.length_nil,Nat.reduceAdd,Nat.reduceSub,Array.replicate_succ,Array.replicate_zero,List.push_toArray,List.append_toArray,bX,bT]
 gi_wp2
 gi_loopw [10] (fun v10 wr=>∃ k:Nat,v10=.int .i64 (k:Int)∧k≤min xs.length ys.length∧J k wr) (fun v10 _=>min xs.length ys.length - (intOf v10).toNat)
 case atStart=>exact ⟨0,rfl,by omega,h0⟩
 case round =>
  obtain ⟨k,rfl,hkN,hJ⟩:=hrel
  by_cases hk:k < min xs.length ys.length
  ·obtain ⟨_,_,sx,sy⟩:=Gy.out k wr hJ
   obtain ⟨b,off,rfl,hcx⟩:=sx k (by omega)
   obtain ⟨b2,off2,rfl,hcy⟩:=sy k (by omega)
   clear sx sy hcx hcy
   have k1:(k:Int) < (xs.length:Int):=by omega
   have k2:(k:Int) < (ys.length:Int):=by omega
   have hJd:=TL.out k wr wr.drew hJ (fG _ wr 1)
   obtain ⟨fn,tmps,assign,body,hy,hR⟩:=HY.out k wr.drew hk hJd
   dsimp only [zB] at hy
   have HS:∀ X,Ep xs ys (some ⟨b,off,none⟩) (some ⟨b2,off2,none⟩) ca cb A B X→X.cell? ⟨A,0,none⟩=some (.slice (some ⟨b,off,none⟩) xs.length ca)∧X.cell? ⟨B,0,none⟩=some (.slice (some ⟨b2,off2,none⟩) ys.length cb)∧X.cell? ⟨b,off + k,none⟩=some (.int .i64 (xs.getD k 0))∧X.cell? ⟨b2,off2 + k,none⟩=some (.int .i64 (ys.getD k 0)):=fun X ⟨h1,h2,h3,h4⟩ =>
    ⟨h1,h2,by obtain ⟨_,_,e,h⟩:=h3 k (by omega);cases e;exact h,by obtain ⟨_,_,e,h⟩:=h4 k (by omega);cases e;exact h⟩
   obtain ⟨x,hxk⟩:∃ x,xs.getD k 0=x:=⟨_,rfl⟩
   obtain ⟨y,hyk⟩:∃ y,ys.getD k 0=y:=⟨_,rfl⟩
   rw [hxk] at hy HS
   rw [hyk] at hy HS
   have HSH:=aA HS
   have Fj:=aA hxk
   have HKY:=aA hyk
   have n0:(0:Int)≤(k:Int):=by omega
   clear ca' cb' HS hxk hyk
   gi_wp2
   refine fD (S:=fun X=>X.cell? ⟨A,0,none⟩=some (.slice (some ⟨b,off,none⟩) xs.length ca)∧X.cell? ⟨B,0,none⟩=some (.slice (some ⟨b2,off2,none⟩) ys.length cb)∧X.cell? ⟨b,off + k,none⟩=some (.int .i64 x)∧X.cell? ⟨b2,off2 + k,none⟩=some (.int .i64 y)) (by kernel_rfl) (HSH.out _ (Gy.out _ _ hJd)) (fun hHeld=>?_)
   refine dP (fun _=>trivial) (by kernel_rfl) (i:=0) (oi:=_) (v:=?_) rfl (by kernel_rfl) (by kernel_rfl) (by kernel_rfl) (fun _ _ _ h=>h) (by assumption) (Or.inl ⟨by kernel_rfl,?_⟩) ?_
   rotate_left
   ·intro wz hSw;obtain ⟨c1,c2,c3,c4⟩:=hSw;(first | (go_simp;done) | (go_simp;with_reducible rfl))
   (try simp only [Act.put,List.setIfInBounds_toArray,List.set_cons_zero,List.set_cons_succ])
   refine dP (fun _=>trivial) (by kernel_rfl) (i:=1) (oi:=_) (v:=?_) rfl (by kernel_rfl) (by kernel_rfl) (by kernel_rfl) (fun _ _ _ h=>h) (by assumption) (Or.inl ⟨by kernel_rfl,?_⟩) ?_
   rotate_left
   ·intro wz hSw;obtain ⟨c1,c2,c3,c4⟩:=hSw;(first | (go_simp;done) | (go_simp;with_reducible rfl))
   (try simp only [Act.put,List.setIfInBounds_toArray,List.set_cons_zero,List.set_cons_succ])
   refine dP (fun _=>trivial) (by kernel_rfl) (i:=2) (oi:=_) (v:=?_) rfl (by kernel_rfl) (by kernel_rfl) (by kernel_rfl) (fun _ _ _ h=>h) (by assumption) (Or.inl ⟨by kernel_rfl,?_⟩) ?_
   rotate_left
   ·intro wz hSw;obtain ⟨c1,c2,c3,c4⟩:=hSw;(first | (go_simp;done) | (go_simp;with_reducible rfl))
   (try simp only [Act.put,List.setIfInBounds_toArray,List.set_cons_zero,List.set_cons_succ])
   refine dP (fun _=>trivial) (by kernel_rfl) (i:=3) (oi:=_) (v:=?_) rfl (by kernel_rfl) (by kernel_rfl) (by kernel_rfl) (fun _ _ _ h=>h) (by assumption) (Or.inl ⟨by kernel_rfl,?_⟩) ?_
   rotate_left
   ·intro wz hSw;obtain ⟨c1,c2,c3,c4⟩:=hSw;(first | (go_simp;done) | (go_simp;with_reducible rfl))
   (try simp only [Act.put,List.setIfInBounds_toArray,List.set_cons_zero,List.set_cons_succ])
   refine dP (fun _=>trivial) (by kernel_rfl) (i:=4) (oi:=_) (v:=?_) rfl (by kernel_rfl) (by kernel_rfl) (by kernel_rfl) (fun _ _ _ h=>h) (by assumption) (Or.inl ⟨by kernel_rfl,?_⟩) ?_
   rotate_left
   ·intro wz hSw;obtain ⟨c1,c2,c3,c4⟩:=hSw;(first | (go_simp;done) | (go_simp;with_reducible rfl))
   (try simp only [Act.put,List.setIfInBounds_toArray,List.set_cons_zero,List.set_cons_succ])
   refine dP (fun _=>trivial) (by kernel_rfl) (i:=5) (oi:=_) (v:=?_) rfl (by kernel_rfl) (by kernel_rfl) (by kernel_rfl) (fun _ _ _ h=>h) (by assumption) (Or.inl ⟨by kernel_rfl,?_⟩) ?_
   rotate_left
   ·intro wz hSw;obtain ⟨c1,c2,c3,c4⟩:=hSw;(first | (go_simp;done) | (go_simp;with_reducible rfl))
   (try simp only [Act.put,List.setIfInBounds_toArray,List.set_cons_zero,List.set_cons_succ])
   refine dP (fun _=>trivial) (by kernel_rfl) (i:=6) (oi:=_) (v:=?_) rfl (by kernel_rfl) (by kernel_rfl) (by kernel_rfl) (fun _ _ _ h=>h) (by assumption) (Or.inl ⟨by kernel_rfl,?_⟩) ?_
   rotate_left
   ·intro wz hSw;obtain ⟨c1,c2,c3,c4⟩:=hSw;(first | (go_simp;done) | (go_simp;with_reducible rfl))
   (try simp only [Act.put,List.setIfInBounds_toArray,List.set_cons_zero,List.set_cons_succ])
   refine dP (fun _=>trivial) (by kernel_rfl) (i:=7) (oi:=_) (v:=?_) rfl (by kernel_rfl) (by kernel_rfl) (by kernel_rfl) (fun _ _ _ h=>h) (by assumption) (Or.inl ⟨by kernel_rfl,?_⟩) ?_
   rotate_left
   ·intro wz hSw;obtain ⟨c1,c2,c3,c4⟩:=hSw;(first | (go_simp;done) | (go_simp;with_reducible rfl))
   (try simp only [Act.put,List.setIfInBounds_toArray,List.set_cons_zero,List.set_cons_succ])
   refine dP (fun _=>trivial) (by kernel_rfl) (i:=8) (oi:=_) (v:=?_) rfl (by kernel_rfl) (by kernel_rfl) (by kernel_rfl) (fun _ _ _ h=>h) (by assumption) (Or.inl ⟨by kernel_rfl,?_⟩) ?_
   rotate_left
   ·intro wz hSw;obtain ⟨c1,c2,c3,c4⟩:=hSw;(first | (go_simp;done) | (go_simp;with_reducible rfl))
   (try simp only [Act.put,List.setIfInBounds_toArray,List.set_cons_zero,List.set_cons_succ])
   refine dX (fun _=>trivial) (i:=9) (o:=_) (by kernel_rfl) rfl (fun K hK=>?_)
   go_simp
   refine hR.mono ?_
   rintro e W3 (⟨rfl,hJ3⟩ | ⟨rfl,hJx3⟩)
   ·refine hK.out _ _ (HSH.out _ (Gy.out _ _ hJ3)) (fun hHeld=>?_)
    clear hK K
    refine dP (fun _=>trivial) (by kernel_rfl) (i:=10) (oi:=_) (v:=?_) rfl (by kernel_rfl) (by kernel_rfl) (by kernel_rfl) (fun _ _ _ h=>h) (by assumption) (Or.inl ⟨by kernel_rfl,?_⟩) ?_
    rotate_left
    ·intro wz hSw;obtain ⟨c1,c2,c3,c4⟩:=hSw;(first | (go_simp;done) | (go_simp;with_reducible rfl))
    (try simp only [Act.put,List.setIfInBounds_toArray,List.set_cons_zero,List.set_cons_succ])
    refine fC (by kernel_rfl) ?_ _
    clear hHeld
    gi_wp2
    go_roundw
    case rel=>exact ⟨k + 1,by go_num,by omega,hJ3⟩
    case measure=>simp [intOf];omega
   ·refine hK.out _ _ (HSH.out _ (Fp.out _ hJx3)) (fun hHeld=>?_)
    clear hK K
    refine dP (fun _=>trivial) (by kernel_rfl) (i:=10) (oi:=_) (v:=?_) rfl (by kernel_rfl) (by kernel_rfl) (by kernel_rfl) (fun _ _ _ h=>h) (by assumption) (Or.inl ⟨by kernel_rfl,?_⟩) ?_
    rotate_left
    ·intro wz hSw;obtain ⟨c1,c2,c3,c4⟩:=hSw;(first | (go_simp;done) | (go_simp;with_reducible rfl))
    (try simp only [Act.put,List.setIfInBounds_toArray,List.set_cons_zero,List.set_cons_succ])
    refine fC (by kernel_rfl) ?_ _
    clear hHeld
    gi_wp2
    refine aO (results_none rfl _ _ _) rfl ?_
    exact ⟨⟨_,rfl⟩,.inr hJx3⟩
  ·have hkm:k=min xs.length ys.length:=by omega
   have hnlt:¬ (k:Int) < min (xs.length:Int) (ys.length:Int):=by omega
   have HKM:=aA hkm
   clear hkm
   gi_wp2
   go_end0
   exact ⟨⟨_,rfl⟩,.inl (by rw [←HKM.out];exact hJ)⟩
theorem Iy (oa ob:Option Addr) (la lb ca cb:Nat) (w:World):Calls Tryz.prog 171 #[.slice oa la ca,.slice ob lb cb] w fun e w' =>
  e=.returned (.func (.func 181) #[] #[.pointer (some ⟨w.heap.size,0,none⟩),.pointer (some ⟨w.heap.size + 1,0,none⟩)])∧w'=(w.alloc (.cells #[.slice oa la ca] 196)).alloc (.cells #[.slice ob lb cb] 196):=by
 go_enter Tryz.func171,Tryz.ntmps171
 go_wp2
 go_ret
 exact ⟨rfl,rfl⟩
end Fx
end Go.Proofs.YtbbhmhihpdmoiaaGreat
