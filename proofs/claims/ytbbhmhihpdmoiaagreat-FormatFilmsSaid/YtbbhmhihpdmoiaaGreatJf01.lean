import Derived.Test.YtbbhmhihpdmoiaaGreatJf00
set_option linter.unusedVariables false
set_option linter.unusedSimpArgs false
set_option maxRecDepth 100000
set_option maxHeartbeats 32000000
namespace Go.Proofs.YtbbhmhihpdmoiaaGreat
open Go.Proofs.Tryz
namespace Wm
theorem Zo {n h l:Nat}(a:Na n h l):At (pL (n:Int)) (((h:Int)+9223372036854775808)%18446744073709551616-9223372036854775808) l:=by
 unfold Na At pL at *;omega
theorem Jj (z:Int):pL (0-pL z)=pL (-z):=by unfold pL;omega
theorem at_na {z h:Int}{l:Nat}(a:At z h l)(hz:0≤z):Na z.natAbs (uw h) l:=by
 have:=sU h;unfold At Na at *;omega
theorem Gv {x h:Int}{l:Nat}(hx:In x)(a:At (pL (0-x)) h l)(hz:x<0):Na x.natAbs (uw h) l:=by
 have:=sU h;unfold At Na In pL at *;omega
theorem zx {n h l c:Nat}(a:Na n h l)(hc:0<c)(hc2:c<18446744073709551616):Na (n/c) (h/c) ((h%c*18446744073709551616+l)/c)∧n%c=(h%c*18446744073709551616+l)%c:=by
 obtain ⟨a1,a2,a3⟩:=a;have e1:=Nat.div_add_mod h c;have e2:n=c*(h/c*18446744073709551616)+(h%c*18446744073709551616+l):=by
  rw[a1,←Nat.mul_assoc,←Nat.add_assoc,←Nat.add_mul,e1]
 have hr:=cO h hc;refine ⟨⟨?_,?_,?_⟩,?_⟩
 ·rw[e2,Nat.mul_add_div hc]
 ·refine (Nat.div_lt_iff_lt_mul hc).2 ?_
  have : (h%c+1)*18446744073709551616≤c*18446744073709551616:=Nat.mul_le_mul_right _ hr;rw[cF 18446744073709551616];omega
 ·exact Nat.lt_of_le_of_lt (Nat.div_le_self _ _) a3
 ·rw[e2,Nat.mul_add_mod]
theorem Vh {n h l c:Nat}(a:Na n h l)(hc:c<18446744073709551616):Na ((n+c)%340282366920938463463374607431768211456) ((h+(l+c)/18446744073709551616)%18446744073709551616) ((l+c)%18446744073709551616):=by
 unfold Na at *;omega
end Wm
namespace Fx
open Go.RowKit Wm
def YG (n:Nat)(w:World)(e:Ending)(w':World):Prop:=∃h l:Nat,e=.returned (.agg #[.int .u64 h,.int .u64 l])∧Na n h l∧Below w.heap.size w w'
theorem VU (h l:Nat)(H:Int)(w:World)(e1:IntKind.i64.wrap (h:Int)=H) :
  Calls prog 179 #[.agg #[.int .u64 h,.int .u64 l],.bool false] w fun e w'=>e=.returned (.agg #[.int .i64 H,.int .u64 l])∧Below w.heap.size w w':=by
 go_enter func179,ntmps179;go_wp2;refine aO (v:=.agg #[.int .i64 H,.int .u64 l]) (by simp[results,results179,go_sem]) rfl ⟨rfl,by go_grown⟩
theorem VV (h l:Nat)(H:Int)(Z z:Int)(w:World)(e1:IntKind.i64.wrap (h:Int)=H)(ha:At Z H l)(hz:Hid (pL (0-Z)=z)) :
  Calls prog 179 #[.agg #[.int .u64 h,.int .u64 l],.bool true] w (FZ z w):=by
 have ha0:At 0 0 0:=by unfold At;omega
 have A0:=aA ha0;have A1:=aA ha;clear ha0 ha;go_enter func179,ntmps179;go_wp2_with fail;refine (RF 0 Z 0 H 0 l _ A0.out A1.out).mono ?_;rintro e w' ⟨a,b,rfl,hat,hb⟩;obtain ⟨hc,hf⟩:=TV hb;have hat:=aA hat;have hs:=hb.size;simp only[aR] at hs;have hz0:w.heap.size<w'.heap.size:=by omega
 have hz2:w.heap.size+1+1<w'.heap.size:=by omega
 have hz1:w.heap.size+1<w'.heap.size:=by omega
 go_wp2;refine aO (v:=.agg #[.int .i64 a,.int .u64 b]) (by simp[results,results179,go_sem, *]) rfl ⟨_,_,rfl,by rw[←hz.out];exact hat.out,?_⟩
 repeat' (first|(with_reducible exact aJ _ _)|(with_reducible assumption)|(with_reducible refine Below.drew ?_)|(with_reducible refine Below.setCell ?_ ?_ _)|(with_reducible refine dN ?_ (by assumption))|(with_reducible refine Below.alloc ?_ ?_ _)|go_size)
theorem CU (n h l:Nat)(b:Bool)(w:World)(a:Na n h l) :
  Calls prog 179 #[.agg #[.int .u64 h,.int .u64 l],.bool b] w (FZ (pL (if b=true then -(n:Int) else n)) w):=by
 cases b with
 | false=>exact (VU h l _ w (bL _)).mono fun e w' ⟨he,hb⟩=>⟨_,_,he,by simpa using Zo a,hb⟩
 | true=>exact VV h l _ _ _ w (bL _) (Zo a) (aA (by rw[Jj];simp))
theorem LR (h:Int)(l p:Nat)(w:World)(Hb:Hid (decide (h<0)=false))(e1:IntKind.u64.wrap h=(p:Int)) :
  Calls prog 174 #[.agg #[.int .i64 h,.int .u64 l]] w fun e w'=>e=.returned (.agg #[.int .u64 p,.int .u64 l])∧Below w.heap.size w w':=by
 go_enter func174,ntmps174;go_wp2_with fail;refine (fB h l _ _ Hb).mono ?_;rintro e w' ⟨rfl,hb⟩;obtain ⟨hc,hf⟩:=TV hb;have hs:=hb.size;simp only[aR] at hs;have hz0:w.heap.size<w'.heap.size:=by omega
 have hz1:w.heap.size+1<w'.heap.size:=by omega
 go_wp2;refine aO (v:=.agg #[.int .u64 p,.int .u64 l]) (by simp[results,results174,go_sem, *]) rfl ⟨rfl,?_⟩
 repeat' (first|(with_reducible exact aJ _ _)|(with_reducible assumption)|(with_reducible refine Below.drew ?_)|(with_reducible refine Below.setCell ?_ ?_ _)|(with_reducible refine dN ?_ (by assumption))|(with_reducible refine Below.alloc ?_ ?_ _)|go_size)
theorem LS (x h:Int)(l n:Nat)(w:World)(Hb:Hid (decide (h<0)=true))(ha:At x h l)(hn:∀a b,At (pL (0-x)) a b→Na n (uw a) b) :
  Calls prog 174 #[.agg #[.int .i64 h,.int .u64 l]] w (YG n w):=by
 have A0:Hid (At 0 0 0):=aA (by unfold At;omega);have A1:=aA ha;have HN:=aA hn;clear ha hn;go_enter func174,ntmps174;go_wp2_with fail;refine (fB h l _ _ Hb).mono ?_;rintro e w1 ⟨rfl,hb⟩;obtain ⟨hc,hf⟩:=TV hb;have hs:=hb.size;simp only[aR] at hs;have hz0:w.heap.size<w1.heap.size:=by omega
 have hz1:w.heap.size+1<w1.heap.size:=by omega
 go_wp2_with fail;refine (RF 0 x 0 h 0 l _ A0.out A1.out).mono ?_;rintro e w2 ⟨a,b,rfl,hat,hb2⟩;obtain ⟨hc2,hf2⟩:=TV hb2;have hs2:=hb2.size;have Ak:w.heap.size<w2.heap.size:=by omega
 have hy1:w.heap.size+1<w2.heap.size:=by omega
 have k0:w2.cell? ⟨w.heap.size,0,none⟩=some (.int .i64 h):=by simp[go_sem,hc2,hc,hz0,hz1]
 have f0:w2.frozen? ⟨w.heap.size,0,none⟩=false:=by simp[go_sem,hf2,hf,hz0,hz1]
 have k1:w2.cell? ⟨w.heap.size,1,none⟩=some (.int .u64 l):=by simp[go_sem,hc2,hc,hz0,hz1]
 have f1:w2.frozen? ⟨w.heap.size,1,none⟩=false:=by simp[go_sem,hf2,hf,hz0,hz1]
 have k2:w2.cell? ⟨w.heap.size+1,0,none⟩=some (.int .u64 0):=by simp[go_sem,hc2,hc,hz0,hz1]
 have f2:w2.frozen? ⟨w.heap.size+1,0,none⟩=false:=by simp[go_sem,hf2,hf,hz0,hz1]
 have k3:w2.cell? ⟨w.heap.size+1,1,none⟩=some (.int .u64 0):=by simp[go_sem,hc2,hc,hz0,hz1]
 have f3:w2.frozen? ⟨w.heap.size+1,1,none⟩=false:=by simp[go_sem,hf2,hf,hz0,hz1]
 clear hc hf hc2 hf2;have hna:=aA (HN.out _ _ hat);have e1:IntKind.u64.wrap a=(uw a:Int):=by rw[aV,sU]
 generalize uw a=p at *;clear hat HN;go_wp2;refine aO (v:=.agg #[.int .u64 p,.int .u64 b]) (by simp[results,results174,go_sem, *]) rfl ⟨_,_,rfl,hna.out,?_⟩
 repeat' (first|(with_reducible exact aJ _ _)|(with_reducible assumption)|(with_reducible refine Below.drew ?_)|(with_reducible refine Below.setCell ?_ ?_ _)|(with_reducible refine dN ?_ (by assumption))|(with_reducible refine Below.alloc ?_ ?_ _)|go_size)
theorem VQ (x h:Int)(l:Nat)(w:World)(a:At x h l) :
  Calls prog 174 #[.agg #[.int .i64 h,.int .u64 l]] w (YG x.natAbs w):=by
 by_cases hx:x<0
 ·exact LS x h l _ w (aA (by simpa using a.neg.2 hx)) a (fun p q h=>Gv a.inn h hx)
 ·have hh:¬ h<0:=fun h=>hx (a.neg.1 h)
  exact (LR h l (uw h) w (aA (by simpa using hh)) (by rw[aV,sU])).mono fun e w' ⟨he,hb⟩=>⟨_,_,he,at_na a (by omega),hb⟩
theorem za (h l c m k n:Nat)(w:World)(r1:∀w,(callFunc 182 #[.int .u64 l,.int .u64 c,.int .u64 0]).run prog w=.ok (.value (.tuple #[.int .u64 (m:Int),.int .u64 (k:Int)])) w)(e1:IntKind.u64.wrap ((h:Int)+(k:Int))=(n:Int)) :
  Calls prog 178 #[.agg #[.int .u64 h,.int .u64 l],.int .u64 c] w fun e w'=>e=.returned (.agg #[.int .u64 n,.int .u64 m])∧Below w.heap.size w w':=by
 go_enter func178,ntmps178;go_wp2;refine aO (v:=.agg #[.int .u64 n,.int .u64 m]) (by simp[results,results178,go_sem]) rfl ⟨rfl,by go_grown⟩
theorem Ks (x h l c:Nat)(w:World)(a:Na x h l)(hc:c<18446744073709551616) :
  Calls prog 178 #[.agg #[.int .u64 h,.int .u64 l],.int .u64 c] w (YG ((x+c)%340282366920938463463374607431768211456) w) :=
 (za h l c _ _ _ w (CX l c) (by rw[aV];exact (Int.natCast_emod (h+(l+c)/18446744073709551616) 18446744073709551616).symm)).mono fun e w' ⟨he,hb⟩=>⟨_,_,he,Vh a hc,hb⟩
end Fx
namespace Wm
def wV (z:Int):Int:=if In z then z else 0
def IR (z:Int):Int:=if In z then 0 else 20
theorem At.zero:At 0 0 0:=by unfold At;omega
theorem add_at {x y xh yh:Int}{xl yl:Nat}(hx:At x xh xl)(hy:At y yh yl) :
  At (pL (x+y)) (((((uw xh+uw yh+(xl+yl)/18446744073709551616)%18446744073709551616:Nat):Int)+9223372036854775808)%18446744073709551616-9223372036854775808) ((xl+yl)%18446744073709551616):=by
 have a:=sU xh;have b:=sU yh;have a':=YS xh;have b':=YS yh;generalize uw xh=p at *;generalize uw yh=q at *;unfold At pL at *;omega
theorem Qe {x y z:Int}(hx:In x)(hy:In y)(hz:pL (x+y)=z):In (x+y)↔((x<0↔y<0)→(z<0↔x<0)):=by
 subst hz;unfold In pL at *;omega
end Wm
namespace Fx
open Go.RowKit Wm
def RetE (z:Int)(w:World)(e:Ending)(w':World):Prop:=∃h:Int,∃l:Nat,e=.returned (.tuple #[.agg #[.int .i64 h,.int .u64 l],.int .i64 (IR z)])∧At (wV z) h l∧Below w.heap.size w w'
theorem ZB {z z' h:Int}{l:Nat}{w w':World}(hi:In z)(hz:pL z=z')(ha:At z' h l)(hb:Below w.heap.size w w'):RetE z w (.returned (.tuple #[.agg #[.int .i64 h,.int .u64 l],.int .i64 0])) w' :=
 ⟨h,l,by rw[IR,aZ hi],by rw[wV,aZ hi];rw[←AK hi,hz];exact ha,hb⟩
theorem Kk {z:Int}{w w':World}(hi:¬ In z)(hb:Below w.heap.size w w'):RetE z w (.returned (.tuple #[.agg #[.int .i64 0,.int .u64 0],.int .i64 20])) w' :=
 ⟨0,0,by rw[IR,bF hi];rfl,by rw[wV,bF hi];exact At.zero,hb⟩
def Words (f:Nat)(x y c s d:Nat):Prop:=∀w,(callFunc f #[.int .u64 x,.int .u64 y,.int .u64 c]).run prog w=.ok (.value (.tuple #[.int .u64 (s:Int),.int .u64 (d:Int)])) w
def mW (f:Nat)(x y s d:Nat):Prop:=∀w,(callFunc f #[.int .u64 x,.int .u64 y,.int .u64 0]).run prog w=.ok (.value (.tuple #[.int .u64 (s:Int),.int .u64 (d:Int)])) w
end Fx
namespace Wm
theorem Lk (a b:Int)(ha0:-9223372036854775808≤a)(ha1:a≤9223372036854775807)(hb0:-9223372036854775808≤b)(hb1:b≤9223372036854775807) :
  Na (a.natAbs*b.natAbs) (a.natAbs*b.natAbs/18446744073709551616) (a.natAbs*b.natAbs%18446744073709551616)∧a.natAbs*b.natAbs≤85070591730234615865843651857942052864:=by
 have h:a.natAbs*b.natAbs≤9223372036854775808*9223372036854775808:=Nat.mul_le_mul (by omega) (by omega);generalize a.natAbs*b.natAbs=n at *;unfold Na;omega
theorem QX (a b:Int):(if (decide (a<0) != decide (b<0))=true then -((a.natAbs*b.natAbs:Nat):Int) else ((a.natAbs*b.natAbs:Nat):Int))=a*b:=by
 have ea:a<0→a=-(a.natAbs:Int):=by omega
 have ea':¬ a<0→a=(a.natAbs:Int):=by omega
 have eb:b<0→b=-(b.natAbs:Int):=by omega
 have eb':¬ b<0→b=(b.natAbs:Int):=by omega
 rw[Int.natCast_mul];by_cases h1:a<0 <;> by_cases h2:b<0 <;> simp only[h1,h2]
 ·rw[bF (by decide)];conv=>rhs;rw[ea h1,eb h2,Int.neg_mul_neg]
 ·rw[aZ (by decide)];conv=>rhs;rw[ea h1,eb' h2,Int.neg_mul]
 ·rw[aZ (by decide)];conv=>rhs;rw[ea' h1,eb h2,Int.mul_neg]
 ·rw[bF (by decide)];conv=>rhs;rw[ea' h1,eb' h2]
theorem aAb (a b:Int)(ha0:-9223372036854775808≤a)(ha1:a≤9223372036854775807)(hb0:-9223372036854775808≤b)(hb1:b≤9223372036854775807):In (a*b):=by
 have h:=(Lk a b ha0 ha1 hb0 hb1).2;rw[←QX a b];generalize a.natAbs*b.natAbs=n at *;unfold In
 split <;> omega
end Wm
namespace Fx
open Go.RowKit Wm
theorem of_w (a H:Int)(p:Nat)(w:World)(e1:a/9223372036854775808=H)(e2:IntKind.u64.wrap a=(p:Int)) :
  Calls prog 180 #[.int .i64 a] w fun e w'=>e=.returned (.agg #[.int .i64 H,.int .u64 p])∧Below w.heap.size w w':=by
 go_enter func180,ntmps180;go_wp2;refine aO (v:=.agg #[.int .i64 H,.int .u64 p]) (by simp[results,results180,go_sem, *]) rfl ⟨rfl,?_⟩
 repeat' (first|(with_reducible exact aJ _ _)|(with_reducible assumption)|(with_reducible refine Below.drew ?_)|(with_reducible refine Below.setCell ?_ ?_ _)|(with_reducible refine dN ?_ (by assumption))|(with_reducible refine Below.alloc ?_ ?_ _)|go_size)
theorem mul_w (a b:Int)(p q h l:Nat)(s:Bool)(z:Int)(w:World)(ra:∀w,Calls prog 176 #[.int .i64 a] w fun e w'=>e=.returned (.int .u64 (p:Int))∧w=w')(rb:∀w,Calls prog 176 #[.int .i64 b] w fun e w'=>e=.returned (.int .u64 (q:Int))∧w=w')
  (rm:∀w,Calls prog 183 #[.int .u64 p,.int .u64 q] w fun e w'=>e=.returned (.tuple #[.int .u64 (h:Int),.int .u64 (l:Int)])∧w'=w)
  (hs:Hid ((!(decide (a<0) == decide (b<0)))=s)) (rs:∀w,Calls prog 179 #[.agg #[.int .u64 h,.int .u64 l],.bool s] w (FZ z w)) :
  Calls prog 173 #[.int .i64 a,.int .i64 b] w (FZ z w):=by
 have RA:=aA ra;have RB:=aA rb;have RM:=aA rm;have RS:=aA rs;clear ra rb rm rs;go_enter func173,ntmps173;go_wp2_with fail;refine (RA.out _).mono ?_;rintro e w' ⟨rfl,rfl⟩;go_wp2_with fail;refine (RB.out _).mono ?_;rintro e w' ⟨rfl,rfl⟩;go_wp2_with fail;refine (RM.out _).mono ?_;rintro e w' ⟨rfl,rfl⟩;go_wp2_with fail;rw[hs.out];refine (RS.out _).mono ?_;rintro e w1 ⟨H,n,rfl,hat,hb⟩;have hat:=aA hat;obtain ⟨hc,hf⟩:=TV hb;have hs:=hb.size;simp only[aR] at hs;have hz0:w.heap.size<w1.heap.size:=by omega
 go_wp2;refine aO (v:=.agg #[.int .i64 H,.int .u64 n]) (by simp[results,results173,go_sem, *]) rfl ⟨_,_,rfl,hat.out,?_⟩
 repeat' (first|(with_reducible exact aJ _ _)|(with_reducible assumption)|(with_reducible refine Below.drew ?_)|(with_reducible refine Below.setCell ?_ ?_ _)|(with_reducible refine dN ?_ (by assumption))|(with_reducible refine Below.alloc ?_ ?_ _)|go_size)
theorem BD (a b:Int)(w:World)(ha0:-9223372036854775808≤a)(ha1:a≤9223372036854775807)(hb0:-9223372036854775808≤b)(hb1:b≤9223372036854775807) :
  Calls prog 173 #[.int .i64 a,.int .i64 b] w (FZ (a*b) w):=by
 have M:=(Lk a b ha0 ha1 hb0 hb1).1;refine mul_w a b a.natAbs b.natAbs _ _ _ _ w (fun w=>CQ a w ha0 ha1) (fun w=>CQ b w hb0 hb1) (fun w=>Tryz.bits_Mul64 _ _ (by omega) (by omega) w) (aA rfl) (fun w=>?_);have S:=CU _ _ _ (decide (a<0) != decide (b<0)) w M;rw[QX,AK (aAb a b ha0 ha1 hb0 hb1)] at S;exact S
end Fx
namespace Fx
open Go Go.RowKit Wm
def In64 (x:Int):Prop:=-9223372036854775808≤x∧x<9223372036854775808
instance (z:Int):Decidable (In64 z):=by unfold In64;infer_instance
theorem int_w (h H n:Int)(l:Nat)(r s:Int)(w:World)(e0:IntKind.i64.wrap (l:Int)=n)(e1:n/9223372036854775808=H)(e2:IntKind.u64.wrap n=(l:Int))
  (hc:h=H∧r=n∧s=0∨(h == H)=false∧r=0∧s=20) :
  Calls prog 163 #[.agg #[.int .i64 h,.int .u64 l]] w fun e w'=>e=.returned (.tuple #[.int .i64 r,.int .i64 s])∧Below w.heap.size w w':=by
 have RO:=aA (fun w=>of_w n H l w e1 e2);clear e1 e2
 rcases hc with ⟨rfl,rfl,rfl⟩|⟨c,rfl,rfl⟩
 all_goals
  go_enter func163,ntmps163;go_wp2
  go_region_held3 (fun w'=>w'.cell? ⟨w.heap.size,0,none⟩=some (.int .i64 h)∧w'.cell? ⟨w.heap.size,1,none⟩=some (.int .u64 l)∧Below w.heap.size w w')
   (first|(go_split_ands;refine ⟨dE (by assumption) (by assumption),dE (by assumption) (by assumption),dN (by assumption) (by assumption)⟩)|(refine ⟨?_,?_,?_⟩ <;> first|(with_reducible assumption)|(go_grown;done)|(simp[go_sem, *];done)))
   ((go_at_call 180;(with_reducible refine (RO.out _).mono ?_);rintro e w' ⟨rfl,kT⟩))
  go_split_ands
  go_wp2;go_ret2;exact ⟨rfl,by repeat' (first|(with_reducible exact aJ _ _)|(with_reducible assumption)|(with_reducible refine Below.drew ?_)|(with_reducible refine Below.setCell ?_ ?_ _)|(with_reducible refine dN ?_ (by assumption))|(with_reducible refine Below.alloc ?_ ?_ _)|go_size)⟩
theorem Vq (x a:Int)(k:Nat)(w:World)(hx:At x a k) :
  Calls prog 163 #[.agg #[.int .i64 a,.int .u64 k]] w fun e w'=>e=.returned (.tuple #[.int .i64 (if In64 x then x else 0),.int .i64 (if In64 x then 0 else 20)])∧Below w.heap.size w w':=by
 have hk:=hx.2.1;have e0:IntKind.i64.wrap (k:Int)=((k:Int)+9223372036854775808)%18446744073709551616-9223372036854775808:=bL _;obtain ⟨n,hn⟩:∃n,((k:Int)+9223372036854775808)%18446744073709551616-9223372036854775808=n:=⟨_,rfl⟩;rw[hn] at e0;refine int_w a _ n k _ _ w e0 rfl (by rw[aV];omega) ?_;by_cases h:In64 x
 ·left
  rw[aZ h,aZ h];unfold In64 at h;unfold At at hx;omega
 ·right
  rw[bF h,bF h];refine ⟨?_,rfl,rfl⟩;unfold In64 at h;unfold At at hx;simp;omega
end Fx
namespace Fm
theorem kn_le {u u1 y1 y0 q r:Nat}(hu:u=q*y1+r)(h:q*y0≤4294967296*r+u1):q*(y1*4294967296+y0)≤u*4294967296+u1:=by
 have e1:q*(y1*4294967296+y0)=q*y1*4294967296+q*y0:=by rw[Nat.mul_add,Nat.mul_assoc]
 rw[e1,hu];omega
theorem kn_gt {u u1 y1 y0 q r:Nat}(hu:u=q*y1+r)(h:4294967296*r+u1<q*y0):u*4294967296+u1<q*(y1*4294967296+y0):=by
 have e1:q*(y1*4294967296+y0)=q*y1*4294967296+q*y0:=by rw[Nat.mul_add,Nat.mul_assoc]
 rw[e1,hu];omega
theorem LI (y:Nat):y/4294967296*4294967296+y%4294967296=y:=by omega
def Q (u u1 y:Nat):Nat:=(u*4294967296+u1)/y
def R (u u1 y:Nat):Nat:=(u*4294967296+u1)%y
theorem Q_le {u u1 y q r:Nat}(hy:0<y)(hu:u=q*(y/4294967296)+r)(h:q*(y%4294967296)≤4294967296*r+u1):q≤Q u u1 y:=by
 have:=kn_le hu h;rw[LI] at this;exact (Nat.le_div_iff_mul_le hy).2 this
theorem Q_lt {u u1 y q r:Nat}(hy:0<y)(hu:u=q*(y/4294967296)+r)(h:4294967296*r+u1<q*(y%4294967296)):Q u u1 y<q:=by
 have:=kn_gt hu h;rw[LI] at this;exact (Nat.div_lt_iff_lt_mul hy).2 this
theorem OE {u u1 y:Nat}(hu:u<y)(h1:u1<4294967296):Q u u1 y<4294967296:=by
 refine (Nat.div_lt_iff_lt_mul (by omega)).2 ?_;omega
theorem Yc {u u1 y:Nat}(hy:0<y):R u u1 y<y:=cO _ hy
theorem QR (u u1 y:Nat):u*4294967296+u1=Q u u1 y*y+R u u1 y:=by
 have:=Nat.div_add_mod (u*4294967296+u1) y;unfold Q R;rw[cF y] at this;exact this.symm
theorem ZF {u u1 y:Nat}(hy:9223372036854775808≤y)(hu:u<y):Q u u1 y≤u/(y/4294967296)∨4294967296≤u1:=by
 by_cases h1:4294967296≤u1
 ·exact .inr h1
 ·left
  refine Nat.le_of_lt_succ ((Nat.div_lt_iff_lt_mul (by omega)).2 ?_);have hp:0<y/4294967296:=by omega
  have a:=Nat.lt_mul_div_succ u hp;have e:(u/(y/4294967296)).succ*y=(y/4294967296)*(u/(y/4294967296)+1)*4294967296+(u/(y/4294967296)+1)*(y%4294967296):=by
   have:=LI y;rw[Nat.succ_eq_add_one];generalize u/(y/4294967296)+1=c;rw[cF (y/4294967296) c,Nat.mul_assoc,←Nat.mul_add,this]
  rw[e];generalize (y/4294967296)*(u/(y/4294967296)+1)=k at *;omega
theorem ZG {u y:Nat}(hy:9223372036854775808≤y)(hu:u<y):u/(y/4294967296)≤4294967297:=by
 refine Nat.le_of_lt_succ ((Nat.div_lt_iff_lt_mul (by omega)).2 ?_);omega
theorem yc {u u1 y q r:Nat}(hy:0<y)(hu:u<y)(h1:u1<4294967296)(he:u=q*(y/4294967296)+r)(ht:4294967296≤q∨4294967296*r+u1<q*(y%4294967296)):Q u u1 y≤q-1∧1≤q:=by
 have hs:=OE hu h1
 rcases ht with h|h
 ·omega
 ·have:=Q_lt hy he h
  omega
theorem yg {u y1 q r:Nat}(h1:1≤q)(he:u=q*y1+r):u=(q-1)*y1+(r+y1):=by
 obtain ⟨k,rfl⟩:∃k,q=k+1:=⟨q-1,by omega⟩;rw[he,Nat.add_mul];simp;omega
theorem xw {u u1 y q r:Nat}(hy:0<y)(he:u=q*(y/4294967296)+r)(hq:q≤4294967296)(hr:4294967296≤r)(hQ:Q u u1 y≤q):q=Q u u1 y:=by
 refine Nat.le_antisymm (Q_le hy he ?_) hQ;have h0:y%4294967296≤4294967295:=by omega
 have a:=Nat.mul_le_mul hq h0;omega
theorem yj {u u1 y q r:Nat}(hy:0<y)(he:u=q*(y/4294967296)+r)(h:q*(y%4294967296)≤4294967296*r+u1)(hQ:Q u u1 y≤q):q=Q u u1 y :=
 Nat.le_antisymm (Q_le hy he h) hQ
theorem WB (q y c:Nat)(r:Nat)(h:c=q*y+r)(hr:r<18446744073709551616):((c:Int)%18446744073709551616-((q*y:Nat):Int)%18446744073709551616)%18446744073709551616=(r:Int):=by
 generalize q*y=k at *;subst h;rw[←Int.sub_emod,Int.natCast_add,Int.add_comm,Int.add_sub_cancel];exact Int.emod_eq_of_lt (by omega) (by omega)
theorem XR {N y s a b:Nat}(hy:0<y)(h:N*2^s=a*(y*2^s)+b)(hb:b<y*2^s):a=N/y∧b=(N%y)*2^s:=by
 have hp:0<2^s:=Nat.two_pow_pos s;have e1:N*2^s/(y*2^s)=N/y:=Nat.mul_div_mul_right N y hp;have e2:N*2^s%(y*2^s)=(N%y)*2^s:=Nat.mul_mod_mul_right (2^s) N y;have hys:0<y*2^s:=Nat.mul_pos hy hp;have e3:N*2^s/(y*2^s)=a:=by
  rw[h,Nat.add_comm,cF a,Nat.add_mul_div_left _ _ hys,Nat.div_eq_of_lt hb];omega
 have e4:N*2^s%(y*2^s)=b:=by
  rw[h,Nat.add_comm,cF a,Nat.add_mul_mod_self_left,Nat.mod_eq_of_lt hb]
 exact ⟨by omega,by omega⟩
theorem parts {hi lo s:Nat}(hs:s≤64) :
  (hi*18446744073709551616+lo)*2^s=(hi*2^s+lo/2^(64-s))*18446744073709551616+lo*2^s%18446744073709551616:=by
 have hp:(18446744073709551616:Nat)=2^(64-s)*2^s:=by rw[←Nat.pow_add];rw[show 64-s+s=64 from by omega]
 have e1:lo*2^s/18446744073709551616=lo/2^(64-s):=by rw[hp];exact Nat.mul_div_mul_right _ _ (Nat.two_pow_pos s)
 have e2:=Nat.div_add_mod (lo*2^s) 18446744073709551616;rw[e1] at e2;rw[Nat.add_mul,Nat.add_mul,Nat.mul_right_comm];omega
theorem join2 {U a c r d v1 v0:Nat}(q1:U+v1=a+r)(q2:r*4294967296+v0=c+d):U*4294967296+(4294967296*v1+v0)=a*4294967296+c+d:=by
 rw[cF U,cF a,←Nat.add_assoc,←Nat.mul_add,q1,Nat.mul_add,Nat.add_assoc,Nat.add_assoc,cF _ r,q2]
theorem join {u v a c r d v1 v0:Nat}(q1:u*4294967296+v1=a+r)(q2:r*4294967296+v0=c+d)(hv:4294967296*v1+v0=v):u*18446744073709551616+v=a*4294967296+c+d:=by
 have e:u*18446744073709551616=u*4294967296*4294967296:=by rw[Nat.mul_assoc]
 rw[e,←hv];exact join2 q1 q2
theorem div128 {hi lo y s:Nat}(hs:s≤64)(KJ:lo<18446744073709551616)(Nl:hi<y)(hn:9223372036854775808≤y*2^s)(nS:y*2^s<18446744073709551616) :
  let Y:=y*2^s
  let u:=hi*2^s+lo/2^(64-s)
  let v:=lo*2^s%18446744073709551616
  u<Y∧(Q u (v/4294967296) Y)*4294967296+Q (R u (v/4294967296) Y) (v%4294967296) Y=(hi*18446744073709551616+lo)/y ∧
   R (R u (v/4294967296) Y) (v%4294967296) Y=((hi*18446744073709551616+lo)%y)*2^s:=by
 intro Y u v;have hY:0<Y:=by omega
 have hy:0<y:=by omega
 have hu:u<Y:=by
  have a:lo/2^(64-s)<2^s:=by
   refine (Nat.div_lt_iff_lt_mul (Nat.two_pow_pos _)).2 ?_;rw[←Nat.pow_add,show s+(64-s)=64 from by omega];exact KJ
  have b:(hi+1)*2^s≤y*2^s:=Nat.mul_le_mul_right _ Nl;rw[Nat.add_mul] at b;show hi*2^s+lo/2^(64-s)<y*2^s;omega
 have p:=parts (hi:=hi) (lo:=lo) hs;have q1:=QR u (v/4294967296) Y;have q2:=QR (R u (v/4294967296) Y) (v%4294967296) Y;have r2:=Yc (u:=R u (v/4294967296) Y) (u1:=v%4294967296) hY;refine ⟨hu,?_⟩;refine XR hy ?_ r2;show (hi*18446744073709551616+lo)*2^s=(Q u (v/4294967296) Y*4294967296+Q (R u (v/4294967296) Y) (v%4294967296) Y)*Y+_;rw[p];show u*18446744073709551616+v=_;generalize R u (v/4294967296) Y=r at *;generalize Q r (v%4294967296) Y=qq at *;generalize Q u (v/4294967296) Y=q at *;have e:(q*4294967296+qq)*Y=q*Y*4294967296+qq*Y:=by rw[Nat.add_mul,Nat.mul_right_comm]
 rw[e];have hv:=Nat.div_add_mod v 4294967296
 clear_value u v Y
 exact join q1 q2 hv
end Fm
namespace Fx
open Go.RowKit
set_option maxRecDepth 100000
def GA (Y Y1 Y0:Nat):Prop:=Y/4294967296=Y1∧Y%4294967296=Y0
def mu (m:Nat):Nat:=4294967296-m
theorem Ab {m a:Nat}(h:0<a)(h2:m<4294967296):mu (m+a)<mu m:=by unfold mu;omega
def mq (U V1 Y Y1 n m:Nat):Prop:=U=n*Y1+m∧Fm.Q U V1 Y≤n∧n≤4294967297∧m<4294967296
theorem sK {U V1 Y Y1 Y0 n m z:Nat}(hy:9223372036854775808≤Y)(hU:U<Y)(h1:V1<4294967296)(HY:GA Y Y1 Y0)
  (Hu:Hid (U=n*Y1+m)) (hz:n*Y0=z) (hn:n≤4294967297) (ht:4294967296≤n∨4294967296*m+V1<z) :
  ∃k,n=k+1∧Fm.Q U V1 Y≤k∧Hid (U=k*Y1+(m+Y1))∧(4294967296≤m+Y1→Hid (k=Fm.Q U V1 Y)):=by
 obtain ⟨h2,h3⟩:=HY;have hu:=Hu.out;subst hz h2 h3;obtain ⟨a,b⟩:=Fm.yc (by omega) hU h1 hu ht;have c:=Fm.yg b hu;refine ⟨n-1,by omega,a,aA c,fun hr=>aA (Fm.xw (by omega) c (by omega) hr a)⟩
theorem ED {U V1 Y Y1 Y0 n m z:Nat}(hy:9223372036854775808≤Y)(HY:GA Y Y1 Y0)
  (Hu:Hid (U=n*Y1+m)) (hz:n*Y0=z) (hQ:Fm.Q U V1 Y≤n) (ht:z≤4294967296*m+V1):Hid (n=Fm.Q U V1 Y):=by
 obtain ⟨h2,h3⟩:=HY;have hu:=Hu.out;subst hz h2 h3;exact aA (Fm.yj (by omega) hu ht hQ)
theorem JX {u v y:Nat}(hy:y<18446744073709551616)(h0:0<y) :
  IntKind.u64.wrap (IntKind.u64.wrap (IntKind.u64.wrap ((u:Int)*4294967296)+(v:Int))-IntKind.u64.wrap ((Fm.Q u v y:Nat)*(y:Int)))=(Fm.R u v y:Int):=by
 rw[aV,aV,aV,aV,Int.emod_add_emod];have h:=Fm.WB (Fm.Q u v y) y (u*4294967296+v) (Fm.R u v y) (Fm.QR u v y) (Nat.lt_trans (Fm.Yc h0) hy);rw[Int.natCast_add,Int.natCast_mul,Int.natCast_mul] at h;exact h
def Rt (hi lo y s Y U V:Nat):Prop:=(Fm.Q U (V/4294967296) Y)*4294967296+Fm.Q (Fm.R U (V/4294967296) Y) (V%4294967296) Y=(hi*18446744073709551616+lo)/y ∧
 Fm.R (Fm.R U (V/4294967296) Y) (V%4294967296) Y=((hi*18446744073709551616+lo)%y)*2^s
theorem Xj {hi lo y s Y U V V1 V0 Q1 R1 Q2 R2:Nat}(hf:Rt hi lo y s Y U V)(hv:GA V V1 V0)(h1:Hid (Fm.Q U V1 Y=Q1))(h2:Hid (Fm.R U V1 Y=R1))(h3:Hid (Fm.Q R1 V0 Y=Q2))(h4:Hid (Fm.R R1 V0 Y=R2)) :
  Ending.returned (.tuple #[.int .u64 ((Q1:Int)*4294967296+(Q2:Int)),.int .u64 ((R2:Int)/2^s)])=.returned (.tuple #[.int .u64 (((hi*18446744073709551616+lo)/y:Nat):Int),.int .u64 (((hi*18446744073709551616+lo)%y:Nat):Int)]):=by
 obtain ⟨a,b⟩:=hf;obtain ⟨c,d⟩:=hv;rw[c,d,h2.out,h1.out,h3.out] at a;rw[c,d,h2.out,h4.out] at b;have e:R2/2^s=(hi*18446744073709551616+lo)%y:=by rw[b];exact Nat.mul_div_cancel _ (Nat.two_pow_pos s)
 rw[show ((R2:Int)/2^s)=((R2/2^s:Nat):Int) from by simp,e,←a];simp
def LzIs (y s:Nat):Prop:=∀w,Calls prog 187 #[.int .u64 (y:Int)] w fun e w'=>e=.returned (.int .i64 (s:Int))∧w=w'
theorem Pl (hi lo y s Y U V:Nat)(w:World)(H:LzIs y s)(hs:s≤63)(hy:y<18446744073709551616)(KJ:lo<18446744073709551616)(hh:hi<y)(h0:0<hi)
  (e1:IntKind.u64.wrap ((y:Int)*2^s)=(Y:Int)) (sZ:9223372036854775808≤Y) (lM:Y<18446744073709551616)
  (e2:bits .or .u64 (IntKind.u64.wrap ((hi:Int)*2^s)) ((lo:Int)/2^(64-s))=(U:Int)) (hU:U<Y)
  (e3:IntKind.u64.wrap ((lo:Int)*2^s)=(V:Int)) (hV:V<18446744073709551616) (hf:Rt hi lo y s Y U V) :
  Calls prog 185 #[.int .u64 hi,.int .u64 lo,.int .u64 y] w fun e w'=>e=.returned (.tuple #[.int .u64 (((hi*18446744073709551616+lo)/y:Nat):Int),.int .u64 (((hi*18446744073709551616+lo)%y:Nat):Int)])∧∃n,w'=w.drewN n:=by
 obtain ⟨Y1,Ww⟩:∃Y1,Y/4294967296=Y1:=⟨_,rfl⟩;obtain ⟨Y0,hY0'⟩:∃Y0,Y%4294967296=Y0:=⟨_,rfl⟩;obtain ⟨V1,hV1'⟩:∃V1,V/4294967296=V1:=⟨_,rfl⟩;obtain ⟨V0,hV0'⟩:∃V0,V%4294967296=V0:=⟨_,rfl⟩;obtain ⟨q,hq⟩:∃q,U/Y1=q:=⟨_,rfl⟩;obtain ⟨r,hr⟩:∃r,U%Y1=r:=⟨_,rfl⟩;have b1:2147483648≤Y1:=by omega
 have b2:Y1<4294967296:=by omega
 have b3:Y0<4294967296:=by omega
 have b4:V1<4294967296:=by omega
 have b5:V0<4294967296:=by omega
 have b6:r<Y1:=by rw[←hr];exact cO _ (by omega)
 have hu:U=q*Y1+r:=by rw[←hq,←hr,cF];exact (Nat.div_add_mod U Y1).symm
 have b7:q≤4294967297:=by rw[←hq,←Ww];exact Fm.ZG sZ hU
 have b8:Fm.Q U V1 Y≤q:=by
  have:=Fm.ZF (u1:=V1) sZ hU;rw[Ww,hq] at this;omega
 have e4:bits .and .u64 (Y:Int) 4294967295=(Y0:Int):=by rw[Mul64.maskN Y lM,hY0']
 have e5:bits .and .u64 (V:Int) 4294967295=(V0:Int):=by rw[Mul64.maskN V hV,hV0']
 have e6:(Y:Int)/4294967296=(Y1:Int):=by omega
 have e7:(V:Int)/4294967296=(V1:Int):=by omega
 have e8:(U:Int)/(Y1:Int)=(q:Int):=by rw[←hq];exact (Int.natCast_ediv U Y1).symm
 obtain ⟨p,hp⟩:∃p,q*Y1=p:=⟨_,rfl⟩;have b9:p≤U:=by omega
 have e9:IntKind.u64.wrap ((q:Int)*(Y1:Int))=(p:Int):=by rw[←hp,Mul64.mulN];exact Mul64.wrapN _ (by omega)
 have e10:(U:Int)-(p:Int)=(r:Int):=by omega
 have Hu:=aA hu;clear hu;have HY:GA Y Y1 Y0:=⟨Ww,hY0'⟩;clear Ww hY0';have HV:GA V V1 V0:=⟨hV1',hV0'⟩;clear hV1' hV0';have t1:((y:Int) == 0)=false:=by simp;omega
 have t2:((hi:Int) == 0)=false:=by simp;omega
 have t3:¬ y≤hi:=by omega
 have t4:¬ (Y1:Int)=0:=by omega
 go_enter func185,ntmps185;go_wp2_with fail;refine (H _).mono ?_;rintro e w' ⟨rfl,rfl⟩
 go_upto_block 0 with fail
 go_cut [15] (fun s15 wx=>s15=.int .u64 (Fm.Q U V1 Y:Nat)∧w=wx)
 case first =>
  go_wp2_with fail;go_loopg[15,16] (mu r) (fun g s15 s16 wx=>∃n m:Nat,g=mu m∧s15=.int .u64 n∧s16=.int .u64 m∧wx=w∧mq U V1 Y Y1 n m)
  case atStart=>exact ⟨q,r,rfl,rfl,rfl,rfl,Hu.out,b8,b7,by omega⟩
  case round =>
   clear b6 b7 b8 e8 e9 e10 b9 Hu e1 e2 e3 e4 e5 e6 e7;obtain ⟨n,m,rfl,rfl,rfl,rfl,hu,hQ,hn,hm⟩:=hrel;have Hu:=aA hu;clear hu;obtain ⟨z,hz⟩:∃z,n*Y0=z:=⟨_,rfl⟩;by_cases TA:4294967296≤n
   ·obtain ⟨k,rfl,hQ',Yg,nN⟩:=sK sZ hU b4 HY Hu hz hn (.inl TA)
    have tb:¬ ((k:Int)+1<4294967296):=by omega
    clear hz hQ;by_cases hst:4294967296≤m+Y1
    ·have Hk:=nN hst
     have ts:(4294967296:Int)≤(m:Int)+(Y1:Int):=by omega
     have ts':¬ ((m:Int)+(Y1:Int)<4294967296):=by omega
     clear nN;go_wp2_with fail
     go_meet
     case rel=>exact ⟨by rw[Hk.out],rfl⟩
    ·have ts:¬ (4294967296:Int)≤(m:Int)+(Y1:Int):=by omega
     have ts':((m:Int)+(Y1:Int)<4294967296):=by omega
     clear nN;go_wp2_with fail;go_roundg (mu (m+Y1))
     case measure=>exact Ab (by omega) hm
     case rel=>exact ⟨k,m+Y1,rfl,rfl,by go_num,rfl,Yg.out,hQ',by omega,by omega⟩
   ·have hz2:z≤18446744069414584320:=by rw[←hz];exact bH (Nat.mul_le_mul (show n≤4294967296 by omega) (show Y0≤4294967295 by omega)) (by decide)
    have ez:IntKind.u64.wrap ((n:Int)*(Y0:Int))=(z:Int):=by rw[Mul64.mulN,hz];exact Mul64.wrapN _ (by omega)
    have tb:(n:Int)<4294967296:=by omega
    have tb':¬ (4294967296≤(n:Int)):=by omega
    by_cases ht:4294967296*m+V1<z
    ·have D:=sK sZ hU b4 HY Hu hz hn (.inr ht)
     have tt:4294967296*(m:Int)+(V1:Int)<(z:Int):=by omega
     have tn:1≤n:=by obtain ⟨k,hk,_⟩:=D;omega
     clear hz hQ ht;by_cases hst:4294967296≤m+Y1
     ·have ts:(4294967296:Int)≤(m:Int)+(Y1:Int):=by omega
      have ts':¬ ((m:Int)+(Y1:Int)<4294967296):=by omega
      go_wp2_with fail
      go_meet
      case rel =>
       obtain ⟨k,rfl,hQ',Yg,nN⟩:=D;exact ⟨by rw[←(nN hst).out];go_num,rfl⟩
     ·have ts:¬ (4294967296:Int)≤(m:Int)+(Y1:Int):=by omega
      have ts':((m:Int)+(Y1:Int)<4294967296):=by omega
      go_wp2_with fail;go_roundg (mu (m+Y1))
      case measure=>exact Ab (by omega) hm
      case rel =>
       obtain ⟨k,rfl,hQ',Yg,nN⟩:=D;exact ⟨k,m+Y1,rfl,by go_num,by go_num,rfl,Yg.out,hQ',by omega,by omega⟩
    ·have Hk:=ED sZ HY Hu hz hQ (by omega)
     have tt:¬ (4294967296*(m:Int)+(V1:Int)<(z:Int)):=by omega
     have tt':(z:Int)≤4294967296*(m:Int)+(V1:Int):=by omega
     clear hz hQ ht;go_wp2_with fail
     go_meet
     case rel=>exact ⟨by rw[Hk.out],rfl⟩
 case rest =>
  obtain ⟨rfl,rfl⟩:=hcut;clear b6 b7 b8 e8 e9 e10 b9 Hu;obtain ⟨Q1,hQ1⟩:∃Q1,Fm.Q U V1 Y=Q1:=⟨_,rfl⟩;obtain ⟨R1,hR1⟩:∃R1,Fm.R U V1 Y=R1:=⟨_,rfl⟩;have c1:R1<Y:=by rw[←hR1];exact Fm.Yc (by omega)
  have c0:Q1<4294967296:=by rw[←hQ1];exact Fm.OE hU b4
  have f11:=JX (u:=U) (v:=V1) (y:=Y) lM (by omega);rw[hQ1,hR1] at f11;rw[hQ1];obtain ⟨q2,dn⟩:∃q2,R1/Y1=q2:=⟨_,rfl⟩;obtain ⟨r2,hr2⟩:∃r2,R1%Y1=r2:=⟨_,rfl⟩;have gu:R1=q2*Y1+r2:=by rw[←dn,←hr2,cF];exact (Nat.div_add_mod R1 Y1).symm
  have c6:r2<Y1:=by rw[←hr2];exact cO _ (by omega)
  have c7:q2≤4294967297:=by rw[←dn,←HY.1];exact Fm.ZG sZ c1
  have c8:Fm.Q R1 V0 Y≤q2:=by
   have:=Fm.ZF (u1:=V0) sZ c1;rw[HY.1,dn] at this;omega
  have f8:(R1:Int)/(Y1:Int)=(q2:Int):=by rw[←dn];exact (Int.natCast_ediv R1 Y1).symm
  obtain ⟨p2,rH⟩:∃p2,q2*Y1=p2:=⟨_,rfl⟩;have c9:p2≤R1:=by omega
  have f9:IntKind.u64.wrap ((q2:Int)*(Y1:Int))=(p2:Int):=by rw[←rH,Mul64.mulN];exact Mul64.wrapN _ (by omega)
  have f10:(R1:Int)-(p2:Int)=(r2:Int):=by omega
  obtain ⟨Q2,hQ2⟩:∃Q2,Fm.Q R1 V0 Y=Q2:=⟨_,rfl⟩;obtain ⟨R2,UO⟩:∃R2,Fm.R R1 V0 Y=R2:=⟨_,rfl⟩;have c2:Q2<4294967296:=by rw[←hQ2];exact Fm.OE c1 b5
  have f12:=JX (u:=R1) (v:=V0) (y:=Y) lM (by omega);rw[hQ2,UO] at f12;have c3:R2<Y:=by rw[←UO];exact Fm.Yc (by omega)
  have Gu:=aA gu;clear gu;have GQ1:=aA hQ1;clear hQ1;have GR1:=aA hR1;clear hR1;have GQ2:=aA hQ2;clear hQ2;have GR2:=aA UO;clear UO
  go_upto_block 2 with fail
  go_cut [18] (fun Ic wx=>Ic=.int .u64 (Fm.Q R1 V0 Y:Nat)∧w=wx)
  case first =>
   go_wp2_with fail;go_loopg[16,18] (mu r2) (fun g s16 Ic wx=>∃n m:Nat,g=mu m∧Ic=.int .u64 n∧s16=.int .u64 m∧wx=w∧mq R1 V0 Y Y1 n m)
   case atStart=>exact ⟨q2,r2,rfl,rfl,rfl,rfl,Gu.out,c8,c7,by omega⟩
   case round =>
    clear c6 c7 c8 f8 f9 f10 c9 Gu f11 f12 e1 e2 e3 e4 e5 e6 e7;obtain ⟨n,m,rfl,rfl,rfl,rfl,hu,hQ,hn,hm⟩:=hrel;have Hu:=aA hu;clear hu;obtain ⟨z,hz⟩:∃z,n*Y0=z:=⟨_,rfl⟩;by_cases TA:4294967296≤n
    ·obtain ⟨k,rfl,hQ',Yg,nN⟩:=sK sZ c1 b5 HY Hu hz hn (.inl TA)
     have tb:¬ ((k:Int)+1<4294967296):=by omega
     clear hz hQ;by_cases hst:4294967296≤m+Y1
     ·have Hk:=nN hst
      have ts:(4294967296:Int)≤(m:Int)+(Y1:Int):=by omega
      have ts':¬ ((m:Int)+(Y1:Int)<4294967296):=by omega
      clear nN;go_wp2_with fail
      go_meet
      case rel=>exact ⟨by rw[Hk.out],rfl⟩
     ·have ts:¬ (4294967296:Int)≤(m:Int)+(Y1:Int):=by omega
      have ts':((m:Int)+(Y1:Int)<4294967296):=by omega
      clear nN;go_wp2_with fail;go_roundg (mu (m+Y1))
      case measure=>exact Ab (by omega) hm
      case rel=>exact ⟨k,m+Y1,rfl,by go_num,rfl,rfl,Yg.out,hQ',by omega,by omega⟩
    ·have hz2:z≤18446744069414584320:=by rw[←hz];exact bH (Nat.mul_le_mul (show n≤4294967296 by omega) (show Y0≤4294967295 by omega)) (by decide)
     have ez:IntKind.u64.wrap ((n:Int)*(Y0:Int))=(z:Int):=by rw[Mul64.mulN,hz];exact Mul64.wrapN _ (by omega)
     have tb:(n:Int)<4294967296:=by omega
     have tb':¬ (4294967296≤(n:Int)):=by omega
     by_cases ht:4294967296*m+V0<z
     ·have D:=sK sZ c1 b5 HY Hu hz hn (.inr ht)
      have tt:4294967296*(m:Int)+(V0:Int)<(z:Int):=by omega
      have tn:1≤n:=by obtain ⟨k,hk,_⟩:=D;omega
      clear hz hQ ht;by_cases hst:4294967296≤m+Y1
      ·have ts:(4294967296:Int)≤(m:Int)+(Y1:Int):=by omega
       have ts':¬ ((m:Int)+(Y1:Int)<4294967296):=by omega
       go_wp2_with fail
       go_meet
       case rel =>
        obtain ⟨k,rfl,hQ',Yg,nN⟩:=D;exact ⟨by rw[←(nN hst).out];go_num,rfl⟩
      ·have ts:¬ (4294967296:Int)≤(m:Int)+(Y1:Int):=by omega
       have ts':((m:Int)+(Y1:Int)<4294967296):=by omega
       go_wp2_with fail;go_roundg (mu (m+Y1))
       case measure=>exact Ab (by omega) hm
       case rel =>
        obtain ⟨k,rfl,hQ',Yg,nN⟩:=D;exact ⟨k,m+Y1,rfl,by go_num,by go_num,rfl,Yg.out,hQ',by omega,by omega⟩
     ·have Hk:=ED sZ HY Hu hz hQ (by omega)
      have tt:¬ (4294967296*(m:Int)+(V0:Int)<(z:Int)):=by omega
      have tt':(z:Int)≤4294967296*(m:Int)+(V0:Int):=by omega
      clear hz hQ ht;go_wp2_with fail
      go_meet
      case rel=>exact ⟨by rw[Hk.out],rfl⟩
  case rest =>
   obtain ⟨rfl,rfl⟩:=hcut;rw[GQ2.out];clear c6 c7 c8 f8 f9 f10 c9 Gu f11;go_wp2_with fail;go_ret2;exact ⟨Xj hf HV GQ1 GR1 GQ2 GR2,0,rfl⟩
theorem Gj (lo y:Nat)(w:World)(hy:y<18446744073709551616)(KJ:lo<18446744073709551616)(hh:0<y) :
  Calls prog 185 #[.int .u64 0,.int .u64 lo,.int .u64 y] w fun e w'=>e=.returned (.tuple #[.int .u64 ((lo/y:Nat):Int),.int .u64 ((lo%y:Nat):Int)])∧∃n,w'=w.drewN n:=by
 have t1:((y:Int) == 0)=false:=by simp;omega
 have t3:¬ (y:Int)≤0:=by omega
 have t4:¬ (y:Int)=0:=by omega
 have t5:IntKind.u64.wrap ((lo:Int)/(y:Int))=((lo/y:Nat):Int):=by rw[←Int.natCast_ediv];exact Mul64.wrapN _ (Nat.lt_of_le_of_lt (Nat.div_le_self _ _) KJ)
 go_enter func185,ntmps185;go_wp2_with fail
 go_quiet (fail)
 go_wp2_with fail;go_ret2;exact ⟨by simp,_,rfl⟩
theorem FP:∀ (f x:Nat),0<x→x<2^f→2^(Lib.bitLenAux f x)≤2*x∧x<2^(Lib.bitLenAux f x)
 | 0,x,h0,h=>by simp at h;omega
 | f+1,x,h0,h=>by
  have hx:x≠0:=by omega
  simp only[Lib.bitLenAux,bF hx];by_cases h1:x/2=0
  ·have : x=1:=by omega
   subst this
   cases f <;> simp[Lib.bitLenAux]
  ·have hr:=FP f (x/2) (by omega) (by rw[bY] at h;omega)
   rw[Nat.add_comm,bY];omega
theorem XW (y:Nat)(h0:0<y)(h:y<18446744073709551616):9223372036854775808≤y*2^(64-Lib.bitLen y)∧y*2^(64-Lib.bitLen y)<18446744073709551616:=by
 have hb:Lib.bitLen y≤64:=Lib.bitLen_le y 64 (by omega) (by omega);obtain ⟨a,b⟩:=FP 64 y h0 (by omega);have e:(2:Nat)^Lib.bitLen y*2^(64-Lib.bitLen y)=18446744073709551616:=by rw[←Nat.pow_add,show Lib.bitLen y+(64-Lib.bitLen y)=64 from by omega]
 have hp:0<2^(64-Lib.bitLen y):=Nat.two_pow_pos _;have a':=Nat.mul_le_mul_right (2^(64-Lib.bitLen y)) a;have b':=Nat.mul_lt_mul_of_pos_right b hp;rw[show Lib.bitLenAux 64 y=Lib.bitLen y from rfl,e] at a' b';rw[Nat.mul_assoc] at a';omega
theorem wrapm (a:Nat):IntKind.u64.wrap (a:Int)=((a%18446744073709551616:Nat):Int):=Mul64.wrapM a
theorem WW (a s:Nat):(a:Int)*2^s=((a*2^s:Nat):Int):=by simp
theorem divpow (a s:Nat):(a:Int)/2^s=((a/2^s:Nat):Int):=by simp
theorem Xk (hi lo y:Nat)(w:World)(HL:∀w,Calls prog 187 #[.int .u64 (y:Int)] w fun e w'=>e=.returned (.int .i64 ((64:Int)-(Lib.bitLen y:Int)))∧w'=w)(hy:y<18446744073709551616)(KJ:lo<18446744073709551616)(hh:hi<y) :
  Calls prog 185 #[.int .u64 hi,.int .u64 lo,.int .u64 y] w fun e w'=>e=.returned (.tuple #[.int .u64 (((hi*18446744073709551616+lo)/y:Nat):Int),.int .u64 (((hi*18446744073709551616+lo)%y:Nat):Int)])∧∃n,w'=w.drewN n:=by
 by_cases h0:hi=0
 ·subst h0
  rw[Nat.zero_mul,bE];exact Gj lo y w hy KJ hh
 ·have Ak:0<y:=by omega
  obtain ⟨a,b⟩:=XW y Ak hy;have hb:Lib.bitLen y≤64:=Lib.bitLen_le y 64 (by omega) (by omega);have hb1:64-Lib.bitLen y≤63:=by
   have : Lib.bitLen y≠0:=by
    intro h;rw[h] at b;omega
   omega
  have H:LzIs y (64-Lib.bitLen y):=fun w=>(HL w).mono fun e w' ⟨h1,h2⟩=>⟨by rw[h1];exact LZ (by omega),h2.symm⟩
  generalize 64-Lib.bitLen y=s at *;have D:=Fm.div128 (hi:=hi) (lo:=lo) (s:=s) (by omega) KJ hh a b;obtain ⟨hU,hQ,hR⟩:=D;have c1:hi*2^s<18446744073709551616:=Nat.lt_of_le_of_lt (Nat.mul_le_mul_right _ (Nat.le_of_lt hh)) b;have c2:lo/2^(64-s)<2^s:=by
   refine (Nat.div_lt_iff_lt_mul (Nat.two_pow_pos _)).2 ?_;rw[←Nat.pow_add,show s+(64-s)=64 from by omega];exact KJ
  have c3:lo/2^(64-s)<18446744073709551616:=Nat.lt_of_le_of_lt (Nat.div_le_self _ _) KJ;refine Pl hi lo y s (y*2^s) (hi*2^s+lo/2^(64-s)) (lo*2^s%18446744073709551616) w H hb1 hy KJ hh (by omega) ?_ a b ?_ hU ?_ (cO _ (by decide)) ⟨hQ,hR⟩
  ·rw[WW];exact Mul64.wrapN _ b
  ·rw[WW,divpow,Mul64.wrapN _ c1,bits_or_u64_nat _ _ c1 c3,nat_join s _ _ (Nat.mul_mod_left _ _) c2]
  ·rw[WW];exact wrapm _
end Fx
namespace Wm
def dv (x c:Int):Int:=if 0<c then x/c else (-x)/(-c)
def rs (x c:Int):Int:=x-dv x c*c
theorem Vf {N C:Nat}(hC:0<C):(-(N:Int))/(C:Int)=if N%C=0 then -((N/C:Nat):Int) else -((N/C+1:Nat):Int):=by
 have h:=Nat.div_add_mod N C;have hr:=cO N hC;generalize N/C=q at *;generalize N%C=r at *;have e:(C:Int)*(q:Int)+(r:Int)=(N:Int):=by rw[←h];simp
 split
 ·rename_i h0
  subst h0;refine ((Int.ediv_emod_unique (r:=0) (by omega)).2 ⟨?_,by omega,by omega⟩).1;rw[Int.mul_neg];omega
 ·rename_i h0
  refine ((Int.ediv_emod_unique (r:=(C:Int)-(r:Int)) (by omega)).2 ⟨?_,by omega,by omega⟩).1;rw[Int.mul_neg,Int.natCast_add,Int.mul_add];omega
theorem Bh {x c:Int}(hc:c≠0)(h:x<0↔c<0):dv x c=((x.natAbs/c.natAbs:Nat):Int)∧rs x c=if c<0 then -((x.natAbs%c.natAbs:Nat):Int) else ((x.natAbs%c.natAbs:Nat):Int):=by
 have e:=Nat.div_add_mod x.natAbs c.natAbs;have e2:(c.natAbs:Int)*((x.natAbs/c.natAbs:Nat):Int)+((x.natAbs%c.natAbs:Nat):Int)=(x.natAbs:Int):=by rw[←Int.natCast_mul,←Int.natCast_add,e]
 have d:dv x c=((x.natAbs/c.natAbs:Nat):Int):=by
  unfold dv;by_cases c0:c<0
  ·rw[bF (by omega),Int.natCast_ediv,show -x=(x.natAbs:Int) from by omega,show -c=(c.natAbs:Int) from by omega]
  ·rw[aZ (by omega),Int.natCast_ediv,show (x.natAbs:Int)=x from by omega,show (c.natAbs:Int)=c from by omega]
 refine ⟨d,?_⟩;unfold rs;rw[d];generalize x.natAbs/c.natAbs=q at *;generalize x.natAbs%c.natAbs=r at *;by_cases c0:c<0
 ·rw[aZ c0]
  have : (c.natAbs:Int)=-c:=by omega
  rw[this,Int.neg_mul] at e2;rw[Int.mul_comm];omega
 ·rw[bF c0]
  have : (c.natAbs:Int)=c:=by omega
  rw[this] at e2;rw[Int.mul_comm];omega
theorem yO {x c:Int}(hc:c≠0)(h:¬ (x<0↔c<0)) :
  (x.natAbs%c.natAbs=0→dv x c=-((x.natAbs/c.natAbs:Nat):Int)∧rs x c=0) ∧
  (x.natAbs%c.natAbs≠0→dv x c=-((x.natAbs/c.natAbs+1:Nat):Int)∧rs x c=if c<0 then -((c.natAbs-x.natAbs%c.natAbs:Nat):Int) else ((c.natAbs-x.natAbs%c.natAbs:Nat):Int)):=by
 have hp:0<c.natAbs:=by omega
 have e:=Nat.div_add_mod x.natAbs c.natAbs;have hr:=cO x.natAbs hp;have e2:(c.natAbs:Int)*((x.natAbs/c.natAbs:Nat):Int)+((x.natAbs%c.natAbs:Nat):Int)=(x.natAbs:Int):=by rw[←Int.natCast_mul,←Int.natCast_add,e]
 have d:dv x c=(-(x.natAbs:Int))/(c.natAbs:Int):=by
  unfold dv;by_cases c0:c<0
  ·rw[bF (by omega),show -x=-(x.natAbs:Int) from by omega,show -c=(c.natAbs:Int) from by omega]
  ·rw[aZ (by omega),show -(x.natAbs:Int)=x from by omega,show (c.natAbs:Int)=c from by omega]
 rw[Vf hp] at d;generalize x.natAbs/c.natAbs=q at *;generalize x.natAbs%c.natAbs=r at *;refine ⟨fun h0=>?_,fun h0=>?_⟩
 ·rw[aZ h0] at d
  refine ⟨d,?_⟩;unfold rs;rw[d,Int.neg_mul,Int.mul_comm];by_cases c0:c<0
  ·rw[show (c.natAbs:Int)=-c from by omega,Int.neg_mul] at e2
   omega
  ·rw[show (c.natAbs:Int)=c from by omega] at e2
   omega
 ·rw[bF h0] at d
  refine ⟨d,?_⟩;unfold rs;rw[d,Int.neg_mul,Int.mul_comm,Int.natCast_add,Int.mul_add];by_cases c0:c<0
  ·rw[aZ c0]
   rw[show (c.natAbs:Int)=-c from by omega,Int.neg_mul] at e2;omega
  ·rw[bF c0]
   rw[show (c.natAbs:Int)=c from by omega] at e2;omega
end Wm
namespace Fx
open Go Go.RowKit Wm
theorem Jf {n:Nat}(h:n<18446744073709551616):IntKind.u64.wrap (n:Int)=(n:Int):=by rw[aV];omega
theorem nV {B:Nat}{a w:World}(n:Nat)(h:Below B a w):Below B a (w.drewN n):=⟨h.os,h.tape,h.output,h.size,h.block⟩
def Ya (q r:Nat)(w:World)(e:Ending)(w':World):Prop:=∃h l:Nat,e=.returned (.tuple #[.agg #[.int .u64 h,.int .u64 l],.int .u64 r])∧Na q h l∧Below w.heap.size w w'
theorem by_w (h l c q r a b:Nat)(w:World)(hc:¬ (c:Int)=0)(e1:(h:Int)/(c:Int)=(q:Int))(e2:(h:Int)%(c:Int)=(r:Int))(e3:IntKind.u64.wrap (q:Int)=(q:Int))
  (hd:∀w,Calls prog 185 #[.int .u64 r,.int .u64 l,.int .u64 c] w fun e w'=>e=.returned (.tuple #[.int .u64 (a:Int),.int .u64 (b:Int)])∧∃n,w'=w.drewN n) :
  Calls prog 175 #[.agg #[.int .u64 h,.int .u64 l],.int .u64 c] w fun e w'=>e=.returned (.tuple #[.agg #[.int .u64 q,.int .u64 a],.int .u64 b])∧Below w.heap.size w w':=by
 have HD:=aA hd;clear hd;go_enter func175,ntmps175;go_wp2
 go_quiet (fail)
 go_wp2_with fail;refine (HD.out _).mono ?_;rintro e w' ⟨rfl,n,rfl⟩;go_wp2;refine aO (v:=.tuple #[.agg #[.int .u64 q,.int .u64 a],.int .u64 b]) (by simp[results,results175,go_sem, *]) rfl ⟨rfl,?_⟩
 repeat' (first|(with_reducible exact aJ _ _)|(with_reducible assumption)|(with_reducible refine Below.drew ?_)|(with_reducible refine nV _ ?_)|(with_reducible refine Below.setCell ?_ ?_ _)|(with_reducible refine dN ?_ (by assumption))|(with_reducible refine Below.alloc ?_ ?_ _)|go_size)
theorem by_any (x h l c:Nat)(w:World)(a:Na x h l)(hc:0<c)(hc2:c<18446744073709551616) :
  Calls prog 175 #[.agg #[.int .u64 h,.int .u64 l],.int .u64 c] w (Ya (x/c) (x%c) w):=by
 have D:=zx a hc hc2;have hl:=a.2.1;have hr:=cO h hc;have hq:h/c<18446744073709551616:=Nat.lt_of_le_of_lt (Nat.div_le_self _ _) a.2.2;rw[D.2];exact (by_w h l c (h/c) (h%c) _ _ w (by omega) (Int.natCast_ediv h c).symm (Int.natCast_emod h c).symm (Jf hq)
  (fun w=>Xk (h%c) l c w (fun w=>Tryz.bits_LeadingZeros64 (c:Int) w (by omega) (by omega)) hc2 hl hr)).mono fun e w' ⟨he,hb⟩=>⟨_,_,he,D.1,hb⟩
def Yb (q:Int)(r s:Int)(w:World)(e:Ending)(w':World):Prop:=∃h:Int,∃l:Nat,e=.returned (.tuple #[.agg #[.int .i64 h,.int .u64 l],.int .i64 r,.int .i64 s])∧At q h l∧Below w.heap.size w w'
def fO (x:Int):Value:=.int .u8 x
def fR (l:List Int):ByteArray:=⟨(l.map fun n=>UInt8.ofNat n.toNat).toArray⟩
theorem dJ {w:World}{g j:Nat}{cs:Array Value}{t:TypeId}(hg:w.heap[g]?=some (.cells cs t (0,0))):w.frozen? ⟨g,j,none⟩=false:=by
 simp[World.frozen?,hg]
theorem dL {w w':World}{b:Nat}{o:Obj}(hb:Below w.heap.size w w')(h:w.heap[b]?=some o):w'.heap[b]?=some o:=by
 rw[hb.block b (aC.1 h).1];exact h
theorem dM {w:World}{o:Obj}{b:Nat}{x:Obj}(h:w.heap[b]?=some x):(w.alloc o).heap[b]?=some x:=by
 rw[heap_alloc_old _ _ (aC.1 h).1];exact h
end Fx
namespace Fx
open Go Go.RowKit Go.Shelf
attribute [local go_sem] Oper.semAt_some
def encI (x:Int):Value:=.int .i64 x
def Ql (m:List Int)(n b cap A:Nat)(X:World):Prop :=
 X.cell? ⟨A,0,none⟩=some (.slice (some ⟨b,0,none⟩) n cap)∧∀j,j<4*n→X.cell? ⟨b,j,none⟩=some (.int .i64 (m.getD j 0))
def AZ (m:List Int)(k:Nat):Array Value:=#[.agg #[.int .i64 ((k/4:Nat):Int),.int .i64 ((k%4:Nat):Int)],.int .i64 (m.getD k 0)]
theorem um (x0 x1 x2 x3:Int)(c:Nat)(h:c<4)(w:World):(Instr.index 23 (.agg #[.int .i64 x0,.int .i64 x1,.int .i64 x2,.int .i64 x3]) (.int .i64 (c:Int))).run prog w=.ok (.int .i64 ([x0,x1,x2,x3].getD c 0)) w:=by
 have hd:c=0∨c=1∨c=2∨c=3:=by omega
 rcases hd with rfl|rfl|rfl|rfl <;> (show _=_;kernel_rfl)
theorem vM (m:List Int)(n b cap A:Nat)(hn:n≤4) :
  Hands Fence.wide 4 prog 149 #[.pointer (some ⟨A,0,none⟩)] (AZ m) (4*n) (Ql m n b cap A):=by
 intro l J Jx W Sk hJ2 UQ Fl hY h0;obtain ⟨cA,_⟩:=UQ 0 W h0;have HY:=aA hY;clear hY;have PF:=aA Sk;clear Sk;have Yy:=aA UQ;clear UQ;refine callsIn_of_wp func149 rfl trivial ?_ rfl;simp only[ntmps149,aL,bO,List.length_nil,Nat.reduceAdd,Nat.reduceSub,Array.replicate_succ,Array.replicate_zero,List.push_toArray,List.append_toArray,cB,cC];gi_wp2
 gi_loopw [9] (fun v9 wr=>∃r:Nat,v9=.int .i64 (r:Int)∧r≤n∧J (r*4) wr) (fun v9 _=>n-(intOf v9).toNat)
 case atStart=>exact ⟨0,rfl,by omega,h0⟩
 case round =>
  clear cA;obtain ⟨r,rfl,SE,hJ⟩:=hrel;by_cases hr:r<n
  ·obtain ⟨_,hc⟩:=Yy.out _ wr hJ
   have q0:=hc (r*4) (by omega);have q1:=hc (r*4+1) (by omega);have q2:=hc (r*4+2) (by omega);have q3:=hc (r*4+3) (by omega);clear hc;obtain ⟨x0,hx0⟩:∃x,m.getD (r*4) 0=x:=⟨_,rfl⟩;obtain ⟨x1,hx1⟩:∃x,m.getD (r*4+1) 0=x:=⟨_,rfl⟩;obtain ⟨x2,hx2⟩:∃x,m.getD (r*4+2) 0=x:=⟨_,rfl⟩;obtain ⟨x3,hx3⟩:∃x,m.getD (r*4+3) 0=x:=⟨_,rfl⟩;rw[hx0] at q0;rw[hx1] at q1;rw[hx2] at q2;rw[hx3] at q3;have hrow:∀c,c<4→m.getD (r*4+c) 0=[x0,x1,x2,x3].getD c 0:=by
    intro c hc;have hd:c=0∨c=1∨c=2∨c=3:=by omega
    rcases hd with rfl|rfl|rfl|rfl
    ·exact hx0
    ·exact hx1
    ·exact hx2
    ·exact hx3
   have HROW:=aA hrow;clear hrow hx0 hx1 hx2 hx3;have r0:(0:Int)≤(r:Int):=by omega
   have r1:(r:Int)<(n:Int):=by omega
   have r2:(r:Int)<4:=by omega
   gi_wp2;have hJV:=PF.out _ _ (wr.alloc (.cells #[.int .i64 x0,.int .i64 x1,.int .i64 x2,.int .i64 x3] 23)) hJ ((aJ _ wr).alloc (aB _) _);generalize wr.alloc (.cells #[.int .i64 x0,.int .i64 x1,.int .i64 x2,.int .i64 x3] 23)=V at hJV ⊢;clear q0 q1 q2 q3
   gi_loopw [15] (fun v15 wx=>∃c:Nat,v15=.int .i64 (c:Int)∧c≤4∧J (r*4+c) wx) (fun v15 _=>4-(intOf v15).toNat)
   case atStart=>exact ⟨0,rfl,by omega,hJV⟩
   case round =>
    rename_i wx _ _ _ _ _ _ _ _ _ _ _ _ _;obtain ⟨c,rfl,Wo,hJc⟩:=hrel;by_cases hc:c<4
    ·obtain ⟨fn,tmps,assign,body,hy,hR⟩:=HY.out (r*4+c) _ (by omega) hJc
     simp only[AZ,show (r*4+c)/4=r from by omega,show (r*4+c)%4=c from by omega,HROW.out c hc] at hy;have Au:=um x0 x1 x2 x3 c hc;generalize [x0,x1,x2,x3].getD c 0=x at hy Au;have c0:(0:Int)≤(c:Int):=by omega
     have c1:(c:Int)<4:=by omega
     gi_wp2;refine hR.mono ?_;rintro e W3 (⟨rfl,hJ3⟩|⟨rfl,zX⟩)
     ·gi_wp2
      go_roundw
      case rel=>exact ⟨c+1,by go_num,by omega,hJ3⟩
      case measure=>simp[intOf];omega
     ·gi_wp2
      refine aO (results_none rfl _ _ _) rfl ?_;exact ⟨⟨_,rfl⟩,.inr zX⟩
    ·have hce:c=4:=by omega
     subst hce;have hJ4:J ((r+1)*4) wr:=by rw[show (r+1)*4=r*4+4 from by omega];exact hJc
     have JA:=aA hJ4;clear hJ4;gi_wp2
     go_roundw
     case rel=>exact ⟨r+1,by go_num,by omega,JA.out⟩
     case measure=>simp[intOf];omega
  ·have zR:r=n:=by omega
   have hnlt:¬ (r:Int)<(n:Int):=by omega
   have HJN:Hid (J (4*n) wr):=aA (by rw[show 4*n=r*4 from by omega];exact hJ);clear zR;gi_wp2
   go_end0
   exact ⟨⟨_,rfl⟩,.inl HJN.out⟩
theorem KF (oa:Option Addr)(la ca:Nat)(w:World):Calls prog 140 #[.slice oa la ca] w fun e w' =>
  e=.returned (.func (.func 149) #[] #[.pointer (some ⟨w.heap.size,0,none⟩)])∧w'=w.alloc (.cells #[.slice oa la ca] 171):=by
 go_enter func140,ntmps140;go_wp2;go_ret;exact ⟨rfl,rfl⟩
attribute [local go_sem] Oper.semAt_some
def okB (bound x:Int):Bool:=decide (0≤bound∧-bound≤x∧x≤bound)
def wB (bound:Int)(m:List Int)(k:Nat):Bool:=(List.range k).all fun j=>okB bound (m.getD j 0)
theorem YQ (bound:Int)(m:List Int)(k:Nat):wB bound m (k+1)=(wB bound m k && okB bound (m.getD k 0)):=by simp[wB,List.range_succ]
theorem CM {bound:Int}{m:List Int}{k n:Nat}(h:k<n)(hk:okB bound (m.getD k 0)=false):wB bound m n=false:=by
 unfold wB;rw[List.all_eq_false];exact ⟨k,by simpa using h,by rw[hk];simp⟩
theorem oQ {bound:Int}{m:List Int}{k:Nat}:wB bound m k=true↔∀j,j<k→0≤bound∧-bound≤m.getD j 0∧m.getD j 0≤bound:=by simp[wB,okB]
structure WM (bound:Int)(b:Bool)(n g cap:Nat)(w W:World):Prop where
 a:W.heap[w.heap.size]?=some (.cells #[.int .i64 bound] 2 (0,0))
 b:W.heap[w.heap.size+1]?=some (.cells #[.bool b] 4 (0,0))
 r:W.heap[w.heap.size+1+1]?=some (.cells #[.slice (some ⟨g,0,none⟩) n cap] 171 (0,0))
 below:Below w.heap.size w W
theorem WM.kept {bound:Int}{b:Bool}{n g cap B:Nat}{w W X:World}(hB:w.heap.size≤B)(k:Kept B W X)(s:WM bound b n g cap w W):WM bound b n g cap w X:=⟨k.cells s.a,k.cells s.b,k.cells s.r,k.below hB s.below⟩
def uP (m:List Int)(n g:Nat)(X:World):Prop:=∀j,j<4*n→X.cell? ⟨g,j,none⟩=some (.int .i64 (m.getD j 0))
theorem uP.below {m:List Int}{n g:Nat}{w X:World}(h:Below w.heap.size w X)(s:uP m n g w):uP m n g X:=fun j hj=>dE h (s j hj)
theorem WM.reads {bound:Int}{b:Bool}{n g cap:Nat}{m:List Int}{w W:World}(s:WM bound b n g cap w W)(hm:uP m n g w):Ql m n g cap (w.heap.size+1+1) W :=
 ⟨by rw[aD _ _ _ _ _ _ s.r];rfl,hm.below s.below⟩
theorem WM.facts {bound:Int}{b:Bool}{n g cap:Nat}{w W:World}(s:WM bound b n g cap w W) :
  W.cell? ⟨w.heap.size,0,none⟩=some (.int .i64 bound)∧W.cell? ⟨w.heap.size+1,0,none⟩=some (.bool b)∧W.frozen? ⟨w.heap.size+1,0,none⟩=false :=
 ⟨by rw[aD _ _ _ _ _ _ s.a];rfl,by rw[aD _ _ _ _ _ _ s.b];rfl,dJ s.b⟩
theorem WM.set {bound:Int}{b c:Bool}{n g cap:Nat}{w W:World}(s:WM bound b n g cap w W):WM bound c n g cap w (W.setCell ⟨w.heap.size+1,0,none⟩ (.bool c)) :=
 ⟨by rw[aK _ _ _ _ (by show _≠w.heap.size+1;omega)];exact s.a,aM _ _ 0 _ _ _ s.b,by rw[aK _ _ _ _ (by show _≠w.heap.size+1;omega)];exact s.r,
  s.below.setCell (p:=⟨w.heap.size+1,0,none⟩) (by show _≤w.heap.size+1;omega) _⟩
def WI (bound:Int)(m:List Int)(n g cap:Nat)(w:World)(k:Nat)(W:World):Prop:=wB bound m k=true∧WM bound true n g cap w W
def WX (bound:Int)(m:List Int)(n g cap:Nat)(w:World)(W:World):Prop:=wB bound m (4*n)=false∧WM bound false n g cap w W
def WA (bound:Int)(m:List Int)(n g cap:Nat)(w:World)(k:Nat)(a:Act):Prop :=
 a={ tmps:=#[.int .i64 bound,.slice (some ⟨g,0,none⟩) n cap,.pointer (some ⟨w.heap.size,0,none⟩),undef,.bool false,.pointer (some ⟨w.heap.size+1,0,none⟩),undef,.int .i64 (m.getD k 0),.slice (some ⟨g,0,none⟩) n cap,
  .func (.func 149) #[] #[.pointer (some ⟨w.heap.size+1+1,0,none⟩)],.agg #[.int .i64 ((k/4:Nat):Int),.int .i64 ((k%4:Nat):Int)],.int .i64 (m.getD k 0),undef,undef,undef,undef,undef,undef,undef,undef,undef,undef,undef,undef,undef,undef],defers:=[] }
def fJ (b:Bool)(w:World)(e:Ending)(w':World):Prop:=e=.returned (.bool b)∧Below w.heap.size w w'
theorem kF (w:World)(A B C:Obj):(((w.alloc A).alloc B).alloc C).heap[w.heap.size]?=some A∧(((w.alloc A).alloc B).alloc C).heap[w.heap.size+1]?=some B∧(((w.alloc A).alloc B).alloc C).heap[w.heap.size+1+1]?=some C:=by
 have h0:=aG w A;have h1:=aG (w.alloc A) B;have h2:=aG ((w.alloc A).alloc B) C;simp only[aR] at h1 h2;exact ⟨dM (dM h0),dM h1,h2⟩
theorem vX (bound:Int)(m:List Int)(n g cap:Nat)(w:World)(hn:n≤4)(b0:-9223372036854775808≤bound)(b1:bound≤9223372036854775807)(hm:uP m n g w) :
  Calls prog 117 #[.int .i64 bound,.slice (some ⟨g,0,none⟩) n cap] w (fJ (wB bound m (4*n)) w):=by
 have HM:=aA hm;clear hm;refine (bG (n:=5)).1 ?_;refine callsIn_of_wp_marks func117 rfl trivial ?_ rfl;simp only[ntmps117,aL,bO,List.length_nil,Nat.reduceAdd,Nat.reduceSub,Array.replicate_succ,Array.replicate_zero,List.push_toArray,List.append_toArray,cB,cC];refine bN.2 ?_;go_wp2_with fail
 go_step3
 go_wp2_with fail
 go_step3
 go_wp2_with fail;refine (KF _ _ _ _).mono ?_;rintro e w' ⟨rfl,rfl⟩;go_wp2_with fail;obtain ⟨W0,hW0⟩:∃W0,(((w.alloc (.cells #[.int .i64 bound] 2)).alloc (.cells #[.bool true] 4)).alloc (.cells #[.slice (some ⟨g,0,none⟩) n cap] 171))=W0:=⟨_,rfl⟩;have Fo:Below w.heap.size w W0:=by rw[←hW0];go_grown
 have hS0:W0.heap.size=w.heap.size+3:=by rw[←hW0];simp
 have wm0:WM bound true n g cap w W0:=by
  rw[←hW0];exact ⟨(kF w _ _ _).1,(kF w _ _ _).2.1,(kF w _ _ _).2.2,by rw[hW0];exact Fo⟩
 rw[hW0];clear hW0;have LB:WI bound m n g cap w 0 W0:=⟨rfl,wm0⟩;clear wm0;refine bN.1 (jU (F:=Fence.wide) (n:=5) rfl (by omega) (gf:=149) (lb:=#[.pointer (some ⟨w.heap.size+1+1,0,none⟩)]) rfl trivial (enters_of func149 (by kernel_rfl) rfl)
  (vM m n g cap (w.heap.size+1+1) hn) (fun _=>rfl) 0 (WI bound m n g cap w) (WX bound m n g cap w) (fun k a' W=>WA bound m n g cap w k a'∧WI bound m n g cap w k W)
  ?i1 ?i2 ?i3 ?i4 ?i5 LB ?assign ?body ?done ?stop)
 case i1=>rintro k W X ⟨h1,h4⟩ hk;exact ⟨h1,h4.kept (by omega) hk⟩
 case i2=>rintro W X ⟨h1,h4⟩ hk;exact ⟨h1,h4.kept (by omega) hk⟩
 case i3=>rintro k a W X ⟨h0,h1,h4⟩ hk;exact ⟨h0,h1,h4.kept (by omega) hk⟩
 case i4=>rintro k W ⟨h1,h4⟩;exact h4.reads HM.out
 case i5=>rintro W ⟨h1,h4⟩;exact h4.reads HM.out
 case assign =>
  intro l k W C hk hI hC;simp only[AZ];gi_wp2;exact hC _ _ (KeepsFrom.refl _ _) ⟨rfl,hI⟩
 case body =>
  rintro l k a' W hk ⟨ha,hw,wm⟩;unfold WA at ha;subst ha;have bg:=YQ bound m k;obtain ⟨x,Rw⟩:∃x,m.getD k 0=x:=⟨_,rfl⟩;have HW:=aA hw;have Yn:=aA bg;have HXK:=aA Rw;rw[Rw];obtain ⟨c0,c1,f1⟩:=wm.facts;have WMH:=aA wm;clear hw bg wm Rw;by_cases t1:bound<0
  ·have hno:Hid (okB bound (m.getD k 0)=false):=aA (by rw[HXK.out];unfold okB;simp;omega)
   gi_wp2;exact ⟨rfl,(KeepsOthers.setCell _ _ _).from _,CM hk hno.out,WMH.out.set⟩
  by_cases t2:x < -bound
  ·have hno:Hid (okB bound (m.getD k 0)=false):=aA (by rw[HXK.out];unfold okB;simp;omega)
   have t1':0≤bound:=by omega
   gi_wp2;exact ⟨rfl,(KeepsOthers.setCell _ _ _).from _,CM hk hno.out,WMH.out.set⟩
  by_cases t3:bound<x
  ·have hno:Hid (okB bound (m.getD k 0)=false):=aA (by rw[HXK.out];unfold okB;simp;omega)
   have t1':0≤bound:=by omega
   have t2':-bound≤x:=by omega
   gi_wp2;exact ⟨rfl,(KeepsOthers.setCell _ _ _).from _,CM hk hno.out,WMH.out.set⟩
  have Vs:Hid (okB bound (m.getD k 0)=true):=aA (by rw[HXK.out];unfold okB;simp;omega);have t1':0≤bound:=by omega
  have t2':-bound≤x:=by omega
  have t3':x≤bound:=by omega
  gi_wp2;exact ⟨KeepsFrom.refl _ _,by rw[Yn.out,HW.out,Vs.out];rfl,WMH.out⟩
 case done =>
  rintro D W hD ⟨hw,wm⟩ iF;obtain ⟨c0,c1,f1⟩:=wm.facts;have HW:=aA hw;have hB:=wm.below;clear hw wm;go_wp2_with fail;rw[Exit.noGoto_ret];refine ⟨by simp,.inl ⟨_,_,rfl,run_takeDeferred iF,?_⟩⟩;exact ⟨_,results_tmp rfl _ _ _,by rw[HW.out];rfl,hB.trans (belowK_b (w:=w) (aB _) _ D _ _ (by omega) iF rfl rfl)⟩
 case stop =>
  rintro D W hD ⟨hw,wm⟩ iF;obtain ⟨c0,c1,f1⟩:=wm.facts;have HW:=aA hw;have hB:=wm.below;clear hw wm;refine bN.2 ?_;go_wp2_with fail;rw[Exit.noGoto_ret];refine ⟨by simp,.inl ⟨_,_,rfl,run_takeDeferred iF,?_⟩⟩;exact ⟨_,results_tmp rfl _ _ _,by rw[HW.out];rfl,hB.trans (belowK_b (w:=w) (aB _) _ D _ _ (by omega) iF rfl rfl)⟩
attribute [local go_sem] Oper.semAt_some
def mC (m:List Int):Array Value:=(m.map encI).toArray
theorem eV (m:List Int):(mC m).size=m.length:=by simp[mC]
theorem iV (m:List Int):(mC m).all (·.oneCell')=true:=by
 rw[Array.all_eq_true_iff_forall_mem];intro v hv;simp only[mC,List.mem_toArray,List.mem_map] at hv;obtain ⟨x,_,rfl⟩:=hv;rfl
theorem zE (m:List Int)(j:Nat)(h:j<m.length):(mC m)[j]?=some (.int .i64 (m.getD j 0)):=by
 unfold mC;rw[List.getElem?_toArray,bZ];simp[aS,h,encI]
theorem MP (m:List Int)(j:Nat)(x:Int):(mC m).setIfInBounds j (.int .i64 x)=mC (m.set j x):=by
 unfold mC;rw[List.setIfInBounds_toArray,List.map_set];rfl
def YV (m:List Int)(k:Nat):List Int:=(List.range 16).map fun p=>if p%4*4+p/4<k then m.getD (p%4*4+p/4) 0 else 0
def tr (m:List Int):List Int:=(List.range 16).map fun p=>m.getD (p%4*4+p/4) 0
theorem Uh (m:List Int)(k:Nat):(YV m k).length=16:=by simp[YV]
theorem vY (m:List Int):(tr m).length=16:=by simp[tr]
theorem Ui (m:List Int):YV m 16=tr m:=by
 unfold YV tr;refine List.map_congr_left fun p hp=>?_
 rw[List.mem_range] at hp;rw[aZ (by omega)]
theorem Jt (m:List Int)(k:Nat)(h:k<16):(YV m k).set (k%4*4+k/4) (m.getD k 0)=YV m (k+1):=by
 refine List.ext_getElem (by simp[YV]) fun p h1 h2=>?_
 have hp:p<16:=by simpa[YV] using h2
 rw[List.getElem_set];simp only[YV,List.getElem_map,List.getElem_range];by_cases e:k%4*4+k/4=p
 ·have e2:p%4*4+p/4=k:=by omega
  rw[aZ e,e2,aZ (by omega)]
 ·rw[bF e]
  have e2:p%4*4+p/4≠k:=by omega
  by_cases e3:p%4*4+p/4<k
  ·rw[aZ e3,aZ (by omega)]
  ·rw[bF e3,bF (by omega)]
theorem Js (m:List Int):YV m 0=List.replicate 16 0:=by
 unfold YV;simp only[Nat.not_lt_zero,if_false];rfl
theorem iT:(prog.info? 25).map (·.size)=some 16:=by kernel_rfl
structure Ru (m:List Int)(k:Nat)(w W:World):Prop where
 a:W.heap[w.heap.size]?=some (.cells (mC m) 25 (0,0))
 r:W.heap[w.heap.size+1]?=some (.cells (mC (List.replicate 16 0)) 25 (0,0))
 x:W.heap[w.heap.size+1+1]?=some (.cells (mC (YV m k)) 25 (0,0))
 b:W.heap[w.heap.size+1+1+1]?=some (.cells #[.slice (some ⟨w.heap.size,0,none⟩) 4 4] 171 (0,0))
 below:Below w.heap.size w W
theorem Ru.kept {m:List Int}{k B:Nat}{w W X:World}(hB:w.heap.size≤B)(h:Kept B W X)(s:Ru m k w W):Ru m k w X:=⟨h.cells s.a,h.cells s.r,h.cells s.x,h.cells s.b,h.below hB s.below⟩
theorem Ru.reads {m:List Int}{k:Nat}{w W:World}(hm:m.length=16)(s:Ru m k w W):Ql m 4 w.heap.size 4 (w.heap.size+1+1+1) W :=
 ⟨by rw[aD _ _ _ _ _ _ s.b];rfl,fun j hj=>by rw[aD _ _ _ _ _ _ s.a,zE _ _ (by omega)]⟩
theorem Ru.next {m:List Int}{k:Nat}{w W:World}(hk:k<16)(s:Ru m k w W):Ru m (k+1) w (W.setCell ⟨w.heap.size+1+1,k%4*4+k/4,none⟩ (.int .i64 (m.getD k 0))):=by
 refine ⟨?_,?_,?_,?_,s.below.setCell (p:=⟨w.heap.size+1+1,k%4*4+k/4,none⟩) (by show _≤w.heap.size+1+1;omega) _⟩
 ·rw[aK _ _ _ _ (by show _≠w.heap.size+1+1;omega)];exact s.a
 ·rw[aK _ _ _ _ (by show _≠w.heap.size+1+1;omega)];exact s.r
 ·rw[aM _ _ _ _ _ _ s.x,MP,Jt _ _ hk]
 ·rw[aK _ _ _ _ (by show _≠w.heap.size+1+1;omega)];exact s.b
def AcA (m:List Int)(w:World)(k B:Nat)(a:Act):Prop :=
 a={ tmps:=#[.agg (mC m),.pointer (some ⟨w.heap.size,0,none⟩),.pointer (some ⟨w.heap.size+1,0,none⟩),.pointer (some ⟨w.heap.size+1+1,0,none⟩),.pointer (some ⟨B,0,none⟩),.int .i64 (m.getD k 0),.slice (some ⟨w.heap.size,0,none⟩) 4 4,
  .func (.func 149) #[] #[.pointer (some ⟨w.heap.size+1+1+1,0,none⟩)],.agg #[.int .i64 ((k/4:Nat):Int),.int .i64 ((k%4:Nat):Int)],.int .i64 (m.getD k 0),undef,undef,undef,undef,undef,undef,undef,undef],defers:=[] }
def AcX (m:List Int)(w:World)(k:Nat)(a:Act)(W:World):Prop:=∃B,AcA m w k B a∧W.heap[B]?=some (.cells #[.int .i64 ((k/4:Nat):Int),.int .i64 ((k%4:Nat):Int)] 192 (0,0))∧Ru m k w W
def RetM (m:List Int)(w:World)(e:Ending)(w':World):Prop:=e=.returned (.agg (mC m))∧Below w.heap.size w w'
theorem Bz (w:World)(A B C D:Obj):((((w.alloc A).alloc B).alloc C).alloc D).heap[w.heap.size]?=some A∧((((w.alloc A).alloc B).alloc C).alloc D).heap[w.heap.size+1]?=some B∧((((w.alloc A).alloc B).alloc C).alloc D).heap[w.heap.size+1+1]?=some C∧((((w.alloc A).alloc B).alloc C).alloc D).heap[w.heap.size+1+1+1]?=some D:=by
 have h0:=aG w A;have h1:=aG (w.alloc A) B;have h2:=aG ((w.alloc A).alloc B) C;have h3:=aG (((w.alloc A).alloc B).alloc C) D;simp only[aR] at h1 h2 h3;exact ⟨dM (dM (dM h0)),dM (dM h1),dM h2,h3⟩
theorem FY (m:List Int)(w:World)(hm:m.length=16) :
  Calls prog 150 #[.agg (mC m)] w (RetM (tr m) w):=by
 have HM:=aA hm;clear hm;refine (bG (n:=5)).1 ?_;refine callsIn_of_wp_marks func150 rfl trivial ?_ rfl;simp only[ntmps150,aL,bO,List.length_nil,Nat.reduceAdd,Nat.reduceSub,Array.replicate_succ,Array.replicate_zero,List.push_toArray,List.append_toArray,cB,cC];refine bN.2 ?_;go_wp2_with fail;refine (KF _ _ _ _).mono ?_;rintro e w' ⟨rfl,rfl⟩;go_wp2_with fail;obtain ⟨W0,hW0⟩:∃W0,((((w.alloc (.cells (mC m) 25)).alloc (.cells #[.int .i64 0,.int .i64 0,.int .i64 0,.int .i64 0,.int .i64 0,.int .i64 0,.int .i64 0,.int .i64 0,.int .i64 0,.int .i64 0,.int .i64 0,.int .i64 0,.int .i64 0,.int .i64 0,.int .i64 0,.int .i64 0] 25)).alloc (.cells #[.int .i64 0,.int .i64 0,.int .i64 0,.int .i64 0,.int .i64 0,.int .i64 0,.int .i64 0,.int .i64 0,.int .i64 0,.int .i64 0,.int .i64 0,.int .i64 0,.int .i64 0,.int .i64 0,.int .i64 0,.int .i64 0] 25)).alloc (.cells #[.slice (some ⟨w.heap.size,0,none⟩) 4 4] 171))=W0:=⟨_,rfl⟩;have Fo:Below w.heap.size w W0:=by rw[←hW0];go_grown
 have hS0:W0.heap.size=w.heap.size+4:=by rw[←hW0];simp
 have am0:Ru m 0 w W0:=by
  have h:=Bz w (.cells (mC m) 25) (.cells #[.int .i64 0,.int .i64 0,.int .i64 0,.int .i64 0,.int .i64 0,.int .i64 0,.int .i64 0,.int .i64 0,.int .i64 0,.int .i64 0,.int .i64 0,.int .i64 0,.int .i64 0,.int .i64 0,.int .i64 0,.int .i64 0] 25) (.cells #[.int .i64 0,.int .i64 0,.int .i64 0,.int .i64 0,.int .i64 0,.int .i64 0,.int .i64 0,.int .i64 0,.int .i64 0,.int .i64 0,.int .i64 0,.int .i64 0,.int .i64 0,.int .i64 0,.int .i64 0,.int .i64 0] 25) (.cells #[.slice (some ⟨w.heap.size,0,none⟩) 4 4] 171);rw[hW0] at h;refine ⟨h.1,h.2.1,?_,h.2.2.2,Fo⟩;rw[Js];exact h.2.2.1
 rw[hW0];clear hW0;have Zs:(prog.info? 25).map (·.size)=some (mC (tr m)).size:=by rw[iT,eV,vY]
 have Zt:(mC (List.replicate 16 0)).size=(mC (tr m)).size:=by rw[eV,eV,vY];rfl
 have nX:=aA Zs;have oO:=aA Zt;clear Zs Zt;refine bN.1 (jU (F:=Fence.wide) (n:=5) rfl (by omega) (gf:=149) (lb:=#[.pointer (some ⟨w.heap.size+1+1+1,0,none⟩)]) rfl trivial (enters_of func149 (by kernel_rfl) rfl)
  (vM m 4 w.heap.size 4 (w.heap.size+1+1+1) (by omega)) (fun _=>rfl) 0 (fun k W=>Ru m k w W) (fun _=>False) (AcX m w)
  ?i1 ?i2 ?i3 ?i4 ?i5 am0 ?assign ?body ?done ?stop)
 case i1=>intro k W X h hk;exact h.kept (by omega) hk
 case i2=>intro W X h hk;exact h
 case i3=>rintro k a W X ⟨B,h0,h1,h4⟩ hk;exact ⟨B,h0,hk.cells h1,h4.kept (by omega) hk⟩
 case i4=>intro k W h;exact h.reads HM.out
 case i5=>intro W h;exact h.elim
 case assign =>
  intro l k W C hk hI hC;simp only[AZ];gi_wp2;exact hC _ _ ((KeepsOthers.alloc _ _).from _) ⟨_,rfl,aG _ _,hI.kept (aB _) (Kept.of_below ((aJ _ W).alloc (aB _) _))⟩
 case body =>
  rintro l k a' W hk ⟨B,ha,hp,am⟩;unfold AcA at ha;subst ha;have p0:W.cell? ⟨B,0,none⟩=some (.int .i64 ((k/4:Nat):Int)):=by rw[aD _ _ _ _ _ _ hp];rfl
  have p1:W.cell? ⟨B,1,none⟩=some (.int .i64 ((k%4:Nat):Int)):=by rw[aD _ _ _ _ _ _ hp];rfl
  have hnx:=am.next (by omega:k<16);have hq:W.cell? ⟨w.heap.size+1+1,k%4*4+k/4,none⟩=some (.int .i64 ((YV m k).getD (k%4*4+k/4) 0)):=by rw[aD _ _ _ _ _ _ am.x,zE _ _ (by rw[Uh];omega)]
  have hqf:W.frozen? ⟨w.heap.size+1+1,k%4*4+k/4,none⟩=false:=dJ am.x;have PD:=aA hnx;have hBn:w.heap.size+1+1≠B:=by
   rintro rfl;rw[am.x] at hp;simp only[Option.some.injEq,Obj.cells.injEq] at hp;exact absurd hp.2.1 (by decide)
  clear hnx hp am;have hr4:k/4<4:=by omega
  have Wo:k%4<4:=by omega
  obtain ⟨r,hr⟩:∃r,k/4=r:=⟨_,rfl⟩;obtain ⟨c,hc⟩:∃c,k%4=c:=⟨_,rfl⟩;obtain ⟨x,hx⟩:∃x,m.getD k 0=x:=⟨_,rfl⟩;rw[hr,hc,hx] at PD;rw[hr,hc] at hq hqf;rw[hr] at p0 hr4;rw[hc] at p1 Wo;rw[hr,hc,hx];generalize (YV m k).getD (c*4+r) 0=y at hq;clear hr hc hx;have r0:(0:Int)≤(r:Int):=by omega
  have r1:(r:Int)<4:=by omega
  have c0:(0:Int)≤(c:Int):=by omega
  have c1:(c:Int)<4:=by omega
  gi_wp2;refine eI (S:=fun X=>X.cell? ⟨B,0,none⟩=some (.int .i64 (r:Int))∧X.cell? ⟨B,1,none⟩=some (.int .i64 (c:Int))) (by kernel_rfl) ⟨p0,p1⟩ (fun hHeld=>?_);refine dH (fun _=>trivial) (by kernel_rfl) (i:=0) (oi:=_) (v:=?_) rfl (by kernel_rfl) (by kernel_rfl) (by kernel_rfl) (fun _ _ _ h=>h) (by assumption) (Or.inl ⟨by kernel_rfl,?_⟩) ?_;rotate_left
  ·intro wz hSw;obtain ⟨h1,h2⟩:=hSw;(first|(go_simp;done)|(go_simp;with_reducible rfl))
  try simp only[aQ]
  refine dH (fun _=>trivial) (by kernel_rfl) (i:=1) (oi:=_) (v:=?_) rfl (by kernel_rfl) (by kernel_rfl) (by kernel_rfl) (fun _ _ _ h=>h) (by assumption) (Or.inl ⟨by kernel_rfl,?_⟩) ?_;rotate_left
  ·intro wz hSw;obtain ⟨h1,h2⟩:=hSw;(first|(go_simp;done)|(go_simp;with_reducible rfl))
  try simp only[aQ]
  refine dH (fun _=>trivial) (by kernel_rfl) (i:=2) (oi:=_) (v:=?_) rfl (by kernel_rfl) (by kernel_rfl) (by kernel_rfl) (fun _ _ _ h=>h) (by assumption) (Or.inl ⟨by kernel_rfl,?_⟩) ?_;rotate_left
  ·intro wz hSw;obtain ⟨h1,h2⟩:=hSw;(first|(go_simp;done)|(go_simp;with_reducible rfl))
  try simp only[aQ]
  refine dH (fun _=>trivial) (by kernel_rfl) (i:=3) (oi:=_) (v:=?_) rfl (by kernel_rfl) (by kernel_rfl) (by kernel_rfl) (fun _ _ _ h=>h) (by assumption) (Or.inl ⟨by kernel_rfl,?_⟩) ?_;rotate_left
  ·intro wz hSw;obtain ⟨h1,h2⟩:=hSw;(first|(go_simp;done)|(go_simp;with_reducible rfl))
  try simp only[aQ]
  refine dH (fun _=>trivial) (by kernel_rfl) (i:=4) (oi:=_) (v:=?_) rfl (by kernel_rfl) (by kernel_rfl) (by kernel_rfl) (fun _ _ _ h=>h) (by assumption) (Or.inl ⟨by kernel_rfl,?_⟩) ?_;rotate_left
  ·intro wz hSw;obtain ⟨h1,h2⟩:=hSw;(first|(go_simp;done)|(go_simp;with_reducible rfl))
  try simp only[aQ]
  refine dH (fun _=>trivial) (by kernel_rfl) (i:=5) (oi:=_) (v:=?_) rfl (by kernel_rfl) (by kernel_rfl) (by kernel_rfl) (fun _ _ _ h=>h) (by assumption) (Or.inl ⟨by kernel_rfl,?_⟩) ?_;rotate_left
  ·intro wz hSw;obtain ⟨h1,h2⟩:=hSw;(first|(go_simp;done)|(go_simp;with_reducible rfl))
  try simp only[aQ]
  refine dH (fun _=>trivial) (by kernel_rfl) (i:=6) (oi:=_) (v:=?_) rfl (by kernel_rfl) (by kernel_rfl) (by kernel_rfl) (fun _ _ _ h=>h) (by assumption) (Or.inl ⟨by kernel_rfl,?_⟩) ?_;rotate_left
  ·intro wz hSw;obtain ⟨h1,h2⟩:=hSw;(first|(go_simp;done)|(go_simp;with_reducible rfl))
  try simp only[aQ]
  refine dO (fun _=>trivial) (i:=7) (o:=_) (by kernel_rfl) rfl (fun K hK=>?_);go_simp;refine hK.out _ _ ⟨(World.cell?_setCell_far _ _ _ _ (by exact hBn)).trans p0,(World.cell?_setCell_far _ _ _ _ (by exact hBn)).trans p1⟩ (fun hHeld=>?_);clear hK K;refine eH (by kernel_rfl) ?_ _;clear hHeld;gi_wp2;exact ⟨((KeepsOthers.setCell _ _ _).trans (KeepsOthers.drew _)).from _,PD.out.kept (aB _) (Kept.of_below (eM _ _ 1))⟩
 case done =>
  rintro D W hD am iF;have hx:=am.x;have hr:=am.r;rw[Ui] at hx;have HX:=aA hx;have HR:=aA hr;have hBl:=am.below;clear hx hr am;go_wp2_with (first|(refine wpList_load_row rfl 25 (.tmp 3) rfl (w.heap.size+1+1) rfl _ _ _ _ HX.out aU rfl nX.out ?_)|(refine dG rfl 25 (.tmp 2) (.tmp 17) rfl (w.heap.size+1) _ _ (mC (tr m)) rfl rfl HR.out nX.out oO.out (iV _) ?_))
  have yM:(W.setRow (w.heap.size+1) (mC (tr m))).heap[D]?=some (.deferred (some [])):=by rw[setRow_other _ _ _ _ (by omega)];exact iF
  refine ⟨by simp,.inl ⟨_,_,rfl,run_takeDeferred yM,?_⟩⟩;refine ⟨_,results_cell_row rfl _ _ (w.heap.size+1) _ _ _ _ rfl ((World.putObj_heap_other (by omega)).trans (setRow_heap _ _ _ _ _ _ HR.out)) aU rfl nX.out,rfl,?_⟩;exact (Below.row hBl (by omega) _).trans (belowK_b (w:=w) (aB _) _ D _ _ (by omega) yM rfl rfl)
 case stop=>intro D W hD h;exact h.elim
end Fx
namespace Fx
open Go Go.RowKit Go.ChangeShapes Go.WideShapes
variable {H:Type} {enc:TypeId×Value→H} {P:Program} {w:World} {base:Nat} {spare:Nat→Bool} {held:Bool}
theorem BF:∀ (cs:List Value),(∀v∈cs,∃z,v=.int .i64 z∧(Lit.int .i64 z).wf=true)→∃m:List Int,cs=m.map encI∧∀z∈m,(Lit.int .i64 z).wf=true
 | [],_=>⟨[],rfl,by simp⟩
 | v::cs,h=>by
  obtain ⟨z,rfl,hz⟩:=h v (by simp);obtain ⟨m,rfl,hm⟩:=BF cs fun u hu=>h u (by simp[hu])
  refine ⟨z::m,rfl,fun x hx=>?_⟩
  rcases List.mem_cons.1 hx with rfl|hx
  ·exact hz
  ·exact hm x hx
theorem TF {xs:List (DataW H×List MemPlace)}(h:∀ (i:Nat) (y:DataW H×List MemPlace),xs[i]?=some y→y.2=[]):xs.flatMap (·.2)=[]:=by
 rw[List.flatMap_eq_nil_iff];intro y hy;obtain ⟨i,hi⟩:=List.getElem?_of_mem hy;exact h i y hi
theorem JM {fuel n:Nat}{t e:TypeId}{cs:List Value}{x:DataW H×List MemPlace}(ht:P.underlying t=some (.array n e))(he:P.underlying e=some (.int .i64))(hc:P.cellsOf e=1)(hC:P.cellsOf t=n)
  (h:DataW.trod enc P w base spare held fuel t cs=some x):(∀v∈cs,∃z,v=.int .i64 z∧(Lit.int .i64 z).wf=true)∧cs.length=n∧x.2=[]:=by
 obtain ⟨xs,m,_,rfl,hl,hlen,hf⟩:=DataW.trod_array ht h;have iM:∀i,i<n→∃z,cs[i]?=some (.int .i64 z)∧(Lit.int .i64 z).wf=true∧∀y,xs[i]?=some y→y.2=[]:=by
  intro i hi;have h1:=hf i hi;rw[hc,Nat.mul_one] at h1;obtain ⟨y,hy⟩:∃y,xs[i]?=some y:=⟨xs[i]'(by omega),by simp[show i<xs.length by omega]⟩;rw[hy] at h1;obtain ⟨z,e1,rfl,hz⟩:=DataW.trod_int he h1;refine ⟨z,?_,hz,fun y' hy'=>by rw[hy] at hy';cases hy';rfl⟩;have : ((cs.drop i).take 1)[0]?=some (Value.int .i64 z):=by rw[e1];rfl
  simpa[List.getElem?_take,List.getElem?_drop] using this
 refine ⟨fun v hv=>?_,hl.trans hC,?_⟩
 ·obtain ⟨i,hi⟩:=List.getElem?_of_mem hv
  have sB:i<n:=by
   have:=(aY.1 hi).1;omega
  obtain ⟨z,h1,h2,_⟩:=iM i sB;rw[hi] at h1
  cases h1;exact ⟨z,rfl,h2⟩
 ·exact TF fun i y hy=>by
   have sB:i<n:=by
    have:=(aY.1 hy).1;omega
   obtain ⟨_,_,_,h3⟩:=iM i sB;exact h3 y hy
theorem JL {fuel n k:Nat}{t e f:TypeId}{cs:List Value}{x:DataW H×List MemPlace}(ht:P.underlying t=some (.array n e))(he:P.underlying e=some (.array k f))(hf0:P.underlying f=some (.int .i64))(hc:P.cellsOf f=1)
  (hC:P.cellsOf e=k) (hT:P.cellsOf t=n*k) (hk:0<k) (h:DataW.trod enc P w base spare held fuel t cs=some x):(∀v∈cs,∃z,v=.int .i64 z∧(Lit.int .i64 z).wf=true)∧cs.length=n*k∧x.2=[]:=by
 obtain ⟨xs,m,_,rfl,hl,hlen,hf⟩:=DataW.trod_array ht h;have iM:∀i,i<n→(∀v∈(cs.drop (i*k)).take k,∃z,v=.int .i64 z∧(Lit.int .i64 z).wf=true)∧∀y,xs[i]?=some y→y.2=[]:=by
  intro i hi;have h1:=hf i hi;rw[hC] at h1;obtain ⟨y,hy⟩:∃y,xs[i]?=some y:=⟨xs[i]'(by omega),by simp[show i<xs.length by omega]⟩;rw[hy] at h1;obtain ⟨a,_,c⟩:=JM he hf0 hc hC h1;exact ⟨a,fun y' hy'=>by rw[hy] at hy';cases hy';exact c⟩
 refine ⟨fun v hv=>?_,hl.trans hT,?_⟩
 ·obtain ⟨j,hj⟩:=List.getElem?_of_mem hv
  have hjn:j<n*k:=by
   have:=(aY.1 hj).1;omega
  have sB:j/k<n:=Nat.div_lt_of_lt_mul (by rw[cF];exact hjn);refine (iM (j/k) sB).1 v ?_;have hr:j%k<k:=cO _ hk;have hjj:j/k*k+j%k=j:=Nat.div_add_mod' j k;refine aX (i:=j%k) ?_;rw[List.getElem?_take,aZ hr,List.getElem?_drop,hjj];exact hj
 ·exact TF fun i y hy=>by
   have sB:i<n:=by
    have:=(aY.1 hy).1;omega
   exact (iM i sB).2 y hy
theorem JJ {z:Int}(h:(Lit.int .i64 z).wf=true):-9223372036854775808≤z∧z≤9223372036854775807:=by
 simp[Lit.wf,IntKind.min,IntKind.max,IntKind.signed,IntKind.bits] at h;omega
theorem VG {m:List Int}(h:∀z∈m,(Lit.int .i64 z).wf=true):∀j,-9223372036854775808≤m.getD j 0∧m.getD j 0≤9223372036854775807:=by
 intro j;rw[aS];by_cases hj:j<m.length
 ·rw[aF hj]
  exact JJ (h _ (List.getElem_mem hj))
 ·rw[List.getElem?_eq_none (by omega)]
  simp
theorem laidOut:laidOutB prog=true:=by kernel_rfl
end Fx
end Go.Proofs.YtbbhmhihpdmoiaaGreat
