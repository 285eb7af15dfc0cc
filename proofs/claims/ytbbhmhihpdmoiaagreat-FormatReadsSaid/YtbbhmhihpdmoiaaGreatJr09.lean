import Derived.Test.YtbbhmhihpdmoiaaGreatJrz
set_option linter.unusedVariables false
set_option linter.unusedSimpArgs false
set_option maxRecDepth 100000
set_option maxHeartbeats 32000000
namespace Go.Proofs.YtbbhmhihpdmoiaaGreat.Wm
def At (z h:Int) (l:Nat):Prop:=z=h * 18446744073709551616 + (l:Int)∧l < 18446744073709551616∧-9223372036854775808≤h∧h < 9223372036854775808
def Na (n h l:Nat):Prop:=n=h * 18446744073709551616 + l∧l < 18446744073709551616∧h < 18446744073709551616
def nS (z:Int):Int:=(z + 170141183460469231731687303715884105728) % 340282366920938463463374607431768211456 - 170141183460469231731687303715884105728
def In (z:Int):Prop:=-170141183460469231731687303715884105728≤z∧z < 170141183460469231731687303715884105728
instance (z:Int):Decidable (In z):=by unfold In;infer_instance
theorem xJ {z:Int} (h:In z):nS z=z:=by unfold nS In at *;omega
theorem At.inn {z h:Int} {l:Nat} (a:At z h l):In z:=by unfold At In at *;omega
theorem At.neg {z h:Int} {l:Nat} (a:At z h l):h < 0↔z < 0:=by unfold At at *;omega
theorem At.ex {z:Int} (h:In z):∃ a b,At z a b:=by
 refine ⟨z / 18446744073709551616,(z % 18446744073709551616).toNat,?_⟩
 unfold At In at *
 omega
theorem At.uniq {z a b:Int} {k l:Nat} (h:At z a k) (g:At z b l):a=b∧k=l:=by unfold At at *;omega
def uw (h:Int):Nat:=(h % 18446744073709551616).toNat
theorem qF (h:Int):(uw h:Int)=h % 18446744073709551616:=by unfold uw;omega
theorem PD (h:Int):uw h < 18446744073709551616:=by unfold uw;omega
theorem Jm {x y xh yh:Int} {xl yl:Nat} (hx:At x xh xl) (hy:At y yh yl) :
  At (nS (x - y)) (((((uw xh + 18446744073709551616 - uw yh - (if xl < yl then 1 else 0)) % 18446744073709551616:Nat):Int) + 9223372036854775808) % 18446744073709551616 - 9223372036854775808) ((xl + 18446744073709551616 - yl) % 18446744073709551616):=by
 have a:=qF xh
 have b:=qF yh
 have a':=PD xh
 have b':=PD yh
 generalize uw xh=p at *
 generalize uw yh=q at *
 unfold At nS at *
 split <;> omega
end Go.Proofs.YtbbhmhihpdmoiaaGreat.Wm
namespace Go.Proofs.YtbbhmhihpdmoiaaGreat.Fx
open Go Go.RowKit Wm
theorem EP {k:IntKind} {a b:Int} (h:a=b):Ending.returned (.int k a)=.returned (.int k b):=by rw [h]
theorem ZX {x y:Bool} (h2:x=y):Ending.returned (.bool x)=.returned (.bool y):=by rw [h2]
theorem KR {W w1:World} (hb:Below W.heap.size W w1):(∀ b o,b < W.heap.size→w1.cell? ⟨b,o,none⟩=W.cell? ⟨b,o,none⟩)∧(∀ b o,b < W.heap.size→w1.frozen? ⟨b,o,none⟩=W.frozen? ⟨b,o,none⟩) :=
 ⟨fun b o h=>hb.cell (p:=⟨b,o,none⟩) h,fun b o h=>hb.frozen (p:=⟨b,o,none⟩) h⟩
theorem tQ {B:Nat} {w w':World} (n:Nat) (h:Below B (w.drewN n) w'):Below B w w':=⟨h.os,h.tape,h.output,h.size,h.block⟩
theorem fG (B:Nat) (w:World) (n:Nat):Below B w (w.drewN n):=tQ n (aI _ _)
theorem dY {w W1 W2:World} (h:Below w.heap.size w W1) (k:Below W1.heap.size W1 W2):Below w.heap.size w W2:=h.trans (k.mono h.size)
theorem run_add64 (x y c:Nat) (hc:c≤1) (w:World) :
  (callFunc 182 #[.int .u64 x,.int .u64 y,.int .u64 c]).run Tryz.prog w =
   .ok (.value (.tuple #[.int .u64 (((x + y + c) % 18446744073709551616:Nat):Int),.int .u64 (((x + y + c) / 18446744073709551616:Nat):Int)])) w:=by
 rw [run_callFunc_extern Tryz.func182 (by kernel_rfl) (by kernel_rfl) (by kernel_rfl) (e:=add64Entry) (by kernel_rfl),_root_.Go.run_add64 x y c (by omega) (by omega) (by omega) (by omega)]
 simp only [Result.andThen]
 congr 5 <;> omega
theorem run_sub64 (x y b:Nat) (hb:b≤1) (w:World) :
  (callFunc 186 #[.int .u64 x,.int .u64 y,.int .u64 b]).run Tryz.prog w =
   .ok (.value (.tuple #[.int .u64 (((x + 18446744073709551616 - y - b) % 18446744073709551616:Nat):Int),.int .u64 ((if x < y + b then 1 else 0:Nat):Int)])) w:=by
 rw [run_callFunc_extern Tryz.func186 (by kernel_rfl) (by kernel_rfl) (by kernel_rfl) (e:=sub64Entry) (by kernel_rfl),Go.Proofs.run_sub64 x y b hb]
 rfl
theorem yS (x y:Nat) (w:World) :
  (callFunc 182 #[.int .u64 x,.int .u64 y,.int .u64 0]).run Tryz.prog w =
   .ok (.value (.tuple #[.int .u64 (((x + y) % 18446744073709551616:Nat):Int),.int .u64 (((x + y) / 18446744073709551616:Nat):Int)])) w:=run_add64 x y 0 (by omega) w
theorem MQ (x y:Nat) (w:World) :
  (callFunc 186 #[.int .u64 x,.int .u64 y,.int .u64 0]).run Tryz.prog w =
   .ok (.value (.tuple #[.int .u64 (((x + 18446744073709551616 - y) % 18446744073709551616:Nat):Int),.int .u64 ((if x < y then 1 else 0:Nat):Int)])) w:=run_sub64 x y 0 (by omega) w
theorem WB (h l:Int) (w:World) :
  Calls Tryz.prog 177 #[.agg #[.int .i64 h,.int .u64 l]] w fun e w'=>e=.returned (.bool (decide (h < 0)))∧Below w.heap.size w w':=by
 go_enter Tryz.func177,Tryz.ntmps177
 go_wp2
 go_ret
 exact ⟨rfl,by go_grown⟩
theorem dN {w w':World} {a:Addr} {v:Value} (hb:Below w.heap.size w w') (h:w.cell? a=some v):w'.cell? a=some v:=by
 rw [hb.cell]
 ·exact h
 ·exact block_lt_of_cell h
theorem dS {w w':World} {b o:Nat} (hb:Below w.heap.size w w') (hs:b < w.heap.size) (h:w.frozen? ⟨b,o,none⟩=false):w'.frozen? ⟨b,o,none⟩=false:=by
 rw [hb.frozen (p:=⟨b,o,none⟩) hs]
 exact h
theorem gB (h:Int) (l:Nat) (b:Bool) (w:World) (H:Hid (decide (h < 0)=b)) :
  Calls Tryz.prog 177 #[.agg #[.int .i64 h,.int .u64 l]] w fun e w'=>e=.returned (.bool b)∧Below w.heap.size w w':=by
 rw [←H.out]
 exact WB h l w
theorem ZB (a:Int) (h0:-9223372036854775808≤a) (h1:a < 0):IntKind.u64.wrap (-IntKind.u64.wrap a)=(a.natAbs:Int):=by
 rw [aU,aU]
 omega
theorem yO (a:Int) (w:World) (hn0:-9223372036854775808≤a) (hn1:a≤9223372036854775807) :
  Calls Tryz.prog 176 #[.int .i64 a] w fun e w'=>e=.returned (.int .u64 (a.natAbs:Int))∧w=w':=by
 by_cases h1:a < 0
 ·go_enter Tryz.func176,Tryz.ntmps176
  go_wp2
  go_ret
  exact ⟨EP (ZB a hn0 h1),rfl⟩
 ·go_enter Tryz.func176,Tryz.ntmps176
  go_wp2
  go_ret
  exact ⟨EP (by omega),rfl⟩
def AZ (z:Int) (w:World) (e:Ending) (w':World):Prop:=∃ h:Int,∃ l:Nat,e=.returned (.agg #[.int .i64 h,.int .u64 l])∧At z h l∧Below w.heap.size w w'
theorem JR (x y xh yh:Int) (xl yl:Nat) (w:World) (hx:At x xh xl) (hy:At y yh yl) :
  Calls Tryz.prog 184 #[.agg #[.int .i64 xh,.int .u64 xl],.agg #[.int .i64 yh,.int .u64 yl]] w (AZ (nS (x - y)) w):=by
 have r1:=fun w=>MQ xl yl w
 have L:=Jm hx hy
 have e1:IntKind.u64.wrap xh=(uw xh:Int):=by rw [aU,qF]
 have e2:IntKind.u64.wrap yh=(uw yh:Int):=by rw [aU,qF]
 obtain ⟨b,hb,hb1⟩:∃ b,(if xl < yl then 1 else 0)=b∧b≤1:=⟨_,rfl,by split <;> omega⟩
 rw [hb] at r1 L
 have r2:=fun w=>run_sub64 (uw xh) (uw yh) b hb1 w
 generalize uw xh=p at *
 generalize uw yh=q at *
 obtain ⟨m,hm⟩:∃ m,(p + 18446744073709551616 - q - b) % 18446744073709551616=m:=⟨_,rfl⟩
 obtain ⟨n,hn⟩:∃ n,(xl + 18446744073709551616 - yl) % 18446744073709551616=n:=⟨_,rfl⟩
 rw [hm] at r2 L
 rw [hn] at r1 L
 generalize (if p < q + b then 1 else 0)=b2 at r2
 have L:=aA L
 have e3:IntKind.i64.wrap (m:Int)=((m:Int) + 9223372036854775808) % 18446744073709551616 - 9223372036854775808:=aZ _
 generalize ((m:Int) + 9223372036854775808) % 18446744073709551616 - 9223372036854775808=H at *
 clear hm hn hb hx hy
 go_enter Tryz.func184,Tryz.ntmps184
 go_wp2
 refine aO (v:=.agg #[.int .i64 H,.int .u64 n]) (by simp [results,Tryz.results184,go_sem]) rfl ⟨_,_,rfl,L.out,by go_grown⟩
end Go.Proofs.YtbbhmhihpdmoiaaGreat.Fx
namespace Go.Proofs
open Go.Shelf
def Tryz.lays134_ren:Go.Shelf.Ren:=⟨fun | 134=>187 | 129=>188 | n=>n,fun | 53=>89 | 3=>3 | 4=>4 | 46=>68 | 5=>5 | 9=>9 | n=>n,fun | n=>n⟩
theorem Tryz.lays134:Go.Proofs.Lays.n134 Tryz.prog Tryz.lays134_ren:={
 mixed:=by kernel_rfl
 f129:=Tryz.func188.trans (congrArg some (by kernel_rfl))
 f134:=Tryz.func187.trans (congrArg some (by kernel_rfl))
 t3:=Tryz.underlying3
 a3:=Tryz.isAgg3
 z3:=Tryz.sizeOf3
 v3:=Tryz.zeroValue3
 t4:=Tryz.underlying4
 a4:=Tryz.isAgg4
 z4:=Tryz.sizeOf4
 v4:=Tryz.zeroValue4
 t5:=dM
 a5:=Tryz.isAgg5
 z5:=Tryz.sizeOf5
 v5:=Tryz.zeroValue5
 t9:=Tryz.underlying9
 a9:=Tryz.isAgg9
 z9:=Tryz.sizeOf9
 v9:=Tryz.zeroValue9
 t46:=Tryz.underlying68
 a46:=Tryz.isAgg68
 z46:=Tryz.sizeOf68
 v46:=Tryz.zeroValue68
 t53:=Tryz.underlying89
 a53:=Tryz.isAgg89
 z53:=Tryz.sizeOf89
 v53:=Tryz.zeroValue89 }
theorem Tryz.bits_LeadingZeros64 (x:Int) (w:World) (h0:0≤x) (h1:x≤18446744073709551615) :
  Calls Tryz.prog 187 #[.int .u64 x] w fun e w'=>e=.returned (.int .i64 (64 - (Lib.bitLen x.toNat:Int)))∧w'=w:=Any.bits_LeadingZeros64 Tryz.lays134 x w h0 h1
def Tryz.lays264_ren:Go.Shelf.Ren:=⟨fun | 264=>183 | n=>n,fun | 53=>89 | 46=>68 | n=>n,fun | n=>n⟩
theorem Tryz.lays264:Go.Proofs.Lays.n264 Tryz.prog Tryz.lays264_ren:={
 mixed:=by kernel_rfl
 f264:=Tryz.func183.trans (congrArg some (by kernel_rfl))
 t46:=Tryz.underlying68
 a46:=Tryz.isAgg68
 z46:=Tryz.sizeOf68
 v46:=Tryz.zeroValue68
 t53:=Tryz.underlying89
 a53:=Tryz.isAgg89
 z53:=Tryz.sizeOf89
 v53:=Tryz.zeroValue89 }
open Go.RowKit Go.Lib in
theorem Tryz.bits_Mul64 (x y:Nat) (hx:x < 18446744073709551616) (hy:y < 18446744073709551616) (w:World) :
  Calls Tryz.prog 183 #[.int .u64 x,.int .u64 y] w fun e w'=>e=.returned (.tuple #[.int .u64 ((x * y / 18446744073709551616:Nat):Int),.int .u64 ((x * y % 18446744073709551616:Nat):Int)])∧w'=w:=Any.bits_Mul64 Tryz.lays264 x y hx hy w
end Go.Proofs
namespace Go.Proofs.YtbbhmhihpdmoiaaGreat.Wm
theorem Ni {n h l:Nat} (a:Na n h l):At (nS (n:Int)) (((h:Int) + 9223372036854775808) % 18446744073709551616 - 9223372036854775808) l:=by
 unfold Na At nS at *
 omega
theorem YE (z:Int):nS (0 - nS z)=nS (-z):=by unfold nS;omega
theorem at_na {z h:Int} {l:Nat} (a:At z h l) (hz:0≤z):Na z.natAbs (uw h) l:=by
 have:=qF h
 unfold At Na at *
 omega
theorem WE {x h:Int} {l:Nat} (hx:In x) (a:At (nS (0 - x)) h l) (hz:x < 0):Na x.natAbs (uw h) l:=by
 have:=qF h
 unfold At Na In nS at *
 omega
theorem Qv {n h l c:Nat} (a:Na n h l) (hc:0 < c) (hc2:c < 18446744073709551616):Na (n / c) (h / c) ((h % c * 18446744073709551616 + l) / c)∧n % c=(h % c * 18446744073709551616 + l) % c:=by
 obtain ⟨a1,a2,a3⟩:=a
 have e1:=Nat.div_add_mod h c
 have e2:n=c * (h / c * 18446744073709551616) + (h % c * 18446744073709551616 + l):=by
  rw [a1,←Nat.mul_assoc,←Nat.add_assoc,←Nat.add_mul,e1]
 have hr:=cK h hc
 refine ⟨⟨?_,?_,?_⟩,?_⟩
 ·rw [e2,Nat.mul_add_div hc]
 ·refine (Nat.div_lt_iff_lt_mul hc).2 ?_
  have : (h % c + 1) * 18446744073709551616≤c * 18446744073709551616:=Nat.mul_le_mul_right _ hr
  rw [bN 18446744073709551616]
  omega
 ·exact Nat.lt_of_le_of_lt (Nat.div_le_self _ _) a3
 ·rw [e2,Nat.mul_add_mod]
theorem Jg {n h l c:Nat} (a:Na n h l) (hc:c < 18446744073709551616):Na ((n + c) % 340282366920938463463374607431768211456) ((h + (l + c) / 18446744073709551616) % 18446744073709551616) ((l + c) % 18446744073709551616):=by
 unfold Na at *
 omega
end Go.Proofs.YtbbhmhihpdmoiaaGreat.Wm
namespace Go.Proofs.YtbbhmhihpdmoiaaGreat.Fx
open Go.RowKit Wm
def OO (n:Nat) (w:World) (e:Ending) (w':World):Prop:=∃ h l:Nat,e=.returned (.agg #[.int .u64 h,.int .u64 l])∧Na n h l∧Below w.heap.size w w'
theorem ML (h l:Nat) (H:Int) (w:World) (e1:IntKind.i64.wrap (h:Int)=H) :
  Calls Tryz.prog 179 #[.agg #[.int .u64 h,.int .u64 l],.bool false] w fun e w'=>e=.returned (.agg #[.int .i64 H,.int .u64 l])∧Below w.heap.size w w':=by
 go_enter Tryz.func179,Tryz.ntmps179
 go_wp2
 refine aO (v:=.agg #[.int .i64 H,.int .u64 l]) (by simp [results,Tryz.results179,go_sem]) rfl ⟨rfl,by go_grown⟩
theorem MN (h l:Nat) (H:Int) (Z z:Int) (w:World) (e1:IntKind.i64.wrap (h:Int)=H) (ha:At Z H l) (hz:Hid (nS (0 - Z)=z)) :
  Calls Tryz.prog 179 #[.agg #[.int .u64 h,.int .u64 l],.bool true] w (AZ z w):=by
 have ha0:At 0 0 0:=by unfold At;omega
 have A0:=aA ha0
 have A1:=aA ha
 clear ha0 ha
 go_enter Tryz.func179,Tryz.ntmps179
 go_wp2_with fail
 refine (JR 0 Z 0 H 0 l _ A0.out A1.out).mono ?_
 rintro e w' ⟨a,b,rfl,hat,hb⟩
 obtain ⟨hc,hf⟩:=KR hb
 have hat:=aA hat
 have hs:=hb.size
 simp only [aR] at hs
 have hz0:w.heap.size < w'.heap.size:=by omega
 have hz2:w.heap.size + 1 + 1 < w'.heap.size:=by omega
 have hz1:w.heap.size + 1 < w'.heap.size:=by omega
 go_wp2
 refine aO (v:=.agg #[.int .i64 a,.int .u64 b]) (by simp [results,Tryz.results179,go_sem, *]) rfl ⟨_,_,rfl,by rw [←hz.out];exact hat.out,?_⟩
 repeat' (first | (with_reducible exact aI _ _) | (with_reducible assumption) | (with_reducible refine Below.drew ?_) | (with_reducible refine Below.setCell ?_ ?_ _) | (with_reducible refine dY ?_ (by assumption)) | (with_reducible refine Below.alloc ?_ ?_ _) | go_size)
theorem yQ (n h l:Nat) (b:Bool) (w:World) (a:Na n h l) :
  Calls Tryz.prog 179 #[.agg #[.int .u64 h,.int .u64 l],.bool b] w (AZ (nS (if b=true then -(n:Int) else n)) w):=by
 cases b with
 | false=>exact (ML h l _ w (aZ _)).mono fun e w' ⟨he,hb⟩=>⟨_,_,he,by simpa using Ni a,hb⟩
 | true=>exact MN h l _ _ _ w (aZ _) (Ni a) (aA (by rw [YE];simp))
theorem EL (h:Int) (l p:Nat) (w:World) (Hb:Hid (decide (h < 0)=false)) (e1:IntKind.u64.wrap h=(p:Int)) :
  Calls Tryz.prog 174 #[.agg #[.int .i64 h,.int .u64 l]] w fun e w'=>e=.returned (.agg #[.int .u64 p,.int .u64 l])∧Below w.heap.size w w':=by
 go_enter Tryz.func174,Tryz.ntmps174
 go_wp2_with fail
 refine (gB h l _ _ Hb).mono ?_
 rintro e w' ⟨rfl,hb⟩
 obtain ⟨hc,hf⟩:=KR hb
 have hs:=hb.size
 simp only [aR] at hs
 have hz0:w.heap.size < w'.heap.size:=by omega
 have hz1:w.heap.size + 1 < w'.heap.size:=by omega
 go_wp2
 refine aO (v:=.agg #[.int .u64 p,.int .u64 l]) (by simp [results,Tryz.results174,go_sem, *]) rfl ⟨rfl,?_⟩
 repeat' (first | (with_reducible exact aI _ _) | (with_reducible assumption) | (with_reducible refine Below.drew ?_) | (with_reducible refine Below.setCell ?_ ?_ _) | (with_reducible refine dY ?_ (by assumption)) | (with_reducible refine Below.alloc ?_ ?_ _) | go_size)
theorem EM (x h:Int) (l n:Nat) (w:World) (Hb:Hid (decide (h < 0)=true)) (ha:At x h l) (hn:∀ a b,At (nS (0 - x)) a b→Na n (uw a) b) :
  Calls Tryz.prog 174 #[.agg #[.int .i64 h,.int .u64 l]] w (OO n w):=by
 have A0:Hid (At 0 0 0):=aA (by unfold At;omega)
 have A1:=aA ha
 have HN:=aA hn
 clear ha hn
 go_enter Tryz.func174,Tryz.ntmps174
 go_wp2_with fail
 refine (gB h l _ _ Hb).mono ?_
 rintro e w1 ⟨rfl,hb⟩
 obtain ⟨hc,hf⟩:=KR hb
 have hs:=hb.size
 simp only [aR] at hs
 have hz0:w.heap.size < w1.heap.size:=by omega
 have hz1:w.heap.size + 1 < w1.heap.size:=by omega
 go_wp2_with fail
 refine (JR 0 x 0 h 0 l _ A0.out A1.out).mono ?_
 rintro e w2 ⟨a,b,rfl,hat,hb2⟩
 obtain ⟨hc2,hf2⟩:=KR hb2
 have hs2:=hb2.size
 have hy0:w.heap.size < w2.heap.size:=by omega
 have hy1:w.heap.size + 1 < w2.heap.size:=by omega
 have k0:w2.cell? ⟨w.heap.size,0,none⟩=some (.int .i64 h):=by simp [go_sem,hc2,hc,hz0,hz1]
 have f0:w2.frozen? ⟨w.heap.size,0,none⟩=false:=by simp [go_sem,hf2,hf,hz0,hz1]
 have k1:w2.cell? ⟨w.heap.size,1,none⟩=some (.int .u64 l):=by simp [go_sem,hc2,hc,hz0,hz1]
 have f1:w2.frozen? ⟨w.heap.size,1,none⟩=false:=by simp [go_sem,hf2,hf,hz0,hz1]
 have k2:w2.cell? ⟨w.heap.size + 1,0,none⟩=some (.int .u64 0):=by simp [go_sem,hc2,hc,hz0,hz1]
 have f2:w2.frozen? ⟨w.heap.size + 1,0,none⟩=false:=by simp [go_sem,hf2,hf,hz0,hz1]
 have k3:w2.cell? ⟨w.heap.size + 1,1,none⟩=some (.int .u64 0):=by simp [go_sem,hc2,hc,hz0,hz1]
 have f3:w2.frozen? ⟨w.heap.size + 1,1,none⟩=false:=by simp [go_sem,hf2,hf,hz0,hz1]
 clear hc hf hc2 hf2
 have hna:=aA (HN.out _ _ hat)
 have e1:IntKind.u64.wrap a=(uw a:Int):=by rw [aU,qF]
 generalize uw a=p at *
 clear hat HN
 go_wp2
 refine aO (v:=.agg #[.int .u64 p,.int .u64 b]) (by simp [results,Tryz.results174,go_sem, *]) rfl ⟨_,_,rfl,hna.out,?_⟩
 repeat' (first | (with_reducible exact aI _ _) | (with_reducible assumption) | (with_reducible refine Below.drew ?_) | (with_reducible refine Below.setCell ?_ ?_ _) | (with_reducible refine dY ?_ (by assumption)) | (with_reducible refine Below.alloc ?_ ?_ _) | go_size)
theorem MH (x h:Int) (l:Nat) (w:World) (a:At x h l) :
  Calls Tryz.prog 174 #[.agg #[.int .i64 h,.int .u64 l]] w (OO x.natAbs w):=by
 by_cases hx:x < 0
 ·exact EM x h l _ w (aA (by simpa using a.neg.2 hx)) a (fun p q h=>WE a.inn h hx)
 ·have hh:¬ h < 0:=fun h=>hx (a.neg.1 h)
  exact (EL h l (uw h) w (aA (by simpa using hh)) (by rw [aU,qF])).mono fun e w' ⟨he,hb⟩=>⟨_,_,he,at_na a (by omega),hb⟩
theorem Qn (h l c m k n:Nat) (w:World) (r1:∀ w,(callFunc 182 #[.int .u64 l,.int .u64 c,.int .u64 0]).run Tryz.prog w=.ok (.value (.tuple #[.int .u64 (m:Int),.int .u64 (k:Int)])) w) (e1:IntKind.u64.wrap ((h:Int) + (k:Int))=(n:Int)) :
  Calls Tryz.prog 178 #[.agg #[.int .u64 h,.int .u64 l],.int .u64 c] w fun e w'=>e=.returned (.agg #[.int .u64 n,.int .u64 m])∧Below w.heap.size w w':=by
 go_enter Tryz.func178,Tryz.ntmps178
 go_wp2
 refine aO (v:=.agg #[.int .u64 n,.int .u64 m]) (by simp [results,Tryz.results178,go_sem]) rfl ⟨rfl,by go_grown⟩
theorem Ad (x h l c:Nat) (w:World) (a:Na x h l) (hc:c < 18446744073709551616) :
  Calls Tryz.prog 178 #[.agg #[.int .u64 h,.int .u64 l],.int .u64 c] w (OO ((x + c) % 340282366920938463463374607431768211456) w) :=
 (Qn h l c _ _ _ w (yS l c) (by rw [aU];exact (Int.natCast_emod (h + (l + c) / 18446744073709551616) 18446744073709551616).symm)).mono fun e w' ⟨he,hb⟩=>⟨_,_,he,Jg a hc,hb⟩
end Go.Proofs.YtbbhmhihpdmoiaaGreat.Fx
namespace Go.Proofs.YtbbhmhihpdmoiaaGreat.Wm
def tF (z:Int):Int:=if In z then z else 0
def CP (z:Int):Int:=if In z then 0 else 20
theorem At.zero:At 0 0 0:=by unfold At;omega
theorem Te {x y xh yh:Int} {xl yl:Nat} (hx:At x xh xl) (hy:At y yh yl) :
  At (nS (x + y)) (((((uw xh + uw yh + (xl + yl) / 18446744073709551616) % 18446744073709551616:Nat):Int) + 9223372036854775808) % 18446744073709551616 - 9223372036854775808) ((xl + yl) % 18446744073709551616):=by
 have a:=qF xh
 have b:=qF yh
 have a':=PD xh
 have b':=PD yh
 generalize uw xh=p at *
 generalize uw yh=q at *
 unfold At nS at *
 omega
theorem Eb {x y z:Int} (hx:In x) (hy:In y) (hz:nS (x + y)=z):In (x + y)↔((x < 0↔y < 0)→(z < 0↔x < 0)):=by
 subst hz
 unfold In nS at *
 omega
end Go.Proofs.YtbbhmhihpdmoiaaGreat.Wm
namespace Go.Proofs.YtbbhmhihpdmoiaaGreat.Fx
open Go.RowKit Wm
def Tn (z:Int) (w:World) (e:Ending) (w':World):Prop:=∃ h:Int,∃ l:Nat,e=.returned (.tuple #[.agg #[.int .i64 h,.int .u64 l],.int .i64 (CP z)])∧At (tF z) h l∧Below w.heap.size w w'
theorem PT {z z' h:Int} {l:Nat} {w w':World} (hi:In z) (hz:nS z=z') (ha:At z' h l) (hb:Below w.heap.size w w'):Tn z w (.returned (.tuple #[.agg #[.int .i64 h,.int .u64 l],.int .i64 0])) w' :=
 ⟨h,l,by rw [CP,aT hi],by rw [tF,aT hi];rw [←xJ hi,hz];exact ha,hb⟩
theorem ZV {z:Int} {w w':World} (hi:¬ In z) (hb:Below w.heap.size w w'):Tn z w (.returned (.tuple #[.agg #[.int .i64 0,.int .u64 0],.int .i64 20])) w' :=
 ⟨0,0,by rw [CP,aX hi];rfl,by rw [tF,aX hi];exact At.zero,hb⟩
def Words (f:Nat) (x y c s d:Nat):Prop:=∀ w,(callFunc f #[.int .u64 x,.int .u64 y,.int .u64 c]).run Tryz.prog w=.ok (.value (.tuple #[.int .u64 (s:Int),.int .u64 (d:Int)])) w
def lV (f:Nat) (x y s d:Nat):Prop:=∀ w,(callFunc f #[.int .u64 x,.int .u64 y,.int .u64 0]).run Tryz.prog w=.ok (.value (.tuple #[.int .u64 (s:Int),.int .u64 (d:Int)])) w
end Go.Proofs.YtbbhmhihpdmoiaaGreat.Fx
namespace Go.Proofs.YtbbhmhihpdmoiaaGreat.Wm
theorem Az (a b:Int) (ha0:-9223372036854775808≤a) (ha1:a≤9223372036854775807) (hb0:-9223372036854775808≤b) (hb1:b≤9223372036854775807) :
  Na (a.natAbs * b.natAbs) (a.natAbs * b.natAbs / 18446744073709551616) (a.natAbs * b.natAbs % 18446744073709551616)∧a.natAbs * b.natAbs≤85070591730234615865843651857942052864:=by
 have h:a.natAbs * b.natAbs≤9223372036854775808 * 9223372036854775808:=Nat.mul_le_mul (by omega) (by omega)
 generalize a.natAbs * b.natAbs=n at *
 unfold Na
 omega
theorem JO (a b:Int):(if (decide (a < 0) != decide (b < 0))=true then -((a.natAbs * b.natAbs:Nat):Int) else ((a.natAbs * b.natAbs:Nat):Int))=a * b:=by
 have ea:a < 0→a=-(a.natAbs:Int):=by omega
 have ea':¬ a < 0→a=(a.natAbs:Int):=by omega
 have eb:b < 0→b=-(b.natAbs:Int):=by omega
 have eb':¬ b < 0→b=(b.natAbs:Int):=by omega
 rw [Int.natCast_mul]
 by_cases h1:a < 0 <;> by_cases h2:b < 0 <;> simp only [h1,h2]
 ·rw [aX (by decide)];conv=>rhs;rw [ea h1,eb h2,Int.neg_mul_neg]
 ·rw [aT (by decide)];conv=>rhs;rw [ea h1,eb' h2,Int.neg_mul]
 ·rw [aT (by decide)];conv=>rhs;rw [ea' h1,eb h2,Int.mul_neg]
 ·rw [aX (by decide)];conv=>rhs;rw [ea' h1,eb' h2]
theorem Qx (a b:Int) (ha0:-9223372036854775808≤a) (ha1:a≤9223372036854775807) (hb0:-9223372036854775808≤b) (hb1:b≤9223372036854775807):In (a * b):=by
 have h:=(Az a b ha0 ha1 hb0 hb1).2
 rw [←JO a b]
 generalize a.natAbs * b.natAbs=n at *
 unfold In
 split <;> omega
end Go.Proofs.YtbbhmhihpdmoiaaGreat.Wm
namespace Go.Proofs.YtbbhmhihpdmoiaaGreat.Fx
open Go.RowKit Wm
theorem of_w (a H:Int) (p:Nat) (w:World) (e1:a / 9223372036854775808=H) (e2:IntKind.u64.wrap a=(p:Int)) :
  Calls Tryz.prog 180 #[.int .i64 a] w fun e w'=>e=.returned (.agg #[.int .i64 H,.int .u64 p])∧Below w.heap.size w w':=by
 go_enter Tryz.func180,Tryz.ntmps180
 go_wp2
 refine aO (v:=.agg #[.int .i64 H,.int .u64 p]) (by simp [results,Tryz.results180,go_sem, *]) rfl ⟨rfl,?_⟩
 repeat' (first | (with_reducible exact aI _ _) | (with_reducible assumption) | (with_reducible refine Below.drew ?_) | (with_reducible refine Below.setCell ?_ ?_ _) | (with_reducible refine dY ?_ (by assumption)) | (with_reducible refine Below.alloc ?_ ?_ _) | go_size)
theorem Wn (a b:Int) (p q h l:Nat) (s:Bool) (z:Int) (w:World) (ra:∀ w,Calls Tryz.prog 176 #[.int .i64 a] w fun e w'=>e=.returned (.int .u64 (p:Int))∧w=w') (rb:∀ w,Calls Tryz.prog 176 #[.int .i64 b] w fun e w'=>e=.returned (.int .u64 (q:Int))∧w=w')
  (rm:∀ w,Calls Tryz.prog 183 #[.int .u64 p,.int .u64 q] w fun e w'=>e=.returned (.tuple #[.int .u64 (h:Int),.int .u64 (l:Int)])∧w'=w)
  (hs:Hid ((!(decide (a < 0) == decide (b < 0)))=s)) (rs:∀ w,Calls Tryz.prog 179 #[.agg #[.int .u64 h,.int .u64 l],.bool s] w (AZ z w)) :
  Calls Tryz.prog 173 #[.int .i64 a,.int .i64 b] w (AZ z w):=by
 have RA:=aA ra
 have RB:=aA rb
 have RM:=aA rm
 have RS:=aA rs
 clear ra rb rm rs
 go_enter Tryz.func173,Tryz.ntmps173
 go_wp2_with fail
 refine (RA.out _).mono ?_
 rintro e w' ⟨rfl,rfl⟩
 go_wp2_with fail
 refine (RB.out _).mono ?_
 rintro e w' ⟨rfl,rfl⟩
 go_wp2_with fail
 refine (RM.out _).mono ?_
 rintro e w' ⟨rfl,rfl⟩
 go_wp2_with fail
 rw [hs.out]
 refine (RS.out _).mono ?_
 rintro e w1 ⟨H,n,rfl,hat,hb⟩
 have hat:=aA hat
 obtain ⟨hc,hf⟩:=KR hb
 have hs:=hb.size
 simp only [aR] at hs
 have hz0:w.heap.size < w1.heap.size:=by omega
 go_wp2
 refine aO (v:=.agg #[.int .i64 H,.int .u64 n]) (by simp [results,Tryz.results173,go_sem, *]) rfl ⟨_,_,rfl,hat.out,?_⟩
 repeat' (first | (with_reducible exact aI _ _) | (with_reducible assumption) | (with_reducible refine Below.drew ?_) | (with_reducible refine Below.setCell ?_ ?_ _) | (with_reducible refine dY ?_ (by assumption)) | (with_reducible refine Below.alloc ?_ ?_ _) | go_size)
theorem xV (a b:Int) (w:World) (ha0:-9223372036854775808≤a) (ha1:a≤9223372036854775807) (hb0:-9223372036854775808≤b) (hb1:b≤9223372036854775807) :
  Calls Tryz.prog 173 #[.int .i64 a,.int .i64 b] w (AZ (a * b) w):=by
 have M:=(Az a b ha0 ha1 hb0 hb1).1
 refine Wn a b a.natAbs b.natAbs _ _ _ _ w (fun w=>yO a w ha0 ha1) (fun w=>yO b w hb0 hb1) (fun w=>Tryz.bits_Mul64 _ _ (by omega) (by omega) w) (aA rfl) (fun w=>?_)
 have S:=yQ _ _ _ (decide (a < 0) != decide (b < 0)) w M
 rw [JO,xJ (Qx a b ha0 ha1 hb0 hb1)] at S
 exact S
end Go.Proofs.YtbbhmhihpdmoiaaGreat.Fx
namespace Go.Proofs.YtbbhmhihpdmoiaaGreat.Fx
open Go Go.RowKit Wm
def In64 (x:Int):Prop:=-9223372036854775808≤x∧x < 9223372036854775808
instance (z:Int):Decidable (In64 z):=by unfold In64;infer_instance
theorem Xm (h H n:Int) (l:Nat) (r s:Int) (w:World) (e0:IntKind.i64.wrap (l:Int)=n) (e1:n / 9223372036854775808=H) (e2:IntKind.u64.wrap n=(l:Int))
  (hc:h=H∧r=n∧s=0∨(h == H)=false∧r=0∧s=20) :
  Calls Tryz.prog 163 #[.agg #[.int .i64 h,.int .u64 l]] w fun e w'=>e=.returned (.tuple #[.int .i64 r,.int .i64 s])∧Below w.heap.size w w':=by
 have RO:=aA (fun w=>of_w n H l w e1 e2)
 clear e1 e2
 rcases hc with ⟨rfl,rfl,rfl⟩ | ⟨c,rfl,rfl⟩
 all_goals
  go_enter Tryz.func163,Tryz.ntmps163
  go_wp2
  go_region_held3 (fun w'=>w'.cell? ⟨w.heap.size,0,none⟩=some (.int .i64 h)∧w'.cell? ⟨w.heap.size,1,none⟩=some (.int .u64 l)∧Below w.heap.size w w')
   (first | (go_split_ands;refine ⟨dN (by assumption) (by assumption),dN (by assumption) (by assumption),dY (by assumption) (by assumption)⟩) | (refine ⟨?_,?_,?_⟩ <;> first | (with_reducible assumption) | (go_grown;done) | (simp [go_sem, *];done)))
   ((go_at_call 180;(with_reducible refine (RO.out _).mono ?_);rintro e w' ⟨rfl,hbb⟩))
  go_split_ands
  go_wp2
  go_ret2
  exact ⟨rfl,by repeat' (first | (with_reducible exact aI _ _) | (with_reducible assumption) | (with_reducible refine Below.drew ?_) | (with_reducible refine Below.setCell ?_ ?_ _) | (with_reducible refine dY ?_ (by assumption)) | (with_reducible refine Below.alloc ?_ ?_ _) | go_size)⟩
theorem Jp (x a:Int) (k:Nat) (w:World) (hx:At x a k) :
  Calls Tryz.prog 163 #[.agg #[.int .i64 a,.int .u64 k]] w fun e w'=>e=.returned (.tuple #[.int .i64 (if In64 x then x else 0),.int .i64 (if In64 x then 0 else 20)])∧Below w.heap.size w w':=by
 have hk:=hx.2.1
 have e0:IntKind.i64.wrap (k:Int)=((k:Int) + 9223372036854775808) % 18446744073709551616 - 9223372036854775808:=aZ _
 obtain ⟨n,hn⟩:∃ n,((k:Int) + 9223372036854775808) % 18446744073709551616 - 9223372036854775808=n:=⟨_,rfl⟩
 rw [hn] at e0
 refine Xm a _ n k _ _ w e0 rfl (by rw [aU];omega) ?_
 by_cases h:In64 x
 ·left
  rw [aT h,aT h]
  unfold In64 at h
  unfold At at hx
  omega
 ·right
  rw [aX h,aX h]
  refine ⟨?_,rfl,rfl⟩
  unfold In64 at h
  unfold At at hx
  simp
  omega
end Go.Proofs.YtbbhmhihpdmoiaaGreat.Fx
namespace Go.Proofs.YtbbhmhihpdmoiaaGreat.Fm
theorem Wo {u u1 y1 y0 q r:Nat} (hu:u=q * y1 + r) (h:q * y0≤4294967296 * r + u1):q * (y1 * 4294967296 + y0)≤u * 4294967296 + u1:=by
 have e1:q * (y1 * 4294967296 + y0)=q * y1 * 4294967296 + q * y0:=by rw [Nat.mul_add,Nat.mul_assoc]
 rw [e1,hu]
 omega
theorem Wp {u u1 y1 y0 q r:Nat} (hu:u=q * y1 + r) (h:4294967296 * r + u1 < q * y0):u * 4294967296 + u1 < q * (y1 * 4294967296 + y0):=by
 have e1:q * (y1 * 4294967296 + y0)=q * y1 * 4294967296 + q * y0:=by rw [Nat.mul_add,Nat.mul_assoc]
 rw [e1,hu]
 omega
theorem EH (y:Nat):y / 4294967296 * 4294967296 + y % 4294967296=y:=by omega
def Q (u u1 y:Nat):Nat:=(u * 4294967296 + u1) / y
def R (u u1 y:Nat):Nat:=(u * 4294967296 + u1) % y
theorem Q_le {u u1 y q r:Nat} (hy:0 < y) (hu:u=q * (y / 4294967296) + r) (h:q * (y % 4294967296)≤4294967296 * r + u1):q≤Q u u1 y:=by
 have:=Wo hu h
 rw [EH] at this
 exact (Nat.le_div_iff_mul_le hy).2 this
theorem Q_lt {u u1 y q r:Nat} (hy:0 < y) (hu:u=q * (y / 4294967296) + r) (h:4294967296 * r + u1 < q * (y % 4294967296)):Q u u1 y < q:=by
 have:=Wp hu h
 rw [EH] at this
 exact (Nat.div_lt_iff_lt_mul hy).2 this
theorem GK {u u1 y:Nat} (hu:u < y) (h1:u1 < 4294967296):Q u u1 y < 4294967296:=by
 refine (Nat.div_lt_iff_lt_mul (by omega)).2 ?_
 omega
theorem Lr {u u1 y:Nat} (hy:0 < y):R u u1 y < y:=cK _ hy
theorem QR (u u1 y:Nat):u * 4294967296 + u1=Q u u1 y * y + R u u1 y:=by
 have:=Nat.div_add_mod (u * 4294967296 + u1) y
 unfold Q R
 rw [bN y] at this
 exact this.symm
theorem PV {u u1 y:Nat} (hy:9223372036854775808≤y) (hu:u < y):Q u u1 y≤u / (y / 4294967296)∨4294967296≤u1:=by
 by_cases h1:4294967296≤u1
 ·exact .inr h1
 ·left
  refine Nat.le_of_lt_succ ((Nat.div_lt_iff_lt_mul (by omega)).2 ?_)
  have hp:0 < y / 4294967296:=by omega
  have a:=Nat.lt_mul_div_succ u hp
  have e:(u / (y / 4294967296)).succ * y=(y / 4294967296) * (u / (y / 4294967296) + 1) * 4294967296 + (u / (y / 4294967296) + 1) * (y % 4294967296):=by
   have:=EH y
   rw [Nat.succ_eq_add_one]
   generalize u / (y / 4294967296) + 1=c
   rw [bN (y / 4294967296) c,Nat.mul_assoc,←Nat.mul_add,this]
  rw [e]
  generalize (y / 4294967296) * (u / (y / 4294967296) + 1)=k at *
  omega
theorem PX {u y:Nat} (hy:9223372036854775808≤y) (hu:u < y):u / (y / 4294967296)≤4294967297:=by
 refine Nat.le_of_lt_succ ((Nat.div_lt_iff_lt_mul (by omega)).2 ?_)
 omega
theorem Qg {u u1 y q r:Nat} (hy:0 < y) (hu:u < y) (h1:u1 < 4294967296) (he:u=q * (y / 4294967296) + r) (ht:4294967296≤q∨4294967296 * r + u1 < q * (y % 4294967296)):Q u u1 y≤q - 1∧1≤q:=by
 have hs:=GK hu h1
 rcases ht with h | h
 ·omega
 ·have:=Q_lt hy he h
  omega
theorem Qh {u y1 q r:Nat} (h1:1≤q) (he:u=q * y1 + r):u=(q - 1) * y1 + (r + y1):=by
 obtain ⟨k,rfl⟩:∃ k,q=k + 1:=⟨q - 1,by omega⟩
 rw [he,Nat.add_mul]
 simp
 omega
theorem Qf {u u1 y q r:Nat} (hy:0 < y) (he:u=q * (y / 4294967296) + r) (hq:q≤4294967296) (hr:4294967296≤r) (hQ:Q u u1 y≤q):q=Q u u1 y:=by
 refine Nat.le_antisymm (Q_le hy he ?_) hQ
 have h0:y % 4294967296≤4294967295:=by omega
 have a:=Nat.mul_le_mul hq h0
 omega
theorem Qi {u u1 y q r:Nat} (hy:0 < y) (he:u=q * (y / 4294967296) + r) (h:q * (y % 4294967296)≤4294967296 * r + u1) (hQ:Q u u1 y≤q):q=Q u u1 y :=
 Nat.le_antisymm (Q_le hy he h) hQ
theorem MU (q y c:Nat) (r:Nat) (h:c=q * y + r) (hr:r < 18446744073709551616):((c:Int) % 18446744073709551616 - ((q * y:Nat):Int) % 18446744073709551616) % 18446744073709551616=(r:Int):=by
 generalize q * y=k at *
 subst h
 rw [←Int.sub_emod,Int.natCast_add,Int.add_comm,Int.add_sub_cancel]
 exact Int.emod_eq_of_lt (by omega) (by omega)
theorem OA {N y s a b:Nat} (hy:0 < y) (h:N * 2 ^ s=a * (y * 2 ^ s) + b) (hb:b < y * 2 ^ s):a=N / y∧b=(N % y) * 2 ^ s:=by
 have hp:0 < 2 ^ s:=Nat.two_pow_pos s
 have e1:N * 2 ^ s / (y * 2 ^ s)=N / y:=Nat.mul_div_mul_right N y hp
 have e2:N * 2 ^ s % (y * 2 ^ s)=(N % y) * 2 ^ s:=Nat.mul_mod_mul_right (2 ^ s) N y
 have hys:0 < y * 2 ^ s:=Nat.mul_pos hy hp
 have e3:N * 2 ^ s / (y * 2 ^ s)=a:=by
  rw [h,Nat.add_comm,bN a,Nat.add_mul_div_left _ _ hys,Nat.div_eq_of_lt hb];omega
 have e4:N * 2 ^ s % (y * 2 ^ s)=b:=by
  rw [h,Nat.add_comm,bN a,Nat.add_mul_mod_self_left,Nat.mod_eq_of_lt hb]
 exact ⟨by omega,by omega⟩
theorem parts {hi lo s:Nat} (hs:s≤64) :
  (hi * 18446744073709551616 + lo) * 2 ^ s=(hi * 2 ^ s + lo / 2 ^ (64 - s)) * 18446744073709551616 + lo * 2 ^ s % 18446744073709551616:=by
 have hp:(18446744073709551616:Nat)=2 ^ (64 - s) * 2 ^ s:=by rw [←Nat.pow_add];rw [show 64 - s + s=64 from by omega]
 have e1:lo * 2 ^ s / 18446744073709551616=lo / 2 ^ (64 - s):=by rw [hp];exact Nat.mul_div_mul_right _ _ (Nat.two_pow_pos s)
 have e2:=Nat.div_add_mod (lo * 2 ^ s) 18446744073709551616
 rw [e1] at e2
 rw [Nat.add_mul,Nat.add_mul,Nat.mul_right_comm]
 omega
theorem Xl {U a c r d v1 v0:Nat} (q1:U + v1=a + r) (q2:r * 4294967296 + v0=c + d):U * 4294967296 + (4294967296 * v1 + v0)=a * 4294967296 + c + d:=by
 rw [bN U,bN a,←Nat.add_assoc,←Nat.mul_add,q1,Nat.mul_add,Nat.add_assoc,Nat.add_assoc,bN _ r,q2]
theorem join {u v a c r d v1 v0:Nat} (q1:u * 4294967296 + v1=a + r) (q2:r * 4294967296 + v0=c + d) (hv:4294967296 * v1 + v0=v):u * 18446744073709551616 + v=a * 4294967296 + c + d:=by
 have e:u * 18446744073709551616=u * 4294967296 * 4294967296:=by rw [Nat.mul_assoc]
 rw [e,←hv]
 exact Xl q1 q2
theorem Sg {hi lo y s:Nat} (hs:s≤64) (hlo:lo < 18446744073709551616) (hhi:hi < y) (hn:9223372036854775808≤y * 2 ^ s) (hn2:y * 2 ^ s < 18446744073709551616) :
  let Y:=y * 2 ^ s
  let u:=hi * 2 ^ s + lo / 2 ^ (64 - s)
  let v:=lo * 2 ^ s % 18446744073709551616
  u < Y∧(Q u (v / 4294967296) Y) * 4294967296 + Q (R u (v / 4294967296) Y) (v % 4294967296) Y=(hi * 18446744073709551616 + lo) / y ∧
   R (R u (v / 4294967296) Y) (v % 4294967296) Y=((hi * 18446744073709551616 + lo) % y) * 2 ^ s:=by
 intro Y u v
 have hY:0 < Y:=by omega
 have hy:0 < y:=by omega
 have hu:u < Y:=by
  have a:lo / 2 ^ (64 - s) < 2 ^ s:=by
   refine (Nat.div_lt_iff_lt_mul (Nat.two_pow_pos _)).2 ?_
   rw [←Nat.pow_add,show s + (64 - s)=64 from by omega]
   exact hlo
  have b:(hi + 1) * 2 ^ s≤y * 2 ^ s:=Nat.mul_le_mul_right _ hhi
  rw [Nat.add_mul] at b
  show hi * 2 ^ s + lo / 2 ^ (64 - s) < y * 2 ^ s
  omega
 have p:=parts (hi:=hi) (lo:=lo) hs
 have q1:=QR u (v / 4294967296) Y
 have q2:=QR (R u (v / 4294967296) Y) (v % 4294967296) Y
 have r2:=Lr (u:=R u (v / 4294967296) Y) (u1:=v % 4294967296) hY
 refine ⟨hu,?_⟩
 refine OA hy ?_ r2
 show (hi * 18446744073709551616 + lo) * 2 ^ s=(Q u (v / 4294967296) Y * 4294967296 + Q (R u (v / 4294967296) Y) (v % 4294967296) Y) * Y + _
 rw [p]
 show u * 18446744073709551616 + v=_
 generalize R u (v / 4294967296) Y=r at *
 generalize Q r (v % 4294967296) Y=qq at *
 generalize Q u (v / 4294967296) Y=q at *
 have e:(q * 4294967296 + qq) * Y=q * Y * 4294967296 + qq * Y:=by rw [Nat.add_mul,Nat.mul_right_comm]
 rw [e]
 have hv:=Nat.div_add_mod v 4294967296
 clear_value u v Y
 exact join q1 q2 hv
end Go.Proofs.YtbbhmhihpdmoiaaGreat.Fm
