import Derived.Test.YtbbhmhihpdmoiaaGreatJfz
set_option linter.unusedVariables false
set_option linter.unusedSimpArgs false
set_option maxRecDepth 100000
set_option maxHeartbeats 32000000
namespace Go.Proofs.YtbbhmhihpdmoiaaGreat.Pk
open Go Go.RowKit
theorem vT {B:Nat}{w w':World}(n:Nat)(h:Below B (w.drewN n) w'):Below B w w':=⟨h.os,h.tape,h.output,h.size,h.block⟩
theorem eM (B:Nat)(w:World)(n:Nat):Below B w (w.drewN n):=vT n (aJ _ _)
theorem nV {B:Nat}{a w:World}(n:Nat)(h:Below B a w):Below B a (w.drewN n):=⟨h.os,h.tape,h.output,h.size,h.block⟩
theorem dN {w W1 W2:World}(h:Below w.heap.size w W1)(k:Below W1.heap.size W1 W2):Below w.heap.size w W2:=h.trans (k.mono h.size)
theorem dE {w w':World}{a:Addr}{v:Value}(hb:Below w.heap.size w w')(h:w.cell? a=some v):w'.cell? a=some v:=by
 rw[hb.cell]
 ·exact h
 ·exact block_lt_of_cell h
theorem dK {w w':World}{b o:Nat}(hb:Below w.heap.size w w')(hs:b<w.heap.size)(h:w.frozen? ⟨b,o,none⟩=false):w'.frozen? ⟨b,o,none⟩=false:=by
 rw[hb.frozen (p:=⟨b,o,none⟩) hs];exact h
theorem dL {w w':World}{b:Nat}{o:Obj}(hb:Below w.heap.size w w')(h:w.heap[b]?=some o):w'.heap[b]?=some o:=by
 rw[hb.block _ (aC.1 h).1];exact h
theorem dJ {w:World}{g j:Nat}{cs:Array Value}{t:TypeId}(hg:w.heap[g]?=some (.cells cs t (0,0))):w.frozen? ⟨g,j,none⟩=false:=by
 simp[World.frozen?,hg]
theorem dM {w:World}{o:Obj}{b:Nat}{x:Obj}(h:w.heap[b]?=some x):(w.alloc o).heap[b]?=some x:=by
 rw[heap_alloc_old _ _ (aC.1 h).1];exact h
theorem kF (w:World)(A B C:Obj):(((w.alloc A).alloc B).alloc C).heap[w.heap.size]?=some A∧(((w.alloc A).alloc B).alloc C).heap[w.heap.size+1]?=some B∧(((w.alloc A).alloc B).alloc C).heap[w.heap.size+1+1]?=some C:=by
 have h0:=aG w A;have h1:=aG (w.alloc A) B;have h2:=aG ((w.alloc A).alloc B) C;simp only[aR] at h1 h2;exact ⟨dM (dM h0),dM h1,h2⟩
def Bs (W:World)(o:Option Addr)(l:List Nat):Prop :=
 ∀j,j<l.length→∃b off,o=some ⟨b,off,none⟩∧W.cell? ⟨b,off+j,none⟩=some (.int .u8 ((l.getD j 0:Nat):Int))
theorem Bs.below {w W:World}(h:Below w.heap.size w W){o:Option Addr}{l:List Nat}(s:Bs w o l):Bs W o l:=fun j hj=>by
 obtain ⟨b,off,e,hc⟩:=s j hj;exact ⟨b,off,e,dE h hc⟩
def By (l:List Nat):Prop:=∀c∈l,c<256
theorem By.get {l:List Nat}(h:By l)(k:Nat):l.getD k 0<256:=by
 by_cases hk:k<l.length
 ·have : l.getD k 0=l[k]:=by simp[List.getD,hk]
  rw[this];exact h _ (List.getElem_mem hk)
 ·simp[List.getD,hk]
theorem By.take {l:List Nat}(h:By l)(k:Nat):By (l.take k):=fun c hc=>h c (cI hc)
theorem By.drop {l:List Nat}(h:By l)(k:Nat):By (l.drop k):=fun c hc=>h c (List.mem_of_mem_drop hc)
theorem By.append {l m:List Nat}(h:By l)(h2:By m):By (l++m):=fun c hc=>(bS.1 hc).elim (h c) (h2 c)
theorem Bs.take {W:World}{o:Option Addr}{l:List Nat}(h:Bs W o l)(k:Nat):Bs W o (l.take k):=fun j hj=>by
 have Ie:j<k∧j<l.length:=by rw[bT] at hj;omega
 obtain ⟨b,off,e,hc⟩:=h j Ie.2;refine ⟨b,off,e,hc.trans ?_⟩;simp[List.getD,List.getElem?_take,Ie.1]
theorem Bs.drop {W:World}{b off cap k:Nat}{l:List Nat}(gR:l.length≤cap)(h:Bs W (some ⟨b,off,none⟩) l):Bs W (if cap=k then some ⟨b,off,none⟩ else some ⟨b,off+k,none⟩) (l.drop k):=fun j hj=>by
 rw[cQ] at hj;rw[bF (by omega)];obtain ⟨b',off',e,hc⟩:=h (k+j) (by omega)
 cases e;refine ⟨b,off+k,rfl,?_⟩;rw[show off+k+j=off+(k+j) by omega,hc];simp[List.getD]
theorem Bs.nought {W:World}{o:Option Addr}:Bs W o []:=fun j hj=>absurd hj (by simp)
def bR (l:List Nat):Array Value:=(l.map fun x:Nat=>Value.int .u8 (x:Int)).toArray
theorem vE (l:List Nat):(bR l).size=l.length:=by simp[bR]
theorem NY (l:List Nat){j:Nat}(h:j<l.length):(bR l)[j]?=some (.int .u8 ((l.getD j 0:Nat):Int)):=by simp[bR,h,List.getD]
theorem Bs.row {W:World}{b:Nat}{l:List Nat}{t:TypeId}{fr:Nat×Nat}(h:W.heap[b]?=some (.cells (bR l) t fr)):Bs W (some ⟨b,0,none⟩) l:=fun j hj =>
 ⟨b,0,rfl,by rw[bE,aD _ _ _ _ _ _ h,NY l hj]⟩
theorem By.of {l:List Nat}(h:l.all (fun c=>decide (c<256))=true):By l:=fun c hc=>by
 have:=bU.1 h c hc
 simpa using this
def fO (x:Nat):Value:=.int .u8 (x:Int)
def Own (W:World)(B:Nat)(v:Value)(l:List Nat):Prop:=W.ownsRow B 5 1 v l.length (l.map fO)
theorem Own.below {w W:World}{B:Nat}{v:Value}{l:List Nat}(h:Below w.heap.size w W)(s:Own w B v l):Own W B v l:=by
 obtain ⟨h1,h2⟩:=s;refine ⟨h1,?_⟩
 rcases h2 with h2|⟨g,cap,cur,e,hb,hg,h3⟩
 ·exact Or.inl h2
 ·exact Or.inr ⟨g,cap,cur,e,hb,dL h hg,h3⟩
theorem Own.mono {W:World}{B C:Nat}{v:Value}{l:List Nat}(hB:B≤C)(s:Own W C v l):Own W B v l:=by
 obtain ⟨h1,h2⟩:=s;refine ⟨h1,?_⟩
 rcases h2 with h2|⟨g,cap,cur,e,hb,h3⟩
 ·exact Or.inl h2
 ·exact Or.inr ⟨g,cap,cur,e,bH hB hb,h3⟩
theorem Own.open {W:World}{B:Nat}{v:Value}{l:List Nat}(s:Own W B v l):∃o cap,v=.slice o l.length cap∧Bs W o l∧l.length≤cap∧cap≤9223372036854775807∧(o=none→cap=0)∧(∀a,o=some a→∃g,a=⟨g,0,none⟩∧B≤g∧g<W.heap.size∧∀j,W.frozen? ⟨g,j,none⟩=false):=by
 obtain ⟨h1,h2⟩:=s
 rcases h2 with ⟨rfl,h0⟩|⟨g,cap,cur,rfl,hb,hg,hc,hm,hs,ht⟩
 ·have : l=[]:=List.length_eq_zero_iff.1 h0
  subst this;exact ⟨none,0,rfl,Bs.nought,by simp,by omega,fun _=>rfl,fun a h=>by cases h⟩
 ·refine ⟨some ⟨g,0,none⟩,cap,rfl,fun j hj=>⟨g,0,rfl,?_⟩,hc,by unfold maxLen at hm;omega,(fun h=>by cases h),fun a h=>⟨g,(bK h).symm,hb,(aC.1 hg).1,fun j=>dJ hg⟩⟩
  rw[bE,aD _ _ _ _ _ _ hg];have h3:(cur.toList.take (l.length*1))[j]?=some (fO (l.getD j 0)):=by rw[ht];simp[hj,List.getD]
  rw[List.getElem?_take,aZ (by omega)] at h3
  simpa[fO] using h3
theorem MO {W:World}{b off:Nat}{l:List Nat}(h:Bs W (some ⟨b,off,none⟩) l):∀j u,(l.map fO)[j]?=some u→W.cell? ((⟨b,off,none⟩:Addr).add j)=some u:=by
 intro j u hu;have hj:j<l.length:=by
  have:=(aY.1 hu).1
  simpa using this
 obtain ⟨b',off',e,hc⟩:=h j hj
 cases e;rw[Addr.add_lit,hc,←hu];simp[hj,fO,List.getD]
theorem kN (l:List Nat):∀u∈l.map fO,u.oneCell'=true:=by
 intro u hu;obtain ⟨x,_,rfl⟩:=List.mem_map.1 hu;rfl
theorem info5:(Tryz.prog.info? 5).map (fun i=>(i.zero,i.size,i.bytes))=some (some (.int .u8 0),1,1):=by kernel_rfl
theorem pS (w:World)(t e:TypeId)(a:Option Addr)(l c:Nat)(h:Tryz.prog.underlying t=some (.slice e)):(binOp .eql t (.slice a l c) (.slice none 0 0)).run Tryz.prog w=.ok (.bool a.isNone) w:=by
 show ((do pure (.bool (← Op.equal t (.slice a l c) (.slice none 0 0)))):Sem Value).run Tryz.prog w=_;simp[run_equal_slice_nil w t e a l c h]
theorem XY (l:List Nat):(bR l).all (·.oneCell')=true:=by
 simp only[bR,List.all_toArray,List.all_map,bU];intro i _;rfl
def fR (l:List Nat):ByteArray:=⟨(l.map UInt8.ofNat).toArray⟩
theorem DI (l:List Nat):∀ (b:ByteArray),(l.map fun x:Nat=>(x:Int)).foldl (fun r n=>r.push (UInt8.ofNat n.toNat)) b=⟨b.data++(l.map UInt8.ofNat).toArray⟩:=by
 induction l with
 | nil=>intro b;simp
 | cons x l ih =>
  intro b;simp only[List.map_cons,List.foldl_cons];rw[ih];simp[ByteArray.push]
theorem kO {W:World}{o:Option Addr}{l:List Nat}(h:Bs W o l):∀ad,o=some ad→∀j u,(l.map fO)[j]?=some u→W.cell? (ad.add j)=some u:=by
 intro ad e j u hu;have hj:j<l.length:=by
  have:=(aY.1 hu).1
  simpa using this
 obtain ⟨b,off,e2,hc⟩:=h j hj;rw[e] at e2
 cases e2;rw[Addr.add_lit,hc,←hu];simp[hj,fO,List.getD]
theorem wA {W:World}{l:List Nat}(h:Bs W none l):l=[]:=by
 cases l with
 | nil=>rfl
 | cons x l=>obtain ⟨_,_,e,_⟩:=h 0 (by simp);cases e
theorem vA {W:World}{o:Option Addr}{l:List Nat}{n:Nat}(cap:Nat)(hn:l.length=n)(h:Bs W o l):(convert 31 9 (.slice o n cap)).run Tryz.prog W=.ok (.string (fR l)) W:=by
 subst hn;rw[run_convert_bytes_string W _ _ _ _ _ _ bJ dB Tryz.underlying9]
 cases o with
 | none =>
  have : l=[]:=by
   cases l with
   | nil=>rfl
   | cons x l=>obtain ⟨_,_,e,_⟩:=h 0 (by simp);cases e
  subst this;rfl
 | some a =>
  have hl:=run_loadCells_list (P:=Tryz.prog) (w:=W) a (l.map fO) (kO h a rfl);rw[aT] at hl;have hm:l.map fO=(l.map fun x:Nat=>(x:Int)).map (Value.int .u8):=by simp[fO]
  rw[hm] at hl;rw[run_bytesToString W _ _ _ _ hl,DI];simp[fR,ByteArray.empty,ByteArray.emptyWithCapacity];rfl
theorem Bw {W:World}{b off:Nat}{l m:List Nat}(h:Bs W (some ⟨b,off,none⟩) (l++m)):Bs W (some ⟨b,off,none⟩) l:=by
 have:=h.take l.length
 rwa [List.take_left] at this
theorem vS {W:World}{b off:Nat}{l:List Nat}(h:Bs W (some ⟨b,off,none⟩) l){j:Nat}(hj:j<l.length):W.cell? ⟨b,off+j,none⟩=some (.int .u8 ((l.getD j 0:Nat):Int)):=by
 obtain ⟨_,_,e,hc⟩:=h j hj
 cases e;exact hc
theorem Ae (w:World)(l:List Nat)(C:Array Value)(hC:C=bR l)(fr:Nat×Nat):Bs (w.alloc (.cells C 5 fr)) (some ⟨w.heap.size,0,none⟩) l:=by
 subst hC;exact Bs.row (aG w _)
def lY:Nat→Nat→List Nat
 | 0,n=>[n]
 | f+1,n=>if n<128 then [n] else (128+n%128)::lY f (n/128)
def form (n:Nat):List Nat:=lY 10 n
theorem EX:∀ (f m:Nat),1≤f→m<128^f→lY f m=lY (f+1) m
 | 0,_,h,_=>by omega
 | f+1,m,_,h=>by
  by_cases h1:m<128
  ·simp only[lY,aZ h1]
  ·have e:∀g,lY (g+1) m=(128+m%128)::lY g (m/128):=fun g=>by simp only[lY,bF h1]
   rw[e,e]
   congr 1
   have hf:1≤f:=by
    rcases Nat.eq_zero_or_pos f with rfl|h0
    ·simp at h;omega
    ·exact h0
   exact EX f (m/128) hf (by rw[bY] at h;omega)
theorem jX {n:Nat}(h:n<128):form n=[n]:=by unfold form;simp only[lY,aZ h]
theorem uC {n:Nat}(h:¬ n<128)(hn:n<18446744073709551616):form n=(128+n%128)::form (n/128):=by
 unfold form;have e:lY 10 n=(128+n%128)::lY 9 (n/128):=by rw[lY,bF h]
 rw [e, EX 9 _ (by omega) (by have : (128 : Nat) ^ 9 = 9223372036854775808 := by decide
                              omega)]
theorem KN:∀ (f n:Nat),1≤(lY f n).length∧(lY f n).length≤f+1
 | 0,n=>by simp[lY]
 | f+1,n=>by
  simp only[lY]
  split
  ·simp
  ·have:=KN f (n/128)
   simp;omega
theorem gP (n:Nat):1≤(form n).length∧(form n).length≤11:=KN 10 n
theorem Be:∀ (f n:Nat),n<128^(f+1)→By (lY f n)
 | 0,n,h=>by
  intro c hc;simp[lY] at hc;subst hc;simp at h;omega
 | f+1,n,h=>by
  simp only[lY]
  split
  ·intro c hc
   simp at hc;subst hc;omega
  ·intro c hc
   rcases List.mem_cons.1 hc with rfl|hc
   ·omega
   ·exact Be f (n/128) (by rw[bY] at h;omega) c hc
theorem gY {n:Nat}(hn:n<18446744073709551616):By (form n):=Be 10 n (by
 have h:(128:Nat)^(10+1)=151115727451828646838272:=by decide
 rw[h];omega)
theorem Own.alloc {w:World}{B:Nat}{v:Value}{l:List Nat}(s:Own w B v l)(o:Obj):Own (w.alloc o) B v l:=by
 obtain ⟨h1,h2⟩:=s;refine ⟨h1,?_⟩
 rcases h2 with h2|⟨g,cap,cur,e,hb,hg,h3⟩
 ·exact Or.inl h2
 ·exact Or.inr ⟨g,cap,cur,e,hb,dM hg,h3⟩
theorem Own.more {w:World}{B:Nat}{v:Value}{l m:List Nat}(h:w.ownsRow B 5 1 v (l.length+m.length) (l.map fO++m.map fO)):Own w B v (l++m):=by
 unfold Own;rw[aI,List.map_append];exact h
theorem Own.blk {w:World}{B:Nat}{v:Value}{l:List Nat}(s:Own w B v l):∀k,v.ownBlock=some k→B≤k:=by
 intro k hk;obtain ⟨h1,h2⟩:=s
 rcases h2 with ⟨rfl,_⟩|⟨g,cap,cur,rfl,hb,_⟩
 ·cases hk
 ·cases hk
  exact hb
theorem ZJ (k:Nat)(hk:k<9):(2:Nat)^(64-7*k)=128*2^(64-7*(k+1)):=by
 rw[show 64-7*k=7+(64-7*(k+1)) by omega,Nat.pow_add]
theorem cell_one_new' (w:World)(v:Value)(t:TypeId):∀j u,[v][j]?=some u→(w.alloc (.cells #[v] t)).cell? ((⟨w.heap.size,0,none⟩:Addr).add j)=some u:=by
 intro j u hu;have hj:j=0:=by
  have:=(aY.1 hu).1;simp at this;omega
 subst hj;rw[Addr.add_lit,aD _ _ _ _ _ _ (aG _ _)];exact hu
theorem mQ (n:Nat)(hn:n<18446744073709551616)(w:World) :
  Calls Tryz.prog 67 #[.int .u64 (n:Int)] w fun e w'=>(∃v,e=.returned v∧Own w' w.heap.size v (form n))∧Below w.heap.size w w':=by
 obtain ⟨i0,hi,hz0,hz1,hz2⟩:=info_parts info5;have HN:=aA hn;clear hn;go_enter Tryz.func67,Tryz.ntmps67;go_wp2_with fail;go_loopg[0,3,4] 9 (fun g s0 s3 s4 wr=>∃ (k m:Nat) (l:List Nat),g=9-k∧k≤9∧s4=.int .i64 (k:Int)∧s0=.int .u64 (m:Int)∧l.length=k∧l++form m=form n∧m<2^(64-7*k)∧Own wr w.heap.size s3 l∧Below w.heap.size w wr)
 case atStart=>exact ⟨0,n,[],rfl,by omega,rfl,rfl,rfl,rfl,HN.out,bV _ _ _ _,aJ _ _⟩
 case round =>
  obtain ⟨k,m,l,hg,hk,rfl,rfl,hl,hf,hm,ho,hb⟩:=hrel;have HO:=aA ho;have HB:=aA hb;have HF:=aA hf;have HL:=aA hl;have HM:=aA hm;have hs:=hb.size;have HS:=aA hs;subst hg;clear ho hb hf hl hm hs;have HOA:=fun o=>HO.out.alloc o
  have HOAH:=aA HOA;clear HOA;by_cases oH:m<128
  ·have t2:¬ (128:Int)≤(m:Int):=by omega
   have hk10:(k:Int)<10:=by omega
   have GM:Hid (form m=[m]):=aA (jX oH);have m0:(0:Int)≤(m:Int):=by omega
   have m1:(m:Int)<128:=by omega
   go_wp2_with (at_builtin;refine wpList_append_own _ rfl _ _ 31 rfl w.heap.size 5 i0 (.int .u8 0) 1 1 bJ hi hz0 hz1 hz2 rfl (by decide) _ l.length (l.map fO) rfl (HOAH.out _) ⟨wr.heap.size,0,none⟩ 1 1 [.int .u8 (m:Int)] rfl rfl (cell_one_new' _ _ _) (by simp[Value.oneCell']) (by have:=HL.out;unfold maxLen;omega) (by have:=HL.out;omega) (by have:=HS.out;simp;omega) ?_;intro v' w1 hown hgrow _)
   have Io:Hid (Own w1 w.heap.size v' (form n)):=aA (by
    rw[←HF.out,GM.out];exact Own.more hown)
   have mI:Hid (Below w.heap.size w w1):=aA ((HB.out.alloc HB.out.size _).grown hgrow (by have:=HS.out;simp;omega) (fun k hk=>HO.out.blk k hk));clear hown hgrow;go_ret;exact ⟨⟨v',rfl,Io.out⟩,mI.out⟩
  ·have hk9:k<9:=by
    rcases Nat.lt_or_ge k 9 with h|h
    ·exact h
    ·have:=HM.out
     have e:k=9:=by omega
     subst e;simp at this;omega
   have t1:(k:Int)<10:=by omega
   have t2:(128:Int)≤(m:Int):=by omega
   have SJ:m<18446744073709551616:=by
    have h1:=HM.out;have h2:(2:Nat)^(64-7*k)≤2^64:=Nat.pow_le_pow_right (by omega) (by omega);have h3:(2:Nat)^64=18446744073709551616:=by decide
    omega
   have GM:Hid (form m=(128+m%128)::form (m/128)):=aA (uC oH SJ);have qm:Hid (m/128<2^(64-7*(k+1))):=aA (by
    have h1:=HM.out;rw[ZJ k hk9] at h1;exact Nat.div_lt_of_lt_mul h1)
   have hc:(128+(m:Int)%128)=((128+m%128:Nat):Int):=by omega
   have HC:=aA hc;have HW:Hid (IntKind.u64.wrap ((m:Int)/128)=(m:Int)/128):=aA (by rw[aV];omega);clear SJ hc;go_wp2_with (at_builtin;refine wpList_append_own _ rfl _ _ 31 rfl w.heap.size 5 i0 (.int .u8 0) 1 1 bJ hi hz0 hz1 hz2 rfl (by decide) _ l.length (l.map fO) rfl (HOAH.out _) ⟨wr.heap.size,0,none⟩ 1 1 [.int .u8 (128+(m:Int)%128)] rfl rfl (cell_one_new' _ _ _) (by simp[Value.oneCell']) (by have:=HL.out;unfold maxLen;omega) (by have:=HL.out;omega) (by have:=HS.out;simp;omega) ?_;intro v' w1 hown hgrow _)
   have Io:Hid (Own w1 w.heap.size v' (l++[128+m%128])):=aA (by
    rw[HC.out] at hown;exact Own.more (m:=[128+m%128]) hown)
   have mI:Hid (Below w.heap.size w w1):=aA ((HB.out.alloc HB.out.size _).grown hgrow (by have:=HS.out;simp;omega) (fun k hk=>HO.out.blk k hk));clear hown hgrow;go_roundg (9-(k+1))
   case measure=>omega
   case rel=>exact ⟨k+1,m/128,l++[128+m%128],rfl,by omega,by go_num,by rw[HW.out];go_num,by have:=HL.out;simp;omega,by rw[←HF.out,GM.out];simp,qm.out,Io.out,mI.out⟩
theorem FV {ops:Array Oper}{rest:List Oper}{o:Oper}{a:Act}{Q:Exit→Act→World→Prop}{w:World}(hgd:o.guard=none)(s x:Operand)
  (ho:o.op=.call { callee:=.builtin .append,args:=#[s,x],argTypes:=#[31,31] })
  (B:Nat) (v:Value) (l:List Nat) (hs:a.eval s=v) (hown:Own w B v l) (ox:Option Addr) (m:List Nat) (c:Nat) (hx:a.eval x=.slice ox m.length c) (hc:ox=none→c=0) (hb:Bs w ox m)
  (hlen:l.length+m.length≤1000000000) (hbase:B≤w.heap.size)
  (h:∀v' w',Own w' B v' (l++m)→w.grownBy w' v.ownBlock→wpList Tryz.prog ops Q rest (a.put o.dst v') w'):wpList Tryz.prog ops Q (o::rest) a w:=by
 obtain ⟨i0,hi,hz0,hz1,hz2⟩:=info_parts info5
 cases ox with
 | none =>
  obtain rfl:=wA hb;obtain rfl:=hc rfl;refine wpList_append_own_none hgd s x 31 ho B 5 i0 1 bJ hi v l.length (l.map fO) hs hown hx ?_;exact h v w (by rw[List.append_nil];exact hown) (cG _ _)
 | some ad =>
  refine wpList_append_own w hgd s x 31 ho B 5 i0 (.int .u8 0) 1 1 bJ hi hz0 hz1 hz2 rfl (by decide) v l.length (l.map fO) hs hown ad m.length c (m.map fO) hx (by simp) (kO hb ad rfl) (kN m) (by unfold maxLen;omega) (by omega) hbase ?_;intro v' w' hown' hgrow _;exact h v' w' (by unfold Own;rw[aI,List.map_append];exact hown') hgrow
def ZW (B p:Nat)(l:List Nat)(lost:Bool)(W:World):Prop:=∃v,W.heap[p]?=some (.cells #[v,.bool lost] 81 (0,0))∧Own W B v l
theorem ZW.lt {B p:Nat}{l:List Nat}{lost:Bool}{W:World}(h:ZW B p l lost W):p<W.heap.size:=by
 obtain ⟨v,h,_⟩:=h;exact (aC.1 h).1
theorem ZW.below {B p:Nat}{l:List Nat}{lost:Bool}{W X:World}(h:ZW B p l lost W)(hb:Below W.heap.size W X):ZW B p l lost X:=by
 obtain ⟨v,h,o⟩:=h;exact ⟨v,dL hb h,o.below hb⟩
theorem Own.apart {W:World}{B p:Nat}{v:Value}{l:List Nat}{cs:Array Value}{t:TypeId}{fr:Nat×Nat}(s:Own W B v l)(h:W.heap[p]?=some (.cells cs t fr))(ht:t≠5):∀k,v.ownBlock=some k→k≠p:=by
 intro k hk e;subst e;obtain ⟨h1,h2⟩:=s
 rcases h2 with ⟨rfl,_⟩|⟨g,cap,cur,rfl,hb,hg,_⟩
 ·cases hk
 ·cases hk
  rw[h] at hg
  injection hg with hg
  injection hg with _ hg
  exact ht hg
theorem Own.grown {W X:World}{B:Nat}{v:Value}{l:List Nat}{row:Option Nat}(s:Own W B v l)(hg:W.grownBy X row)(hr:∀k,v.ownBlock=some k→some k≠row):Own X B v l:=by
 obtain ⟨h1,h2⟩:=s;refine ⟨h1,?_⟩
 rcases h2 with h2|⟨g,cap,cur,rfl,hb,je,h3⟩
 ·exact Or.inl h2
 ·exact Or.inr ⟨g,cap,cur,rfl,hb,by rw[hg.block g (aC.1 je).1 (hr g rfl)];exact je,h3⟩
theorem below_grown {w w':World}(h:Below w.heap.size w w')(row:Option Nat):w.grownBy w' row:=⟨h.os,h.tape,h.output,h.size,fun k hk _=>h.block k hk⟩
theorem eC (W:World)(b j:Nat)(v:Value):W.grownBy (W.setCell ⟨b,j,none⟩ v) (some b) :=
 ⟨rfl,rfl,rfl,by simp,fun k hk hne=>aK _ _ _ _ (by intro e;exact hne (by rw[e]))⟩
def CB (p:Nat)(l m:List Nat)(lost may:Bool)(w:World)(e:Ending)(w':World):Prop :=
 e=.returned undef∧(lost=false→may=true→ZW w.heap.size p (l++m) false w')∧(lost=true∨may=false→w'=w.setCell ⟨p,1,none⟩ (.bool true))∧w.grownBy w' (some p)
theorem xT {W:World}{p:Nat}{v:Value}{lost:Bool}{t:TypeId}{b off:Nat}{m:List Nat}(h:W.heap[p]?=some (.cells #[v,.bool lost] t (0,0)))(hv:∀x:Int,v≠.int .u8 x)(hb:Bs W (some ⟨b,off,none⟩) m)(hm:0<m.length):b≠p:=by
 rintro rfl;obtain ⟨b',off',e,hc⟩:=hb 0 hm
 cases e;rw[aD _ _ _ _ _ _ h] at hc;obtain h0|h0|h0:off+0=0∨off+0=1∨2≤off+0:=by omega
 ·rw[h0] at hc
  simp at hc;exact hv _ hc
 ·rw[h0] at hc
  simp at hc
 ·rw[Array.getElem?_eq_none (by simpa using h0)] at hc
  cases hc
theorem Bs.set {W:World}{o:Option Addr}{m:List Nat}(hb:Bs W o m){p j:Nat}(v:Value)(h:∀b off,o=some ⟨b,off,none⟩→0<m.length→b≠p):Bs (W.setCell ⟨p,j,none⟩ v) o m:=fun i hi=>by
 obtain ⟨b,off,e,hc⟩:=hb i hi;refine ⟨b,off,e,?_⟩;have hne:=h b off e (by omega);rw[cZ (show (W.setCell ⟨p,j,none⟩ v).heap[b]?=W.heap[b]? from aK _ _ _ _ hne)];exact hc
theorem Bs.grown {W X:World}{o:Option Addr}{m:List Nat}{row:Option Nat}(hb:Bs W o m)(hg:W.grownBy X row)(h:∀b off,o=some ⟨b,off,none⟩→0<m.length→some b≠row):Bs X o m:=fun i hi=>by
 obtain ⟨b,off,e,hc⟩:=hb i hi;exact ⟨b,off,e,hg.cell hc (h b off e (by omega))⟩
theorem Bs.lt {W:World}{b off:Nat}{m:List Nat}(hb:Bs W (some ⟨b,off,none⟩) m)(hm:0<m.length):b<W.heap.size:=by
 obtain ⟨b',off',e,hc⟩:=hb 0 hm
 cases e
 rcases Nat.lt_or_ge b W.heap.size with h|h
 ·exact h
 ·rw[World.cell?,Array.getElem?_eq_none h] at hc
  cases hc
theorem Iw (B p:Nat)(l m:List Nat)(lost may:Bool)(o:Option Addr)(c:Nat)(w:World)(h:lost=true∨may=false)(hw:ZW B p l lost w) :
  Calls Tryz.prog 66 #[.pointer (some ⟨p,0,none⟩),.slice o m.length c,.bool may] w (CB p l m lost may w):=by
 obtain ⟨v,hrow,ho⟩:=hw;have c0:w.cell? ⟨p,0,none⟩=some v:=by rw[aD _ _ _ _ _ _ hrow];rfl
 have c1:w.cell? ⟨p,1,none⟩=some (.bool lost):=by rw[aD _ _ _ _ _ _ hrow];rfl
 have f1:w.frozen? ⟨p,1,none⟩=false:=dJ hrow;have HP:Hid (CB p l m lost may w (.returned undef) (w.setCell ⟨p,1,none⟩ (.bool true))):=aA ⟨rfl,fun h1 h2=>by rcases h with h|h <;> simp_all,fun _=>rfl,eC _ _ _ _⟩;clear hrow ho
 cases lost with
 | true =>
  clear h;go_enter Tryz.func66,Tryz.ntmps66;go_wp2_with fail;exact aO (results_none rfl _ _ _) rfl HP.out
 | false =>
  obtain rfl:may=false:=by
   rcases h with h|h
   ·cases h
   ·exact h
  clear h;go_enter Tryz.func66,Tryz.ntmps66;go_wp2_with fail;exact aO (results_none rfl _ _ _) rfl HP.out
theorem Tm (B p:Nat)(l m:List Nat)(o:Option Addr)(c:Nat)(w:World)(hc:o=none→c=0)(hb:Bs w o m)(hlen:l.length+m.length≤1000000000)(hw:ZW B p l false w) :
  Calls Tryz.prog 66 #[.pointer (some ⟨p,0,none⟩),.slice o m.length c,.bool true] w (CB p l m false true w):=by
 have hp:=hw.lt;obtain ⟨v,hrow,ho⟩:=hw;obtain ⟨o1,mV,rfl,hb1,_,_,oF,_⟩:=ho.open;have c0:w.cell? ⟨p,0,none⟩=some (.slice o1 l.length mV):=by rw[aD _ _ _ _ _ _ hrow];rfl
 have c1:w.cell? ⟨p,1,none⟩=some (.bool false):=by rw[aD _ _ _ _ _ _ hrow];rfl
 have f0:w.frozen? ⟨p,0,none⟩=false:=dJ hrow;have f1:w.frozen? ⟨p,1,none⟩=false:=dJ hrow;have R1:(w.setCell ⟨p,1,none⟩ (.bool false)).heap[p]?=some (.cells #[.slice o1 l.length mV,.bool false] 81 (0,0)):=aM _ _ 1 _ _ (.bool false) hrow;have B1:Bs (w.setCell ⟨p,1,none⟩ (.bool false)) o1 l:=hb1.set _ fun b off e hm=>by subst e;exact xT hrow (by intro x h;cases h) hb1 hm
 have B2:Bs (w.setCell ⟨p,1,none⟩ (.bool false)) o m:=hb.set _ fun b off e hm=>by subst e;exact xT hrow (by intro x h;cases h) hb hm
 have G1:=eC w p 1 (.bool false);have qQ:=aA R1;have jK:=aA B1;have mI:=aA B2;have OH:=aA oF;have HC:=aA hc;have HLEN:=aA hlen;clear hrow ho hb1 oF R1 B1 B2 G1 hc hb hlen;go_enter Tryz.func66,Tryz.ntmps66;go_wp2_with (first
  | (at_builtin;refine FV rfl (.tmp 22) (.tmp 26) rfl w.heap.size _ [] rfl (bV _ _ _ _) o1 l mV rfl OH.out jK.out (by have:=HLEN.out;simp;omega) (by simp) ?_;intro v1 w1 Ap hg1;have Ta:=aA Ap;have sR:=aA hg1;clear Ap hg1)
  | (at_builtin; refine FV rfl (.tmp 29) (.tmp 30) rfl w.heap.size v1 l rfl Ta.out o m c rfl HC.out (mI.out.grown sR.out (fun b off e hm h => by cases h)) HLEN.out (by have := sR.out.size; simp at this; omega) ?_; intro v2 w2 sA hg2
     obtain ⟨q,hq⟩:∃q,l++m=q:=⟨_,rfl⟩;rw[hq] at sA;have HQ:=aA hq;clear hq;obtain ⟨o2,cap2,rfl,_,_,_,_,_⟩:=sA.open;have R2:w1.heap[p]?=some (.cells #[.slice o1 l.length mV,.bool false] 81 (0,0)):=(sR.out.block p (by simpa using hp) (by intro h;cases h)).trans qQ.out;have AP:=Ta.out.apart R2 (by decide);have R3:w2.heap[p]?=some (.cells #[.slice o1 l.length mV,.bool false] 81 (0,0)):=(hg2.block p (aC.1 R2).1 (by intro h;exact AP p h.symm rfl)).trans R2;have d0:w2.cell? ⟨p,0,none⟩=some (.slice o1 l.length mV):=by rw[aD _ _ _ _ _ _ R3];rfl
     have e0:w2.frozen? ⟨p,0,none⟩=false:=dJ R3;have Io:=aA sA;have OM:=aA hg2;have xZ:=aA R3;clear sA hg2 R2 R3 AP))
 have hne:∀k,(Value.slice o2 q.length cap2).ownBlock=some k→k≠p:=Io.out.apart xZ.out (by decide);have R4:=aM _ _ 0 _ _ (.slice o2 q.length cap2) xZ.out;have GG:w.grownBy (w2.setCell ⟨p,0,none⟩ (.slice o2 q.length cap2)) (some p):=by
  refine ⟨?_,?_,?_,?_,?_⟩
  ·exact (OM.out.os.trans sR.out.os)
  ·exact (OM.out.tape.trans sR.out.tape)
  ·exact (OM.out.output.trans sR.out.output)
  ·have h1:=sR.out.size
   have h2:=OM.out.size;simp at h1 ⊢;omega
  ·intro k hk hkp
   have Ng:k≠p:=fun e=>hkp (by rw[e])
   have h1:=sR.out.size;simp at h1;rw[aK _ _ _ _ Ng,OM.out.block k (by omega) (fun e=>by have:=Ta.out.blk k e.symm;omega),sR.out.block k (by simpa using hk) (by intro h;cases h),aK _ _ _ _ Ng]
 refine aO (results_none rfl _ _ _) rfl ⟨rfl,fun _ _=>⟨_,R4,?_⟩,fun (h:false=true∨true=false)=>(by rcases h with h|h <;> cases h),GG⟩;rw[HQ.out];exact Io.out.grown (eC _ _ _ _) (fun k hk h=>hne k hk (bK h))
def lS (l m:List Nat)(lost may:Bool):List Nat:=if lost || !may then l else l++m
def qE (lost may:Bool):Bool:=lost || !may
def uN (B p:Nat)(l:List Nat)(lost:Bool)(w:World)(e:Ending)(w':World):Prop:=e=.returned undef∧ZW B p l lost w'∧w.grownBy w' (some p)
theorem wU (B p:Nat)(l m:List Nat)(lost may:Bool)(o:Option Addr)(c:Nat)(w:World)(hB:B≤w.heap.size)(hc:o=none→c=0)(hb:Bs w o m)(hlen:l.length+m.length≤1000000000)(hw:ZW B p l lost w) :
  Calls Tryz.prog 66 #[.pointer (some ⟨p,0,none⟩),.slice o m.length c,.bool may] w (uN B p (lS l m lost may) (qE lost may) w):=by
 by_cases h:lost=true∨may=false
 ·refine (Iw B p l m lost may o c w h hw).mono ?_
  rintro e w' ⟨rfl,_,h2,hg⟩;have e2:=h2 h;subst e2;have hx:(lost || !may)=true:=by rcases h with rfl|rfl <;> simp
  obtain ⟨v,hrow,ho⟩:=hw;refine ⟨rfl,?_,hg⟩;unfold lS qE;rw[hx];refine ⟨v,aM _ _ 1 _ _ (.bool true) hrow,?_⟩;have ap:=ho.apart hrow (by decide);exact ho.grown (eC _ _ _ _) (fun k hk h=>ap k hk (bK h))
 ·obtain rfl:lost=false:=by cases lost <;> simp_all
  obtain rfl:may=true:=by cases may <;> simp_all
  refine (Tm B p l m o c w hc hb hlen hw).mono ?_;rintro e w' ⟨rfl,h1,_,hg⟩;obtain ⟨v,hr,ho⟩:=h1 rfl rfl;exact ⟨rfl,⟨v,hr,ho.mono hB⟩,hg⟩
theorem Cy (B p n:Nat)(l:List Nat)(lost:Bool)(w:World)(hB:B≤w.heap.size)(hn:n<18446744073709551616)(hlen:l.length≤100000000)(hw:ZW B p l lost w) :
  Calls Tryz.prog 38 #[.pointer (some ⟨p,0,none⟩),.int .u64 (n:Int)] w (uN B p (lS l (form n) lost true) (qE lost true) w):=by
 have HW:=aA hw;have hl:=(gP n).2;have HL:=aA hl;clear hw hl;go_enter Tryz.func38,Tryz.ntmps38;go_wp2_with fail;refine (mQ n hn _).mono ?_;rintro e w1 ⟨⟨v,rfl,ho⟩,hb⟩;obtain ⟨o,cap,rfl,mJ,_,_,wH,_⟩:=ho.open;have HP:=aA (wU B p l (form n) lost true o cap w1 (by have:=hb.size;omega) wH mJ (by have:=HL.out;omega) (HW.out.below hb));have HB:=aA (below_grown hb (some p));clear ho hb mJ wH;go_wp2_with fail;refine HP.out.mono ?_;rintro e w2 ⟨rfl,hz,hg⟩;have HE:Hid (uN B p (lS l (form n) lost true) (qE lost true) w (.returned undef) w2):=aA ⟨rfl,hz,HB.out.trans hg⟩;clear hz hg HP;go_wp2_with fail;exact aO (results_none rfl _ _ _) rfl HE.out
def fold (z:Int):Nat:=if 0≤z then 2*z.toNat else 2*(-(z+1)).toNat+1
theorem sN {z:Int}(h0:-9223372036854775808≤z)(h1:z≤9223372036854775807):fold z<18446744073709551616:=by
 unfold fold
 split <;> omega
theorem XN (z:Int)(w:World)(h0:-9223372036854775808≤z)(h1:z≤9223372036854775807) :
  Calls Tryz.prog 68 #[.int .i64 z] w fun e w'=>e=.returned (.int .u64 ((fold z:Nat):Int))∧w=w':=by
 by_cases h:0≤z
 ·have e:((fold z:Nat):Int)=2*z:=by unfold fold;rw[aZ h];omega
  rw[e];go_enter Tryz.func68,Tryz.ntmps68;go_wp2_with fail;go_ret;refine ⟨?_,rfl⟩
  congr 2
 ·have e:((fold z:Nat):Int)=2*(-(z+1))+1:=by unfold fold;rw[bF h];omega
  rw[e];go_enter Tryz.func68,Tryz.ntmps68;go_wp2_with fail;go_ret;refine ⟨?_,rfl⟩
  congr 2
theorem Iz (B p:Nat)(z:Int)(l:List Nat)(lost:Bool)(w:World)(hB:B≤w.heap.size)(h0:-9223372036854775808≤z)(h1:z≤9223372036854775807)(hlen:l.length≤100000000)(hw:ZW B p l lost w) :
  Calls Tryz.prog 37 #[.pointer (some ⟨p,0,none⟩),.int .i64 z] w (uN B p (lS l (form (fold z)) lost true) (qE lost true) w):=by
 have HW:=aA hw;have hl:=(gP (fold z)).2;have HL:=aA hl;have HF:=aA (fun w=>XN z w h0 h1);have HN:=aA (sN h0 h1);clear hw hl h0 h1;go_enter Tryz.func37,Tryz.ntmps37;go_wp2_with fail;refine (HF.out _).mono ?_;rintro e w0 ⟨rfl,rfl⟩;generalize fold z=n at *;go_wp2_with fail;refine (mQ n HN.out _).mono ?_;rintro e w1 ⟨⟨v,rfl,ho⟩,hb⟩;obtain ⟨o,cap,rfl,mJ,_,_,wH,_⟩:=ho.open;have HP:=aA (wU B p l (form n) lost true o cap w1 (by have:=hb.size;omega) wH mJ (by have:=HL.out;omega) (HW.out.below hb));have HB:=aA (below_grown hb (some p));clear ho hb mJ wH;go_wp2_with fail;refine HP.out.mono ?_;rintro e w2 ⟨rfl,hz,hg⟩;have HE:Hid (uN B p (lS l (form n) lost true) (qE lost true) w (.returned undef) w2):=aA ⟨rfl,hz,HB.out.trans hg⟩;clear hz hg HP;go_wp2_with fail;exact aO (results_none rfl _ _ _) rfl HE.out
def qF (n most:Int):Bool:=decide (0≤n∧n≤most)
theorem VA (B p:Nat)(n most:Int)(l:List Nat)(lost:Bool)(w:World)(hB:B≤w.heap.size)(h0:-9223372036854775808≤n)(h1:n≤9223372036854775807)(hlen:l.length≤100000000)(hw:ZW B p l lost w) :
  Calls Tryz.prog 35 #[.pointer (some ⟨p,0,none⟩),.int .i64 n,.int .i64 most] w (uN B p (lS l (form n.toNat) lost (qF n most)) (qE lost (qF n most)) w):=by
 have HW:=aA hw;obtain ⟨N,hN⟩:∃N:Nat,IntKind.u64.wrap n=(N:Int):=⟨(n%18446744073709551616).toNat,by rw[aV];omega⟩;have zW:N<18446744073709551616:=by rw[aV] at hN;omega
 have Sj:0≤n→N=n.toNat:=fun h=>by rw[aV] at hN;omega
 have hl:=(gP N).2;have HL:=aA hl;have AG:=aA Sj;have Rj:=aA zW;have HX:∀ (b:Bool) (w1:World),qF n most=b→lS l (form N) lost b=lS l (form n.toNat) lost b:=fun b _ hb=>by
  cases b with
  | false=>unfold lS;simp
  | true =>
   have:=of_decide_eq_true hb;rw[AG.out this.1]
 have HXH:=aA HX;clear hw hl zW Sj HX;obtain ⟨b,hb0⟩:∃b,qF n most=b:=⟨_,rfl⟩;have zK:=aA hb0;rw[hb0];have tail:∀w1:World,Below w.heap.size w w1→∀o cap,(o=none→cap=0)→Bs w1 o (form N)→Calls Tryz.prog 66 #[.pointer (some ⟨p,0,none⟩),.slice o (form N).length cap,.bool b] w1 (uN B p (lS l (form n.toNat) lost b) (qE lost b) w):=by
  intro w1 hb o cap wH mJ;refine (wU B p l (form N) lost b o cap w1 (by have:=hb.size;omega) wH mJ (by have:=HL.out;omega) (HW.out.below hb)).mono ?_;rintro e w2 ⟨rfl,hz,hg⟩;rw[HXH.out b w1 zK.out] at hz;exact ⟨rfl,hz,(below_grown hb (some p)).trans hg⟩
 have HT:=aA tail;clear tail;by_cases g0:0≤n
 ·by_cases g1:n≤most
  ·obtain rfl:b=true:=by rw[←zK.out];exact bA ⟨g0,g1⟩
   clear zK hb0;go_enter Tryz.func35,Tryz.ntmps35;go_wp2_with fail
   ((with_reducible refine (mQ N Rj.out _).mono ?_))
   rintro e w1 ⟨⟨v,rfl,ho⟩,hb⟩;obtain ⟨o,cap,rfl,mJ,_,_,wH,_⟩:=ho.open;have HP:=aA (HT.out w1 hb o cap wH mJ);clear ho hb mJ wH;go_wp2_with fail;refine HP.out.mono ?_;rintro e w2 hz;have HE:=aA hz;obtain ⟨rfl,_⟩:=hz;clear HP;go_wp2_with fail;exact aO (results_none rfl _ _ _) rfl HE.out
  ·obtain rfl:b=false:=by rw[←zK.out];exact aN (by omega)
   have d1:decide (n≤most)=false:=aN g1;clear zK hb0;go_enter Tryz.func35,Tryz.ntmps35;go_wp2_with fail
   ((with_reducible refine (mQ N Rj.out _).mono ?_))
   rintro e w1 ⟨⟨v,rfl,ho⟩,hb⟩;obtain ⟨o,cap,rfl,mJ,_,_,wH,_⟩:=ho.open;have HP:=aA (HT.out w1 hb o cap wH mJ);clear ho hb mJ wH;go_wp2_with fail;refine HP.out.mono ?_;rintro e w2 hz;have HE:=aA hz;obtain ⟨rfl,_⟩:=hz;clear HP;go_wp2_with fail;exact aO (results_none rfl _ _ _) rfl HE.out
 ·obtain rfl:b=false:=by rw[←zK.out];exact aN (by omega)
  clear zK hb0;go_enter Tryz.func35,Tryz.ntmps35;go_wp2_with fail
  ((with_reducible refine (mQ N Rj.out _).mono ?_))
  rintro e w1 ⟨⟨v,rfl,ho⟩,hb⟩;obtain ⟨o,cap,rfl,mJ,_,_,wH,_⟩:=ho.open;have HP:=aA (HT.out w1 hb o cap wH mJ);clear ho hb mJ wH;go_wp2_with fail;refine HP.out.mono ?_;rintro e w2 hz;have HE:=aA hz;obtain ⟨rfl,_⟩:=hz;clear HP;go_wp2_with fail;exact aO (results_none rfl _ _ _) rfl HE.out
theorem Tl (p:Nat)(l m:List Nat)(o:Option Addr)(c:Nat)(w:World)(hc:o=none→c=0)(hb:Bs w o m)(hlen:l.length+m.length≤1000000000)(o1:Option Addr)(mV:Nat)(hrow:w.heap[p]?=some (.cells #[.slice o1 l.length mV,.bool false] 81 (0,0)))(hb1:Bs w o1 l)(oF:o1=none→mV=0) :
  Calls Tryz.prog 66 #[.pointer (some ⟨p,0,none⟩),.slice o m.length c,.bool true] w (CB p l m false true w):=by
 have hp:p<w.heap.size:=(aC.1 hrow).1;have c0:w.cell? ⟨p,0,none⟩=some (.slice o1 l.length mV):=by rw[aD _ _ _ _ _ _ hrow];rfl
 have c1:w.cell? ⟨p,1,none⟩=some (.bool false):=by rw[aD _ _ _ _ _ _ hrow];rfl
 have f0:w.frozen? ⟨p,0,none⟩=false:=dJ hrow;have f1:w.frozen? ⟨p,1,none⟩=false:=dJ hrow;have R1:(w.setCell ⟨p,1,none⟩ (.bool false)).heap[p]?=some (.cells #[.slice o1 l.length mV,.bool false] 81 (0,0)):=aM _ _ 1 _ _ (.bool false) hrow;have B1:Bs (w.setCell ⟨p,1,none⟩ (.bool false)) o1 l:=hb1.set _ fun b off e hm=>by subst e;exact xT hrow (by intro x h;cases h) hb1 hm
 have B2:Bs (w.setCell ⟨p,1,none⟩ (.bool false)) o m:=hb.set _ fun b off e hm=>by subst e;exact xT hrow (by intro x h;cases h) hb hm
 have G1:=eC w p 1 (.bool false);have qQ:=aA R1;have jK:=aA B1;have mI:=aA B2;have OH:=aA oF;have HC:=aA hc;have HLEN:=aA hlen;clear hrow hb1 oF R1 B1 B2 G1 hc hb hlen;go_enter Tryz.func66,Tryz.ntmps66;go_wp2_with (first
  | (at_builtin;refine FV rfl (.tmp 22) (.tmp 26) rfl w.heap.size _ [] rfl (bV _ _ _ _) o1 l mV rfl OH.out jK.out (by have:=HLEN.out;simp;omega) (by simp) ?_;intro v1 w1 Ap hg1;have Ta:=aA Ap;have sR:=aA hg1;clear Ap hg1)
  | (at_builtin; refine FV rfl (.tmp 29) (.tmp 30) rfl w.heap.size v1 l rfl Ta.out o m c rfl HC.out (mI.out.grown sR.out (fun b off e hm h => by cases h)) HLEN.out (by have := sR.out.size; simp at this; omega) ?_; intro v2 w2 sA hg2
     obtain ⟨q,hq⟩:∃q,l++m=q:=⟨_,rfl⟩;rw[hq] at sA;have HQ:=aA hq;clear hq;obtain ⟨o2,cap2,rfl,_,_,_,_,_⟩:=sA.open;have R2:w1.heap[p]?=some (.cells #[.slice o1 l.length mV,.bool false] 81 (0,0)):=(sR.out.block p (by simpa using hp) (by intro h;cases h)).trans qQ.out;have AP:=Ta.out.apart R2 (by decide);have R3:w2.heap[p]?=some (.cells #[.slice o1 l.length mV,.bool false] 81 (0,0)):=(hg2.block p (aC.1 R2).1 (by intro h;exact AP p h.symm rfl)).trans R2;have d0:w2.cell? ⟨p,0,none⟩=some (.slice o1 l.length mV):=by rw[aD _ _ _ _ _ _ R3];rfl
     have e0:w2.frozen? ⟨p,0,none⟩=false:=dJ R3;have Io:=aA sA;have OM:=aA hg2;have xZ:=aA R3;clear sA hg2 R2 R3 AP))
 have hne:∀k,(Value.slice o2 q.length cap2).ownBlock=some k→k≠p:=Io.out.apart xZ.out (by decide);have R4:=aM _ _ 0 _ _ (.slice o2 q.length cap2) xZ.out;have GG:w.grownBy (w2.setCell ⟨p,0,none⟩ (.slice o2 q.length cap2)) (some p):=by
  refine ⟨?_,?_,?_,?_,?_⟩
  ·exact (OM.out.os.trans sR.out.os)
  ·exact (OM.out.tape.trans sR.out.tape)
  ·exact (OM.out.output.trans sR.out.output)
  ·have h1:=sR.out.size
   have h2:=OM.out.size;simp at h1 ⊢;omega
  ·intro k hk hkp
   have Ng:k≠p:=fun e=>hkp (by rw[e])
   have h1:=sR.out.size;simp at h1;rw[aK _ _ _ _ Ng,OM.out.block k (by omega) (fun e=>by have:=Ta.out.blk k e.symm;omega),sR.out.block k (by simpa using hk) (by intro h;cases h),aK _ _ _ _ Ng]
 refine aO (results_none rfl _ _ _) rfl ⟨rfl,fun _ _=>⟨_,R4,?_⟩,fun (h:false=true∨true=false)=>(by rcases h with h|h <;> cases h),GG⟩;rw[HQ.out];exact Io.out.grown (eC _ _ _ _) (fun k hk h=>hne k hk (bK h))
theorem JG (p:Nat)(n most:Int)(l:List Nat)(w:World)(g0:0≤n)(g1:n≤most)(h1:n≤9223372036854775807)(hlen:l.length≤100000000)(o1:Option Addr)(mV:Nat)(hrow:w.heap[p]?=some (.cells #[.slice o1 l.length mV,.bool false] 81 (0,0)))(hb1:Bs w o1 l)(oF:o1=none→mV=0) :
  Calls Tryz.prog 35 #[.pointer (some ⟨p,0,none⟩),.int .i64 n,.int .i64 most] w (uN 0 p (l++form n.toNat) false w):=by
 have HRW:=aA hrow;have jK:=aA hb1;have OH:=aA oF;obtain ⟨N,hN⟩:∃N:Nat,IntKind.u64.wrap n=(N:Int):=⟨(n%18446744073709551616).toNat,by rw[aV];omega⟩;have zW:N<18446744073709551616:=by rw[aV] at hN;omega
 have Sj:0≤n→N=n.toNat:=fun h=>by rw[aV] at hN;omega
 have hl:=(gP N).2;have HL:=aA hl;have AG:=aA Sj;have Rj:=aA zW;clear hrow hb1 oF hl zW Sj;obtain ⟨b,hb0⟩:∃b,qF n most=b:=⟨_,rfl⟩;have zK:=aA hb0;have tail:∀w1:World,Below w.heap.size w w1→∀o cap,(o=none→cap=0)→Bs w1 o (form N)→Calls Tryz.prog 66 #[.pointer (some ⟨p,0,none⟩),.slice o (form N).length cap,.bool true] w1 (uN 0 p (l++form n.toNat) false w):=by
  intro w1 hb o cap wH mJ;refine (Tl p l (form N) o cap w1 wH mJ (by have:=HL.out;omega) o1 mV (dL hb HRW.out) (jK.out.below hb) OH.out).mono ?_;rintro e w2 ⟨rfl,hz,_,hg⟩;obtain ⟨v,hr,ho⟩:=hz rfl rfl;rw[AG.out g0] at ho;exact ⟨rfl,⟨v,hr,ho.mono (cK _)⟩,(below_grown hb (some p)).trans hg⟩
 have HT:=aA tail;clear tail;obtain rfl:b=true:=by rw[←zK.out];exact bA ⟨g0,g1⟩
 clear zK hb0;go_enter Tryz.func35,Tryz.ntmps35;go_wp2_with fail
 ((with_reducible refine (mQ N Rj.out _).mono ?_))
 rintro e w1 ⟨⟨v,rfl,ho⟩,hb⟩;obtain ⟨o,cap,rfl,mJ,_,_,wH,_⟩:=ho.open;have HP:=aA (HT.out w1 hb o cap wH mJ);clear ho hb mJ wH;go_wp2_with fail;refine HP.out.mono ?_;rintro e w2 hz;have HE:=aA hz;obtain ⟨rfl,_⟩:=hz;clear HP;go_wp2_with fail;exact aO (results_none rfl _ _ _) rfl HE.out
end Go.Proofs.YtbbhmhihpdmoiaaGreat.Pk
namespace Go.Proofs.YtbbhmhihpdmoiaaGreat.Fx
open Go Go.RowKit
variable {F:Fence} {n:Nat} {P:Program}
structure Kept (B:Nat)(W W':World):Prop where
 os:W'.os=W.os
 tape:W'.tape=W.tape
 output:W'.output=W.output
 size:W.heap.size≤W'.heap.size
 block:∀k o,W.heap[k]?=some o→(k<B∨o.isCells=true)→W'.heap[k]?=some o
theorem Kept.of_below {B:Nat}{W W':World}(h:Below W.heap.size W W'):Kept B W W' :=
 ⟨h.os,h.tape,h.output,h.size,fun k o hk _=>by rw[h.block k (aC.1 hk).1];exact hk⟩
theorem Kept.putObj {B l:Nat}{W:World}{o:Obj}(o':Obj)(hB:B≤l)(hl:W.heap[l]?=some o)(ho:o.isCells=false):Kept B W (W.putObj l o') :=
 ⟨rfl,rfl,rfl,by simp,fun k o1 hk hc=>by
  by_cases e:k=l
  ·subst e
   rw[hl] at hk
   cases hk
   rcases hc with hc|hc
   ·omega
   ·rw[ho] at hc;cases hc
  ·exact (World.putObj_heap_other e).trans hk⟩
theorem Kept.below {B:Nat}{w W W':World}(k:Kept B W W')(hB:w.heap.size≤B)(h:Below w.heap.size w W):Below w.heap.size w W' :=
 ⟨k.os.trans h.os,k.tape.trans h.tape,k.output.trans h.output,bH h.size k.size,fun i hi=>by
  have h1:=h.block i hi;rw[Array.getElem?_eq_getElem hi] at h1 ⊢;exact k.block i _ h1 (.inl (by omega))⟩
theorem Kept.cells {B:Nat}{W W':World}(k:Kept B W W'){g:Nat}{c:Array Value}{t:TypeId}{f:Nat×Nat}(h:W.heap[g]?=some (.cells c t f)):W'.heap[g]?=some (.cells c t f):=k.block g _ h (.inr rfl)
def Hands (F:Fence)(n:Nat)(P:Program)(gf:Nat)(lb:Array Value)(elem:Nat→Array Value)(N:Nat)(M:World→Prop):Prop :=
 ∀ (l:Nat) (J:Nat→World→Prop) (Jx:World→Prop) (W:World),
  (∀k W W',J k W→Below W.heap.size W W'→J k W')→(∀W W',Jx W→Below W.heap.size W W'→Jx W')→(∀k W,J k W→M W)→(∀W,Jx W→M W) →
  (∀k W1,k<N→J k W1→YieldAt F (n-1) P l (elem k) W1 fun e W'=>(e=.returned (.bool true)∧J (k+1) W')∨(e=.returned (.bool false)∧Jx W')) →
  J 0 W→CallsIn F n P gf (#[.func (.yield l) #[] #[]]++lb) W fun e W'=>(∃v,e=.returned v)∧(J N W'∨Jx W')
def VI (B c0:Nat)(I' Ix:World→Prop)(W:World):Exit→Act→World→Prop
 | .normal,_,W'=>KeepsFrom B W W'∧I' W'
 | .exit c,_,W'=>c=c0∧KeepsFrom B W W'∧Ix W'
 | _,_,_=>False
theorem jU {g:Operand}{ps:Array Tmp}{assign body:Code}{Q:Exit→Act→World→Prop}{a:Act}{w:World}
  (hro:F.round=none) (h1:1≤n) {gf:Nat} {lb:Array Value} (hg:a.eval g=.func (.func gf) #[] lb) (hFg:F.fn gf) (eg:∀args w,(callFunc gf args).run P w=.ok (.enter gf args) w)
  {elem:Nat→Array Value} {N:Nat} {M:World→Prop} (hseq:Hands F (n-1) P gf lb elem N M) (MZ:∀k,(elem k).size=ps.size)
  (c0:Nat) (I:Nat→World→Prop) (Ix:World→Prop) (Ax:Nat→Act→World→Prop)
  (hI:∀k W W',I k W→Kept w.heap.size W W'→I k W') (jr:∀W W',Ix W→Kept w.heap.size W W'→Ix W') (hAx:∀k a W W',Ax k a W→Kept w.heap.size W W'→Ax k a W')
  (hIM:∀k W,I k W→M W) (hIxM:∀W,Ix W→M W) (h0:I 0 w)
  (NM:∀ (l k:Nat) (W:World) (C:Act→World→Prop),k<N→I k W→(∀a' W',KeepsFrom w.heap.size W W'→Ax k a' W'→C a' W') →
   assign.wpIn (F.inRound l) (n-1-1) P (Exit.then C (fun _ _ _=>False)) { tmps:=(ps.zip (elem k)).foldl (fun t (p,v)=>t.setIfInBounds p v) a.tmps,defers:=[] } W)
  (Oa:∀ (l k:Nat) (a':Act) (W:World),k<N→Ax k a' W→body.wpIn (F.inRound l) (n-1-1) P (VI w.heap.size c0 (I (k+1)) Ix W) a' W)
  (hdone:∀ (D:Nat) (W:World),w.heap.size≤D→I N W→W.heap[D]?=some (.deferred (some []))→Q .normal { a with defers:={ target:=.collected D,args:=#[] }::a.defers } W)
  (nN:∀ (D:Nat) (W:World),w.heap.size≤D→Ix W→W.heap[D]?=some (.deferred (some []))→(Code.exit c0).wpIn F n P Q { a with defers:={ target:=.collected D,args:=#[] }::a.defers } W) :
  (Code.rangeFunc g ps assign body).wpIn F n P Q a w:=by
 refine wpIn_rangeFunc fun fn hfn=>?_
 rw[hro];obtain ⟨rc,GL⟩:∃rc:LoopState→Option Code→Loop,rc=fun st pe=>{ state:=st,pending:=pe,fn,tmps:=a.tmps,params:=ps,assign,body,defers:=w.heap.size }:=⟨_,rfl⟩
 obtain ⟨V,hV⟩:∃V,(w.alloc (.deferred (some []))).alloc (.loop (rc .ready none))=V:=⟨_,rfl⟩;have vL:V.heap[w.heap.size+1]?=some (.loop (rc .ready none)):=by
  have:=World.alloc_heap_new (w.alloc (.deferred (some []))) (.loop (rc .ready none));rw[aR,hV] at this;exact this
 have vD:V.heap[w.heap.size]?=some (.deferred (some [])):=by
  rw[←hV];exact (Below.heap_alloc _ _ _ (by simp)).trans (World.alloc_heap_new w _)
 have vB:Below w.heap.size w V:=by rw[←hV];exact ((aJ _ w).alloc (aB _) _).alloc (by simp) _
 have vI:I 0 V:=hI _ _ _ h0 (Kept.of_below vB);refine ⟨w.heap.size+1,[{ target:=.collected w.heap.size,args:=#[] }],V,{ target:=.fn (.func gf) lb,args:=#[.func (.yield (w.heap.size+1)) #[] #[]] },V,gf,#[.func (.yield (w.heap.size+1)) #[] #[]]++lb,V,?_,?_,?_,?_,fun _=>h1,?_⟩
 ·rw[←hV,GL];exact run_enterLoop_outer _ _ _ _ _
 ·simp only[resolve,hg]
  simp[go_sem]
 ·intro f' hf'
  simp[Target.leads] at hf';subst hf';exact hFg
 ·simp[invoke,go_sem,eg]
 have stay:∀ {X:World} {W W':World} {k:Nat} {o:Obj},W.heap[k]?=some o→Below W.heap.size W W'→W'.heap[k]?=some o:=fun hk hb=>by
  rw[hb.block _ (aC.1 hk).1];exact hk
 refine (hseq (w.heap.size+1)
  (fun k W=>I k W∧W.heap[w.heap.size+1]?=some (.loop (rc .ready none))∧W.heap[w.heap.size]?=some (.deferred (some [])))
  (fun W=>Ix W∧W.heap[w.heap.size+1]?=some (.loop (rc .done (some (.exit c0))))∧W.heap[w.heap.size]?=some (.deferred (some [])))
  V (fun k W W' h hb=>⟨hI _ _ _ h.1 (Kept.of_below hb),stay (X:=W) h.2.1 hb,stay (X:=W) h.2.2 hb⟩) (fun W W' h hb=>⟨jr _ _ h.1 (Kept.of_below hb),stay (X:=W) h.2.1 hb,stay (X:=W) h.2.2 hb⟩)
  (fun k W h=>hIM k W h.1) (fun W h=>hIxM W h.1) ?round ⟨vI,vL,vD⟩).mono ?behind
 case round =>
  rintro k W jc ⟨hi,hl,hd⟩;have hlt:w.heap.size+1<W.heap.size:=(aC.1 hl).1;have hy:=run_yield (P:=P) (args:=elem k) hl (by rw[GL];exact MZ k);rw[GL] at hy;refine ⟨fn,_,assign,body,hy,roundIn_of_wpIn hfn (NM _ k W _ jc hi ?_)⟩;intro a' W' hkf hax;have wL:=hkf.same _ _ (by omega) hl rfl;have wD:=hkf.same _ _ (aB _) hd rfl;refine ⟨_,run_beginRound wL (by rw[GL]),?_⟩;obtain ⟨U,hU⟩:∃U,W'.putObj (w.heap.size+1) (.loop { rc .ready none with state:=.busy })=U:=⟨_,rfl⟩;have hlt':w.heap.size+1<W'.heap.size:=(aC.1 wL).1;have uL:U.heap[w.heap.size+1]?=some (.loop { rc .ready none with state:=.busy }):=by rw[←hU];exact World.putObj_heap_same hlt'
  have uD:U.heap[w.heap.size]?=some (.deferred (some [])):=by rw[←hU];exact (World.putObj_heap_other (by omega)).trans wD
  have uA:Ax k a' U:=by rw[←hU];exact hAx _ _ _ _ hax (Kept.putObj _ (by omega) wL rfl)
  rw[hU];refine wpIn_mono (Oa _ k a' U jc uA) ?_;have ends:∀ (jump:Option Code) (X:World),KeepsFrom w.heap.size U X→X.heap[w.heap.size+1]?=some (.loop { rc .ready none with state:=.busy }) ∧
    (Instr.endRound (w.heap.size+1) jump).run P X=.ok (.bool jump.isNone) (X.putObj (w.heap.size+1) (.loop (rc (if jump.isNone then .ready else .done) jump))) ∧
    (X.putObj (w.heap.size+1) (.loop (rc (if jump.isNone then .ready else .done) jump))).heap[w.heap.size+1]?=some (.loop (rc (if jump.isNone then .ready else .done) jump)) ∧
    (X.putObj (w.heap.size+1) (.loop (rc (if jump.isNone then .ready else .done) jump))).heap[w.heap.size]?=some (.deferred (some [])):=by
   intro jump X hX;have xL:=hX.same _ _ (by omega) uL rfl;have xr:=run_endRound (P:=P) jump xL;have xs:=World.putObj_heap_same (o:=.loop (rc (if jump.isNone then .ready else .done) jump)) (aC.1 xL).1;have xd:=(World.putObj_heap_other (o:=.loop (rc (if jump.isNone then .ready else .done) jump)) (show w.heap.size≠w.heap.size+1 by omega)).trans (hX.same _ _ (aB _) uD rfl);refine ⟨xL,?_,xs,xd⟩;rw[GL] at xr ⊢;exact xr
  intro e b X hp
  match e,hp with
  | .normal,hp =>
   obtain ⟨hk,nT⟩:=hp;obtain ⟨xL,r,s,d⟩:=ends none X hk;exact ⟨_,_,r,.inl ⟨rfl,hI _ _ _ nT (Kept.putObj _ (by omega) xL rfl),s,d⟩⟩
  | .exit c,hp =>
   obtain ⟨rfl,hk,hx⟩:=hp;obtain ⟨xL,r,s,d⟩:=ends (some (.exit c)) X hk;exact ⟨_,_,r,.inr ⟨rfl,jr _ _ hx (Kept.putObj _ (by omega) xL rfl),s,d⟩⟩
 case behind =>
  rintro e X ⟨⟨v,rfl⟩,⟨hi,hl,hd⟩|⟨hx,hl,hd⟩⟩
  ·have h:=run_endLoop (P:=P) hl (by rw[GL];simp)
   rw[GL] at h;exact ⟨none,_,h,hdone _ _ (aB _) (hI _ _ _ hi (Kept.putObj _ (by omega) hl rfl)) ((World.putObj_heap_other (by omega)).trans hd)⟩
  ·have h:=run_endLoop (P:=P) hl (by rw[GL];simp)
   rw[GL] at h;exact ⟨some (.exit c0),_,h,nN _ _ (aB _) (jr _ _ hx (Kept.putObj _ (by omega) hl rfl)) ((World.putObj_heap_other (by omega)).trans hd)⟩
variable {F:Fence} {n:Nat} {P:Program}
def Ud (B:Nat)(cj:Code)(I' Ix:World→Prop)(W:World):Exit→Act→World→Prop
 | .normal,_,W'=>KeepsFrom B W W'∧I' W'
 | .exit c,_,W'=>cj=.exit c∧KeepsFrom B W W'∧Ix W'
 | .ret,_,W'=>cj=.ret∧KeepsFrom B W W'∧Ix W'
 | _,_,_=>False
theorem gJ {g:Operand}{ps:Array Tmp}{assign body:Code}{Q:Exit→Act→World→Prop}{a:Act}{w:World}
  (hro:F.round=none) (h1:1≤n) {gf:Nat} {lb:Array Value} (hg:a.eval g=.func (.func gf) #[] lb) (hFg:F.fn gf) (eg:∀args w,(callFunc gf args).run P w=.ok (.enter gf args) w)
  {elem:Nat→Array Value} {N:Nat} {M:World→Prop} (hseq:Hands F (n-1) P gf lb elem N M) (MZ:∀k,(elem k).size=ps.size)
  (cj:Code) (I:Nat→World→Prop) (Ix:World→Prop) (Ax:Nat→Act→World→Prop)
  (hI:∀k W W',I k W→Kept w.heap.size W W'→I k W') (jr:∀W W',Ix W→Kept w.heap.size W W'→Ix W') (hAx:∀k a W W',Ax k a W→Kept w.heap.size W W'→Ax k a W')
  (hIM:∀k W,I k W→M W) (hIxM:∀W,Ix W→M W) (h0:I 0 w)
  (NM:∀ (l k:Nat) (W:World) (C:Act→World→Prop),k<N→I k W→(∀a' W',KeepsFrom w.heap.size W W'→Ax k a' W'→C a' W') →
   assign.wpIn (F.inRound l) (n-1-1) P (Exit.then C (fun _ _ _=>False)) { tmps:=(ps.zip (elem k)).foldl (fun t (p,v)=>t.setIfInBounds p v) a.tmps,defers:=[] } W)
  (Oa:∀ (l k:Nat) (a':Act) (W:World),k<N→Ax k a' W→body.wpIn (F.inRound l) (n-1-1) P (Ud w.heap.size cj (I (k+1)) Ix W) a' W)
  (hdone:∀ (D:Nat) (W:World),w.heap.size≤D→I N W→W.heap[D]?=some (.deferred (some []))→Q .normal { a with defers:={ target:=.collected D,args:=#[] }::a.defers } W)
  (nN:∀ (D:Nat) (W:World),w.heap.size≤D→Ix W→W.heap[D]?=some (.deferred (some []))→cj.wpIn F n P Q { a with defers:={ target:=.collected D,args:=#[] }::a.defers } W) :
  (Code.rangeFunc g ps assign body).wpIn F n P Q a w:=by
 refine wpIn_rangeFunc fun fn hfn=>?_
 rw[hro];obtain ⟨rc,GL⟩:∃rc:LoopState→Option Code→Loop,rc=fun st pe=>{ state:=st,pending:=pe,fn,tmps:=a.tmps,params:=ps,assign,body,defers:=w.heap.size }:=⟨_,rfl⟩
 obtain ⟨V,hV⟩:∃V,(w.alloc (.deferred (some []))).alloc (.loop (rc .ready none))=V:=⟨_,rfl⟩;have vL:V.heap[w.heap.size+1]?=some (.loop (rc .ready none)):=by
  have:=World.alloc_heap_new (w.alloc (.deferred (some []))) (.loop (rc .ready none));rw[aR,hV] at this;exact this
 have vD:V.heap[w.heap.size]?=some (.deferred (some [])):=by
  rw[←hV];exact (Below.heap_alloc _ _ _ (by simp)).trans (World.alloc_heap_new w _)
 have vB:Below w.heap.size w V:=by rw[←hV];exact ((aJ _ w).alloc (aB _) _).alloc (by simp) _
 have vI:I 0 V:=hI _ _ _ h0 (Kept.of_below vB);refine ⟨w.heap.size+1,[{ target:=.collected w.heap.size,args:=#[] }],V,{ target:=.fn (.func gf) lb,args:=#[.func (.yield (w.heap.size+1)) #[] #[]] },V,gf,#[.func (.yield (w.heap.size+1)) #[] #[]]++lb,V,?_,?_,?_,?_,fun _=>h1,?_⟩
 ·rw[←hV,GL];exact run_enterLoop_outer _ _ _ _ _
 ·simp only[resolve,hg]
  simp[go_sem]
 ·intro f' hf'
  simp[Target.leads] at hf';subst hf';exact hFg
 ·simp[invoke,go_sem,eg]
 have stay:∀ {X:World} {W W':World} {k:Nat} {o:Obj},W.heap[k]?=some o→Below W.heap.size W W'→W'.heap[k]?=some o:=fun hk hb=>by
  rw[hb.block _ (aC.1 hk).1];exact hk
 refine (hseq (w.heap.size+1)
  (fun k W=>I k W∧W.heap[w.heap.size+1]?=some (.loop (rc .ready none))∧W.heap[w.heap.size]?=some (.deferred (some [])))
  (fun W=>Ix W∧W.heap[w.heap.size+1]?=some (.loop (rc .done (some cj)))∧W.heap[w.heap.size]?=some (.deferred (some [])))
  V (fun k W W' h hb=>⟨hI _ _ _ h.1 (Kept.of_below hb),stay (X:=W) h.2.1 hb,stay (X:=W) h.2.2 hb⟩) (fun W W' h hb=>⟨jr _ _ h.1 (Kept.of_below hb),stay (X:=W) h.2.1 hb,stay (X:=W) h.2.2 hb⟩)
  (fun k W h=>hIM k W h.1) (fun W h=>hIxM W h.1) ?round ⟨vI,vL,vD⟩).mono ?behind
 case round =>
  rintro k W jc ⟨hi,hl,hd⟩;have hlt:w.heap.size+1<W.heap.size:=(aC.1 hl).1;have hy:=run_yield (P:=P) (args:=elem k) hl (by rw[GL];exact MZ k);rw[GL] at hy;refine ⟨fn,_,assign,body,hy,roundIn_of_wpIn hfn (NM _ k W _ jc hi ?_)⟩;intro a' W' hkf hax;have wL:=hkf.same _ _ (by omega) hl rfl;have wD:=hkf.same _ _ (aB _) hd rfl;refine ⟨_,run_beginRound wL (by rw[GL]),?_⟩;obtain ⟨U,hU⟩:∃U,W'.putObj (w.heap.size+1) (.loop { rc .ready none with state:=.busy })=U:=⟨_,rfl⟩;have hlt':w.heap.size+1<W'.heap.size:=(aC.1 wL).1;have uL:U.heap[w.heap.size+1]?=some (.loop { rc .ready none with state:=.busy }):=by rw[←hU];exact World.putObj_heap_same hlt'
  have uD:U.heap[w.heap.size]?=some (.deferred (some [])):=by rw[←hU];exact (World.putObj_heap_other (by omega)).trans wD
  have uA:Ax k a' U:=by rw[←hU];exact hAx _ _ _ _ hax (Kept.putObj _ (by omega) wL rfl)
  rw[hU];refine wpIn_mono (Oa _ k a' U jc uA) ?_;have ends:∀ (jump:Option Code) (X:World),KeepsFrom w.heap.size U X→X.heap[w.heap.size+1]?=some (.loop { rc .ready none with state:=.busy }) ∧
    (Instr.endRound (w.heap.size+1) jump).run P X=.ok (.bool jump.isNone) (X.putObj (w.heap.size+1) (.loop (rc (if jump.isNone then .ready else .done) jump))) ∧
    (X.putObj (w.heap.size+1) (.loop (rc (if jump.isNone then .ready else .done) jump))).heap[w.heap.size+1]?=some (.loop (rc (if jump.isNone then .ready else .done) jump)) ∧
    (X.putObj (w.heap.size+1) (.loop (rc (if jump.isNone then .ready else .done) jump))).heap[w.heap.size]?=some (.deferred (some [])):=by
   intro jump X hX;have xL:=hX.same _ _ (by omega) uL rfl;have xr:=run_endRound (P:=P) jump xL;have xs:=World.putObj_heap_same (o:=.loop (rc (if jump.isNone then .ready else .done) jump)) (aC.1 xL).1;have xd:=(World.putObj_heap_other (o:=.loop (rc (if jump.isNone then .ready else .done) jump)) (show w.heap.size≠w.heap.size+1 by omega)).trans (hX.same _ _ (aB _) uD rfl);refine ⟨xL,?_,xs,xd⟩;rw[GL] at xr ⊢;exact xr
  intro e b X hp
  match e,hp with
  | .normal,hp =>
   obtain ⟨hk,nT⟩:=hp;obtain ⟨xL,r,s,d⟩:=ends none X hk;exact ⟨_,_,r,.inl ⟨rfl,hI _ _ _ nT (Kept.putObj _ (by omega) xL rfl),s,d⟩⟩
  | .exit c,hp =>
   obtain ⟨rfl,hk,hx⟩:=hp;obtain ⟨xL,r,s,d⟩:=ends (some (.exit c)) X hk;exact ⟨_,_,r,.inr ⟨rfl,jr _ _ hx (Kept.putObj _ (by omega) xL rfl),s,d⟩⟩
  | .ret,hp =>
   obtain ⟨rfl,hk,hx⟩:=hp;obtain ⟨xL,r,s,d⟩:=ends (some .ret) X hk;exact ⟨_,_,r,.inr ⟨rfl,jr _ _ hx (Kept.putObj _ (by omega) xL rfl),s,d⟩⟩
 case behind =>
  rintro e X ⟨⟨v,rfl⟩,⟨hi,hl,hd⟩|⟨hx,hl,hd⟩⟩
  ·have h:=run_endLoop (P:=P) hl (by rw[GL];simp)
   rw[GL] at h;exact ⟨none,_,h,hdone _ _ (aB _) (hI _ _ _ hi (Kept.putObj _ (by omega) hl rfl)) ((World.putObj_heap_other (by omega)).trans hd)⟩
  ·have h:=run_endLoop (P:=P) hl (by rw[GL];simp)
   rw[GL] at h;exact ⟨some cj,_,h,nN _ _ (aB _) (jr _ _ hx (Kept.putObj _ (by omega) hl rfl)) ((World.putObj_heap_other (by omega)).trans hd)⟩
variable {F:Fence} {n:Nat} {P:Program} {ops:Array Oper} {Q:Exit→Act→World→Prop} {md:Region.Mode} {S:World→Prop}
def Calm (ops:Array Oper):Bool:=ops.all fun o=>match o.op with
 | .defer _=>false
 | _=>true
theorem BW {i:Nat}{o:Oper}(h:Calm ops=true)(hi:ops[i]?=some o)(c:Call):o.op≠.defer c:=by
 intro e;unfold Calm at h;rw[Array.all_eq_true_iff_forall_mem] at h;have:=h o (Array.mem_of_getElem? hi);rw[e] at this
 cases this
theorem BK (hF:∀f,F.fn f)(hd:Calm ops=true){i:Nat}{o:Oper}{v:Value}{a:Act}(hi:ops[i]?=some o)(hy:YieldsIf P ops S o v a)
  {K:Act→World→Prop} {w:World} (hS:S w) (h:K (a.put o.dst v) w):wpOpIn F n P ops Q i K a w:=by
 unfold Go.wpOpIn;simp only[hi]
 rcases hy with ⟨hw,hv⟩|⟨hw,rfl⟩
 ·simp only[hw,if_true,Oper.wpIn,Oper.semAt_plain F _ _ (BW hd hi),hv w hS,Oper.uponIn]
  exact ⟨fun f _=>hF f,h⟩
 ·simp only[hw,bD,if_false]
  exact ⟨fun f _=>hF f,h⟩
theorem SV (hF:∀f,F.fn f)(hd:Calm ops=true){j:Nat}{oi oj:Oper}{v:Value}(hj:ops[j]?=some oj)(hap:oi.apart ops oj=true)
  (hsi:∀cs b,oi.op≠.select cs b) (hsj:∀cs b,oj.op≠.select cs b)
  (hQ:∀c a w,Q (.panic c) (a.put oi.dst v) w→Q (.panic c) a w) {K:Act→World→Prop} {a:Act} {w:World}
  (hy:YieldsIf P ops S oi v a) (h:wpOpIn F n P ops Q j K (a.put oi.dst v) w) :
  wpOpIn F n P ops Q j (fun a' w'=>YieldsIf P ops S oi v a'∧K (a'.put oi.dst v) w') a w:=by
 obtain ⟨h1,h2,h3⟩:=Oper.apart_spec hap;have hcj:=BW hd hj;have keep:∀ (a:Act),YieldsIf P ops S oi v a→∀u,YieldsIf P ops S oi v (a.put oj.dst u):=fun a hy u =>
  hy.of_same (execOp_put oi hsi a oj.dst u h3) (wanted_put oi a oj.dst u h3)
 unfold wpOpIn at *;simp only[hj] at *;rw[wanted_put oj a oi.dst v h1] at h
 split
 ·rename_i hw
  simp only[hw,if_true] at h;unfold Oper.wpIn at *;rw[Oper.semAt_plain F _ _ hcj] at h ⊢;rw[execOp_put oj hsj a oi.dst v h1] at h;refine ⟨fun f _=>hF f,?_⟩;obtain ⟨_,h⟩:=h;generalize (execOp a.eval oj).run P w=r at *
  cases r with
  | ok x w' =>
   cases x <;> simp only[Oper.uponIn] at h ⊢
   case value u=>exact ⟨keep a hy u,by rw[←Act.put_comm a v u h2];exact h⟩
   case skip=>exact ⟨keep a hy _,by rw[←Act.put_comm a v undef h2];exact h⟩
   case defer d =>
    refine ⟨keep _ (show YieldsIf P ops S oi v { a with defers:=d::a.defers } from hy.of_same rfl rfl) _,?_⟩;rw[←Act.put_comm _ v undef h2,←Act.put_defers];exact h
   case enter f args =>
    refine ⟨h.1,CallsIn.mono h.2 fun e w'' he=>?_⟩
    cases e with
    | returned u=>exact ⟨keep a hy u,by rw[←Act.put_comm a v u h2];exact he⟩
    | panicked c=>exact hQ _ _ _ he
    | outgrown=>exact he
   case row row args=>exact ⟨h.1,RowsIn.mono h.2 fun u w'' he=>⟨keep a hy u,by rw[←Act.put_comm a v u h2];exact he⟩⟩
   case round l f tmps assign body =>
    refine ⟨h.1,RoundIn.mono h.2 fun e w'' he=>?_⟩
    cases e with
    | returned u=>exact ⟨keep a hy u,by rw[←Act.put_comm a v u h2];exact he⟩
    | panicked c=>exact hQ _ _ _ he
    | outgrown=>exact he
  | halt x w' =>
   cases x <;> simp only[Oper.uponIn] at h ⊢
   case panic u=>exact hQ _ _ _ h
 ·rename_i hw
  simp only[hw] at h;exact ⟨fun f _=>hF f,keep a hy _,by rw[←Act.put_comm a v undef h2];exact h.2⟩
def jJ (F:Fence)(n:Nat)(P:Program)(md:Region.Mode)(ops:Array Oper)(Q:Exit→Act→World→Prop)(S:World→Prop):Nat→Array Bool→Act→World→Prop
 | 0,listed,a,w=>Region.ready md ops listed=[]∧Q .normal a w
 | fuel+1,listed,a,w =>
  (Region.ready md ops listed=[]→Q .normal a w) ∧
  ∀i∈Region.ready md ops listed,wpOpIn F n P ops Q i (fun a' w'=>S w'∧jJ F n P md ops Q S fuel (listed.setIfInBounds i true) a' w') a w
theorem jJ.any:∀ (fuel:Nat)(listed:Array Bool)(a:Act)(w:World),jJ F n P md ops Q S fuel listed a w→wpAnyIn F n P md ops Q fuel listed a w
 | 0,_,_,_,h=>h
 | fuel+1,_,_,_,h=>⟨h.1,fun i hi=>wpOpIn_mono (fun a' w' h'=>jJ.any fuel _ a' w' h'.2) (h.2 i hi)⟩
theorem XH (hF:∀f,F.fn f)(hd:Calm ops=true){i:Nat}{oi:Oper}{v:Value}(hi:ops[i]?=some oi)(RY:∀ (j:Nat) (o:Oper) cs b,ops[j]?=some o→o.op≠.select cs b)
  (hQ:∀c a w,Q (.panic c) (a.put oi.dst v) w→Q (.panic c) a w) (fuel:Nat) :
  ∀ (listed:Array Bool) (a:Act) (w:World),
   (∀j oj,ops[j]?=some oj→j≠i→listed.getD j true=false→(∀e∈oj.after,Region.binds md e=true→e.on≠i)→oi.apart ops oj=true) →
   i∈Region.ready md ops listed→YieldsIf P ops S oi v a→S w →
   jJ F n P md ops Q S fuel (listed.setIfInBounds i true) (a.put oi.dst v) w→jJ F n P md ops Q S (fuel+1) listed a w:=by
 induction fuel with
 | zero =>
  intro listed a w _ hr hy hS H;refine ⟨fun h=>(by rw[h] at hr;cases hr),fun j hj=>?_⟩;by_cases zG:j=i
  ·subst zG;exact BK hF hd hi hy hS ⟨hS,H⟩
  ·have:=ready_mono hj zG
   rw[H.1] at this
   cases this
 | succ fuel ih =>
  intro listed a w zH hr hy hS H;refine ⟨fun h=>(by rw[h] at hr;cases hr),fun j hj=>?_⟩;by_cases zG:j=i
  ·subst zG;exact BK hF hd hi hy hS ⟨hS,H⟩
  ·have h1:=H.2 j (ready_mono hj zG)
   obtain ⟨SK,oj,Mq,hall⟩:=mem_ready.1 hj;have Ms:∀e∈oj.after,Region.binds md e=true→e.on≠i:=fun e he hb heq=>by
    have h1:=hall e he hb;have h0:=(mem_ready.1 hr).1;rw[heq] at h1
    rcases Nat.lt_or_ge i listed.size with h'|h'
    ·simp[h'] at h0 h1;rw[h0] at h1;cases h1
    ·simp[Array.getElem?_eq_none h'] at h1
   have h2:=SV hF hd Mq (zH j oj Mq zG SK Ms) (fun cs b=>RY i oi cs b hi) (fun cs b=>RY j oj cs b Mq) hQ hy h1;refine wpOpIn_mono (fun a' w' h3=>⟨h3.2.1,ih (listed.setIfInBounds j true) a' w' (fun k ok hk hki Rx hno=>zH k ok hk hki ?_ hno) (ready_mono hr (Ne.symm zG)) h3.1 h3.2.1 ?_⟩) h2
   ·by_cases hjk:j=k
    ·subst hjk;exact SK
    ·rw[getD_set_ne true hjk] at Rx;exact Rx
   ·rw[Array.setIfInBounds_comm _ _ zG]
    exact h3.2.2
theorem dH (hF:∀f,F.fn f)(hd:Calm ops=true){i:Nat}{oi:Oper}{v:Value}{fuel:Nat}{listed:Array Bool}{a:Act}{w:World}(hi:ops[i]?=some oi)
  (hs:Region.noSelect ops=true) (hf:Region.free md ops listed i=true) (hr:(Region.ready md ops listed).contains i=true)
  (hQ:∀c a w,Q (.panic c) (a.put oi.dst v) w→Q (.panic c) a w) (hS:S w) (hy:YieldsIf P ops S oi v a)
  (h:jJ F n P md ops Q S fuel (listed.setIfInBounds i true) (a.put oi.dst v) w):jJ F n P md ops Q S (fuel+1) listed a w :=
 XH hF hd hi (Region.noSelect_spec hs) hQ fuel listed a w (Region.free_spec hi hf) (by simpa using hr) hy hS h
theorem dO (hF:∀f,F.fn f){i:Nat}{o:Oper}{fuel:Nat}{listed:Array Bool}{a:Act}{w:World}(hr:Region.ready md ops listed=[i])(ho:ops[i]?=some o)
  (h:∀K':Act→World→Prop,Shut (∀a w,S w→(S w→jJ F n P md ops Q S fuel (listed.setIfInBounds i true) a w)→K' a w)→if Region.wanted o (yielded ops a.tmps)=true then Oper.wpIn F n P o a w K' Q else K' (a.put o.dst undef) w) :
  jJ F n P md ops Q S (fuel+1) listed a w:=by
 refine ⟨fun h0=>(by rw[hr] at h0;cases h0),fun j hj=>?_⟩;rw[hr,List.mem_singleton] at hj;subst hj;unfold wpOpIn;simp only[ho];have h':=h (fun a' w'=>S w'∧jJ F n P md ops Q S fuel (listed.setIfInBounds j true) a' w') (fun a w hS hW=>⟨hS,hW hS⟩)
 split
 ·rename_i hw
  rw[aZ hw] at h';exact h'
 ·rename_i hw
  rw[bF hw] at h';exact ⟨fun f _=>hF f,h'⟩
theorem kY (hF:∀f,F.fn f){i j:Nat}{o o2:Oper}{fuel:Nat}{listed:Array Bool}{a:Act}{w:World}(hr:Region.ready md ops listed=[i,j])(ho:ops[i]?=some o)(sA:ops[j]?=some o2)
  (h:∀K':Act→World→Prop,Shut (∀a w,S w→(S w→jJ F n P md ops Q S fuel (listed.setIfInBounds i true) a w)→K' a w)→if Region.wanted o (yielded ops a.tmps)=true then Oper.wpIn F n P o a w K' Q else K' (a.put o.dst undef) w)
  (h2:∀K':Act→World→Prop,Shut (∀a w,S w→(S w→jJ F n P md ops Q S fuel (listed.setIfInBounds j true) a w)→K' a w)→if Region.wanted o2 (yielded ops a.tmps)=true then Oper.wpIn F n P o2 a w K' Q else K' (a.put o2.dst undef) w) :
  jJ F n P md ops Q S (fuel+1) listed a w:=by
 refine ⟨fun h0=>(by rw[hr] at h0;cases h0),fun k hk=>?_⟩;rw[hr] at hk;simp only[List.mem_cons,List.not_mem_nil,or_false] at hk
 rcases hk with rfl|rfl
 ·unfold wpOpIn
  simp only[ho];have h':=h (fun a' w'=>S w'∧jJ F n P md ops Q S fuel (listed.setIfInBounds k true) a' w') (fun a w hS hW=>⟨hS,hW hS⟩)
  split
  ·rename_i hw
   rw[aZ hw] at h';exact h'
  ·rename_i hw
   rw[bF hw] at h';exact ⟨fun f _=>hF f,h'⟩
 ·unfold wpOpIn
  simp only[sA];have h':=h2 (fun a' w'=>S w'∧jJ F n P md ops Q S fuel (listed.setIfInBounds k true) a' w') (fun a w hS hW=>⟨hS,hW hS⟩)
  split
  ·rename_i hw
   rw[aZ hw] at h';exact h'
  ·rename_i hw
   rw[bF hw] at h';exact ⟨fun f _=>hF f,h'⟩
theorem eH {listed:Array Bool}{a:Act}{w:World}(hr:Region.ready md ops listed=[])(h:Q .normal a w):∀fuel,jJ F n P md ops Q S fuel listed a w
 | 0=>⟨hr,h⟩
 | _+1=>⟨fun _=>h,by rw[hr];simp⟩
theorem eI {id:Nat}{a:Act}{w:World}(hm:P.follows .mixedOrders=true)(hS:S w.drew)
  (h:S w.drew→jJ F n P .any ops Q S ops.size (Array.replicate ops.size false) a w.drew):(Code.region id ops true).wpIn F n P Q a w :=
 wpIn_region_any hm (jJ.any _ _ _ _ (h hS))
end Go.Proofs.YtbbhmhihpdmoiaaGreat.Fx
namespace Go.Proofs.YtbbhmhihpdmoiaaGreat.Wm
def At (z h:Int)(l:Nat):Prop:=z=h*18446744073709551616+(l:Int)∧l<18446744073709551616∧-9223372036854775808≤h∧h<9223372036854775808
def Na (n h l:Nat):Prop:=n=h*18446744073709551616+l∧l<18446744073709551616∧h<18446744073709551616
def pL (z:Int):Int:=(z+170141183460469231731687303715884105728)%340282366920938463463374607431768211456-170141183460469231731687303715884105728
def In (z:Int):Prop:=-170141183460469231731687303715884105728≤z∧z<170141183460469231731687303715884105728
instance (z:Int):Decidable (In z):=by unfold In;infer_instance
theorem AK {z:Int}(h:In z):pL z=z:=by unfold pL In at *;omega
theorem At.inn {z h:Int}{l:Nat}(a:At z h l):In z:=by unfold At In at *;omega
theorem At.neg {z h:Int}{l:Nat}(a:At z h l):h<0↔z<0:=by unfold At at *;omega
theorem At.ex {z:Int}(h:In z):∃a b,At z a b:=by
 refine ⟨z/18446744073709551616,(z%18446744073709551616).toNat,?_⟩;unfold At In at *;omega
theorem At.uniq {z a b:Int}{k l:Nat}(h:At z a k)(g:At z b l):a=b∧k=l:=by unfold At at *;omega
def uw (h:Int):Nat:=(h%18446744073709551616).toNat
theorem sU (h:Int):(uw h:Int)=h%18446744073709551616:=by unfold uw;omega
theorem YS (h:Int):uw h<18446744073709551616:=by unfold uw;omega
theorem Vm {x y xh yh:Int}{xl yl:Nat}(hx:At x xh xl)(hy:At y yh yl) :
  At (pL (x-y)) (((((uw xh+18446744073709551616-uw yh-(if xl<yl then 1 else 0))%18446744073709551616:Nat):Int)+9223372036854775808)%18446744073709551616-9223372036854775808) ((xl+18446744073709551616-yl)%18446744073709551616):=by
 have a:=sU xh;have b:=sU yh;have a':=YS xh;have b':=YS yh;generalize uw xh=p at *;generalize uw yh=q at *;unfold At pL at *
 split <;> omega
end Go.Proofs.YtbbhmhihpdmoiaaGreat.Wm
namespace Go.Proofs.YtbbhmhihpdmoiaaGreat.Fx
open Go Go.RowKit Wm
theorem LZ {k:IntKind}{a b:Int}(h:a=b):Ending.returned (.int k a)=.returned (.int k b):=by rw[h]
theorem Kl {x y:Bool}(h2:x=y):Ending.returned (.bool x)=.returned (.bool y):=by rw[h2]
theorem TV {W w1:World}(hb:Below W.heap.size W w1):(∀b o,b<W.heap.size→w1.cell? ⟨b,o,none⟩=W.cell? ⟨b,o,none⟩)∧(∀b o,b<W.heap.size→w1.frozen? ⟨b,o,none⟩=W.frozen? ⟨b,o,none⟩) :=
 ⟨fun b o h=>hb.cell (p:=⟨b,o,none⟩) h,fun b o h=>hb.frozen (p:=⟨b,o,none⟩) h⟩
theorem vT {B:Nat}{w w':World}(n:Nat)(h:Below B (w.drewN n) w'):Below B w w':=⟨h.os,h.tape,h.output,h.size,h.block⟩
theorem eM (B:Nat)(w:World)(n:Nat):Below B w (w.drewN n):=vT n (aJ _ _)
theorem dN {w W1 W2:World}(h:Below w.heap.size w W1)(k:Below W1.heap.size W1 W2):Below w.heap.size w W2:=h.trans (k.mono h.size)
theorem run_add64 (x y c:Nat)(hc:c≤1)(w:World) :
  (callFunc 182 #[.int .u64 x,.int .u64 y,.int .u64 c]).run Tryz.prog w =
   .ok (.value (.tuple #[.int .u64 (((x+y+c)%18446744073709551616:Nat):Int),.int .u64 (((x+y+c)/18446744073709551616:Nat):Int)])) w:=by
 rw[run_callFunc_extern Tryz.func182 (by kernel_rfl) (by kernel_rfl) (by kernel_rfl) (e:=add64Entry) (by kernel_rfl),_root_.Go.run_add64 x y c (by omega) (by omega) (by omega) (by omega)];simp only[Result.andThen]
 congr 5 <;> omega
theorem run_sub64 (x y b:Nat)(hb:b≤1)(w:World) :
  (callFunc 186 #[.int .u64 x,.int .u64 y,.int .u64 b]).run Tryz.prog w =
   .ok (.value (.tuple #[.int .u64 (((x+18446744073709551616-y-b)%18446744073709551616:Nat):Int),.int .u64 ((if x<y+b then 1 else 0:Nat):Int)])) w:=by
 rw[run_callFunc_extern Tryz.func186 (by kernel_rfl) (by kernel_rfl) (by kernel_rfl) (e:=sub64Entry) (by kernel_rfl),Go.Proofs.run_sub64 x y b hb];rfl
theorem CX (x y:Nat)(w:World) :
  (callFunc 182 #[.int .u64 x,.int .u64 y,.int .u64 0]).run Tryz.prog w =
   .ok (.value (.tuple #[.int .u64 (((x+y)%18446744073709551616:Nat):Int),.int .u64 (((x+y)/18446744073709551616:Nat):Int)])) w:=run_add64 x y 0 (by omega) w
theorem VY (x y:Nat)(w:World) :
  (callFunc 186 #[.int .u64 x,.int .u64 y,.int .u64 0]).run Tryz.prog w =
   .ok (.value (.tuple #[.int .u64 (((x+18446744073709551616-y)%18446744073709551616:Nat):Int),.int .u64 ((if x<y then 1 else 0:Nat):Int)])) w:=run_sub64 x y 0 (by omega) w
theorem Gs (h l:Int)(w:World) :
  Calls Tryz.prog 177 #[.agg #[.int .i64 h,.int .u64 l]] w fun e w'=>e=.returned (.bool (decide (h<0)))∧Below w.heap.size w w':=by
 go_enter Tryz.func177,Tryz.ntmps177;go_wp2;go_ret;exact ⟨rfl,by go_grown⟩
theorem dE {w w':World}{a:Addr}{v:Value}(hb:Below w.heap.size w w')(h:w.cell? a=some v):w'.cell? a=some v:=by
 rw[hb.cell]
 ·exact h
 ·exact block_lt_of_cell h
theorem dK {w w':World}{b o:Nat}(hb:Below w.heap.size w w')(hs:b<w.heap.size)(h:w.frozen? ⟨b,o,none⟩=false):w'.frozen? ⟨b,o,none⟩=false:=by
 rw[hb.frozen (p:=⟨b,o,none⟩) hs];exact h
theorem fB (h:Int)(l:Nat)(b:Bool)(w:World)(H:Hid (decide (h<0)=b)) :
  Calls Tryz.prog 177 #[.agg #[.int .i64 h,.int .u64 l]] w fun e w'=>e=.returned (.bool b)∧Below w.heap.size w w':=by
 rw[←H.out];exact Gs h l w
theorem Kb (a:Int)(h0:-9223372036854775808≤a)(h1:a<0):IntKind.u64.wrap (-IntKind.u64.wrap a)=(a.natAbs:Int):=by
 rw[aV,aV];omega
theorem CQ (a:Int)(w:World)(wH:-9223372036854775808≤a)(oF:a≤9223372036854775807) :
  Calls Tryz.prog 176 #[.int .i64 a] w fun e w'=>e=.returned (.int .u64 (a.natAbs:Int))∧w=w':=by
 by_cases h1:a<0
 ·go_enter Tryz.func176,Tryz.ntmps176
  go_wp2;go_ret;exact ⟨LZ (Kb a wH h1),rfl⟩
 ·go_enter Tryz.func176,Tryz.ntmps176
  go_wp2;go_ret;exact ⟨LZ (by omega),rfl⟩
def FZ (z:Int)(w:World)(e:Ending)(w':World):Prop:=∃h:Int,∃l:Nat,e=.returned (.agg #[.int .i64 h,.int .u64 l])∧At z h l∧Below w.heap.size w w'
theorem RF (x y xh yh:Int)(xl yl:Nat)(w:World)(hx:At x xh xl)(hy:At y yh yl) :
  Calls Tryz.prog 184 #[.agg #[.int .i64 xh,.int .u64 xl],.agg #[.int .i64 yh,.int .u64 yl]] w (FZ (pL (x-y)) w):=by
 have r1:=fun w=>VY xl yl w
 have L:=Vm hx hy;have e1:IntKind.u64.wrap xh=(uw xh:Int):=by rw[aV,sU]
 have e2:IntKind.u64.wrap yh=(uw yh:Int):=by rw[aV,sU]
 obtain ⟨b,hb,hb1⟩:∃b,(if xl<yl then 1 else 0)=b∧b≤1:=⟨_,rfl,by split <;> omega⟩;rw[hb] at r1 L;have r2:=fun w=>run_sub64 (uw xh) (uw yh) b hb1 w
 generalize uw xh=p at *;generalize uw yh=q at *;obtain ⟨m,hm⟩:∃m,(p+18446744073709551616-q-b)%18446744073709551616=m:=⟨_,rfl⟩;obtain ⟨n,hn⟩:∃n,(xl+18446744073709551616-yl)%18446744073709551616=n:=⟨_,rfl⟩;rw[hm] at r2 L;rw[hn] at r1 L;generalize (if p<q+b then 1 else 0)=b2 at r2;have L:=aA L;have e3:IntKind.i64.wrap (m:Int)=((m:Int)+9223372036854775808)%18446744073709551616-9223372036854775808:=bL _;generalize ((m:Int)+9223372036854775808)%18446744073709551616-9223372036854775808=H at *;clear hm hn hb hx hy;go_enter Tryz.func184,Tryz.ntmps184;go_wp2;refine aO (v:=.agg #[.int .i64 H,.int .u64 n]) (by simp[results,Tryz.results184,go_sem]) rfl ⟨_,_,rfl,L.out,by go_grown⟩
def rN (x:Nat):Value:=.int .u64 (x:Int)
def dW (neg:Bool)(d:List Nat):Array Value:=(Value.bool neg::d.map rN).toArray
theorem kQ:∀ (xs ys:List Nat),xs.length=ys.length→((List.range xs.length).all fun i=>xs.getD i 0 == ys.getD i 0)=(xs == ys)
 | [],[],_=>rfl
 | x::xs,y::ys,h=>by
  have ih:=kQ xs ys (by simpa using h);rw[bO,List.range_succ_eq_map,List.all_cons,List.all_map];simp only[List.getD_cons_zero,Function.comp_def,List.getD_cons_succ,ih];simp[List.cons_beq_cons]
 | [],_::_,h=>by simp at h
 | _::_,[],h=>by simp at h
theorem Ge (w:World)(d:Nat)(xs ys:List Nat)(hx:xs.length=20)(hy:ys.length=20) :
  (Op.equalIn (d+2) 212 (.agg (xs.map rN).toArray) (.agg (ys.map rN).toArray)).run Tryz.prog w=.ok (xs == ys) w:=by
 have ht:=Tryz.underlying212;have he:=Tryz.underlying89;have hsz:=Tryz.sizeOf89;rw[←kQ xs ys (hx.trans hy.symm),hx,List.range_eq_range',Op.equalIn];simp only[Sem.run_bind,run_underlying ht,Result.andThen_ok,hsz,Std.Legacy.Range.forIn_eq_forIn_range',Std.Legacy.Range.size,Nat.sub_zero,cY,Nat.div_one];have hl:∀i∈List.range' 0 20 1,i<20:=fun i hi=>by simpa using (List.mem_range'_1.1 hi).2
 generalize List.range' 0 20 1=l at hl ⊢
 induction l with
 | nil=>simp
 | cons i l ih =>
  have hi:i<20:=hl i (by simp);have px:(part 89 (xs.map rN).toArray (i*1)).run Tryz.prog w=.ok (rN (xs.getD i 0)) w:=by
   simp[part,isAgg,run_underlying he,List.getD,aF (show i<xs.length by omega)]
  have py:(part 89 (ys.map rN).toArray (i*1)).run Tryz.prog w=.ok (rN (ys.getD i 0)) w:=by
   simp[part,isAgg,run_underlying he,List.getD,aF (show i<ys.length by omega)]
  have pe:(Op.equalIn (d+1) 89 (rN (xs.getD i 0)) (rN (ys.getD i 0))).run Tryz.prog w=.ok (xs.getD i 0 == ys.getD i 0) w:=by
   rw[rN,rN,run_equalIn_int w d 89 .u64 .u64 _ _ he]
   congr 1
   rw[Bool.eq_iff_iff,beq_iff_eq,beq_iff_eq];omega
  simp only[List.forIn_cons,Sem.run_bind,px,py,pe,Result.andThen_ok,List.all_cons]
  cases hb:(xs.getD i 0 == ys.getD i 0)
  ·simp
  ·simp only[Bool.not_true,bD,if_false,Sem.run_pure,Result.andThen_ok,Bool.true_and]
   exact ih fun j hj=>hl j (by simp[hj])
theorem Ox (w:World)(xs ys:List Nat)(hx:xs.length=20)(hy:ys.length=20) :
  (binOp .eql 212 (.agg (xs.map rN).toArray) (.agg (ys.map rN).toArray)).run Tryz.prog w=.ok (.bool (xs == ys)) w:=by
 rw[run_eql_struct,Ge w 9998 xs ys hx hy];rfl
def zeros:List Nat:=List.replicate 20 0
theorem xg:(Tryz.prog.info? 212).map (·.size)=some 20:=by kernel_rfl
theorem Kn {w:World}{b:Nat}{neg:Bool}{d:List Nat}{t:TypeId}(hb:w.heap[b]?=some (.cells (dW neg d) t (0,0))):w.rangeAt b 1 (d.map rN):=by
 intro j v hv;rw[aD w b (1+j) _ _ _ hb];unfold dW;rw[List.getElem?_toArray,Nat.add_comm,List.getElem?_cons_succ];exact hv
theorem VS:(Tryz.prog.info? 214).map (·.size)=some 21:=by kernel_rfl
theorem uH (neg:Bool)(d:List Nat):(dW neg d).size=d.length+1:=by simp[dW]
theorem gG (neg:Bool)(d:List Nat):(dW neg d).all (·.oneCell')=true:=by
 rw[Array.all_eq_true_iff_forall_mem];intro v hv;simp only[dW,List.mem_toArray,List.mem_cons,List.mem_map] at hv
 rcases hv with rfl|⟨x,_,rfl⟩ <;> rfl
theorem dG {P:Program}{ops:Array Oper}{rest:List Oper}{op:Oper}{a:Act}{w:World}{Q:Exit→Act→World→Prop}(hgd:op.guard=none)(ty:TypeId)(x y:Operand)(ho:op.op=.store ty x y)
  (g:Nat) (t:TypeId) (c c':Array Value) (hx:a.eval x=.pointer (some ⟨g,0,none⟩)) (hy:a.eval y=.agg c') (hg:w.heap[g]?=some (.cells c t (0,0)))
  (hi:(P.info? ty).map (·.size)=some c'.size) (hs:c.size=c'.size) (h1:c'.all (·.oneCell')=true)
  (h:wpList P ops Q rest (a.put op.dst undef) (w.setRow g c')):wpList P ops Q (op::rest) a w:=by
 refine wpList_plain hgd fun K hK=>?_
 unfold Oper.wp execOp;simp only[ho,hx,hy,Instr.storeAt,Instr.sureAddr,Sem.run_bind,Sem.run_pure,Result.andThen_ok,run_storeVar_row w g t ty c c' hg hi hs h1];exact hK _ _ h
theorem Below.row {B:Nat}{a w:World}(h:Below B a w){g:Nat}(hg:B≤g)(c:Array Value):Below B a (w.setRow g c) :=
 ⟨h.os,h.tape,h.output,by simpa using h.size,fun k hk=>(setRow_other w g k c (by omega)).trans (h.block k hk)⟩
theorem nM (neg:Bool)(d:List Nat)(w:World)(hd:d.length=20) :
  Calls Tryz.prog 164 #[.agg (dW neg d)] w fun e w'=>e=.returned (.bool (d == zeros))∧Below w.heap.size w w':=by
 have hq:∀w,(binOp .eql 212 (.agg (d.map rN).toArray) (.agg #[.int .u64 0,.int .u64 0,.int .u64 0,.int .u64 0,.int .u64 0,.int .u64 0,.int .u64 0,.int .u64 0,.int .u64 0,.int .u64 0,.int .u64 0,.int .u64 0,.int .u64 0,.int .u64 0,.int .u64 0,.int .u64 0,.int .u64 0,.int .u64 0,.int .u64 0,.int .u64 0])).run Tryz.prog w=.ok (.bool (d == zeros)) w:=fun w=>Ox w d zeros hd rfl
 have hI:(Tryz.prog.info? 212).map (·.size)=some (d.map rN).length:=by rw[xg,aT,hd]
 have hR:(w.alloc (.cells (dW neg d) 214)).rangeAt w.heap.size 1 (d.map rN):=Kn (aG w _);clear hd;go_enter Tryz.func164,Tryz.ntmps164;go_wp2_with (refine wpList_load_mid rfl 212 (.tmp 3) rfl w.heap.size 1 rfl (d.map rN) _ hR Tryz.underlying212 rfl hI ?_)
 go_ret;exact ⟨rfl,by go_grown⟩
end Go.Proofs.YtbbhmhihpdmoiaaGreat.Fx
namespace Go.Proofs
open Go.Shelf
def Tryz.lays134_ren:Go.Shelf.Ren:=⟨fun|134=>187|129=>188|n=>n,fun|53=>89|3=>3|4=>4|46=>68|5=>5|9=>9|n=>n,fun|n=>n⟩
theorem Tryz.lays134:Go.Proofs.Lays.n134 Tryz.prog Tryz.lays134_ren:={
 mixed:=by kernel_rfl
 f129:=Tryz.func188.trans (congrArg some (by kernel_rfl))
 f134:=Tryz.func187.trans (congrArg some (by kernel_rfl))
 t3:=dC
 a3:=Tryz.isAgg3
 z3:=Tryz.sizeOf3
 v3:=Tryz.zeroValue3
 t4:=Tryz.underlying4
 a4:=Tryz.isAgg4
 z4:=Tryz.sizeOf4
 v4:=Tryz.zeroValue4
 t5:=dB
 a5:=Tryz.isAgg5
 z5:=Tryz.sizeOf5
 v5:=Tryz.zeroValue5
 t9:=Tryz.underlying9
 a9:=Tryz.isAgg9
 z9:=Tryz.sizeOf9
 v9:=Tryz.zeroValue9
 t46:=Tryz.underlying68
 a46:=Tryz.isAgg68
 z46:=Tryz.sizeOf68
 v46:=Tryz.zeroValue68
 t53:=Tryz.underlying89
 a53:=Tryz.isAgg89
 z53:=Tryz.sizeOf89
 v53:=Tryz.zeroValue89 }
theorem Tryz.bits_LeadingZeros64 (x:Int)(w:World)(h0:0≤x)(h1:x≤18446744073709551615) :
  Calls Tryz.prog 187 #[.int .u64 x] w fun e w'=>e=.returned (.int .i64 (64-(Lib.bitLen x.toNat:Int)))∧w'=w:=Any.bits_LeadingZeros64 Tryz.lays134 x w h0 h1
def Tryz.lays264_ren:Go.Shelf.Ren:=⟨fun|264=>183|n=>n,fun|53=>89|46=>68|n=>n,fun|n=>n⟩
theorem Tryz.lays264:Go.Proofs.Lays.n264 Tryz.prog Tryz.lays264_ren:={
 mixed:=by kernel_rfl
 f264:=Tryz.func183.trans (congrArg some (by kernel_rfl))
 t46:=Tryz.underlying68
 a46:=Tryz.isAgg68
 z46:=Tryz.sizeOf68
 v46:=Tryz.zeroValue68
 t53:=Tryz.underlying89
 a53:=Tryz.isAgg89
 z53:=Tryz.sizeOf89
 v53:=Tryz.zeroValue89 }
open Go.RowKit Go.Lib in
theorem Tryz.bits_Mul64 (x y:Nat)(hx:x<18446744073709551616)(hy:y<18446744073709551616)(w:World) :
  Calls Tryz.prog 183 #[.int .u64 x,.int .u64 y] w fun e w'=>e=.returned (.tuple #[.int .u64 ((x*y/18446744073709551616:Nat):Int),.int .u64 ((x*y%18446744073709551616:Nat):Int)])∧w'=w:=Any.bits_Mul64 Tryz.lays264 x y hx hy w
end Go.Proofs
