import Derived.Test.YtbbhmhihpdmoiaaGreatJf03
set_option linter.unusedVariables false
set_option linter.unusedSimpArgs false
set_option maxRecDepth 100000
set_option maxHeartbeats 32000000
namespace Go.Proofs.YtbbhmhihpdmoiaaGreat
open Go.Proofs.Tryz
namespace Fx
open Go Go.RowKit Go.Shelf Wm
def May (m:List Int):Prop:=∀j,-4611686018427387904≤m.getD j 0∧m.getD j 0≤4611686018427387904
def dot (r c:List Int):Int:=r.getD 0 0*c.getD 0 0+r.getD 1 0*c.getD 1 0+r.getD 2 0*c.getD 2 0+r.getD 3 0*c.getD 3 0
theorem pV {a b:Int}(a0:-4611686018427387904≤a)(a1:a≤4611686018427387904)(b0:-4611686018427387904≤b)(b1:b≤4611686018427387904) :
  -21267647932558653966460912964485513216≤a*b∧a*b≤21267647932558653966460912964485513216:=by
 have h:a.natAbs*b.natAbs≤4611686018427387904*4611686018427387904:=Nat.mul_le_mul (by omega) (by omega);have e:=Int.natAbs_mul a b;omega
theorem dot_in {r c:List Int}(hr:May r)(hc:May c):-85070591730234615865843651857942052864≤dot r c∧dot r c≤85070591730234615865843651857942052864:=by
 have h0:=pV (hr 0).1 (hr 0).2 (hc 0).1 (hc 0).2;have h1:=pV (hr 1).1 (hr 1).2 (hc 1).1 (hc 1).2;have h2:=pV (hr 2).1 (hr 2).2 (hc 2).1 (hc 2).2;have h3:=pV (hr 3).1 (hr 3).2 (hc 3).1 (hc 3).2;unfold dot;omega
theorem AU {xs ys:List Int}{k:Nat}{s:Int}(h:sm xs ys k=some s)(hi:In (s+xs.getD k 0*ys.getD k 0)):sm xs ys (k+1)=some (s+xs.getD k 0*ys.getD k 0):=by
 simp only[sm,h];rw[aZ hi]
theorem Ul {r c:List Int}(hr:May r)(hc:May c):sm r c 4=some (dot r c):=by
 have h0:=pV (hr 0).1 (hr 0).2 (hc 0).1 (hc 0).2;have h1:=pV (hr 1).1 (hr 1).2 (hc 1).1 (hc 1).2;have h2:=pV (hr 2).1 (hr 2).2 (hc 2).1 (hc 2).2;have h3:=pV (hr 3).1 (hr 3).2 (hc 3).1 (hc 3).2;unfold dot;have e1:sm r c 1=some _:=AU (xs:=r) (ys:=c) (k:=0) (s:=0) rfl (by unfold In;omega);have e2:sm r c 2=some _:=AU (k:=1) e1 (by unfold In;omega);have e3:sm r c 3=some _:=AU (k:=2) e2 (by unfold In;omega);have e4:sm r c 4=some _:=AU (k:=3) e3 (by unfold In;omega);rw[e4,Int.zero_add]
theorem rK {w:World}{g n:Nat}{m:List Int}{t:TypeId}(h:w.heap[g]?=some (.cells (mC m) t (0,0)))(hn:4*n≤m.length):uP m n g w:=fun j hj=>by rw[aD _ _ _ _ _ _ h,zE _ _ (by omega)]
theorem Zg {w:World}{g:Nat}{m:List Int}{t:TypeId}(h:w.heap[g]?=some (.cells (mC m) t (0,0))):Sl w (some ⟨g,0,none⟩) m:=fun j hj=>⟨g,0,rfl,by rw[bE,aD _ _ _ _ _ _ h,zE _ _ hj]⟩
def pq (r c:List Int):Int:=dot r c/65536
theorem Ej (r c:List Int)(w:World)(lr:r.length=4)(lc:c.length=4)(S q:Int)
  (hS:∀w oa ob,Sl w oa r→Sl w ob c→Calls prog 161 #[.slice oa 4 4,.slice ob 4 4] w fun e w'=>∃h:Int,∃l:Nat,e=.returned (.tuple #[.agg #[.int .i64 h,.int .u64 l],.int .i64 0])∧At S h l∧Below w.heap.size w w')
  (hD:∀w h l,At S h l→Calls prog 162 #[.agg #[.int .i64 h,.int .u64 l],.int .i64 65536] w fun e w'=>∃h:Int,∃l:Nat,∃r:Int,e=.returned (.tuple #[.agg #[.int .i64 h,.int .u64 l],.int .i64 r,.int .i64 0])∧At q h l∧Below w.heap.size w w') (x y:Int)
  (hI:∀w h l,At q h l→Calls prog 163 #[.agg #[.int .i64 h,.int .u64 l]] w fun e w'=>e=.returned (.tuple #[.int .i64 x,.int .i64 y])∧Below w.heap.size w w') :
  Calls prog 155 #[.agg (mC r),.agg (mC c)] w fun e w'=>e=.returned (.tuple #[.int .i64 x,.int .i64 y])∧Below w.heap.size w w':=by
 have HS:=aA hS;have HD:=aA hD;have HI:=aA hI;clear hS hD hI lr lc;go_enter func155,ntmps155;go_wp2_with fail;obtain ⟨V,hV⟩:∃V,(w.alloc (.cells (mC r) 23)).alloc (.cells (mC c) 23)=V:=⟨_,rfl⟩;have Fo:Below w.heap.size w V:=by rw[←hV];go_grown
 have s1:Sl V (some ⟨w.heap.size,0,none⟩) r:=Zg (t:=23) (by rw[←hV];exact dM (aG _ _));have s2:Sl V (some ⟨w.heap.size+1,0,none⟩) c:=Zg (t:=23) (by rw[←hV];have:=aG (w.alloc (.cells (mC r) 23)) (.cells (mC c) 23);rw[aR] at this;exact this);have S1:=aA s1;have S2:=aA s2;rw[hV];clear hV s1 s2;refine (bN (n:=5)).1 (eI (F:=Fence.wide) (S:=fun _=>True) (by kernel_rfl) trivial (fun hHeld=>?_));refine dH (fun _=>trivial) (by kernel_rfl) (i:=0) (oi:=_) (v:=?_) rfl (by kernel_rfl) (by kernel_rfl) (by kernel_rfl) (fun _ _ _ h=>h) (by assumption) (Or.inl ⟨by kernel_rfl,?_⟩) ?_;rotate_left
 ·intro wz hSw;first|(go_simp;done)|(go_simp;with_reducible rfl)
 try simp only[aQ]
 refine dH (fun _=>trivial) (by kernel_rfl) (i:=1) (oi:=_) (v:=?_) rfl (by kernel_rfl) (by kernel_rfl) (by kernel_rfl) (fun _ _ _ h=>h) (by assumption) (Or.inl ⟨by kernel_rfl,?_⟩) ?_;rotate_left
 ·intro wz hSw;first|(go_simp;done)|(go_simp;with_reducible rfl)
 try simp only[aQ]
 refine kY (fun _=>trivial) (i:=2) (j:=6) (o:=_) (o2:=_) (by kernel_rfl) rfl rfl (fun K hK=>?_) (fun K hK=>?_)
 ·go_simp
  refine ⟨trivial,bG.2 ((HS.out _ _ _ (S1.out.below (eM _ _ 1)) (S2.out.below (eM _ _ 1))).mono ?_)⟩;rintro e w1 ⟨h,l,rfl,hat,hb⟩;dsimp only;have hb1:Below V.heap.size V w1:=vT 1 hb;refine hK.out _ _ trivial (fun hHeld=>?_);clear hK K;try simp only[aQ]
  refine dH (fun _=>trivial) (by kernel_rfl) (i:=3) (oi:=_) (v:=?_) rfl (by kernel_rfl) (by kernel_rfl) (by kernel_rfl) (fun _ _ _ h=>h) (by assumption) (Or.inl ⟨by kernel_rfl,?_⟩) ?_;rotate_left
  ·intro wz hSw;first|(go_simp;done)|(go_simp;with_reducible rfl)
  try simp only[aQ]
  refine dH (fun _=>trivial) (by kernel_rfl) (i:=4) (oi:=_) (v:=?_) rfl (by kernel_rfl) (by kernel_rfl) (by kernel_rfl) (fun _ _ _ h=>h) (by assumption) (Or.inl ⟨by kernel_rfl,?_⟩) ?_;rotate_left
  ·intro wz hSw;first|(go_simp;done)|(go_simp;with_reducible rfl)
  try simp only[aQ]
  refine dH (fun _=>trivial) (by kernel_rfl) (i:=5) (oi:=_) (v:=?_) rfl (by kernel_rfl) (by kernel_rfl) (by kernel_rfl) (fun _ _ _ h=>h) (by assumption) (Or.inl ⟨by kernel_rfl,?_⟩) ?_;rotate_left
  ·intro wz hSw;first|(go_simp;done)|(go_simp;with_reducible rfl)
  try simp only[aQ]
  refine dO (fun _=>trivial) (i:=6) (o:=_) (by kernel_rfl) rfl (fun K hK=>?_);go_simp;refine hK.out _ _ trivial (fun hHeld=>?_);clear hK K;try simp only[aQ]
  refine dO (fun _=>trivial) (i:=7) (o:=_) (by kernel_rfl) rfl (fun K hK=>?_);go_simp;refine hK.out _ _ trivial (fun hHeld=>?_);clear hK K;try simp only[aQ]
  refine dH (fun _=>trivial) (by kernel_rfl) (i:=8) (oi:=_) (v:=?_) rfl (by kernel_rfl) (by kernel_rfl) (by kernel_rfl) (fun _ _ _ h=>h) (by assumption) (Or.inl ⟨by kernel_rfl,?_⟩) ?_;rotate_left
  ·intro wz hSw;first|(go_simp;done)|(go_simp;with_reducible rfl)
  try simp only[aQ]
  refine eH (by kernel_rfl) ?_ _;clear hHeld;have x0:(w1.alloc (.cells #[.int .i64 h,.int .u64 l] 220)).cell? ⟨w1.heap.size,0,none⟩=some (.int .i64 h):=by simp[go_sem]
  have x1:(w1.alloc (.cells #[.int .i64 h,.int .u64 l] 220)).cell? ⟨w1.heap.size,1,none⟩=some (.int .u64 l):=by simp[go_sem]
  have hXV:Below V.heap.size V (w1.alloc (.cells #[.int .i64 h,.int .u64 l] 220)):=hb1.alloc hb1.size _;generalize (w1.alloc (.cells #[.int .i64 h,.int .u64 l] 220))=X at x0 x1 hXV ⊢;have Oi:Below w.heap.size w X:=dN Fo hXV;go_wp2_with fail;refine (HD.out _ _ _ hat).mono ?_;rintro e w2 ⟨h2,l2,r2,rfl,Fi,hb2⟩;have hs2:=(Oi.trans (hb2.mono Oi.size)).size;go_wp2_with fail;refine (HI.out _ _ _ Fi).mono ?_;rintro e w3 ⟨rfl,hb3⟩;go_wp2_with fail;go_ret2;exact ⟨rfl,by (repeat' (first|(with_reducible exact aJ _ _)|(with_reducible assumption)|(with_reducible refine Below.drew ?_)|(with_reducible refine Below.setCell ?_ ?_ _)|(with_reducible refine dN ?_ (by assumption))|(with_reducible refine Below.alloc ?_ ?_ _)|go_size))⟩
 ·go_simp
  refine hK.out _ _ trivial (fun hHeld=>?_);clear hK K;try simp only[aQ]
  refine dO (fun _=>trivial) (i:=2) (o:=_) (by kernel_rfl) rfl (fun K hK=>?_);go_simp;have hA:Below V.heap.size V (V.drew.alloc (.cells #[.int .i64 0,.int .u64 0] 220)):=by go_grown
  refine ⟨trivial,bG.2 ((HS.out _ _ _ (S1.out.below (by go_grown)) (S2.out.below (by go_grown))).mono ?_)⟩;rintro e w1 ⟨h,l,rfl,hat,hb⟩;dsimp only;have z0:w1.cell? ⟨V.heap.size,0,none⟩=some (.int .i64 0):=dE hb (by simp[go_sem]);have z1:w1.cell? ⟨V.heap.size,1,none⟩=some (.int .u64 0):=dE hb (by simp[go_sem]);have z2:w1.frozen? ⟨V.heap.size,0,none⟩=false:=dK hb (by simp) (by simp[go_sem]);have z3:w1.frozen? ⟨V.heap.size,1,none⟩=false:=dK hb (by simp) (by simp[go_sem]);have hb1:Below V.heap.size V w1:=hA.trans (hb.mono (by simp));refine hK.out _ _ trivial (fun hHeld=>?_);clear hK K;try simp only[aQ]
  refine dH (fun _=>trivial) (by kernel_rfl) (i:=3) (oi:=_) (v:=?_) rfl (by kernel_rfl) (by kernel_rfl) (by kernel_rfl) (fun _ _ _ h=>h) (by assumption) (Or.inl ⟨by kernel_rfl,?_⟩) ?_;rotate_left
  ·intro wz hSw;first|(go_simp;done)|(go_simp;with_reducible rfl)
  try simp only[aQ]
  refine dH (fun _=>trivial) (by kernel_rfl) (i:=4) (oi:=_) (v:=?_) rfl (by kernel_rfl) (by kernel_rfl) (by kernel_rfl) (fun _ _ _ h=>h) (by assumption) (Or.inl ⟨by kernel_rfl,?_⟩) ?_;rotate_left
  ·intro wz hSw;first|(go_simp;done)|(go_simp;with_reducible rfl)
  try simp only[aQ]
  refine dH (fun _=>trivial) (by kernel_rfl) (i:=5) (oi:=_) (v:=?_) rfl (by kernel_rfl) (by kernel_rfl) (by kernel_rfl) (fun _ _ _ h=>h) (by assumption) (Or.inl ⟨by kernel_rfl,?_⟩) ?_;rotate_left
  ·intro wz hSw;first|(go_simp;done)|(go_simp;with_reducible rfl)
  try simp only[aQ]
  refine dO (fun _=>trivial) (i:=7) (o:=_) (by kernel_rfl) rfl (fun K hK=>?_);go_simp;refine hK.out _ _ trivial (fun hHeld=>?_);clear hK K;try simp only[aQ]
  refine dH (fun _=>trivial) (by kernel_rfl) (i:=8) (oi:=_) (v:=?_) rfl (by kernel_rfl) (by kernel_rfl) (by kernel_rfl) (fun _ _ _ h=>h) (by assumption) (Or.inl ⟨by kernel_rfl,?_⟩) ?_;rotate_left
  ·intro wz hSw;first|(go_simp;done)|(go_simp;with_reducible rfl)
  try simp only[aQ]
  refine eH (by kernel_rfl) ?_ _;clear hHeld;have x0:((w1.setCell ⟨V.heap.size,0,none⟩ (.int .i64 h)).setCell ⟨V.heap.size,1,none⟩ (.int .u64 l)).cell? ⟨V.heap.size,0,none⟩=some (.int .i64 h):=by simp[go_sem, *]
  have x1:((w1.setCell ⟨V.heap.size,0,none⟩ (.int .i64 h)).setCell ⟨V.heap.size,1,none⟩ (.int .u64 l)).cell? ⟨V.heap.size,1,none⟩=some (.int .u64 l):=by simp[go_sem, *]
  have hXV:Below V.heap.size V ((w1.setCell ⟨V.heap.size,0,none⟩ (.int .i64 h)).setCell ⟨V.heap.size,1,none⟩ (.int .u64 l)):=(hb1.setCell (p:=⟨V.heap.size,0,none⟩) (aB _) _).setCell (p:=⟨V.heap.size,1,none⟩) (aB _) _;generalize ((w1.setCell ⟨V.heap.size,0,none⟩ (.int .i64 h)).setCell ⟨V.heap.size,1,none⟩ (.int .u64 l))=X at x0 x1 hXV ⊢;clear z0 z1 z2 z3;have Oi:Below w.heap.size w X:=dN Fo hXV;go_wp2_with fail;refine (HD.out _ _ _ hat).mono ?_;rintro e w2 ⟨h2,l2,r2,rfl,Fi,hb2⟩;have hs2:=(Oi.trans (hb2.mono Oi.size)).size;go_wp2_with fail;refine (HI.out _ _ _ Fi).mono ?_;rintro e w3 ⟨rfl,hb3⟩;go_wp2_with fail;go_ret2;exact ⟨rfl,by (repeat' (first|(with_reducible exact aJ _ _)|(with_reducible assumption)|(with_reducible refine Below.drew ?_)|(with_reducible refine Below.setCell ?_ ?_ _)|(with_reducible refine dN ?_ (by assumption))|(with_reducible refine Below.alloc ?_ ?_ _)|go_size))⟩
theorem QL (r c:List Int)(w:World)(lr:r.length=4)(lc:c.length=4)(hr:May r)(hc:May c) :
  Calls prog 155 #[.agg (mC r),.agg (mC c)] w fun e w'=>e=.returned (.tuple #[.int .i64 (if In64 (pq r c) then pq r c else 0),.int .i64 (if In64 (pq r c) then 0 else 20)])∧Below w.heap.size w w':=by
 have hd:=dot_in hr hc;have jh:dv (dot r c) 65536=pq r c:=by unfold dv pq;rw[aZ (by omega)]
 have sB:In (pq r c):=by unfold In pq;omega
 refine Ej r c w lr lc (dot r c) (pq r c) ?_ ?_ _ _ ?_
 ·intro w oa ob s1 s2
  have h:=AO r c oa ob 4 4 w (by omega) (by omega) (fun j=>⟨by have:=hr j;omega,by have:=hr j;omega⟩) (fun j=>⟨by have:=hc j;omega,by have:=hc j;omega⟩) s1 s2;rw[lr,lc] at h;refine h.mono ?_;rintro e w' ⟨a,b,rfl,hat,hb⟩;rw[show min 4 4=4 from rfl,Ul hr hc] at hat ⊢;exact ⟨a,b,rfl,hat,hb⟩
 ·intro w h l hat
  refine (Jh (dot r c) h 65536 l w hat (by omega) (by omega) (by omega)).mono ?_;rintro e w' ⟨a,b,rfl,ha,hb⟩;rw[jh,wV,aZ sB] at ha;simp only[jh,IR,aZ sB];exact ⟨a,b,_,rfl,ha,hb⟩
 ·intro w h l hat
  exact Vq (pq r c) h l w hat
def rowOf (m:List Int)(r:Nat):List Int:=[m.getD (r*4) 0,m.getD (r*4+1) 0,m.getD (r*4+2) 0,m.getD (r*4+3) 0]
theorem Lv {l:List Int}(h:l.length=4):l=[l.getD 0 0,l.getD 1 0,l.getD 2 0,l.getD 3 0]:=by
 match l,h with
 | [a,b,c,d],_=>rfl
theorem MQ {l:List Int}(h:l.length=16):l=[l.getD 0 0,l.getD 1 0,l.getD 2 0,l.getD 3 0,l.getD 4 0,l.getD 5 0,l.getD 6 0,l.getD 7 0,l.getD 8 0,l.getD 9 0,l.getD 10 0,l.getD 11 0,l.getD 12 0,l.getD 13 0,l.getD 14 0,l.getD 15 0]:=by
 match l,h with
 | [a,b,c,d,a1,b1,c1,d1,a2,b2,c2,d2,a3,b3,c3,d3],_=>rfl
theorem Lr (m:List Int)(hm:m.length=16)(r:Nat)(h:r<4)(w:World):(Instr.index 25 (.agg (mC m)) (.int .i64 (r:Int))).run prog w =
  .ok (.agg #[.int .i64 (m.getD (r*4) 0),.int .i64 (m.getD (r*4+1) 0),.int .i64 (m.getD (r*4+2) 0),.int .i64 (m.getD (r*4+3) 0)]) w:=by
 rw[MQ hm];generalize m.getD 0 0=a0;generalize m.getD 1 0=a1;generalize m.getD 2 0=a2;generalize m.getD 3 0=a3;generalize m.getD 4 0=a4;generalize m.getD 5 0=a5;generalize m.getD 6 0=a6;generalize m.getD 7 0=a7;generalize m.getD 8 0=a8;generalize m.getD 9 0=a9;generalize m.getD 10 0=a10;generalize m.getD 11 0=a11;generalize m.getD 12 0=a12;generalize m.getD 13 0=a13;generalize m.getD 14 0=a14;generalize m.getD 15 0=a15;have hd:r=0∨r=1∨r=2∨r=3:=by omega
 rcases hd with rfl|rfl|rfl|rfl <;> (show _=_;kernel_rfl)
def YF (o:Option (List Int))(w:World)(e:Ending)(w':World):Prop:=e=.returned (.tuple #[.agg (mC (o.getD [0,0,0,0])),.int .i64 (if o.isSome then 0 else 30)])∧Below w.heap.size w w'
def most:Int:=4611686018427387904
def kZ (m v:List Int):List Int:=[pq (rowOf m 0) v,pq (rowOf m 1) v,pq (rowOf m 2) v,pq (rowOf m 3) v]
def uK (m v:List Int):Option (List Int):=if wB 4611686018427387904 m 16=true∧wB 4611686018427387904 v 4=true∧wB 4611686018427387904 (kZ m v) 4=true then some (kZ m v) else none
theorem oP (m:List Int)(n g cap:Nat)(w:World)(b:Bool)(hn:n≤4)(hm:uP m n g w)(hb:wB 4611686018427387904 m (4*n)=b) :
  Calls prog 117 #[.int .i64 4611686018427387904,.slice (some ⟨g,0,none⟩) n cap] w fun e w'=>e=.returned (.bool b)∧Below w.heap.size w w':=by
 rw[←hb];exact vX 4611686018427387904 m n g cap w hn (by omega) (by omega) hm
def iI (b:Nat)(v0 v1 v2 v3:Int)(W:World):Prop:=W.heap[b]?=some (.cells #[.int .i64 v0,.int .i64 v1,.int .i64 v2,.int .i64 v3] 23 (0,0))
theorem iI.cells {b:Nat}{v0 v1 v2 v3:Int}{W:World}(h:iI b v0 v1 v2 v3 W):W.cell? ⟨b,0,none⟩=some (.int .i64 v0)∧W.cell? ⟨b,1,none⟩=some (.int .i64 v1)∧W.cell? ⟨b,2,none⟩=some (.int .i64 v2)∧W.cell? ⟨b,3,none⟩=some (.int .i64 v3) :=
 ⟨by rw[aD _ _ _ _ _ _ h];rfl,by rw[aD _ _ _ _ _ _ h];rfl,by rw[aD _ _ _ _ _ _ h];rfl,by rw[aD _ _ _ _ _ _ h];rfl⟩
theorem iI.free {b:Nat}{v0 v1 v2 v3:Int}{W:World}(h:iI b v0 v1 v2 v3 W):W.frozen? ⟨b,0,none⟩=false∧W.frozen? ⟨b,1,none⟩=false∧W.frozen? ⟨b,2,none⟩=false∧W.frozen? ⟨b,3,none⟩=false :=
 ⟨dJ h,dJ h,dJ h,dJ h⟩
theorem iI.below {b:Nat}{v0 v1 v2 v3:Int}{w W:World}(hb:Below w.heap.size w W)(h:iI b v0 v1 v2 v3 w):iI b v0 v1 v2 v3 W:=dL hb h
theorem iI.Bd {b:Nat}{v0 v1 v2 v3:Int}{W:World}(h:iI b v0 v1 v2 v3 W):uP [v0,v1,v2,v3] 1 b W:=rK (t:=23) h (by simp)
theorem iI.lt {b:Nat}{v0 v1 v2 v3:Int}{W:World}(h:iI b v0 v1 v2 v3 W):b<W.heap.size:=(aC.1 h).1
theorem Gx (m:List Int)(v0 v1 v2 v3:Int)(w:World)(hm:m.length=16)(h1:wB 4611686018427387904 m 16=false) :
  Calls prog 151 #[.agg (mC m),.agg #[.int .i64 v0,.int .i64 v1,.int .i64 v2,.int .i64 v3]] w (YF none w):=by
 have HM:=aA hm;have H1:=aA h1;clear hm h1;go_enter func151,ntmps151;go_wp2_with fail;obtain ⟨V,hV⟩:∃V,(((w.alloc (.cells (mC m) 25)).alloc (.cells #[.int .i64 v0,.int .i64 v1,.int .i64 v2,.int .i64 v3] 23)).alloc (.cells #[.int .i64 0,.int .i64 0,.int .i64 0,.int .i64 0] 23))=V:=⟨_,rfl⟩;have h3:=kF w (.cells (mC m) 25) (.cells #[.int .i64 v0,.int .i64 v1,.int .i64 v2,.int .i64 v3] 23) (.cells #[.int .i64 0,.int .i64 0,.int .i64 0,.int .i64 0] 23);have TD:Below w.heap.size w V:=by rw[←hV];go_grown
 rw[hV] at h3 ⊢;clear hV;obtain ⟨rm,rv,rr⟩:=h3;refine (oP m 4 w.heap.size 4 _ false (by omega) (rK (t:=25) rm (by rw[HM.out];omega)) H1.out).mono ?_;rintro e w1 ⟨rfl,hb⟩;have rm1:=dL hb rm;have Zk:iI (w.heap.size+1) v0 v1 v2 v3 w1:=dL hb rv;have Ee:iI (w.heap.size+1+1) 0 0 0 0 w1:=dL hb rr;have OV:Below w.heap.size w w1:=dN TD hb;have hs1:=OV.size;obtain ⟨z0,z1,z2,z3⟩:=Ee.cells;obtain ⟨y0,y1,y2,y3⟩:=Ee.free;clear rm rv rr;clear rm1 Zk Ee;go_wp2;refine aO (v:=.tuple #[.agg #[.int .i64 0,.int .i64 0,.int .i64 0,.int .i64 0],.int .i64 30]) (by simp[results,results151,go_sem, *]) rfl ⟨rfl,?_⟩
 repeat' (first|(with_reducible exact aJ _ _)|(with_reducible assumption)|(with_reducible refine Below.drew ?_)|(with_reducible refine Below.setCell ?_ ?_ _)|(with_reducible refine dN ?_ (by assumption))|(with_reducible refine Below.alloc ?_ ?_ _)|go_size)
theorem Gw (m:List Int)(v0 v1 v2 v3:Int)(w:World)(hm:m.length=16)(h1:wB 4611686018427387904 m 16=true)(h2:wB 4611686018427387904 [v0,v1,v2,v3] 4=false) :
  Calls prog 151 #[.agg (mC m),.agg #[.int .i64 v0,.int .i64 v1,.int .i64 v2,.int .i64 v3]] w (YF none w):=by
 have HM:=aA hm;have H1:=aA h1;have H2:=aA h2;clear hm h1 h2;go_enter func151,ntmps151;go_wp2_with fail;obtain ⟨V,hV⟩:∃V,(((w.alloc (.cells (mC m) 25)).alloc (.cells #[.int .i64 v0,.int .i64 v1,.int .i64 v2,.int .i64 v3] 23)).alloc (.cells #[.int .i64 0,.int .i64 0,.int .i64 0,.int .i64 0] 23))=V:=⟨_,rfl⟩;have h3:=kF w (.cells (mC m) 25) (.cells #[.int .i64 v0,.int .i64 v1,.int .i64 v2,.int .i64 v3] 23) (.cells #[.int .i64 0,.int .i64 0,.int .i64 0,.int .i64 0] 23);have TD:Below w.heap.size w V:=by rw[←hV];go_grown
 rw[hV] at h3 ⊢;clear hV;obtain ⟨rm,rv,rr⟩:=h3;refine (oP m 4 w.heap.size 4 _ true (by omega) (rK (t:=25) rm (by rw[HM.out];omega)) H1.out).mono ?_;rintro e w1 ⟨rfl,hb⟩;have rm1:=dL hb rm;have Zk:iI (w.heap.size+1) v0 v1 v2 v3 w1:=dL hb rv;have Ee:iI (w.heap.size+1+1) 0 0 0 0 w1:=dL hb rr;have OV:Below w.heap.size w w1:=dN TD hb;have hs1:=OV.size;obtain ⟨z0,z1,z2,z3⟩:=Ee.cells;obtain ⟨y0,y1,y2,y3⟩:=Ee.free;clear rm rv rr;obtain ⟨x0,x1,x2,x3⟩:=Zk.cells;have RR:=aA Ee;clear rm1 Zk Ee;go_wp2_with fail;refine (oP [v0,v1,v2,v3] 1 _ 1 _ false (by omega) (iI.Bd (aG _ _)) H2.out).mono ?_;rintro e w2 ⟨rfl,hb2⟩;have rr2:iI (w.heap.size+1+1) 0 0 0 0 w2:=(iI.below ((aJ _ _).alloc (aB _) _) RR.out).below hb2;have BO:Below w.heap.size w w2:=dN (OV.alloc hs1 _) hb2;have hs2:=BO.size;obtain ⟨z0',z1',z2',z3'⟩:=rr2.cells;obtain ⟨y0',y1',y2',y3'⟩:=rr2.free;clear rr2;go_wp2;refine aO (v:=.tuple #[.agg #[.int .i64 0,.int .i64 0,.int .i64 0,.int .i64 0],.int .i64 30]) (by simp[results,results151,go_sem, *]) rfl ⟨rfl,?_⟩
 repeat' (first|(with_reducible exact aJ _ _)|(with_reducible assumption)|(with_reducible refine Below.drew ?_)|(with_reducible refine Below.setCell ?_ ?_ _)|(with_reducible refine dN ?_ (by assumption))|(with_reducible refine Below.alloc ?_ ?_ _)|go_size)
def ko (m v:List Int)(r:Nat):List Int:=(List.range 4).map fun j=>if j<r then pq (rowOf m j) v else 0
theorem Cb (m v:List Int)(r:Nat):(ko m v r).length=4:=by simp[ko]
theorem Cc (m v:List Int):ko m v 4=kZ m v:=rfl
theorem Qd (m v:List Int)(r:Nat)(h:r<4):(ko m v r).set r (pq (rowOf m r) v)=ko m v (r+1):=by
 have hd:r=0∨r=1∨r=2∨r=3:=by omega
 rcases hd with rfl|rfl|rfl|rfl <;> rfl
structure AI (m:List Int)(v0 v1 v2 v3:Int)(r B:Nat)(w W:World):Prop where
 bm:W.heap[w.heap.size]?=some (.cells (mC m) 25 (0,0))
 bv:iI (w.heap.size+1) v0 v1 v2 v3 W
 br:iI (w.heap.size+1+1) 0 0 0 0 W
 ba:W.heap[B]?=some (.cells (mC (ko m [v0,v1,v2,v3] r)) 23 (0,0))
 hB:w.heap.size+1+1<B
 below:Below w.heap.size w W
theorem AI.up {m:List Int}{v0 v1 v2 v3:Int}{r B:Nat}{w W X:World}(h:AI m v0 v1 v2 v3 r B w W)(hb:Below W.heap.size W X):AI m v0 v1 v2 v3 r B w X :=
 ⟨dL hb h.bm,h.bv.below hb,h.br.below hb,dL hb h.ba,h.hB,dN h.below hb⟩
theorem AI.next {m:List Int}{v0 v1 v2 v3:Int}{r B:Nat}{w W:World}(h:AI m v0 v1 v2 v3 r B w W)(hr:r<4):AI m v0 v1 v2 v3 (r+1) B w (W.setCell ⟨B,r,none⟩ (.int .i64 (pq (rowOf m r) [v0,v1,v2,v3]))):=by
 have hB:=h.hB;refine ⟨?_,?_,?_,?_,hB,h.below.setCell (p:=⟨B,r,none⟩) (by show _≤B;omega) _⟩
 ·rw[aK _ _ _ _ (by show _≠B;omega)];exact h.bm
 ·unfold iI;rw[aK _ _ _ _ (by show _≠B;omega)];exact h.bv
 ·unfold iI;rw[aK _ _ _ _ (by show _≠B;omega)];exact h.br
 ·rw[aM _ _ _ _ _ _ h.ba,MP,Qd _ _ _ hr]
def ApRel (m:List Int)(v0 v1 v2 v3:Int)(B:Nat)(w:World)(g:Nat)(s:Value)(W:World):Prop :=
 ∃r,g=4-r∧s=.int .i64 (r:Int)∧r≤4∧(∀j,j<r→In64 (pq (rowOf m j) [v0,v1,v2,v3]))∧AI m v0 v1 v2 v3 r B w W
theorem Ln {m:List Int}{k:Nat}(h:wB 4611686018427387904 m k=true)(hk:m.length≤k):May m:=by
 intro j;by_cases hj:j<k
 ·have:=oQ.1 h j hj
  omega
 ·rw[aS,List.getElem?_eq_none (by omega)]
  simp
theorem Vk {m:List Int}(h:May m)(r:Nat):May (rowOf m r):=by
 intro j;unfold rowOf
 match j with
 | 0=>exact h _
 | 1=>exact h _
 | 2=>exact h _
 | 3=>exact h _
 | j+4=>simp
theorem Kq (m:List Int)(v0 v1 v2 v3:Int)(r:Nat)(w:World)(hm:May m)(hv:May [v0,v1,v2,v3]) :
  Calls prog 155 #[.agg #[.int .i64 (m.getD (r*4) 0),.int .i64 (m.getD (r*4+1) 0),.int .i64 (m.getD (r*4+2) 0),.int .i64 (m.getD (r*4+3) 0)],.agg #[.int .i64 v0,.int .i64 v1,.int .i64 v2,.int .i64 v3]] w fun e w' =>
   e=.returned (.tuple #[.int .i64 (if In64 (pq (rowOf m r) [v0,v1,v2,v3]) then pq (rowOf m r) [v0,v1,v2,v3] else 0),.int .i64 (if In64 (pq (rowOf m r) [v0,v1,v2,v3]) then 0 else 20)])∧Below w.heap.size w w' :=
 QL (rowOf m r) [v0,v1,v2,v3] w rfl rfl (Vk hm r) hv
theorem Xp {m v:List Int}{j:Nat}(hj:j<4)(h:¬ In64 (pq (rowOf m j) v)):uK m v=none:=by
 unfold uK;rw[bF];rintro ⟨_,_,h3⟩;have h4:=oQ.1 h3 j hj
 apply h
 have hd:j=0∨j=1∨j=2∨j=3:=by omega
 unfold In64;unfold kZ at h4
 rcases hd with rfl|rfl|rfl|rfl
 ·have : (4611686018427387904:Int)≥pq (rowOf m 0) v:=h4.2.2
  have : -(4611686018427387904:Int)≤pq (rowOf m 0) v:=h4.2.1;omega
 ·have : (4611686018427387904:Int)≥pq (rowOf m 1) v:=h4.2.2
  have : -(4611686018427387904:Int)≤pq (rowOf m 1) v:=h4.2.1;omega
 ·have : (4611686018427387904:Int)≥pq (rowOf m 2) v:=h4.2.2
  have : -(4611686018427387904:Int)≤pq (rowOf m 2) v:=h4.2.1;omega
 ·have : (4611686018427387904:Int)≥pq (rowOf m 3) v:=h4.2.2
  have : -(4611686018427387904:Int)≤pq (rowOf m 3) v:=h4.2.1;omega
theorem Qb (m:List Int)(v0 v1 v2 v3:Int)(w:World)(hm:m.length=16)(h1:wB 4611686018427387904 m 16=true)(h2:wB 4611686018427387904 [v0,v1,v2,v3] 4=true) :
  Calls prog 151 #[.agg (mC m),.agg #[.int .i64 v0,.int .i64 v1,.int .i64 v2,.int .i64 v3]] w (YF (uK m [v0,v1,v2,v3]) w):=by
 have MM:=aA (Ln h1 (by omega));have MV:=aA (Ln h2 (by simp));have HM:=aA hm;have H1:=aA h1;have H2:=aA h2;have lW:(prog.info? 25).map (·.size)=some (mC m).size:=by rw[iT,eV,hm]
 have Rn:=aA lW;clear hm h1 h2 lW;go_enter func151,ntmps151;go_wp2_with fail;obtain ⟨V,hV⟩:∃V,(((w.alloc (.cells (mC m) 25)).alloc (.cells #[.int .i64 v0,.int .i64 v1,.int .i64 v2,.int .i64 v3] 23)).alloc (.cells #[.int .i64 0,.int .i64 0,.int .i64 0,.int .i64 0] 23))=V:=⟨_,rfl⟩;have h3:=kF w (.cells (mC m) 25) (.cells #[.int .i64 v0,.int .i64 v1,.int .i64 v2,.int .i64 v3] 23) (.cells #[.int .i64 0,.int .i64 0,.int .i64 0,.int .i64 0] 23);have TD:Below w.heap.size w V:=by rw[←hV];go_grown
 rw[hV] at h3 ⊢;clear hV;obtain ⟨rm,rv,rr⟩:=h3;refine (oP m 4 w.heap.size 4 _ true (by omega) (rK (t:=25) rm (by rw[HM.out];omega)) H1.out).mono ?_;rintro e w1 ⟨rfl,hb⟩;have rm1:=dL hb rm;have Zk:iI (w.heap.size+1) v0 v1 v2 v3 w1:=dL hb rv;have Ee:iI (w.heap.size+1+1) 0 0 0 0 w1:=dL hb rr;have OV:Below w.heap.size w w1:=dN TD hb;have hs1:=OV.size;obtain ⟨z0,z1,z2,z3⟩:=Ee.cells;obtain ⟨y0,y1,y2,y3⟩:=Ee.free;clear rm rv rr;obtain ⟨x0,x1,x2,x3⟩:=Zk.cells;have RM:=aA rm1;have RV:=aA Zk;have RR:=aA Ee;clear rm1 Zk Ee;go_wp2_with fail;refine (oP [v0,v1,v2,v3] 1 _ 1 _ true (by omega) (iI.Bd (aG _ _)) H2.out).mono ?_;rintro e w2 ⟨rfl,hb2⟩;have BO:Below w.heap.size w w2:=dN (OV.alloc hs1 _) hb2;have hlt:=iI.lt RR.out;have hs12:=hb2.size;simp only[aR] at hs12;have tu:AI m v0 v1 v2 v3 0 w2.heap.size w (w2.alloc (.cells #[.int .i64 0,.int .i64 0,.int .i64 0,.int .i64 0] 23)):=by
  refine ⟨dM (dL hb2 (dM RM.out)),dM (dL hb2 (dM RV.out)),dM (dL hb2 (dM RR.out)),aG _ _,by omega,BO.alloc BO.size _⟩
 have BM:=aA tu.bm;have HAI:=aA tu;clear tu;go_wp2_with (refine wpList_load_row rfl 25 (.tmp 2) rfl w.heap.size rfl _ _ _ _ BM.out aU rfl Rn.out ?_)
 generalize w2.heap.size=B at HAI ⊢;go_loopg[22] 4 (ApRel m v0 v1 v2 v3 B w)
 case atStart=>exact ⟨0,rfl,rfl,by omega,fun j hj=>absurd hj (by omega),HAI.out⟩
 case round =>
  clear HAI BM;obtain ⟨r,rfl,rfl,hr4,jS,I⟩:=hrel;by_cases hr:r<4
  ·have Au:=Lr m HM.out r hr
   have hP:=Kq m v0 v1 v2 v3 r;have PD:=aA (fun W (h:AI m v0 v1 v2 v3 r B w W)=>h.next hr);have kC:=aA jS;obtain ⟨q,hq⟩:∃q,pq (rowOf m r) [v0,v1,v2,v3]=q:=⟨_,rfl⟩;rw[hq] at hP PD;have HQ:=aA hq;generalize m.getD (r*4) 0=a0 at Au hP;generalize m.getD (r*4+1) 0=a1 at Au hP;generalize m.getD (r*4+2) 0=a2 at Au hP;generalize m.getD (r*4+3) 0=a3 at Au hP;have HP:=aA hP;obtain ⟨x0,x1,x2,x3⟩:=I.bv.cells;have kS:w.heap.size+1<wr.heap.size:=I.bv.lt;have II:=aA I;have r0:(0:Int)≤(r:Int):=by omega
   have r1:(r:Int)<4:=by omega
   clear hP hq jS I z0 z1 z2 z3 y0 y1 y2 y3;by_cases sB:In64 q
   ·have e1:(if In64 q then q else 0)=q:=aZ sB
    have e2:(if In64 q then (0:Int) else 20)=0:=aZ sB;rw[e1,e2] at HP;have qp:=aA sB;clear e1 e2 sB;go_wp2_with fail;refine (HP.out _ MM.out MV.out).mono ?_;rintro e w3 ⟨rfl,hb3⟩;have I3:=(II.out.up ((aJ wr.heap.size wr).alloc (aB _) (.cells #[.int .i64 a0,.int .i64 a1,.int .i64 a2,.int .i64 a3] 23))).up hb3;have cb:w3.cell? ⟨B,r,none⟩=some (.int .i64 ((ko m [v0,v1,v2,v3] r).getD r 0)):=by rw[aD _ _ _ _ _ _ I3.ba,zE _ _ (by rw[Cb];exact hr)]
    have fb:w3.frozen? ⟨B,r,none⟩=false:=dJ I3.ba;have II3:=aA (PD.out _ I3);clear I3;go_wp2_with fail;go_roundg (4-(r+1))
    case measure=>omega
    case rel =>
     refine ⟨r+1,rfl,by go_num,by omega,fun j hj=>?_,II3.out⟩;by_cases hjr:j<r
     ·exact kC.out j hjr
     ·rw[show j=r by omega,HQ.out];exact qp.out
   ·have e1:(if In64 q then q else 0)=0:=bF sB
    have e2:(if In64 q then (0:Int) else 20)=20:=bF sB;rw[e1,e2] at HP;have sQ:Hid (uK m [v0,v1,v2,v3]=none):=aA (Xp hr (by rw[HQ.out];exact sB));clear e1 e2 sB;go_wp2_with fail;refine (HP.out _ MM.out MV.out).mono ?_;rintro e w3 ⟨rfl,hb3⟩;have I3:=(II.out.up ((aJ wr.heap.size wr).alloc (aB _) (.cells #[.int .i64 a0,.int .i64 a1,.int .i64 a2,.int .i64 a3] 23))).up hb3;obtain ⟨z0',z1',z2',z3'⟩:=I3.br.cells;obtain ⟨y0',y1',y2',y3'⟩:=I3.br.free;have Oi:=I3.below;have hsX:=Oi.size;clear I3;go_wp2;rw[sQ.out];refine aO (v:=.tuple #[.agg #[.int .i64 0,.int .i64 0,.int .i64 0,.int .i64 0],.int .i64 30]) (by simp[results,results151,go_sem, *]) rfl ⟨rfl,?_⟩
    repeat' (first|(with_reducible exact aJ _ _)|(with_reducible assumption)|(with_reducible refine Below.drew ?_)|(with_reducible refine Below.setCell ?_ ?_ _)|(with_reducible refine dN ?_ (by assumption))|(with_reducible refine Below.alloc ?_ ?_ _)|go_size)
  ·have hre:r=4:=by omega
   subst hre;have ba:=I.ba;rw[Cc] at ba;have hap:Hid (kZ m [v0,v1,v2,v3]=[pq (rowOf m 0) [v0,v1,v2,v3],pq (rowOf m 1) [v0,v1,v2,v3],pq (rowOf m 2) [v0,v1,v2,v3],pq (rowOf m 3) [v0,v1,v2,v3]]):=aA rfl;rw[hap.out] at ba;generalize pq (rowOf m 0) [v0,v1,v2,v3]=q0 at hap ba;generalize pq (rowOf m 1) [v0,v1,v2,v3]=q1 at hap ba;generalize pq (rowOf m 2) [v0,v1,v2,v3]=q2 at hap ba;generalize pq (rowOf m 3) [v0,v1,v2,v3]=q3 at hap ba;have BA:iI B q0 q1 q2 q3 wr:=ba;obtain ⟨x0,x1,x2,x3⟩:=BA.cells;have II:=aA I;have HBA:=aA BA;clear BA ba I jS z0 z1 z2 z3 y0 y1 y2 y3
   cases h3:wB 4611686018427387904 [q0,q1,q2,q3] 4 with
   | true =>
    have HAP:Hid (uK m [v0,v1,v2,v3]=some [q0,q1,q2,q3]):=aA (by unfold uK;rw[hap.out,aZ ⟨H1.out,H2.out,h3⟩]);have H3:=aA h3;clear h3;go_wp2_with fail;refine (oP [q0,q1,q2,q3] 1 _ 1 _ true (by omega) (iI.Bd (aG _ _)) H3.out).mono ?_;rintro e w3 ⟨rfl,hb3⟩;have I3:=(II.out.up ((aJ wr.heap.size wr).alloc (aB _) (.cells #[.int .i64 q0,.int .i64 q1,.int .i64 q2,.int .i64 q3] 23))).up hb3;have BA3:iI B q0 q1 q2 q3 w3:=(HBA.out.below ((aJ wr.heap.size wr).alloc (aB _) (.cells #[.int .i64 q0,.int .i64 q1,.int .i64 q2,.int .i64 q3] 23))).below hb3;obtain ⟨z0',z1',z2',z3'⟩:=I3.br.cells;obtain ⟨y0',y1',y2',y3'⟩:=I3.br.free;obtain ⟨c0,c1,c2,c3⟩:=BA3.cells;have Oi:=I3.below;have hsX:=Oi.size;clear I3 BA3;go_wp2;rw[HAP.out];refine aO (v:=.tuple #[.agg #[.int .i64 q0,.int .i64 q1,.int .i64 q2,.int .i64 q3],.int .i64 0]) (by simp[results,results151,go_sem, *]) rfl ⟨rfl,?_⟩
    repeat' (first|(with_reducible exact aJ _ _)|(with_reducible assumption)|(with_reducible refine Below.drew ?_)|(with_reducible refine Below.setCell ?_ ?_ _)|(with_reducible refine dN ?_ (by assumption))|(with_reducible refine Below.alloc ?_ ?_ _)|go_size)
   | false =>
    have HAP:Hid (uK m [v0,v1,v2,v3]=none):=aA (by unfold uK;rw[hap.out,bF (by rw[h3];simp)]);have H3:=aA h3;clear h3;go_wp2_with fail;refine (oP [q0,q1,q2,q3] 1 _ 1 _ false (by omega) (iI.Bd (aG _ _)) H3.out).mono ?_;rintro e w3 ⟨rfl,hb3⟩;have I3:=(II.out.up ((aJ wr.heap.size wr).alloc (aB _) (.cells #[.int .i64 q0,.int .i64 q1,.int .i64 q2,.int .i64 q3] 23))).up hb3;obtain ⟨z0',z1',z2',z3'⟩:=I3.br.cells;obtain ⟨y0',y1',y2',y3'⟩:=I3.br.free;have Oi:=I3.below;have hsX:=Oi.size;clear I3;go_wp2;rw[HAP.out];refine aO (v:=.tuple #[.agg #[.int .i64 0,.int .i64 0,.int .i64 0,.int .i64 0],.int .i64 30]) (by simp[results,results151,go_sem, *]) rfl ⟨rfl,?_⟩
    repeat' (first|(with_reducible exact aJ _ _)|(with_reducible assumption)|(with_reducible refine Below.drew ?_)|(with_reducible refine Below.setCell ?_ ?_ _)|(with_reducible refine dN ?_ (by assumption))|(with_reducible refine Below.alloc ?_ ?_ _)|go_size)
theorem Xr {m v l:List Int}(h:uK m v=some l):l.length=4:=by
 unfold uK at h
 split at h
 ·cases h;rfl
 ·cases h
theorem Gy (m v:List Int)(w:World)(hm:m.length=16)(hv:v.length=4):Calls prog 151 #[.agg (mC m),.agg (mC v)] w (YF (uK m v) w):=by
 rw[Lv hv];generalize v.getD 0 0=v0;generalize v.getD 1 0=v1;generalize v.getD 2 0=v2;generalize v.getD 3 0=v3
 cases h1:wB 4611686018427387904 m 16 with
 | false =>
  rw[show uK m [v0,v1,v2,v3]=none from by unfold uK;rw[bF (by rw[h1];simp)]];exact Gx m v0 v1 v2 v3 w hm h1
 | true =>
  cases h2:wB 4611686018427387904 [v0,v1,v2,v3] 4 with
  | false =>
   rw[show uK m [v0,v1,v2,v3]=none from by unfold uK;rw[bF (by rw[h2];simp)]];exact Gw m v0 v1 v2 v3 w hm h1 h2
  | true=>exact Qb m v0 v1 v2 v3 w hm h1 h2
def qJ (a b:List Int)(r:Nat):Option (List Int):=uK a (rowOf (tr b) r)
def Gm (a b:List Int)(p:Nat):Int:=((qJ a b (p/4)).getD []).getD (p%4) 0
def UR (a b:List Int)(r:Nat):List Int:=(List.range 16).map fun p=>if p/4<r then Gm a b p else 0
def KT (a b:List Int):List Int:=(List.range 16).map fun p=>Gm a b p
theorem BS (a b:List Int)(r:Nat):(UR a b r).length=16:=by simp[UR]
theorem Bu (a b:List Int):(KT a b).length=16:=by simp[KT]
theorem Xn (a b:List Int):UR a b 4=KT a b:=by
 unfold UR KT;refine List.map_congr_left fun p hp=>?_
 rw[List.mem_range] at hp;rw[aZ (by omega)]
theorem Pu (a b:List Int):UR a b 0=List.replicate 16 0:=by
 unfold UR;simp only[Nat.not_lt_zero,if_false];rfl
theorem Pv {a b:List Int}{r:Nat}{q0 q1 q2 q3:Int}(h:r<4)(hc:qJ a b r=some [q0,q1,q2,q3]):((((UR a b r).set (r*4) q0).set (r*4+1) q1).set (r*4+2) q2).set (r*4+3) q3=UR a b (r+1):=by
 refine List.ext_getElem (by simp[UR]) fun p h1 h2=>?_
 have hp:p<16:=by simpa[UR] using h2
 simp only[List.getElem_set];simp only[UR,List.getElem_map,List.getElem_range];by_cases e3:r*4+3=p
 ·rw[aZ e3,aZ (by omega)]
  unfold Gm;rw[show p/4=r by omega,show p%4=3 by omega,hc];rfl
 rw[bF e3];by_cases e2:r*4+2=p
 ·rw[aZ e2,aZ (by omega)]
  unfold Gm;rw[show p/4=r by omega,show p%4=2 by omega,hc];rfl
 rw[bF e2];by_cases e1:r*4+1=p
 ·rw[aZ e1,aZ (by omega)]
  unfold Gm;rw[show p/4=r by omega,show p%4=1 by omega,hc];rfl
 rw[bF e1];by_cases e0:r*4=p
 ·rw[aZ e0,aZ (by omega)]
  unfold Gm;rw[show p/4=r by omega,show p%4=0 by omega,hc];rfl
 rw[bF e0];by_cases e:p/4<r
 ·rw[aZ e,aZ (by omega)]
 ·rw[bF e,bF (by omega)]
def rE (a b:List Int):Option (List Int):=if (qJ a b 0).isSome=true∧(qJ a b 1).isSome=true∧(qJ a b 2).isSome=true∧(qJ a b 3).isSome=true then some (tr (KT a b)) else none
theorem KG {a b:List Int}{r:Nat}(hr:r<4)(h:qJ a b r=none):rE a b=none:=by
 unfold rE;rw[bF];have hd:r=0∨r=1∨r=2∨r=3:=by omega
 rintro ⟨h0,h1,h2,h3⟩
 rcases hd with rfl|rfl|rfl|rfl
 ·rw[h] at h0;cases h0
 ·rw[h] at h1;cases h1
 ·rw[h] at h2;cases h2
 ·rw[h] at h3;cases h3
def dZ:List Int:=[0,0,0,0,0,0,0,0,0,0,0,0,0,0,0,0]
def Ci (o:Option (List Int))(w:World)(e:Ending)(w':World):Prop:=e=.returned (.tuple #[.agg (mC (o.getD dZ)),.int .i64 (if o.isSome then 0 else 30)])∧Below w.heap.size w w'
theorem wX {P:Program}{fn:Func}{p u:Tmp}{ty:TypeId}(h:fn.results=#[.cell p ty,.tmp u])(tmps:Array Value)(w:World)(g:Nat)(t:TypeId)(cs:Array Value)(fr:Nat×Nat)(d:TypeDesc)(v:Value)
  (hp:tmps.getD p undef=.pointer (some ⟨g,0,none⟩)) (hv:tmps.getD u undef=v) (hg:w.heap[g]?=some (.cells cs t fr))
  (hu:P.underlying ty=some d) (hd:(match d with | .struct _ | .array _ _=>true|_=>false)=true) (hi:(P.info? ty).map (·.size)=some cs.size) :
  (results fn tmps).run P w=.ok (.tuple #[.agg cs,v]) w:=by
 have hp':tmps[p]?.getD undef=.pointer (some ⟨g,0,none⟩):=by simpa using hp
 have hv':tmps[u]?.getD undef=v:=by simpa using hv
 simp[results,h,hp',hv',asAddr,run_loadVar_row w g t ty cs fr d hg hu hd hi]
def mE (b:Nat)(m:List Int)(W:World):Prop:=W.heap[b]?=some (.cells (mC m) 25 (0,0))
theorem mE.below {b:Nat}{m:List Int}{w W:World}(hb:Below w.heap.size w W)(h:mE b m w):mE b m W:=dL hb h
theorem mE.lt {b:Nat}{m:List Int}{W:World}(h:mE b m W):b<W.heap.size:=(aC.1 h).1
theorem mE.cell {b j:Nat}{m:List Int}{W:World}(h:mE b m W)(hj:j<m.length):W.cell? ⟨b,j,none⟩=some (.int .i64 (m.getD j 0)):=by rw[aD _ _ _ _ _ _ h,zE _ _ hj]
theorem mE.set {b j:Nat}{m:List Int}{W:World}(h:mE b m W)(x:Int):mE b (m.set j x) (W.setCell ⟨b,j,none⟩ (.int .i64 x)):=by
 unfold mE;rw[aM _ _ _ _ _ _ h,MP]
theorem mE.other {b c j:Nat}{m:List Int}{W:World}(h:mE b m W)(v:Value)(hn:b≠c):mE b m (W.setCell ⟨c,j,none⟩ v):=by
 unfold mE;rw[aK _ _ _ _ hn];exact h
structure MI (a b:List Int)(r B:Nat)(w W:World):Prop where
 ba:mE w.heap.size a W
 br:mE (w.heap.size+1+1) dZ W
 bc:mE B (UR a b r) W
 hB:w.heap.size+1+1<B
 below:Below w.heap.size w W
theorem MI.up {a b:List Int}{r B:Nat}{w W X:World}(h:MI a b r B w W)(hb:Below W.heap.size W X):MI a b r B w X :=
 ⟨h.ba.below hb,h.br.below hb,h.bc.below hb,h.hB,dN h.below hb⟩
theorem MI.next {a b:List Int}{r B:Nat}{w W:World}{q0 q1 q2 q3:Int}(h:MI a b r B w W)(hr:r<4)(hc:qJ a b r=some [q0,q1,q2,q3]) :
  MI a b (r+1) B w ((((W.setCell ⟨B,r*4,none⟩ (.int .i64 q0)).setCell ⟨B,r*4+1,none⟩ (.int .i64 q1)).setCell ⟨B,r*4+2,none⟩ (.int .i64 q2)).setCell ⟨B,r*4+3,none⟩ (.int .i64 q3)):=by
 have hB:=h.hB;refine ⟨?_,?_,?_,hB,?_⟩
 ·exact (((h.ba.other _ (by omega)).other _ (by omega)).other _ (by omega)).other _ (by omega)
 ·exact (((h.br.other _ (by omega)).other _ (by omega)).other _ (by omega)).other _ (by omega)
 ·rw[←Pv hr hc]
  exact (((h.bc.set q0).set q1).set q2).set q3
 ·exact (((h.below.setCell (p:=⟨B,r*4,none⟩) (by show _≤B;omega) _).setCell (p:=⟨B,r*4+1,none⟩) (by show _≤B;omega) _).setCell (p:=⟨B,r*4+2,none⟩) (by show _≤B;omega) _).setCell (p:=⟨B,r*4+3,none⟩) (by show _≤B;omega) _
def MRelM (a b:List Int)(B:Nat)(w:World)(g:Nat)(s:Value)(W:World):Prop :=
 ∃r,g=4-r∧s=.int .i64 (r:Int)∧r≤4∧(∀j,j<r→(qJ a b j).isSome=true)∧MI a b r B w W
theorem Lm (a b:List Int)(w:World)(la:a.length=16)(lb:b.length=16):Calls prog 141 #[.agg (mC a),.agg (mC b)] w (Ci (rE a b) w):=by
 have LA:=aA la;have LB:=aA lb;have ia:(prog.info? 25).map (·.size)=some (mC a).size:=by rw[iT,eV,la]
 have ib:(prog.info? 25).map (·.size)=some (mC b).size:=by rw[iT,eV,lb]
 have IA:=aA ia;have IB:=aA ib;clear la lb ia ib;have Ay:=Bz w (.cells (mC a) 25) (.cells (mC b) 25) (.cells #[.int .i64 0,.int .i64 0,.int .i64 0,.int .i64 0,.int .i64 0,.int .i64 0,.int .i64 0,.int .i64 0,.int .i64 0,.int .i64 0,.int .i64 0,.int .i64 0,.int .i64 0,.int .i64 0,.int .i64 0,.int .i64 0] 25) (.cells #[.int .i64 0,.int .i64 0,.int .i64 0,.int .i64 0,.int .i64 0,.int .i64 0,.int .i64 0,.int .i64 0,.int .i64 0,.int .i64 0,.int .i64 0,.int .i64 0,.int .i64 0,.int .i64 0,.int .i64 0,.int .i64 0] 25);have RA:=aA Ay.1;have RB:=aA Ay.2.1;have RR:=aA Ay.2.2.1;have RC:=aA Ay.2.2.2;clear Ay;have itr:(prog.info? 25).map (·.size)=some (mC (tr (KT a b))).size:=by rw[iT,eV,vY]
 have iz:(mC dZ).size=(mC (tr (KT a b))).size:=by rw[eV,eV,vY];rfl
 have ics:(prog.info? 25).map (·.size)=some (mC (KT a b)).size:=by rw[iT,eV,Bu]
 have ITR:=aA itr;have IZ:=aA iz;have ICS:=aA ics;clear itr iz ics;go_enter func141,ntmps141;go_wp2_with (refine wpList_load_row rfl 25 (.tmp 3) rfl (w.heap.size+1) rfl _ _ _ _ RB.out aU rfl IB.out ?_)
 refine (FY b _ LB.out).mono ?_;rintro e w1 ⟨rfl,hb⟩;have MI0:MI a b 0 (w.heap.size+1+1+1) w w1:=by
  refine ⟨dL hb RA.out,dL hb RR.out,?_,by omega,?_⟩
  ·rw[Pu];exact dL hb RC.out
  ·exact (by go_grown:Below w.heap.size w _).trans (hb.mono (by simp;omega))
 have HMI:=aA MI0;clear MI0 RA RB RR RC hb;go_wp2_with fail;generalize w.heap.size+1+1+1=B at HMI ⊢;go_loopg[13] 4 (MRelM a b B w)
 case atStart=>exact ⟨0,rfl,rfl,by omega,fun j hj=>absurd hj (by omega),HMI.out⟩
 case round =>
  clear HMI;obtain ⟨r,rfl,rfl,hr4,jS,I⟩:=hrel;by_cases hr:r<4
  ·have Au:=Lr (tr b) (vY b) r hr
   have hP:=fun w=>Gy a (rowOf (tr b) r) w LA.out rfl
   rw[show uK a (rowOf (tr b) r)=qJ a b r from rfl] at hP;have hrow:(Value.agg (mC (rowOf (tr b) r)))=.agg #[.int .i64 ((tr b).getD (r*4) 0),.int .i64 ((tr b).getD (r*4+1) 0),.int .i64 ((tr b).getD (r*4+2) 0),.int .i64 ((tr b).getD (r*4+3) 0)]:=rfl;rw[hrow] at hP;clear hrow;have kC:=aA jS;generalize (tr b).getD (r*4) 0=a0 at Au hP;generalize (tr b).getD (r*4+1) 0=a1 at Au hP;generalize (tr b).getD (r*4+2) 0=a2 at Au hP;generalize (tr b).getD (r*4+3) 0=a3 at Au hP;have HP:=aA hP;have PD:=aA (fun W q0 q1 q2 q3 (h:MI a b r B w W) (hc:qJ a b r=some [q0,q1,q2,q3])=>h.next hr hc);have r0:(0:Int)≤(r:Int):=by omega
   have r1:(r:Int)<4:=by omega
   have w0lt:w.heap.size<wr.heap.size:=I.ba.lt;have Iv:=I.up ((aJ wr.heap.size wr).alloc (aB _) (.cells #[.int .i64 a0,.int .i64 a1,.int .i64 a2,.int .i64 a3] 23));have RA:=aA Iv.ba;have IV:=aA Iv;clear hP jS I Iv
   cases hc:qJ a b r with
   | none =>
    have sQ:=aA (KG hr hc);rw[hc] at HP;clear hc;go_wp2_with (refine wpList_load_row rfl 25 (.tmp 2) rfl w.heap.size rfl _ _ _ _ RA.out aU rfl IA.out ?_)
    refine (HP.out _).mono ?_;rintro e w3 ⟨rfl,hb3⟩;have hgz:(Value.agg (mC ((none:Option (List Int)).getD [0,0,0,0])))=.agg #[.int .i64 0,.int .i64 0,.int .i64 0,.int .i64 0]:=rfl;have Fc:(if (none:Option (List Int)).isSome=true then (0:Int) else 30)=30:=rfl;rw[hgz,Fc];clear hgz Fc;have hs3:=hb3.size;simp only[aR] at hs3;have I3:=(IV.out.up hb3).up ((aJ w3.heap.size w3).alloc (aB _) (.cells #[.int .i64 0,.int .i64 0,.int .i64 0,.int .i64 0] 23));have RR3:=aA I3.br;have BB3:=aA I3.below;clear I3;go_wp2_with (refine dG rfl 25 (.tmp 4) (.tmp 25) rfl (w.heap.size+1+1) _ _ (mC dZ) rfl rfl RR3.out iT rfl (iV _) ?_)
    refine aO (wX rfl _ _ (w.heap.size+1+1) _ (mC dZ) _ _ (.int .i64 30) rfl rfl (setRow_heap _ _ _ _ _ _ RR3.out) aU rfl iT) rfl ?_;rw[sQ.out];exact ⟨rfl,Below.row BB3.out (by omega) _⟩
   | some l =>
    have hl:=Lv (Xr hc);rw[hl] at hc;generalize l.getD 0 0=q0 at hc;generalize l.getD 1 0=q1 at hc;generalize l.getD 2 0=q2 at hc;generalize l.getD 3 0=q3 at hc;rw[hc] at HP;have HC:=aA hc;clear hc hl;go_wp2_with (refine wpList_load_row rfl 25 (.tmp 2) rfl w.heap.size rfl _ _ _ _ RA.out aU rfl IA.out ?_)
    refine (HP.out _).mono ?_;rintro e w3 ⟨rfl,hb3⟩;have hs3:=hb3.size;simp only[aR] at hs3;have I3:=(IV.out.up hb3).up ((aJ w3.heap.size w3).alloc (aB _) (.cells #[.int .i64 q0,.int .i64 q1,.int .i64 q2,.int .i64 q3] 23));have hBl:=I3.bc.lt;rw[aR] at hBl;have c0:=I3.bc.cell (j:=r*4) (by rw[BS];omega);have c1:=I3.bc.cell (j:=r*4+1) (by rw[BS];omega);have c2:=I3.bc.cell (j:=r*4+2) (by rw[BS];omega);have c3:=I3.bc.cell (j:=r*4+3) (by rw[BS];omega);have f0:=dJ (j:=r*4) I3.bc;have f1:=dJ (j:=r*4+1) I3.bc;have f2:=dJ (j:=r*4+2) I3.bc;have f3:=dJ (j:=r*4+3) I3.bc;generalize (UR a b r).getD (r*4) 0=y0 at c0;generalize (UR a b r).getD (r*4+1) 0=y1 at c1;generalize (UR a b r).getD (r*4+2) 0=y2 at c2;generalize (UR a b r).getD (r*4+3) 0=y3 at c3;have NX:=aA (PD.out _ q0 q1 q2 q3 I3 HC.out);clear I3;have hgz:(Value.agg (mC ((some [q0,q1,q2,q3]).getD [0,0,0,0])))=.agg #[.int .i64 q0,.int .i64 q1,.int .i64 q2,.int .i64 q3]:=rfl;have Fc:(if (some [q0,q1,q2,q3]).isSome=true then (0:Int) else 30)=0:=rfl;rw[hgz,Fc];clear hgz Fc;go_wp2_with fail;go_roundg (4-(r+1))
    case measure=>omega
    case rel =>
     refine ⟨r+1,rfl,by go_num,by omega,fun j hj=>?_,NX.out⟩;by_cases hjr:j<r
     ·exact kC.out j hjr
     ·rw[show j=r by omega,HC.out];rfl
  ·have hre:r=4:=by omega
   subst hre;have hall:rE a b=some (tr (KT a b)):=aZ ⟨jS 0 (by omega),jS 1 (by omega),jS 2 (by omega),jS 3 (by omega)⟩;have Rs:=aA hall;have bc:=I.bc;rw[Xn] at bc;have BC:=aA bc;have II:=aA I;have hBl:=bc.lt;have BO:=I.hB;clear hall bc I jS;go_wp2_with (refine wpList_load_row rfl 25 (.tmp 6) rfl B rfl _ _ _ _ BC.out aU rfl ICS.out ?_)
   refine (FY (KT a b) _ (Bu a b)).mono ?_;rintro e w3 ⟨rfl,hb3⟩;have I3:=II.out.up hb3;have RR3:=aA I3.br;have BB3:=aA I3.below;clear I3;go_wp2_with (refine dG rfl 25 (.tmp 4) (.tmp 32) rfl (w.heap.size+1+1) _ _ (mC (tr (KT a b))) rfl rfl RR3.out ITR.out IZ.out (iV _) ?_)
   refine aO (wX rfl _ _ (w.heap.size+1+1) _ _ _ _ (.int .i64 0) rfl rfl (setRow_heap _ _ _ _ _ _ RR3.out) aU rfl ITR.out) rfl ?_;rw[Rs.out];exact ⟨rfl,Below.row BB3.out (by omega) _⟩
theorem yQ (m:List Int)(bound:Int)(w:World)(hm:m.length=16)(b0:-9223372036854775808≤bound)(b1:bound≤9223372036854775807) :
  Calls prog 99 #[.agg (mC m),.int .i64 bound] w fun e w'=>e=.returned (.int .i64 (if wB bound m 16 then 0 else 30))∧Below w.heap.size w w':=by
 cases hb:wB bound m 16 with
 | true =>
  have HW:∀w,uP m 4 0 w→True:=fun _ _=>trivial
  have HC:=aA (fun (w:World) g (h:uP m 4 g w)=>(vX bound m 4 g 4 w (by omega) b0 b1 h));rw[show 4*4=16 from rfl,hb] at HC;have HM:=aA hm;clear hb hm HW;go_enter func99,ntmps99;go_wp2_with fail;refine (HC.out _ _ (rK (t:=25) (aG _ _) (by rw[HM.out];omega))).mono ?_;rintro e w1 ⟨rfl,kT⟩;go_wp2;go_ret;refine ⟨rfl,?_⟩;exact ((aJ _ w).alloc (aB _) _).trans (kT.mono (by simp))
 | false =>
  have HC:=aA (fun (w:World) g (h:uP m 4 g w)=>(vX bound m 4 g 4 w (by omega) b0 b1 h));rw[show 4*4=16 from rfl,hb] at HC;have HM:=aA hm;clear hb hm;go_enter func99,ntmps99;go_wp2_with fail;refine (HC.out _ _ (rK (t:=25) (aG _ _) (by rw[HM.out];omega))).mono ?_;rintro e w1 ⟨rfl,kT⟩;go_wp2;go_ret;refine ⟨rfl,?_⟩;exact ((aJ _ w).alloc (aB _) _).trans (kT.mono (by simp))
end Fx
namespace Fx
open Go Go.RowKit Wm
structure rZ (nx ny nz:Bool)(dx dy dz:List Nat)(w W:World):Prop where
 bx:W.heap[w.heap.size]?=some (.cells (dW nx dx) 214 (0,0))
 yR:W.heap[w.heap.size+1]?=some (.cells (dW ny dy) 214 (0,0))
 br:W.heap[w.heap.size+1+1]?=some (.cells (dW false zeros) 214 (0,0))
 bz:W.heap[w.heap.size+1+1+1]?=some (.cells (dW nz dz) 214 (0,0))
 below:Below w.heap.size w W
theorem rZ.up {nx ny nz:Bool}{dx dy dz:List Nat}{w W X:World}(h:rZ nx ny nz dx dy dz w W)(hb:Below W.heap.size W X):rZ nx ny nz dx dy dz w X :=
 ⟨dL hb h.bx,dL hb h.yR,dL hb h.br,dL hb h.bz,dN h.below hb⟩
theorem rZ.row {nx ny nz:Bool}{dx dy dz:List Nat}{w W:World}(h:rZ nx ny nz dx dy dz w W)(n:Bool)(d:List Nat):rZ nx ny n dx dy d w (W.setRow (w.heap.size+1+1+1) (dW n d)) :=
 ⟨by rw[setRow_other _ _ _ _ (by omega)];exact h.bx,by rw[setRow_other _ _ _ _ (by omega)];exact h.yR,by rw[setRow_other _ _ _ _ (by omega)];exact h.br,setRow_heap _ _ _ _ _ _ h.bz,Below.row h.below (by omega) _⟩
theorem rZ.sign {nx ny nz:Bool}{dx dy dz:List Nat}{w W:World}(h:rZ nx ny nz dx dy dz w W)(n:Bool):rZ nx ny n dx dy dz w (W.setCell ⟨w.heap.size+1+1+1,0,none⟩ (.bool n)) :=
 ⟨by rw[aK _ _ _ _ (by show _≠w.heap.size+1+1+1;omega)];exact h.bx,by rw[aK _ _ _ _ (by show _≠w.heap.size+1+1+1;omega)];exact h.yR,by rw[aK _ _ _ _ (by show _≠w.heap.size+1+1+1;omega)];exact h.br,
  by rw[aM _ _ _ _ _ _ h.bz,uI],h.below.setCell (p:=⟨w.heap.size+1+1+1,0,none⟩) (by show _≤w.heap.size+1+1+1;omega) _⟩
theorem rZ.heads {nx ny nz:Bool}{dx dy dz:List Nat}{w W:World}(h:rZ nx ny nz dx dy dz w W) :
  W.cell? ⟨w.heap.size,0,none⟩=some (.bool nx)∧W.cell? ⟨w.heap.size+1,0,none⟩=some (.bool ny)∧W.cell? ⟨w.heap.size+1+1+1,0,none⟩=some (.bool nz)∧W.frozen? ⟨w.heap.size+1+1+1,0,none⟩=false :=
 ⟨by rw[aD _ _ _ _ _ _ h.bx,uJ],by rw[aD _ _ _ _ _ _ h.yR,uJ],by rw[aD _ _ _ _ _ _ h.bz,uJ],dJ h.bz⟩
theorem KU (nx ny:Bool)(dx dy:List Nat)(w:World):rZ nx ny false dx dy zeros w ((((w.alloc (.cells (dW nx dx) 214)).alloc (.cells (dW ny dy) 214)).alloc (.cells (dW false zeros) 214)).alloc (.cells (dW false zeros) 214)):=by
 have h:=qK w (.cells (dW nx dx) 214) (.cells (dW ny dy) 214) (.cells (dW false zeros) 214) (.cells (dW false zeros) 214);exact ⟨h.1.1,h.1.2,h.2.1,h.2.2,by go_grown⟩
theorem YB (nx ny:Bool)(dx dy d:List Nat)(w:World)(hx:dx.length=20)(hy:dy.length=20)(hd:d.length=20)(hs:nx=ny)(hc:∀w,Calls prog 165 #[.agg (dW nx dx),.agg (dW ny dy)] w (sP false d w))
  (hz:(d == zeros)=true):Calls prog 158 #[.agg (dW nx dx),.agg (dW ny dy)] w (sP false d w):=by
 have IX:=aA (eR nx dx hx);have IY:=aA (eR ny dy hy);have YJ:=aA (eR false d hd);have IDs:=aA (eR nx d hd);have SD:=aA (gU false false zeros d rfl hd);have SR:=aA (gU false false zeros d rfl hd);have NN:=aA (fun w=>nM nx d w hd);have HZ:=aA hz;have I0:=KU nx ny dx dy w;have BX:=aA I0.bx;have BY:=aA I0.yR;obtain ⟨g0,g1,g2,g3⟩:=I0.heads;have oO:=aA I0;have KH:dW false zeros=#[.bool false,.int .u64 0,.int .u64 0,.int .u64 0,.int .u64 0,.int .u64 0,.int .u64 0,.int .u64 0,.int .u64 0,.int .u64 0,.int .u64 0,.int .u64 0,.int .u64 0,.int .u64 0,.int .u64 0,.int .u64 0,.int .u64 0,.int .u64 0,.int .u64 0,.int .u64 0,.int .u64 0]:=rfl;rw[KH] at g0 g1 g2 g3;clear I0 hx hy hd hz KH;have HC:=aA hc;have hs1:(nx == ny)=true:=by simp[hs]
 clear hc hs;go_enter func158,ntmps158;go_wp2_with (first|(refine wpList_load_row rfl 214 (.tmp 2) rfl w.heap.size rfl _ _ _ _ BX.out aH rfl IX.out ?_)|(refine wpList_load_row rfl 214 (.tmp 3) rfl (w.heap.size+1) rfl _ _ _ _ BY.out aH rfl IY.out ?_))
 refine (HC.out _).mono ?_;rintro e w1 ⟨rfl,hb⟩;have I1:=oO.out.up hb;have B1:=aA I1.bz;have I2:=I1.row false d;have I3:=I2.sign nx;obtain ⟨m0,m1,m2,m3⟩:=I2.heads;have B3:=aA I3.bz;have qB:=aA I3;clear I1 I2 I3 hb g0 g1 g2 g3;go_wp2_with (first|(refine dG rfl 214 (.tmp 5) (.tmp 20) rfl (w.heap.size+1+1+1) _ _ (dW false d) rfl rfl B1.out YJ.out SD.out (gG _ _) ?_)|(refine wpList_load_row rfl 214 (.tmp 5) rfl (w.heap.size+1+1+1) rfl _ _ _ _ B3.out aH rfl IDs.out ?_))
 refine (NN.out _).mono ?_;rintro e w4 ⟨rfl,hb4⟩;rw[HZ.out];have I4:=qB.out.up hb4;have I5:=I4.sign false;obtain ⟨n0,n1,n2,n3⟩:=I4.heads;have B5:=aA I5.bz;have R5:=aA I5.br;have L5:=aA I5.below;clear I4 I5 hb4 m0 m1 m2 m3;go_wp2_with (first|(refine wpList_load_row rfl 214 (.tmp 5) rfl (w.heap.size+1+1+1) rfl _ _ _ _ B5.out aH rfl YJ.out ?_)|(refine dG rfl 214 (.tmp 4) (.tmp 37) rfl (w.heap.size+1+1) _ _ (dW false d) rfl rfl R5.out YJ.out SR.out (gG _ _) ?_))
 refine aO (v:=.agg (dW false d)) (results_cell_row rfl _ _ (w.heap.size+1+1) _ _ _ _ rfl (setRow_heap _ _ _ _ _ _ R5.out) aH rfl YJ.out) rfl ?_;exact ⟨rfl,Below.row L5.out (by omega) _⟩
theorem YC (nx ny:Bool)(dx dy d:List Nat)(w:World)(hx:dx.length=20)(hy:dy.length=20)(hd:d.length=20)(hs:nx=ny)(hc:∀w,Calls prog 165 #[.agg (dW nx dx),.agg (dW ny dy)] w (sP false d w))
  (hz:(d == zeros)=false):Calls prog 158 #[.agg (dW nx dx),.agg (dW ny dy)] w (sP nx d w):=by
 have IX:=aA (eR nx dx hx);have IY:=aA (eR ny dy hy);have YJ:=aA (eR false d hd);have IDs:=aA (eR nx d hd);have SD:=aA (gU false false zeros d rfl hd);have SR:=aA (gU false nx zeros d rfl hd);have NN:=aA (fun w=>nM nx d w hd);have HZ:=aA hz;have I0:=KU nx ny dx dy w;have BX:=aA I0.bx;have BY:=aA I0.yR;obtain ⟨g0,g1,g2,g3⟩:=I0.heads;have oO:=aA I0;have KH:dW false zeros=#[.bool false,.int .u64 0,.int .u64 0,.int .u64 0,.int .u64 0,.int .u64 0,.int .u64 0,.int .u64 0,.int .u64 0,.int .u64 0,.int .u64 0,.int .u64 0,.int .u64 0,.int .u64 0,.int .u64 0,.int .u64 0,.int .u64 0,.int .u64 0,.int .u64 0,.int .u64 0,.int .u64 0]:=rfl;rw[KH] at g0 g1 g2 g3;clear I0 hx hy hd hz KH;have HC:=aA hc;have hs1:(nx == ny)=true:=by simp[hs]
 clear hc hs;go_enter func158,ntmps158;go_wp2_with (first|(refine wpList_load_row rfl 214 (.tmp 2) rfl w.heap.size rfl _ _ _ _ BX.out aH rfl IX.out ?_)|(refine wpList_load_row rfl 214 (.tmp 3) rfl (w.heap.size+1) rfl _ _ _ _ BY.out aH rfl IY.out ?_))
 refine (HC.out _).mono ?_;rintro e w1 ⟨rfl,hb⟩;have I1:=oO.out.up hb;have B1:=aA I1.bz;have I2:=I1.row false d;have I3:=I2.sign nx;obtain ⟨m0,m1,m2,m3⟩:=I2.heads;have B3:=aA I3.bz;have qB:=aA I3;clear I1 I2 I3 hb g0 g1 g2 g3;go_wp2_with (first|(refine dG rfl 214 (.tmp 5) (.tmp 20) rfl (w.heap.size+1+1+1) _ _ (dW false d) rfl rfl B1.out YJ.out SD.out (gG _ _) ?_)|(refine wpList_load_row rfl 214 (.tmp 5) rfl (w.heap.size+1+1+1) rfl _ _ _ _ B3.out aH rfl IDs.out ?_))
 refine (NN.out _).mono ?_;rintro e w4 ⟨rfl,hb4⟩;rw[HZ.out];have I4:=qB.out.up hb4;have I5:=I4;have B5:=aA I5.bz;have R5:=aA I5.br;have L5:=aA I5.below;clear I4 I5 hb4 m0 m1 m2 m3;go_wp2_with (first|(refine wpList_load_row rfl 214 (.tmp 5) rfl (w.heap.size+1+1+1) rfl _ _ _ _ B5.out aH rfl IDs.out ?_)|(refine dG rfl 214 (.tmp 4) (.tmp 37) rfl (w.heap.size+1+1) _ _ (dW nx d) rfl rfl R5.out IDs.out SR.out (gG _ _) ?_))
 refine aO (v:=.agg (dW nx d)) (results_cell_row rfl _ _ (w.heap.size+1+1) _ _ _ _ rfl (setRow_heap _ _ _ _ _ _ R5.out) aH rfl IDs.out) rfl ?_;exact ⟨rfl,Below.row L5.out (by omega) _⟩
theorem add_lt (nx ny:Bool)(dx dy d:List Nat)(w:World)(hx:dx.length=20)(hy:dy.length=20)(hd:d.length=20)(hs:(nx == ny)=false)(hl:∀w,Calls prog 166 #[.agg (dW nx dx),.agg (dW ny dy)] w fun e w'=>e=.returned (.bool true)∧Below w.heap.size w w')(hc:∀w,Calls prog 167 #[.agg (dW ny dy),.agg (dW nx dx)] w (sP false d w))
  (hz:(d == zeros)=false):Calls prog 158 #[.agg (dW nx dx),.agg (dW ny dy)] w (sP ny d w):=by
 have IX:=aA (eR nx dx hx);have IY:=aA (eR ny dy hy);have YJ:=aA (eR false d hd);have IDs:=aA (eR ny d hd);have SD:=aA (gU false false zeros d rfl hd);have SR:=aA (gU false ny zeros d rfl hd);have NN:=aA (fun w=>nM ny d w hd);have HZ:=aA hz;have I0:=KU nx ny dx dy w;have BX:=aA I0.bx;have BY:=aA I0.yR;obtain ⟨g0,g1,g2,g3⟩:=I0.heads;have oO:=aA I0;have KH:dW false zeros=#[.bool false,.int .u64 0,.int .u64 0,.int .u64 0,.int .u64 0,.int .u64 0,.int .u64 0,.int .u64 0,.int .u64 0,.int .u64 0,.int .u64 0,.int .u64 0,.int .u64 0,.int .u64 0,.int .u64 0,.int .u64 0,.int .u64 0,.int .u64 0,.int .u64 0,.int .u64 0,.int .u64 0]:=rfl;rw[KH] at g0 g1 g2 g3;clear I0 hx hy hd hz KH;have HC:=aA hc;have HL:=aA hl;clear hc hl;go_enter func158,ntmps158;go_wp2_with (first|(refine wpList_load_row rfl 214 (.tmp 2) rfl w.heap.size rfl _ _ _ _ BX.out aH rfl IX.out ?_)|(refine wpList_load_row rfl 214 (.tmp 3) rfl (w.heap.size+1) rfl _ _ _ _ BY.out aH rfl IY.out ?_))
 refine (HL.out _).mono ?_;rintro e w0 ⟨rfl,hb0⟩;have I0:=oO.out.up hb0;have BX':=aA I0.bx;have BY':=aA I0.yR;clear oO;have oO:=aA I0;clear I0 hb0 g0 g1 g2 g3;go_wp2_with (first|(refine wpList_load_row rfl 214 (.tmp 2) rfl w.heap.size rfl _ _ _ _ BX'.out aH rfl IX.out ?_)|(refine wpList_load_row rfl 214 (.tmp 3) rfl (w.heap.size+1) rfl _ _ _ _ BY'.out aH rfl IY.out ?_))
 refine (HC.out _).mono ?_;rintro e w1 ⟨rfl,hb⟩;have I1:=oO.out.up hb;have B1:=aA I1.bz;have I2:=I1.row false d;have I3:=I2.sign ny;obtain ⟨m0,m1,m2,m3⟩:=I2.heads;have B3:=aA I3.bz;have qB:=aA I3;clear I1 I2 I3 hb;go_wp2_with (first|(refine dG rfl 214 (.tmp 5) (.tmp 30) rfl (w.heap.size+1+1+1) _ _ (dW false d) rfl rfl B1.out YJ.out SD.out (gG _ _) ?_)|(refine wpList_load_row rfl 214 (.tmp 5) rfl (w.heap.size+1+1+1) rfl _ _ _ _ B3.out aH rfl IDs.out ?_))
 refine (NN.out _).mono ?_;rintro e w4 ⟨rfl,hb4⟩;rw[HZ.out];have I4:=qB.out.up hb4;have I5:=I4;have B5:=aA I5.bz;have R5:=aA I5.br;have L5:=aA I5.below;clear I4 I5 hb4 m0 m1 m2 m3;go_wp2_with (first|(refine wpList_load_row rfl 214 (.tmp 5) rfl (w.heap.size+1+1+1) rfl _ _ _ _ B5.out aH rfl IDs.out ?_)|(refine dG rfl 214 (.tmp 4) (.tmp 37) rfl (w.heap.size+1+1) _ _ (dW ny d) rfl rfl R5.out IDs.out SR.out (gG _ _) ?_))
 refine aO (v:=.agg (dW ny d)) (results_cell_row rfl _ _ (w.heap.size+1+1) _ _ _ _ rfl (setRow_heap _ _ _ _ _ _ R5.out) aH rfl IDs.out) rfl ?_;exact ⟨rfl,Below.row L5.out (by omega) _⟩
theorem add_gt (nx ny:Bool)(dx dy d:List Nat)(w:World)(hx:dx.length=20)(hy:dy.length=20)(hd:d.length=20)(hs:(nx == ny)=false)(hl:∀w,Calls prog 166 #[.agg (dW nx dx),.agg (dW ny dy)] w fun e w'=>e=.returned (.bool false)∧Below w.heap.size w w')(hc:∀w,Calls prog 167 #[.agg (dW nx dx),.agg (dW ny dy)] w (sP false d w))
  (hz:(d == zeros)=false):Calls prog 158 #[.agg (dW nx dx),.agg (dW ny dy)] w (sP nx d w):=by
 have IX:=aA (eR nx dx hx);have IY:=aA (eR ny dy hy);have YJ:=aA (eR false d hd);have IDs:=aA (eR nx d hd);have SD:=aA (gU false false zeros d rfl hd);have SR:=aA (gU false nx zeros d rfl hd);have NN:=aA (fun w=>nM nx d w hd);have HZ:=aA hz;have I0:=KU nx ny dx dy w;have BX:=aA I0.bx;have BY:=aA I0.yR;obtain ⟨g0,g1,g2,g3⟩:=I0.heads;have oO:=aA I0;have KH:dW false zeros=#[.bool false,.int .u64 0,.int .u64 0,.int .u64 0,.int .u64 0,.int .u64 0,.int .u64 0,.int .u64 0,.int .u64 0,.int .u64 0,.int .u64 0,.int .u64 0,.int .u64 0,.int .u64 0,.int .u64 0,.int .u64 0,.int .u64 0,.int .u64 0,.int .u64 0,.int .u64 0,.int .u64 0]:=rfl;rw[KH] at g0 g1 g2 g3;clear I0 hx hy hd hz KH;have HC:=aA hc;have HL:=aA hl;clear hc hl;go_enter func158,ntmps158;go_wp2_with (first|(refine wpList_load_row rfl 214 (.tmp 2) rfl w.heap.size rfl _ _ _ _ BX.out aH rfl IX.out ?_)|(refine wpList_load_row rfl 214 (.tmp 3) rfl (w.heap.size+1) rfl _ _ _ _ BY.out aH rfl IY.out ?_))
 refine (HL.out _).mono ?_;rintro e w0 ⟨rfl,hb0⟩;have I0:=oO.out.up hb0;have BX':=aA I0.bx;have BY':=aA I0.yR;clear oO;have oO:=aA I0;clear I0 hb0 g0 g1 g2 g3;go_wp2_with (first|(refine wpList_load_row rfl 214 (.tmp 2) rfl w.heap.size rfl _ _ _ _ BX'.out aH rfl IX.out ?_)|(refine wpList_load_row rfl 214 (.tmp 3) rfl (w.heap.size+1) rfl _ _ _ _ BY'.out aH rfl IY.out ?_))
 refine (HC.out _).mono ?_;rintro e w1 ⟨rfl,hb⟩;have I1:=oO.out.up hb;have B1:=aA I1.bz;have I2:=I1.row false d;have I3:=I2.sign nx;obtain ⟨m0,m1,m2,m3⟩:=I2.heads;have B3:=aA I3.bz;have qB:=aA I3;clear I1 I2 I3 hb;go_wp2_with (first|(refine dG rfl 214 (.tmp 5) (.tmp 8) rfl (w.heap.size+1+1+1) _ _ (dW false d) rfl rfl B1.out YJ.out SD.out (gG _ _) ?_)|(refine wpList_load_row rfl 214 (.tmp 5) rfl (w.heap.size+1+1+1) rfl _ _ _ _ B3.out aH rfl IDs.out ?_))
 refine (NN.out _).mono ?_;rintro e w4 ⟨rfl,hb4⟩;rw[HZ.out];have I4:=qB.out.up hb4;have I5:=I4;have B5:=aA I5.bz;have R5:=aA I5.br;have L5:=aA I5.below;clear I4 I5 hb4 m0 m1 m2 m3;go_wp2_with (first|(refine wpList_load_row rfl 214 (.tmp 5) rfl (w.heap.size+1+1+1) rfl _ _ _ _ B5.out aH rfl IDs.out ?_)|(refine dG rfl 214 (.tmp 4) (.tmp 37) rfl (w.heap.size+1+1) _ _ (dW nx d) rfl rfl R5.out IDs.out SR.out (gG _ _) ?_))
 refine aO (v:=.agg (dW nx d)) (results_cell_row rfl _ _ (w.heap.size+1+1) _ _ _ _ rfl (setRow_heap _ _ _ _ _ _ R5.out) aH rfl IDs.out) rfl ?_;exact ⟨rfl,Below.row L5.out (by omega) _⟩
theorem add_eq (nx ny:Bool)(dx dy d:List Nat)(w:World)(hx:dx.length=20)(hy:dy.length=20)(hd:d.length=20)(hs:(nx == ny)=false)(hl:∀w,Calls prog 166 #[.agg (dW nx dx),.agg (dW ny dy)] w fun e w'=>e=.returned (.bool false)∧Below w.heap.size w w')(hc:∀w,Calls prog 167 #[.agg (dW nx dx),.agg (dW ny dy)] w (sP false d w))
  (hz:(d == zeros)=true):Calls prog 158 #[.agg (dW nx dx),.agg (dW ny dy)] w (sP false d w):=by
 have IX:=aA (eR nx dx hx);have IY:=aA (eR ny dy hy);have YJ:=aA (eR false d hd);have IDs:=aA (eR nx d hd);have SD:=aA (gU false false zeros d rfl hd);have SR:=aA (gU false false zeros d rfl hd);have NN:=aA (fun w=>nM nx d w hd);have HZ:=aA hz;have I0:=KU nx ny dx dy w;have BX:=aA I0.bx;have BY:=aA I0.yR;obtain ⟨g0,g1,g2,g3⟩:=I0.heads;have oO:=aA I0;have KH:dW false zeros=#[.bool false,.int .u64 0,.int .u64 0,.int .u64 0,.int .u64 0,.int .u64 0,.int .u64 0,.int .u64 0,.int .u64 0,.int .u64 0,.int .u64 0,.int .u64 0,.int .u64 0,.int .u64 0,.int .u64 0,.int .u64 0,.int .u64 0,.int .u64 0,.int .u64 0,.int .u64 0,.int .u64 0]:=rfl;rw[KH] at g0 g1 g2 g3;clear I0 hx hy hd hz KH;have HC:=aA hc;have HL:=aA hl;clear hc hl;go_enter func158,ntmps158;go_wp2_with (first|(refine wpList_load_row rfl 214 (.tmp 2) rfl w.heap.size rfl _ _ _ _ BX.out aH rfl IX.out ?_)|(refine wpList_load_row rfl 214 (.tmp 3) rfl (w.heap.size+1) rfl _ _ _ _ BY.out aH rfl IY.out ?_))
 refine (HL.out _).mono ?_;rintro e w0 ⟨rfl,hb0⟩;have I0:=oO.out.up hb0;have BX':=aA I0.bx;have BY':=aA I0.yR;clear oO;have oO:=aA I0;clear I0 hb0 g0 g1 g2 g3;go_wp2_with (first|(refine wpList_load_row rfl 214 (.tmp 2) rfl w.heap.size rfl _ _ _ _ BX'.out aH rfl IX.out ?_)|(refine wpList_load_row rfl 214 (.tmp 3) rfl (w.heap.size+1) rfl _ _ _ _ BY'.out aH rfl IY.out ?_))
 refine (HC.out _).mono ?_;rintro e w1 ⟨rfl,hb⟩;have I1:=oO.out.up hb;have B1:=aA I1.bz;have I2:=I1.row false d;have I3:=I2.sign nx;obtain ⟨m0,m1,m2,m3⟩:=I2.heads;have B3:=aA I3.bz;have qB:=aA I3;clear I1 I2 I3 hb;go_wp2_with (first|(refine dG rfl 214 (.tmp 5) (.tmp 8) rfl (w.heap.size+1+1+1) _ _ (dW false d) rfl rfl B1.out YJ.out SD.out (gG _ _) ?_)|(refine wpList_load_row rfl 214 (.tmp 5) rfl (w.heap.size+1+1+1) rfl _ _ _ _ B3.out aH rfl IDs.out ?_))
 refine (NN.out _).mono ?_;rintro e w4 ⟨rfl,hb4⟩;rw[HZ.out];have I4:=qB.out.up hb4;have I5:=I4.sign false;obtain ⟨n0,n1,n2,n3⟩:=I4.heads;have B5:=aA I5.bz;have R5:=aA I5.br;have L5:=aA I5.below;clear I4 I5 hb4 m0 m1 m2 m3;go_wp2_with (first|(refine wpList_load_row rfl 214 (.tmp 5) rfl (w.heap.size+1+1+1) rfl _ _ _ _ B5.out aH rfl YJ.out ?_)|(refine dG rfl 214 (.tmp 4) (.tmp 37) rfl (w.heap.size+1+1) _ _ (dW false d) rfl rfl R5.out YJ.out SR.out (gG _ _) ?_))
 refine aO (v:=.agg (dW false d)) (results_cell_row rfl _ _ (w.heap.size+1+1) _ _ _ _ rfl (setRow_heap _ _ _ _ _ _ R5.out) aH rfl YJ.out) rfl ?_;exact ⟨rfl,Below.row L5.out (by omega) _⟩
theorem TX (x y:Int)(w:World)(h:x.natAbs+y.natAbs<BB):Calls prog 158 #[.agg (bv x),.agg (bv y)] w (OB (x+y) w):=by
 have hx:x.natAbs<BB:=by omega
 have hy:y.natAbs<BB:=by omega
 have key:∀ (n:Bool) (d:List Nat),n=decide (x+y<0)→d=dg (x+y).natAbs→Calls prog 158 #[.agg (bv x),.agg (bv y)] w (sP n d w)→Calls prog 158 #[.agg (bv x),.agg (bv y)] w (OB (x+y) w):=by
  intro n d h1 h2 hc;refine hc.mono ?_;rintro e w' ⟨rfl,hb⟩;exact ⟨by rw[FM h1 h2],hb⟩
 have L:=fun w=>QZ (decide (x<0)) (decide (y<0)) (dg x.natAbs) (dg y.natAbs) w (fD _) (fD _)
 rw[Af hx hy] at L;by_cases hs:decide (x<0)=decide (y<0)
 ·have hs':=cJ.1 hs
  have hab:(x+y).natAbs=x.natAbs+y.natAbs:=by omega
  have hc:=fun w=>xF (decide (x<0)) (decide (y<0)) (dg x.natAbs) (dg y.natAbs) w (uF _) (uF _)
  rw[Qf] at hc;by_cases hz:x.natAbs+y.natAbs=0
  ·exact key false (dg (x.natAbs+y.natAbs)) (by rw[eq_comm,decide_eq_false_iff_not];omega) (by rw[hab]) (YB _ _ _ _ _ w (fD _) (fD _) (fD _) hs hc (by rw[pY h,hz];rfl))
  ·exact key (decide (x<0)) (dg (x.natAbs+y.natAbs)) (by rw[cJ];omega) (by rw[hab]) (YC _ _ _ _ _ w (fD _) (fD _) (fD _) hs hc (by rw[pY h,aN hz]))
 ·have hs2:(decide (x<0) == decide (y<0))=false:=by simpa using hs
  have hs':¬ (x<0↔y<0):=fun e=>hs (cJ.2 e)
  by_cases hl:x.natAbs<y.natAbs
  ·rw[bA hl] at L
   have hc:=fun w=>FU (decide (y<0)) (decide (x<0)) (dg y.natAbs) (dg x.natAbs) w (uF _) (uF _)
   rw[VO (by omega)] at hc;exact key (decide (y<0)) (dg (y.natAbs-x.natAbs)) (by rw[cJ];omega) (by congr 1;omega) (add_lt _ _ _ _ _ w (fD _) (fD _) (fD _) hs2 L hc (by rw[pY (by omega),aN (by omega)]))
  ·rw[aN hl] at L
   have hc:=fun w=>FU (decide (x<0)) (decide (y<0)) (dg x.natAbs) (dg y.natAbs) w (uF _) (uF _)
   rw[VO (by omega)] at hc;by_cases hz:x.natAbs-y.natAbs=0
   ·exact key false (dg (x.natAbs-y.natAbs)) (by rw[eq_comm,decide_eq_false_iff_not];omega) (by congr 1;omega) (add_eq _ _ _ _ _ w (fD _) (fD _) (fD _) hs2 L hc (by rw[pY (by omega),hz];rfl))
   ·exact key (decide (x<0)) (dg (x.natAbs-y.natAbs)) (by rw[cJ];omega) (by congr 1;omega) (add_gt _ _ _ _ _ w (fD _) (fD _) (fD _) hs2 L hc (by rw[pY (by omega),aN hz]))
theorem gI {P:Program}{ops:Array Oper}{rest:List Oper}{o:Oper}{a:Act}{w:World}{Q:Exit→Act→World→Prop}(hg:o.guard=none)(t:TypeId)(parts:Array (Nat×Operand))(ho:o.op=.build t parts)
  (cells:Array Value) (hb:P.built t (parts.map fun (i,x)=>(i,a.eval x)).toList=some cells) (h:wpList P ops Q rest (a.put o.dst (.agg cells)) w):wpList P ops Q (o::rest) a w :=
 wpList_build hg t parts ho (by rw[hb];rfl) (by rw[hb];exact h)
theorem eJ {P:Program}{ops:Array Oper}{rest:List Oper}{op:Oper}{a:Act}{w:World}{Q:Exit→Act→World→Prop}(hgd:op.guard=none)(ty:TypeId)(x y:Operand)(ho:op.op=.store ty x y)
  (g:Nat) (t:TypeId) (c c':Array Value) (hx:a.eval x=.pointer (some ⟨g,0,none⟩)) (hg:w.heap.size=g) (hy:a.eval y=.agg c')
  (hi:(P.info? ty).map (·.size)=some c'.size) (hs:c.size=c'.size) (h1:c'.all (·.oneCell')=true)
  (h:wpList P ops Q rest (a.put op.dst undef) (w.alloc (.cells c' t))):wpList P ops Q (op::rest) a (w.alloc (.cells c t)):=by
 subst hg;refine dG hgd ty x y ho w.heap.size t c c' hx hy (aG _ _) hi hs h1 ?_;rw[World.setRow_alloc_new];exact h
theorem FK:∀ (k n:Nat),nD (k+1) n=nD k n++[n/65536^k%65536]
 | 0,n=>by simp[nD]
 | k+1,n=>by
  rw[nD,FK k,nD,cC,Nat.div_div_eq_div_mul,bY 65536 k,cF]
theorem TM:∀k,nD k 0=List.replicate k 0
 | 0=>rfl
 | k+1=>by rw[nD,TM k];rfl
theorem Bp:∀ (k j n:Nat),nD (k+j) n=nD k n++nD j (n/65536^k)
 | 0,j,n=>by simp[nD]
 | k+1,j,n=>by
  rw[show k+1+j=(k+j)+1 by omega,nD,Bp k,nD,cC,Nat.div_div_eq_div_mul,bY 65536 k,cF]
theorem ZK {k n:Nat}(hk:k≤20)(h:n<65536^k):pad (nD k n)=dg n:=by
 unfold pad dg;rw[uZ,show 20=k+(20-k) by omega,Bp k,Nat.div_eq_of_lt h,TM,show k+(20-k)-k=20-k by omega]
structure OfI (neg:Bool)(p:List Nat)(R Z:Nat)(w W:World):Prop where
 br:W.heap[R]?=some (.cells (dW false zeros) 214 (0,0))
 bz:W.heap[Z]?=some (.cells (dW neg (pad p)) 214 (0,0))
 ne:R≠Z
 wz:w.heap.size≤Z
 below:Below w.heap.size w W
theorem OfI.next {neg:Bool}{p:List Nat}{R Z:Nat}{w W:World}(h:OfI neg p R Z w W)(v:Nat)(hp:p.length<20):OfI neg (p++[v]) R Z w (W.setCell ⟨Z,1+p.length,none⟩ (.int .u64 (v:Int))):=by
 have hn:=h.ne;refine ⟨?_,?_,hn,h.wz,h.below.setCell (p:=⟨Z,1+p.length,none⟩) h.wz _⟩
 ·rw[aK _ _ _ _ (by show R≠Z;exact hn)];exact h.br
 ·rw[aM _ _ _ _ _ _ h.bz,AV p v neg hp]
def mo (neg:Bool)(u:Nat)(w:World)(g:Nat)(s4 s5:Value)(W:World):Prop :=
 ∃k:Nat,g=4-k∧s4=.int .u64 ((u/65536^k:Nat):Int)∧s5=.int .i64 (k:Int)∧k≤4∧OfI neg (nD k u) w.heap.size (w.heap.size+1) w W
theorem ML (n:Int)(u A V C:Nat)(B4:Int)(w:World)(Ay:Hid (B4=18446744073709551615))(h1:IntKind.u64.wrap n=(A:Int))(hu:Hid (u<18446744073709551616))
  (hn:n<0) (e2:IntKind.u64.wrap (18446744073709551615-(A:Int))=(V:Int)) (e3:IntKind.u64.wrap ((V:Int)+1)=(u:Int)) (HU:Hid (pad (nD 4 u)=dg u)) :
  Calls prog 156 #[.int .i64 n] w (sP true (dg u) w):=by
 have HUU:=hu;have HI:=aA (eR true (dg u) (fD u));have HS:=aA (gU false true zeros (dg u) rfl (fD u));have oO:Hid (OfI true (nD 0 u) w.heap.size (w.heap.size+1) w ((w.alloc (.cells (dW false zeros) 214)).alloc (.cells (dW true zeros) 214))) :=
  aA ⟨dM (aG _ _),heap_alloc2_new _ _ _,by omega,by omega,by go_grown⟩
 skip
 go_enter func156,ntmps156;go_wp2_with (first|(refine gI rfl 214 #[(0,.tmp 7)] rfl (dW true zeros) (by kernel_rfl) ?_)|(refine eJ rfl 214 (.tmp 3) (.tmp 8) rfl (w.heap.size+1) _ _ (dW true zeros) rfl (by simp) rfl (eR _ _ rfl) rfl (gG _ _) ?_))
 go_loopg[4,5] 4 (mo true u w)
 case atStart=>exact ⟨0,rfl,by simp,rfl,by omega,oO.out⟩
 case round =>
  clear oO;obtain ⟨k,rfl,rfl,rfl,hk4,I⟩:=hrel;by_cases hk:k<4
  ·have hpl:(nD k u).length=k:=uZ k u
   have cz:wr.cell? ⟨w.heap.size+1,1+k,none⟩=some (.int .u64 (((pad (nD k u)).getD k 0:Nat):Int)):=by rw[aD _ _ _ _ _ _ I.bz,kJ _ _ _ (by rw[AX _ (by rw[hpl];omega)];omega)]
   have fz:wr.frozen? ⟨w.heap.size+1,1+k,none⟩=false:=dJ I.bz;have k0:(0:Int)≤(k:Int):=by omega
   have k1:(k:Int)<4:=by omega
   have k2:(k:Int)<20:=by omega
   obtain ⟨q,hq⟩:∃q,u/65536^k=q:=⟨_,rfl⟩;have Mm:q<18446744073709551616:=by rw[←hq];exact Nat.lt_of_le_of_lt (Nat.div_le_self _ _) HUU.out
   have HQ:=aA Mm;clear Mm;have bn:nD (k+1) u=nD k u++[q%65536]:=by rw[FK,hq]
   have jh:u/65536^(k+1)=q/65536:=by rw[bY,←Nat.div_div_eq_div_mul,hq]
   have I2:=I.next (q%65536) (by rw[hpl];omega);rw[hpl,←bn] at I2;have jP:=aA I2;have HDV:=aA jh;rw[hq];clear I I2 hq bn jh hpl;go_wp2_with fail;go_roundg (4-(k+1))
   case measure=>omega
   case rel =>
    refine ⟨k+1,rfl,?_,by go_num,by omega,?_⟩
    ·rw[HDV.out]
     have:=HQ.out
     congr 1
     rw[aV];omega
    ·have:=jP.out
     simpa using this
  ·have Wh:k=4:=by omega
   subst Wh;have bz:=I.bz;rw[HU.out] at bz;have BZ:=aA bz;have BR:=aA I.br;have BL:=aA I.below;clear I bz;go_wp2_with (first|(refine wpList_load_row rfl 214 (.tmp 3) rfl (w.heap.size+1) rfl _ _ _ _ BZ.out aH rfl HI.out ?_)|(refine dG rfl 214 (.tmp 2) (.tmp 27) rfl w.heap.size _ _ (dW true (dg u)) rfl rfl BR.out HI.out HS.out (gG _ _) ?_))
   refine aO (v:=.agg (dW true (dg u))) (results_cell_row rfl _ _ w.heap.size _ _ _ _ rfl (setRow_heap _ _ _ _ _ _ BR.out) aH rfl HI.out) rfl ?_;exact ⟨rfl,Below.row BL.out (aB _) _⟩
theorem IG (n:Int)(u A V C:Nat)(B4:Int)(w:World)(Ay:Hid (B4=18446744073709551615))(h1:IntKind.u64.wrap n=(A:Int))(hu:Hid (A<18446744073709551616))
  (hn:0≤n) (HU:Hid (pad (nD 4 A)=dg A)) :
  Calls prog 156 #[.int .i64 n] w (sP false (dg A) w):=by
 have HUU:=hu;have HI:=aA (eR false (dg A) (fD A));have HS:=aA (gU false false zeros (dg A) rfl (fD A));have oO:Hid (OfI false (nD 0 A) w.heap.size (w.heap.size+1) w ((w.alloc (.cells (dW false zeros) 214)).alloc (.cells (dW false zeros) 214))) :=
  aA ⟨dM (aG _ _),heap_alloc2_new _ _ _,by omega,by omega,by go_grown⟩
 have t2:¬ n<0:=by omega
 go_enter func156,ntmps156;go_wp2_with (first|(refine gI rfl 214 #[(0,.tmp 7)] rfl (dW false zeros) (by kernel_rfl) ?_)|(refine eJ rfl 214 (.tmp 3) (.tmp 8) rfl (w.heap.size+1) _ _ (dW false zeros) rfl (by simp) rfl (eR _ _ rfl) rfl (gG _ _) ?_))
 go_loopg[4,5] 4 (mo false A w)
 case atStart=>exact ⟨0,rfl,by simp,rfl,by omega,oO.out⟩
 case round =>
  clear oO;obtain ⟨k,rfl,rfl,rfl,hk4,I⟩:=hrel;by_cases hk:k<4
  ·have hpl:(nD k A).length=k:=uZ k A
   have cz:wr.cell? ⟨w.heap.size+1,1+k,none⟩=some (.int .u64 (((pad (nD k A)).getD k 0:Nat):Int)):=by rw[aD _ _ _ _ _ _ I.bz,kJ _ _ _ (by rw[AX _ (by rw[hpl];omega)];omega)]
   have fz:wr.frozen? ⟨w.heap.size+1,1+k,none⟩=false:=dJ I.bz;have k0:(0:Int)≤(k:Int):=by omega
   have k1:(k:Int)<4:=by omega
   have k2:(k:Int)<20:=by omega
   obtain ⟨q,hq⟩:∃q,A/65536^k=q:=⟨_,rfl⟩;have Mm:q<18446744073709551616:=by rw[←hq];exact Nat.lt_of_le_of_lt (Nat.div_le_self _ _) HUU.out
   have HQ:=aA Mm;clear Mm;have bn:nD (k+1) A=nD k A++[q%65536]:=by rw[FK,hq]
   have jh:A/65536^(k+1)=q/65536:=by rw[bY,←Nat.div_div_eq_div_mul,hq]
   have I2:=I.next (q%65536) (by rw[hpl];omega);rw[hpl,←bn] at I2;have jP:=aA I2;have HDV:=aA jh;rw[hq];clear I I2 hq bn jh hpl;go_wp2_with fail;go_roundg (4-(k+1))
   case measure=>omega
   case rel =>
    refine ⟨k+1,rfl,?_,by go_num,by omega,?_⟩
    ·rw[HDV.out]
     have:=HQ.out
     congr 1
     rw[aV];omega
    ·have:=jP.out
     simpa using this
  ·have Wh:k=4:=by omega
   subst Wh;have bz:=I.bz;rw[HU.out] at bz;have BZ:=aA bz;have BR:=aA I.br;have BL:=aA I.below;clear I bz;go_wp2_with (first|(refine wpList_load_row rfl 214 (.tmp 3) rfl (w.heap.size+1) rfl _ _ _ _ BZ.out aH rfl HI.out ?_)|(refine dG rfl 214 (.tmp 2) (.tmp 27) rfl w.heap.size _ _ (dW false (dg A)) rfl rfl BR.out HI.out HS.out (gG _ _) ?_))
   refine aO (v:=.agg (dW false (dg A))) (results_cell_row rfl _ _ w.heap.size _ _ _ _ rfl (setRow_heap _ _ _ _ _ _ BR.out) aH rfl HI.out) rfl ?_;exact ⟨rfl,Below.row BL.out (aB _) _⟩
theorem Le (n:Int)(w:World)(h0:-9223372036854775808≤n)(h1:n≤9223372036854775807):Calls prog 156 #[.int .i64 n] w (OB n w):=by
 by_cases hn:n<0
 ·have hu:n.natAbs<18446744073709551616:=by omega
  have:=ML n n.natAbs (n+18446744073709551616).toNat (-n-1).toNat 0 _ w (aA rfl) (by rw[aV];omega) (aA hu) hn (by rw[aV];omega) (by rw[aV];omega) (aA (ZK (by omega) (by omega)));refine this.mono ?_;rintro e w' ⟨rfl,hb⟩;exact ⟨by rw[FM (z:=n) (by rw[bA hn]) rfl],hb⟩
 ·have hu:n.natAbs<18446744073709551616:=by omega
  have:=IG n 0 n.natAbs 0 0 _ w (aA rfl) (by rw[aV];omega) (aA hu) (by omega) (aA (ZK (by omega) (by omega)));refine this.mono ?_;rintro e w' ⟨rfl,hb⟩;exact ⟨by rw[FM (z:=n) (by rw[aN hn]) rfl],hb⟩
end Fx
end Go.Proofs.YtbbhmhihpdmoiaaGreat
