import Derived.Test.YtbbhmhihpdmoiaaGreatJr13
import Derived.Test.YtbbhmhihpdmoiaaGreatJr14
set_option linter.unusedVariables false
set_option linter.unusedSimpArgs false
set_option maxRecDepth 100000
set_option maxHeartbeats 32000000
namespace Go.Proofs.YtbbhmhihpdmoiaaGreat
namespace Fx
open Go Go.RowKit Go.Shelf Wm
def May (m:List Int):Prop:=∀ j,-4611686018427387904≤m.getD j 0∧m.getD j 0≤4611686018427387904
def dot (r c:List Int):Int:=r.getD 0 0 * c.getD 0 0 + r.getD 1 0 * c.getD 1 0 + r.getD 2 0 * c.getD 2 0 + r.getD 3 0 * c.getD 3 0
theorem oD {a b:Int} (a0:-4611686018427387904≤a) (a1:a≤4611686018427387904) (b0:-4611686018427387904≤b) (b1:b≤4611686018427387904) :
  -21267647932558653966460912964485513216≤a * b∧a * b≤21267647932558653966460912964485513216:=by
 have h:a.natAbs * b.natAbs≤4611686018427387904 * 4611686018427387904:=Nat.mul_le_mul (by omega) (by omega)
 have e:=Int.natAbs_mul a b
 omega
theorem Rz {r c:List Int} (hr:May r) (hc:May c):-85070591730234615865843651857942052864≤dot r c∧dot r c≤85070591730234615865843651857942052864:=by
 have h0:=oD (hr 0).1 (hr 0).2 (hc 0).1 (hc 0).2
 have h1:=oD (hr 1).1 (hr 1).2 (hc 1).1 (hc 1).2
 have h2:=oD (hr 2).1 (hr 2).2 (hc 2).1 (hc 2).2
 have h3:=oD (hr 3).1 (hr 3).2 (hc 3).1 (hc 3).2
 unfold dot
 omega
theorem xO {xs ys:List Int} {k:Nat} {s:Int} (h:sm xs ys k=some s) (hi:In (s + xs.getD k 0 * ys.getD k 0)):sm xs ys (k + 1)=some (s + xs.getD k 0 * ys.getD k 0):=by
 simp only [sm,h]
 rw [aT hi]
theorem Ij {r c:List Int} (hr:May r) (hc:May c):sm r c 4=some (dot r c):=by
 have h0:=oD (hr 0).1 (hr 0).2 (hc 0).1 (hc 0).2
 have h1:=oD (hr 1).1 (hr 1).2 (hc 1).1 (hc 1).2
 have h2:=oD (hr 2).1 (hr 2).2 (hc 2).1 (hc 2).2
 have h3:=oD (hr 3).1 (hr 3).2 (hc 3).1 (hc 3).2
 unfold dot
 have e1:sm r c 1=some _:=xO (xs:=r) (ys:=c) (k:=0) (s:=0) rfl (by unfold In;omega)
 have e2:sm r c 2=some _:=xO (k:=1) e1 (by unfold In;omega)
 have e3:sm r c 3=some _:=xO (k:=2) e2 (by unfold In;omega)
 have e4:sm r c 4=some _:=xO (k:=3) e3 (by unfold In;omega)
 rw [e4,Int.zero_add]
theorem oW {w:World} {g n:Nat} {m:List Int} {t:TypeId} (h:w.heap[g]?=some (.cells (mC m) t (0,0))) (hn:4 * n≤m.length):sJ m n g w:=fun j hj=>by rw [aF _ _ _ _ _ _ h,wX _ _ (by omega)]
theorem Mt {w:World} {g:Nat} {m:List Int} {t:TypeId} (h:w.heap[g]?=some (.cells (mC m) t (0,0))):Sl w (some ⟨g,0,none⟩) m:=fun j hj=>⟨g,0,rfl,by rw [bB,aF _ _ _ _ _ _ h,wX _ _ hj]⟩
def pq (r c:List Int):Int:=dot r c / 65536
theorem UU (r c:List Int) (w:World) (lr:r.length=4) (lc:c.length=4) (S q:Int)
  (hS:∀ w oa ob,Sl w oa r→Sl w ob c→Calls Tryz.prog 161 #[.slice oa 4 4,.slice ob 4 4] w fun e w'=>∃ h:Int,∃ l:Nat,e=.returned (.tuple #[.agg #[.int .i64 h,.int .u64 l],.int .i64 0])∧At S h l∧Below w.heap.size w w')
  (hD:∀ w h l,At S h l→Calls Tryz.prog 162 #[.agg #[.int .i64 h,.int .u64 l],.int .i64 65536] w fun e w'=>∃ h:Int,∃ l:Nat,∃ r:Int,e=.returned (.tuple #[.agg #[.int .i64 h,.int .u64 l],.int .i64 r,.int .i64 0])∧At q h l∧Below w.heap.size w w') (x y:Int)
  (hI:∀ w h l,At q h l→Calls Tryz.prog 163 #[.agg #[.int .i64 h,.int .u64 l]] w fun e w'=>e=.returned (.tuple #[.int .i64 x,.int .i64 y])∧Below w.heap.size w w') :
  Calls Tryz.prog 155 #[.agg (mC r),.agg (mC c)] w fun e w'=>e=.returned (.tuple #[.int .i64 x,.int .i64 y])∧Below w.heap.size w w':=by
 have HS:=aA hS
 have HD:=aA hD
 have HI:=aA hI
 have LR:=aA lr
 have LC:=aA lc
 clear hS hD hI lr lc
 go_enter Tryz.func155,Tryz.ntmps155
 go_wp2_with fail
 obtain ⟨V,hV⟩:∃ V,(w.alloc (.cells (mC r) 23)).alloc (.cells (mC c) 23)=V:=⟨_,rfl⟩
 have hB0:Below w.heap.size w V:=by rw [←hV];go_grown
 have s1:Sl V (some ⟨w.heap.size,0,none⟩) r:=Mt (t:=23) (by rw [←hV];exact dW (aG _ _))
 have s2:Sl V (some ⟨w.heap.size + 1,0,none⟩) c:=Mt (t:=23) (by rw [←hV];have:=aG (w.alloc (.cells (mC r) 23)) (.cells (mC c) 23);rw [aR] at this;exact this)
 have S1:=aA s1
 have S2:=aA s2
 rw [hV]
 clear hV s1 s2
 refine (bG (n:=5)).1 (fD (F:=Fence.wide) (S:=fun _=>True) (by kernel_rfl) trivial (fun hHeld=>?_))
 refine dP (fun _=>trivial) (by kernel_rfl) (i:=0) (oi:=_) (v:=?_) rfl (by kernel_rfl) (by kernel_rfl) (by kernel_rfl) (fun _ _ _ h=>h) (by assumption) (Or.inl ⟨by kernel_rfl,?_⟩) ?_
 rotate_left
 ·intro wz hSw;(first | (go_simp;done) | (go_simp;with_reducible rfl))
 try simp only [aQ]
 refine dP (fun _=>trivial) (by kernel_rfl) (i:=1) (oi:=_) (v:=?_) rfl (by kernel_rfl) (by kernel_rfl) (by kernel_rfl) (fun _ _ _ h=>h) (by assumption) (Or.inl ⟨by kernel_rfl,?_⟩) ?_
 rotate_left
 ·intro wz hSw;(first | (go_simp;done) | (go_simp;with_reducible rfl))
 try simp only [aQ]
 refine kL (fun _=>trivial) (i:=2) (j:=6) (o:=_) (o2:=_) (by kernel_rfl) rfl rfl (fun K hK=>?_) (fun K hK=>?_)
 ·go_simp
  refine ⟨trivial,aW.2 ((HS.out _ _ _ (S1.out.below (fG _ _ 1)) (S2.out.below (fG _ _ 1))).mono ?_)⟩
  rintro e w1 ⟨h,l,rfl,hat,hb⟩
  dsimp only
  have hb1:Below V.heap.size V w1:=tQ 1 hb
  refine hK.out _ _ trivial (fun hHeld=>?_)
  clear hK K
  try simp only [aQ]
  refine dP (fun _=>trivial) (by kernel_rfl) (i:=3) (oi:=_) (v:=?_) rfl (by kernel_rfl) (by kernel_rfl) (by kernel_rfl) (fun _ _ _ h=>h) (by assumption) (Or.inl ⟨by kernel_rfl,?_⟩) ?_
  rotate_left
  ·intro wz hSw;(first | (go_simp;done) | (go_simp;with_reducible rfl))
  try simp only [aQ]
  refine dP (fun _=>trivial) (by kernel_rfl) (i:=4) (oi:=_) (v:=?_) rfl (by kernel_rfl) (by kernel_rfl) (by kernel_rfl) (fun _ _ _ h=>h) (by assumption) (Or.inl ⟨by kernel_rfl,?_⟩) ?_
  rotate_left
  ·intro wz hSw;(first | (go_simp;done) | (go_simp;with_reducible rfl))
  try simp only [aQ]
  refine dP (fun _=>trivial) (by kernel_rfl) (i:=5) (oi:=_) (v:=?_) rfl (by kernel_rfl) (by kernel_rfl) (by kernel_rfl) (fun _ _ _ h=>h) (by assumption) (Or.inl ⟨by kernel_rfl,?_⟩) ?_
  rotate_left
  ·intro wz hSw;(first | (go_simp;done) | (go_simp;with_reducible rfl))
  try simp only [aQ]
  refine dX (fun _=>trivial) (i:=6) (o:=_) (by kernel_rfl) rfl (fun K hK=>?_)
  go_simp
  refine hK.out _ _ trivial (fun hHeld=>?_)
  clear hK K
  try simp only [aQ]
  refine dX (fun _=>trivial) (i:=7) (o:=_) (by kernel_rfl) rfl (fun K hK=>?_)
  go_simp
  refine hK.out _ _ trivial (fun hHeld=>?_)
  clear hK K
  try simp only [aQ]
  refine dP (fun _=>trivial) (by kernel_rfl) (i:=8) (oi:=_) (v:=?_) rfl (by kernel_rfl) (by kernel_rfl) (by kernel_rfl) (fun _ _ _ h=>h) (by assumption) (Or.inl ⟨by kernel_rfl,?_⟩) ?_
  rotate_left
  ·intro wz hSw;(first | (go_simp;done) | (go_simp;with_reducible rfl))
  try simp only [aQ]
  refine fC (by kernel_rfl) ?_ _
  clear hHeld
  have x0:(w1.alloc (.cells #[.int .i64 h,.int .u64 l] 220)).cell? ⟨w1.heap.size,0,none⟩=some (.int .i64 h):=by simp [go_sem]
  have x1:(w1.alloc (.cells #[.int .i64 h,.int .u64 l] 220)).cell? ⟨w1.heap.size,1,none⟩=some (.int .u64 l):=by simp [go_sem]
  have Zj:Below V.heap.size V (w1.alloc (.cells #[.int .i64 h,.int .u64 l] 220)):=hb1.alloc hb1.size _
  generalize (w1.alloc (.cells #[.int .i64 h,.int .u64 l] 220))=X at x0 x1 Zj ⊢
  have Co:Below w.heap.size w X:=dY hB0 Zj
  go_wp2_with fail
  refine (HD.out _ _ _ hat).mono ?_
  rintro e w2 ⟨h2,l2,r2,rfl,Rn,hb2⟩
  have hs2:=(Co.trans (hb2.mono Co.size)).size
  go_wp2_with fail
  refine (HI.out _ _ _ Rn).mono ?_
  rintro e w3 ⟨rfl,hb3⟩
  go_wp2_with fail
  go_ret2
  exact ⟨rfl,by (repeat' (first | (with_reducible exact aI _ _) | (with_reducible assumption) | (with_reducible refine Below.drew ?_) | (with_reducible refine Below.setCell ?_ ?_ _) | (with_reducible refine dY ?_ (by assumption)) | (with_reducible refine Below.alloc ?_ ?_ _) | go_size))⟩
 ·go_simp
  refine hK.out _ _ trivial (fun hHeld=>?_)
  clear hK K
  try simp only [aQ]
  refine dX (fun _=>trivial) (i:=2) (o:=_) (by kernel_rfl) rfl (fun K hK=>?_)
  go_simp
  have hA:Below V.heap.size V (V.drew.alloc (.cells #[.int .i64 0,.int .u64 0] 220)):=by go_grown
  refine ⟨trivial,aW.2 ((HS.out _ _ _ (S1.out.below (by go_grown)) (S2.out.below (by go_grown))).mono ?_)⟩
  rintro e w1 ⟨h,l,rfl,hat,hb⟩
  dsimp only
  have z0:w1.cell? ⟨V.heap.size,0,none⟩=some (.int .i64 0):=dN hb (by simp [go_sem])
  have z1:w1.cell? ⟨V.heap.size,1,none⟩=some (.int .u64 0):=dN hb (by simp [go_sem])
  have z2:w1.frozen? ⟨V.heap.size,0,none⟩=false:=dS hb (by simp) (by simp [go_sem])
  have z3:w1.frozen? ⟨V.heap.size,1,none⟩=false:=dS hb (by simp) (by simp [go_sem])
  have hb1:Below V.heap.size V w1:=hA.trans (hb.mono (by simp))
  refine hK.out _ _ trivial (fun hHeld=>?_)
  clear hK K
  try simp only [aQ]
  refine dP (fun _=>trivial) (by kernel_rfl) (i:=3) (oi:=_) (v:=?_) rfl (by kernel_rfl) (by kernel_rfl) (by kernel_rfl) (fun _ _ _ h=>h) (by assumption) (Or.inl ⟨by kernel_rfl,?_⟩) ?_
  rotate_left
  ·intro wz hSw;(first | (go_simp;done) | (go_simp;with_reducible rfl))
  try simp only [aQ]
  refine dP (fun _=>trivial) (by kernel_rfl) (i:=4) (oi:=_) (v:=?_) rfl (by kernel_rfl) (by kernel_rfl) (by kernel_rfl) (fun _ _ _ h=>h) (by assumption) (Or.inl ⟨by kernel_rfl,?_⟩) ?_
  rotate_left
  ·intro wz hSw;(first | (go_simp;done) | (go_simp;with_reducible rfl))
  try simp only [aQ]
  refine dP (fun _=>trivial) (by kernel_rfl) (i:=5) (oi:=_) (v:=?_) rfl (by kernel_rfl) (by kernel_rfl) (by kernel_rfl) (fun _ _ _ h=>h) (by assumption) (Or.inl ⟨by kernel_rfl,?_⟩) ?_
  rotate_left
  ·intro wz hSw;(first | (go_simp;done) | (go_simp;with_reducible rfl))
  try simp only [aQ]
  refine dX (fun _=>trivial) (i:=7) (o:=_) (by kernel_rfl) rfl (fun K hK=>?_)
  go_simp
  refine hK.out _ _ trivial (fun hHeld=>?_)
  clear hK K
  try simp only [aQ]
  refine dP (fun _=>trivial) (by kernel_rfl) (i:=8) (oi:=_) (v:=?_) rfl (by kernel_rfl) (by kernel_rfl) (by kernel_rfl) (fun _ _ _ h=>h) (by assumption) (Or.inl ⟨by kernel_rfl,?_⟩) ?_
  rotate_left
  ·intro wz hSw;(first | (go_simp;done) | (go_simp;with_reducible rfl))
  try simp only [aQ]
  refine fC (by kernel_rfl) ?_ _
  clear hHeld
  have x0:((w1.setCell ⟨V.heap.size,0,none⟩ (.int .i64 h)).setCell ⟨V.heap.size,1,none⟩ (.int .u64 l)).cell? ⟨V.heap.size,0,none⟩=some (.int .i64 h):=by simp [go_sem, *]
  have x1:((w1.setCell ⟨V.heap.size,0,none⟩ (.int .i64 h)).setCell ⟨V.heap.size,1,none⟩ (.int .u64 l)).cell? ⟨V.heap.size,1,none⟩=some (.int .u64 l):=by simp [go_sem, *]
  have Zj:Below V.heap.size V ((w1.setCell ⟨V.heap.size,0,none⟩ (.int .i64 h)).setCell ⟨V.heap.size,1,none⟩ (.int .u64 l)):=(hb1.setCell (p:=⟨V.heap.size,0,none⟩) (aB _) _).setCell (p:=⟨V.heap.size,1,none⟩) (aB _) _
  generalize ((w1.setCell ⟨V.heap.size,0,none⟩ (.int .i64 h)).setCell ⟨V.heap.size,1,none⟩ (.int .u64 l))=X at x0 x1 Zj ⊢
  clear z0 z1 z2 z3
  have Co:Below w.heap.size w X:=dY hB0 Zj
  go_wp2_with fail
  refine (HD.out _ _ _ hat).mono ?_
  rintro e w2 ⟨h2,l2,r2,rfl,Rn,hb2⟩
  have hs2:=(Co.trans (hb2.mono Co.size)).size
  go_wp2_with fail
  refine (HI.out _ _ _ Rn).mono ?_
  rintro e w3 ⟨rfl,hb3⟩
  go_wp2_with fail
  go_ret2
  exact ⟨rfl,by (repeat' (first | (with_reducible exact aI _ _) | (with_reducible assumption) | (with_reducible refine Below.drew ?_) | (with_reducible refine Below.setCell ?_ ?_ _) | (with_reducible refine dY ?_ (by assumption)) | (with_reducible refine Below.alloc ?_ ?_ _) | go_size))⟩
theorem JG (r c:List Int) (w:World) (lr:r.length=4) (lc:c.length=4) (hr:May r) (hc:May c) :
  Calls Tryz.prog 155 #[.agg (mC r),.agg (mC c)] w fun e w'=>e=.returned (.tuple #[.int .i64 (if In64 (pq r c) then pq r c else 0),.int .i64 (if In64 (pq r c) then 0 else 20)])∧Below w.heap.size w w':=by
 have hd:=Rz hr hc
 have hdv:dv (dot r c) 65536=pq r c:=by unfold dv pq;rw [aT (by omega)]
 have hin:In (pq r c):=by unfold In pq;omega
 refine UU r c w lr lc (dot r c) (pq r c) ?_ ?_ _ _ ?_
 ·intro w oa ob s1 s2
  have h:=EK r c oa ob 4 4 w (by omega) (by omega) (fun j=>⟨by have:=hr j;omega,by have:=hr j;omega⟩) (fun j=>⟨by have:=hc j;omega,by have:=hc j;omega⟩) s1 s2
  rw [lr,lc] at h
  refine h.mono ?_
  rintro e w' ⟨a,b,rfl,hat,hb⟩
  rw [show min 4 4=4 from rfl,Ij hr hc] at hat ⊢
  exact ⟨a,b,rfl,hat,hb⟩
 ·intro w h l hat
  refine (YD (dot r c) h 65536 l w hat (by omega) (by omega) (by omega)).mono ?_
  rintro e w' ⟨a,b,rfl,ha,hb⟩
  rw [hdv,tF,aT hin] at ha
  simp only [hdv,CP,aT hin]
  exact ⟨a,b,_,rfl,ha,hb⟩
 ·intro w h l hat
  exact Jp (pq r c) h l w hat
def rowOf (m:List Int) (r:Nat):List Int:=[m.getD (r * 4) 0,m.getD (r * 4 + 1) 0,m.getD (r * 4 + 2) 0,m.getD (r * 4 + 3) 0]
theorem Bf {l:List Int} (h:l.length=4):l=[l.getD 0 0,l.getD 1 0,l.getD 2 0,l.getD 3 0]:=by
 match l,h with
 | [a,b,c,d],_=>rfl
theorem FJ {l:List Int} (h:l.length=16):l=[l.getD 0 0,l.getD 1 0,l.getD 2 0,l.getD 3 0,l.getD 4 0,l.getD 5 0,l.getD 6 0,l.getD 7 0,l.getD 8 0,l.getD 9 0,l.getD 10 0,l.getD 11 0,l.getD 12 0,l.getD 13 0,l.getD 14 0,l.getD 15 0]:=by
 match l,h with
 | [a,b,c,d,a1,b1,c1,d1,a2,b2,c2,d2,a3,b3,c3,d3],_=>rfl
theorem Bd (m:List Int) (hm:m.length=16) (r:Nat) (h:r < 4) (w:World):(Instr.index 25 (.agg (mC m)) (.int .i64 (r:Int))).run Tryz.prog w =
  .ok (.agg #[.int .i64 (m.getD (r * 4) 0),.int .i64 (m.getD (r * 4 + 1) 0),.int .i64 (m.getD (r * 4 + 2) 0),.int .i64 (m.getD (r * 4 + 3) 0)]) w:=by
 rw [FJ hm]
 generalize m.getD 0 0=a0
 generalize m.getD 1 0=a1
 generalize m.getD 2 0=a2
 generalize m.getD 3 0=a3
 generalize m.getD 4 0=a4
 generalize m.getD 5 0=a5
 generalize m.getD 6 0=a6
 generalize m.getD 7 0=a7
 generalize m.getD 8 0=a8
 generalize m.getD 9 0=a9
 generalize m.getD 10 0=a10
 generalize m.getD 11 0=a11
 generalize m.getD 12 0=a12
 generalize m.getD 13 0=a13
 generalize m.getD 14 0=a14
 generalize m.getD 15 0=a15
 have hd:r=0∨r=1∨r=2∨r=3:=by omega
 rcases hd with rfl | rfl | rfl | rfl <;> (show _=_;kernel_rfl)
def OM (o:Option (List Int)) (w:World) (e:Ending) (w':World):Prop:=e=.returned (.tuple #[.agg (mC (o.getD [0,0,0,0])),.int .i64 (if o.isSome then 0 else 30)])∧Below w.heap.size w w'
def most:Int:=4611686018427387904
def kM (m v:List Int):List Int:=[pq (rowOf m 0) v,pq (rowOf m 1) v,pq (rowOf m 2) v,pq (rowOf m 3) v]
def sI (m v:List Int):Option (List Int):=if wB 4611686018427387904 m 16=true∧wB 4611686018427387904 v 4=true∧wB 4611686018427387904 (kM m v) 4=true then some (kM m v) else none
theorem mZ (m:List Int) (n g cap:Nat) (w:World) (b:Bool) (hn:n≤4) (hm:sJ m n g w) (hb:wB 4611686018427387904 m (4 * n)=b) :
  Calls Tryz.prog 117 #[.int .i64 4611686018427387904,.slice (some ⟨g,0,none⟩) n cap] w fun e w'=>e=.returned (.bool b)∧Below w.heap.size w w':=by
 rw [←hb]
 exact tX 4611686018427387904 m n g cap w hn (by omega) (by omega) hm
def iR (b:Nat) (v0 v1 v2 v3:Int) (W:World):Prop:=W.heap[b]?=some (.cells #[.int .i64 v0,.int .i64 v1,.int .i64 v2,.int .i64 v3] 23 (0,0))
theorem iR.cells {b:Nat} {v0 v1 v2 v3:Int} {W:World} (h:iR b v0 v1 v2 v3 W):W.cell? ⟨b,0,none⟩=some (.int .i64 v0)∧W.cell? ⟨b,1,none⟩=some (.int .i64 v1)∧W.cell? ⟨b,2,none⟩=some (.int .i64 v2)∧W.cell? ⟨b,3,none⟩=some (.int .i64 v3) :=
 ⟨by rw [aF _ _ _ _ _ _ h];rfl,by rw [aF _ _ _ _ _ _ h];rfl,by rw [aF _ _ _ _ _ _ h];rfl,by rw [aF _ _ _ _ _ _ h];rfl⟩
theorem iR.free {b:Nat} {v0 v1 v2 v3:Int} {W:World} (h:iR b v0 v1 v2 v3 W):W.frozen? ⟨b,0,none⟩=false∧W.frozen? ⟨b,1,none⟩=false∧W.frozen? ⟨b,2,none⟩=false∧W.frozen? ⟨b,3,none⟩=false :=
 ⟨dU h,dU h,dU h,dU h⟩
theorem iR.below {b:Nat} {v0 v1 v2 v3:Int} {w W:World} (hb:Below w.heap.size w W) (h:iR b v0 v1 v2 v3 w):iR b v0 v1 v2 v3 W:=dV hb h
theorem iR.QX {b:Nat} {v0 v1 v2 v3:Int} {W:World} (h:iR b v0 v1 v2 v3 W):sJ [v0,v1,v2,v3] 1 b W:=oW (t:=23) h (by simp)
theorem iR.lt {b:Nat} {v0 v1 v2 v3:Int} {W:World} (h:iR b v0 v1 v2 v3 W):b < W.heap.size:=(aC.1 h).1
theorem WH (m:List Int) (v0 v1 v2 v3:Int) (w:World) (hm:m.length=16) (h1:wB 4611686018427387904 m 16=false) :
  Calls Tryz.prog 151 #[.agg (mC m),.agg #[.int .i64 v0,.int .i64 v1,.int .i64 v2,.int .i64 v3]] w (OM none w):=by
 have HM:=aA hm
 have H1:=aA h1
 clear hm h1
 go_enter Tryz.func151,Tryz.ntmps151
 go_wp2_with fail
 obtain ⟨V,hV⟩:∃ V,(((w.alloc (.cells (mC m) 25)).alloc (.cells #[.int .i64 v0,.int .i64 v1,.int .i64 v2,.int .i64 v3] 23)).alloc (.cells #[.int .i64 0,.int .i64 0,.int .i64 0,.int .i64 0] 23))=V:=⟨_,rfl⟩
 have h3:=jU w (.cells (mC m) 25) (.cells #[.int .i64 v0,.int .i64 v1,.int .i64 v2,.int .i64 v3] 23) (.cells #[.int .i64 0,.int .i64 0,.int .i64 0,.int .i64 0] 23)
 have xE:Below w.heap.size w V:=by rw [←hV];go_grown
 rw [hV] at h3 ⊢
 clear hV
 obtain ⟨rm,rv,rr⟩:=h3
 refine (mZ m 4 w.heap.size 4 _ false (by omega) (oW (t:=25) rm (by rw [HM.out];omega)) H1.out).mono ?_
 rintro e w1 ⟨rfl,hb⟩
 have Nb:=dV hb rm
 have Gd:iR (w.heap.size + 1) v0 v1 v2 v3 w1:=dV hb rv
 have PQ:iR (w.heap.size + 1 + 1) 0 0 0 0 w1:=dV hb rr
 have hB1:Below w.heap.size w w1:=dY xE hb
 have hs1:=hB1.size
 obtain ⟨z0,z1,z2,z3⟩:=PQ.cells
 obtain ⟨y0,y1,y2,y3⟩:=PQ.free
 clear rm rv rr
 have RM:=aA Nb
 have RV:=aA Gd
 have RR:=aA PQ
 clear Nb Gd PQ
 go_wp2
 refine aO (v:=.tuple #[.agg #[.int .i64 0,.int .i64 0,.int .i64 0,.int .i64 0],.int .i64 30]) (by simp [results,Tryz.results151,go_sem, *]) rfl ⟨rfl,?_⟩
 repeat' (first | (with_reducible exact aI _ _) | (with_reducible assumption) | (with_reducible refine Below.drew ?_) | (with_reducible refine Below.setCell ?_ ?_ _) | (with_reducible refine dY ?_ (by assumption)) | (with_reducible refine Below.alloc ?_ ?_ _) | go_size)
theorem WG (m:List Int) (v0 v1 v2 v3:Int) (w:World) (hm:m.length=16) (h1:wB 4611686018427387904 m 16=true) (h2:wB 4611686018427387904 [v0,v1,v2,v3] 4=false) :
  Calls Tryz.prog 151 #[.agg (mC m),.agg #[.int .i64 v0,.int .i64 v1,.int .i64 v2,.int .i64 v3]] w (OM none w):=by
 have HM:=aA hm
 have H1:=aA h1
 have H2:=aA h2
 clear hm h1 h2
 go_enter Tryz.func151,Tryz.ntmps151
 go_wp2_with fail
 obtain ⟨V,hV⟩:∃ V,(((w.alloc (.cells (mC m) 25)).alloc (.cells #[.int .i64 v0,.int .i64 v1,.int .i64 v2,.int .i64 v3] 23)).alloc (.cells #[.int .i64 0,.int .i64 0,.int .i64 0,.int .i64 0] 23))=V:=⟨_,rfl⟩
 have h3:=jU w (.cells (mC m) 25) (.cells #[.int .i64 v0,.int .i64 v1,.int .i64 v2,.int .i64 v3] 23) (.cells #[.int .i64 0,.int .i64 0,.int .i64 0,.int .i64 0] 23)
 have xE:Below w.heap.size w V:=by rw [←hV];go_grown
 rw [hV] at h3 ⊢
 clear hV
 obtain ⟨rm,rv,rr⟩:=h3
 refine (mZ m 4 w.heap.size 4 _ true (by omega) (oW (t:=25) rm (by rw [HM.out];omega)) H1.out).mono ?_
 rintro e w1 ⟨rfl,hb⟩
 have Nb:=dV hb rm
 have Gd:iR (w.heap.size + 1) v0 v1 v2 v3 w1:=dV hb rv
 have PQ:iR (w.heap.size + 1 + 1) 0 0 0 0 w1:=dV hb rr
 have hB1:Below w.heap.size w w1:=dY xE hb
 have hs1:=hB1.size
 obtain ⟨z0,z1,z2,z3⟩:=PQ.cells
 obtain ⟨y0,y1,y2,y3⟩:=PQ.free
 clear rm rv rr
 obtain ⟨x0,x1,x2,x3⟩:=Gd.cells
 have RM:=aA Nb
 have RV:=aA Gd
 have RR:=aA PQ
 clear Nb Gd PQ
 go_wp2_with fail
 refine (mZ [v0,v1,v2,v3] 1 _ 1 _ false (by omega) (iR.QX (aG _ _)) H2.out).mono ?_
 rintro e w2 ⟨rfl,hb2⟩
 have rr2:iR (w.heap.size + 1 + 1) 0 0 0 0 w2:=(iR.below ((aI _ _).alloc (aB _) _) RR.out).below hb2
 have hB2:Below w.heap.size w w2:=dY (hB1.alloc hs1 _) hb2
 have hs2:=hB2.size
 obtain ⟨z0',z1',z2',z3'⟩:=rr2.cells
 obtain ⟨y0',y1',y2',y3'⟩:=rr2.free
 clear rr2
 go_wp2
 refine aO (v:=.tuple #[.agg #[.int .i64 0,.int .i64 0,.int .i64 0,.int .i64 0],.int .i64 30]) (by simp [results,Tryz.results151,go_sem, *]) rfl ⟨rfl,?_⟩
 repeat' (first | (with_reducible exact aI _ _) | (with_reducible assumption) | (with_reducible refine Below.drew ?_) | (with_reducible refine Below.setCell ?_ ?_ _) | (with_reducible refine dY ?_ (by assumption)) | (with_reducible refine Below.alloc ?_ ?_ _) | go_size)
def Og (m v:List Int) (r:Nat):List Int:=(List.range 4).map fun j=>if j < r then pq (rowOf m j) v else 0
theorem SG (m v:List Int) (r:Nat):(Og m v r).length=4:=by simp [Og]
theorem SH (m v:List Int):Og m v 4=kM m v:=rfl
theorem Ea (m v:List Int) (r:Nat) (h:r < 4):(Og m v r).set r (pq (rowOf m r) v)=Og m v (r + 1):=by
 have hd:r=0∨r=1∨r=2∨r=3:=by omega
 rcases hd with rfl | rfl | rfl | rfl <;> rfl
structure AI (m:List Int) (v0 v1 v2 v3:Int) (r B:Nat) (w W:World):Prop where
 bm:W.heap[w.heap.size]?=some (.cells (mC m) 25 (0,0))
 bv:iR (w.heap.size + 1) v0 v1 v2 v3 W
 br:iR (w.heap.size + 1 + 1) 0 0 0 0 W
 ba:W.heap[B]?=some (.cells (mC (Og m [v0,v1,v2,v3] r)) 23 (0,0))
 hB:w.heap.size + 1 + 1 < B
 below:Below w.heap.size w W
theorem AI.up {m:List Int} {v0 v1 v2 v3:Int} {r B:Nat} {w W X:World} (h:AI m v0 v1 v2 v3 r B w W) (hb:Below W.heap.size W X):AI m v0 v1 v2 v3 r B w X :=
 ⟨dV hb h.bm,h.bv.below hb,h.br.below hb,dV hb h.ba,h.hB,dY h.below hb⟩
theorem AI.next {m:List Int} {v0 v1 v2 v3:Int} {r B:Nat} {w W:World} (h:AI m v0 v1 v2 v3 r B w W) (hr:r < 4):AI m v0 v1 v2 v3 (r + 1) B w (W.setCell ⟨B,r,none⟩ (.int .i64 (pq (rowOf m r) [v0,v1,v2,v3]))):=by
 have hB:=h.hB
 refine ⟨?_,?_,?_,?_,hB,h.below.setCell (p:=⟨B,r,none⟩) (by show _≤B;omega) _⟩
 ·rw [aH _ _ _ _ (by show _≠B;omega)];exact h.bm
 ·unfold iR;rw [aH _ _ _ _ (by show _≠B;omega)];exact h.bv
 ·unfold iR;rw [aH _ _ _ _ (by show _≠B;omega)];exact h.br
 ·rw [aK _ _ _ _ _ _ h.ba,FH,Ea _ _ _ hr]
def ApRel (m:List Int) (v0 v1 v2 v3:Int) (B:Nat) (w:World) (g:Nat) (s:Value) (W:World):Prop :=
 ∃ r,g=4 - r∧s=.int .i64 (r:Int)∧r≤4∧(∀ j,j < r→In64 (pq (rowOf m j) [v0,v1,v2,v3]))∧AI m v0 v1 v2 v3 r B w W
theorem Bc {m:List Int} {k:Nat} (h:wB 4611686018427387904 m k=true) (hk:m.length≤k):May m:=by
 intro j
 by_cases hj:j < k
 ·have:=nA.1 h j hj
  omega
 ·rw [aS,List.getElem?_eq_none (by omega)]
  simp
theorem Jj {m:List Int} (h:May m) (r:Nat):May (rowOf m r):=by
 intro j
 unfold rowOf
 match j with
 | 0=>exact h _
 | 1=>exact h _
 | 2=>exact h _
 | 3=>exact h _
 | j + 4=>simp
theorem Ab (m:List Int) (v0 v1 v2 v3:Int) (r:Nat) (w:World) (hm:May m) (hv:May [v0,v1,v2,v3]) :
  Calls Tryz.prog 155 #[.agg #[.int .i64 (m.getD (r * 4) 0),.int .i64 (m.getD (r * 4 + 1) 0),.int .i64 (m.getD (r * 4 + 2) 0),.int .i64 (m.getD (r * 4 + 3) 0)],.agg #[.int .i64 v0,.int .i64 v1,.int .i64 v2,.int .i64 v3]] w fun e w' =>
   e=.returned (.tuple #[.int .i64 (if In64 (pq (rowOf m r) [v0,v1,v2,v3]) then pq (rowOf m r) [v0,v1,v2,v3] else 0),.int .i64 (if In64 (pq (rowOf m r) [v0,v1,v2,v3]) then 0 else 20)])∧Below w.heap.size w w' :=
 JG (rowOf m r) [v0,v1,v2,v3] w rfl rfl (Jj hm r) hv
theorem Ld {m v:List Int} {j:Nat} (hj:j < 4) (h:¬ In64 (pq (rowOf m j) v)):sI m v=none:=by
 unfold sI
 rw [aX]
 rintro ⟨_,_,h3⟩
 have h4:=nA.1 h3 j hj
 apply h
 have hd:j=0∨j=1∨j=2∨j=3:=by omega
 unfold In64
 unfold kM at h4
 rcases hd with rfl | rfl | rfl | rfl
 ·have : (4611686018427387904:Int)≥pq (rowOf m 0) v:=h4.2.2
  have : -(4611686018427387904:Int)≤pq (rowOf m 0) v:=h4.2.1
  omega
 ·have : (4611686018427387904:Int)≥pq (rowOf m 1) v:=h4.2.2
  have : -(4611686018427387904:Int)≤pq (rowOf m 1) v:=h4.2.1
  omega
 ·have : (4611686018427387904:Int)≥pq (rowOf m 2) v:=h4.2.2
  have : -(4611686018427387904:Int)≤pq (rowOf m 2) v:=h4.2.1
  omega
 ·have : (4611686018427387904:Int)≥pq (rowOf m 3) v:=h4.2.2
  have : -(4611686018427387904:Int)≤pq (rowOf m 3) v:=h4.2.1
  omega
theorem Dy (m:List Int) (v0 v1 v2 v3:Int) (w:World) (hm:m.length=16) (h1:wB 4611686018427387904 m 16=true) (h2:wB 4611686018427387904 [v0,v1,v2,v3] 4=true) :
  Calls Tryz.prog 151 #[.agg (mC m),.agg #[.int .i64 v0,.int .i64 v1,.int .i64 v2,.int .i64 v3]] w (OM (sI m [v0,v1,v2,v3]) w):=by
 have MM:=aA (Bc h1 (by omega))
 have MV:=aA (Bc h2 (by simp))
 have HM:=aA hm
 have H1:=aA h1
 have H2:=aA h2
 have kZ:(Tryz.prog.info? 25).map (·.size)=some (mC m).size:=by rw [iW,fT,hm]
 have Fu:=aA kZ
 clear hm h1 h2 kZ
 go_enter Tryz.func151,Tryz.ntmps151
 go_wp2_with fail
 obtain ⟨V,hV⟩:∃ V,(((w.alloc (.cells (mC m) 25)).alloc (.cells #[.int .i64 v0,.int .i64 v1,.int .i64 v2,.int .i64 v3] 23)).alloc (.cells #[.int .i64 0,.int .i64 0,.int .i64 0,.int .i64 0] 23))=V:=⟨_,rfl⟩
 have h3:=jU w (.cells (mC m) 25) (.cells #[.int .i64 v0,.int .i64 v1,.int .i64 v2,.int .i64 v3] 23) (.cells #[.int .i64 0,.int .i64 0,.int .i64 0,.int .i64 0] 23)
 have xE:Below w.heap.size w V:=by rw [←hV];go_grown
 rw [hV] at h3 ⊢
 clear hV
 obtain ⟨rm,rv,rr⟩:=h3
 refine (mZ m 4 w.heap.size 4 _ true (by omega) (oW (t:=25) rm (by rw [HM.out];omega)) H1.out).mono ?_
 rintro e w1 ⟨rfl,hb⟩
 have Nb:=dV hb rm
 have Gd:iR (w.heap.size + 1) v0 v1 v2 v3 w1:=dV hb rv
 have PQ:iR (w.heap.size + 1 + 1) 0 0 0 0 w1:=dV hb rr
 have hB1:Below w.heap.size w w1:=dY xE hb
 have hs1:=hB1.size
 obtain ⟨z0,z1,z2,z3⟩:=PQ.cells
 obtain ⟨y0,y1,y2,y3⟩:=PQ.free
 clear rm rv rr
 obtain ⟨x0,x1,x2,x3⟩:=Gd.cells
 have RM:=aA Nb
 have RV:=aA Gd
 have RR:=aA PQ
 clear Nb Gd PQ
 go_wp2_with fail
 refine (mZ [v0,v1,v2,v3] 1 _ 1 _ true (by omega) (iR.QX (aG _ _)) H2.out).mono ?_
 rintro e w2 ⟨rfl,hb2⟩
 have hB2:Below w.heap.size w w2:=dY (hB1.alloc hs1 _) hb2
 have hlt:=iR.lt RR.out
 have hs12:=hb2.size
 simp only [aR] at hs12
 have Pn:AI m v0 v1 v2 v3 0 w2.heap.size w (w2.alloc (.cells #[.int .i64 0,.int .i64 0,.int .i64 0,.int .i64 0] 23)):=by
  refine ⟨dW (dV hb2 (dW RM.out)),dW (dV hb2 (dW RV.out)),dW (dV hb2 (dW RR.out)),aG _ _,by omega,hB2.alloc hB2.size _⟩
 have BM:=aA Pn.bm
 have HAI:=aA Pn
 clear Pn
 go_wp2_with (refine wpList_load_row rfl 25 (.tmp 2) rfl w.heap.size rfl _ _ _ _ BM.out aP rfl Fu.out ?_)
 generalize w2.heap.size=B at HAI ⊢
 go_loopg [22] 4 (ApRel m v0 v1 v2 v3 B w)
 case atStart=>exact ⟨0,rfl,rfl,by omega,fun j hj=>absurd hj (by omega),HAI.out⟩
 case round =>
  clear HAI BM
  obtain ⟨r,rfl,rfl,hr4,hok,I⟩:=hrel
  by_cases hr:r < 4
  ·have hix:=Bd m HM.out r hr
   have hP:=Ab m v0 v1 v2 v3 r
   have GY:=aA (fun W (h:AI m v0 v1 v2 v3 r B w W)=>h.next hr)
   have jY:=aA hok
   obtain ⟨q,hq⟩:∃ q,pq (rowOf m r) [v0,v1,v2,v3]=q:=⟨_,rfl⟩
   rw [hq] at hP GY
   have HQ:=aA hq
   generalize m.getD (r * 4) 0=a0 at hix hP
   generalize m.getD (r * 4 + 1) 0=a1 at hix hP
   generalize m.getD (r * 4 + 2) 0=a2 at hix hP
   generalize m.getD (r * 4 + 3) 0=a3 at hix hP
   have HP:=aA hP
   obtain ⟨x0,x1,x2,x3⟩:=I.bv.cells
   have hw1:w.heap.size + 1 < wr.heap.size:=I.bv.lt
   have II:=aA I
   have r0:(0:Int)≤(r:Int):=by omega
   have r1:(r:Int) < 4:=by omega
   clear hP hq hok I z0 z1 z2 z3 y0 y1 y2 y3
   by_cases hin:In64 q
   ·have e1:(if In64 q then q else 0)=q:=aT hin
    have e2:(if In64 q then (0:Int) else 20)=0:=aT hin
    rw [e1,e2] at HP
    have HIN:=aA hin
    clear e1 e2 hin
    go_wp2_with fail
    refine (HP.out _ MM.out MV.out).mono ?_
    rintro e w3 ⟨rfl,hb3⟩
    have I3:=(II.out.up ((aI wr.heap.size wr).alloc (aB _) (.cells #[.int .i64 a0,.int .i64 a1,.int .i64 a2,.int .i64 a3] 23))).up hb3
    have cb:w3.cell? ⟨B,r,none⟩=some (.int .i64 ((Og m [v0,v1,v2,v3] r).getD r 0)):=by rw [aF _ _ _ _ _ _ I3.ba,wX _ _ (by rw [SG];exact hr)]
    have fb:w3.frozen? ⟨B,r,none⟩=false:=dU I3.ba
    have II3:=aA (GY.out _ I3)
    clear I3
    go_wp2_with fail
    go_roundg (4 - (r + 1))
    case measure=>omega
    case rel =>
     refine ⟨r + 1,rfl,by go_num,by omega,fun j hj=>?_,II3.out⟩
     by_cases hjr:j < r
     ·exact jY.out j hjr
     ·rw [show j=r by omega,HQ.out];exact HIN.out
   ·have e1:(if In64 q then q else 0)=0:=aX hin
    have e2:(if In64 q then (0:Int) else 20)=20:=aX hin
    rw [e1,e2] at HP
    have pJ:Hid (sI m [v0,v1,v2,v3]=none):=aA (Ld hr (by rw [HQ.out];exact hin))
    clear e1 e2 hin
    go_wp2_with fail
    refine (HP.out _ MM.out MV.out).mono ?_
    rintro e w3 ⟨rfl,hb3⟩
    have I3:=(II.out.up ((aI wr.heap.size wr).alloc (aB _) (.cells #[.int .i64 a0,.int .i64 a1,.int .i64 a2,.int .i64 a3] 23))).up hb3
    obtain ⟨z0',z1',z2',z3'⟩:=I3.br.cells
    obtain ⟨y0',y1',y2',y3'⟩:=I3.br.free
    have Co:=I3.below
    have hsX:=Co.size
    clear I3
    go_wp2
    rw [pJ.out]
    refine aO (v:=.tuple #[.agg #[.int .i64 0,.int .i64 0,.int .i64 0,.int .i64 0],.int .i64 30]) (by simp [results,Tryz.results151,go_sem, *]) rfl ⟨rfl,?_⟩
    repeat' (first | (with_reducible exact aI _ _) | (with_reducible assumption) | (with_reducible refine Below.drew ?_) | (with_reducible refine Below.setCell ?_ ?_ _) | (with_reducible refine dY ?_ (by assumption)) | (with_reducible refine Below.alloc ?_ ?_ _) | go_size)
  ·have hre:r=4:=by omega
   subst hre
   have hall:Hid (∀ j,j < 4→In64 (pq (rowOf m j) [v0,v1,v2,v3])):=aA hok
   have ba:=I.ba
   rw [SH] at ba
   have hap:Hid (kM m [v0,v1,v2,v3]=[pq (rowOf m 0) [v0,v1,v2,v3],pq (rowOf m 1) [v0,v1,v2,v3],pq (rowOf m 2) [v0,v1,v2,v3],pq (rowOf m 3) [v0,v1,v2,v3]]):=aA rfl
   rw [hap.out] at ba
   generalize pq (rowOf m 0) [v0,v1,v2,v3]=q0 at hap ba
   generalize pq (rowOf m 1) [v0,v1,v2,v3]=q1 at hap ba
   generalize pq (rowOf m 2) [v0,v1,v2,v3]=q2 at hap ba
   generalize pq (rowOf m 3) [v0,v1,v2,v3]=q3 at hap ba
   have BA:iR B q0 q1 q2 q3 wr:=ba
   obtain ⟨x0,x1,x2,x3⟩:=BA.cells
   have II:=aA I
   have HBA:=aA BA
   clear BA ba I hok z0 z1 z2 z3 y0 y1 y2 y3
   cases h3:wB 4611686018427387904 [q0,q1,q2,q3] 4 with
   | true =>
    have HAP:Hid (sI m [v0,v1,v2,v3]=some [q0,q1,q2,q3]):=aA (by unfold sI;rw [hap.out,aT ⟨H1.out,H2.out,h3⟩])
    have H3:=aA h3
    clear h3
    go_wp2_with fail
    refine (mZ [q0,q1,q2,q3] 1 _ 1 _ true (by omega) (iR.QX (aG _ _)) H3.out).mono ?_
    rintro e w3 ⟨rfl,hb3⟩
    have I3:=(II.out.up ((aI wr.heap.size wr).alloc (aB _) (.cells #[.int .i64 q0,.int .i64 q1,.int .i64 q2,.int .i64 q3] 23))).up hb3
    have BA3:iR B q0 q1 q2 q3 w3:=(HBA.out.below ((aI wr.heap.size wr).alloc (aB _) (.cells #[.int .i64 q0,.int .i64 q1,.int .i64 q2,.int .i64 q3] 23))).below hb3
    obtain ⟨z0',z1',z2',z3'⟩:=I3.br.cells
    obtain ⟨y0',y1',y2',y3'⟩:=I3.br.free
    obtain ⟨c0,c1,c2,c3⟩:=BA3.cells
    have Co:=I3.below
    have hsX:=Co.size
    clear I3 BA3
    go_wp2
    rw [HAP.out]
    refine aO (v:=.tuple #[.agg #[.int .i64 q0,.int .i64 q1,.int .i64 q2,.int .i64 q3],.int .i64 0]) (by simp [results,Tryz.results151,go_sem, *]) rfl ⟨rfl,?_⟩
    repeat' (first | (with_reducible exact aI _ _) | (with_reducible assumption) | (with_reducible refine Below.drew ?_) | (with_reducible refine Below.setCell ?_ ?_ _) | (with_reducible refine dY ?_ (by assumption)) | (with_reducible refine Below.alloc ?_ ?_ _) | go_size)
   | false =>
    have HAP:Hid (sI m [v0,v1,v2,v3]=none):=aA (by unfold sI;rw [hap.out,aX (by rw [h3];simp)])
    have H3:=aA h3
    clear h3
    go_wp2_with fail
    refine (mZ [q0,q1,q2,q3] 1 _ 1 _ false (by omega) (iR.QX (aG _ _)) H3.out).mono ?_
    rintro e w3 ⟨rfl,hb3⟩
    have I3:=(II.out.up ((aI wr.heap.size wr).alloc (aB _) (.cells #[.int .i64 q0,.int .i64 q1,.int .i64 q2,.int .i64 q3] 23))).up hb3
    obtain ⟨z0',z1',z2',z3'⟩:=I3.br.cells
    obtain ⟨y0',y1',y2',y3'⟩:=I3.br.free
    have Co:=I3.below
    have hsX:=Co.size
    clear I3
    go_wp2
    rw [HAP.out]
    refine aO (v:=.tuple #[.agg #[.int .i64 0,.int .i64 0,.int .i64 0,.int .i64 0],.int .i64 30]) (by simp [results,Tryz.results151,go_sem, *]) rfl ⟨rfl,?_⟩
    repeat' (first | (with_reducible exact aI _ _) | (with_reducible assumption) | (with_reducible refine Below.drew ?_) | (with_reducible refine Below.setCell ?_ ?_ _) | (with_reducible refine dY ?_ (by assumption)) | (with_reducible refine Below.alloc ?_ ?_ _) | go_size)
end Fx
end Go.Proofs.YtbbhmhihpdmoiaaGreat
