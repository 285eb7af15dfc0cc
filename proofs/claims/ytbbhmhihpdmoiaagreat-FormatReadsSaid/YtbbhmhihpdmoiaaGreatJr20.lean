import Derived.Test.YtbbhmhihpdmoiaaGreatJr19
set_option linter.unusedVariables false
set_option linter.unusedSimpArgs false
set_option maxRecDepth 100000
set_option maxHeartbeats 32000000
namespace Go.Proofs.YtbbhmhihpdmoiaaGreat
namespace Fx
open Go Go.RowKit Wm
theorem GA (neg:Bool) (d:List Nat) (q v:Nat):(eP neg d).setIfInBounds (1 + q) (.int .u64 (v:Int))=eP neg (d.set q v):=by
 unfold eP
 rw [List.setIfInBounds_toArray,Nat.add_comm,List.set_cons_succ,List.map_set]
 rfl
structure Gi (q v:Nat) (w W:World):Prop where
 br:W.heap[w.heap.size]?=some (.cells (eP false zeros) 214 (0,0))
 bz:W.heap[w.heap.size + 1]?=some (.cells (eP false (zeros.set q v)) 214 (0,0))
 below:Below w.heap.size w W
theorem Gi.next {q v:Nat} {w W:World} (h:Gi q v w W) (u:Nat):Gi q u w (W.setCell ⟨w.heap.size + 1,1 + q,none⟩ (.int .u64 (u:Int))):=by
 refine ⟨?_,?_,h.below.setCell (p:=⟨w.heap.size + 1,1 + q,none⟩) (by show _≤w.heap.size + 1;omega) _⟩
 ·rw [aH _ _ _ _ (by show _≠w.heap.size + 1;omega)];exact h.br
 ·rw [aK _ _ _ _ _ _ h.bz,GA,List.set_set]
theorem Gi.cell {q v:Nat} {w W:World} (h:Gi q v w W) (hq:q < 20):W.cell? ⟨w.heap.size + 1,1 + q,none⟩=some (.int .u64 (v:Int))∧W.frozen? ⟨w.heap.size + 1,1 + q,none⟩=false:=by
 refine ⟨?_,dU h.bz⟩
 rw [aF _ _ _ _ _ _ h.bz,jW _ _ _ (by rw [List.length_set];exact hq)]
 congr 3
 simp [aS,hq,zeros]
theorem tw0 (q:Nat) (w:World) (hq:zeros.set q 0=zeros):Gi q 0 w ((w.alloc (.cells (eP false zeros) 214)).alloc (.cells (eP false zeros) 214)) :=
 ⟨dW (aG _ _),by rw [hq];exact heap_alloc2_new _ _ _,by go_grown⟩
theorem YO (w:World):Calls Tryz.prog 169 #[.int .i64 127] w (qB false (dg (2 ^ 127)) w):=by
 have hI0:=tw0 7 w rfl
 have hI1:Gi 7 1 w ((w.alloc (.cells (eP false zeros) 214)).alloc (.cells (eP false (zeros.set 7 1)) 214)):=⟨dW (aG _ _),heap_alloc2_new _ _ _,by go_grown⟩
 have c00:=(hI0.cell (by omega)).1
 have f00:=(hI0.cell (by omega)).2
 have DV:eP false zeros=#[.bool false,.int .u64 0,.int .u64 0,.int .u64 0,.int .u64 0,.int .u64 0,.int .u64 0,.int .u64 0,.int .u64 0,.int .u64 0,.int .u64 0,.int .u64 0,.int .u64 0,.int .u64 0,.int .u64 0,.int .u64 0,.int .u64 0,.int .u64 0,.int .u64 0,.int .u64 0,.int .u64 0]:=rfl
 rw [DV] at c00 f00
 have HI1:=aA hI1
 clear hI0 hI1 DV
 go_enter Tryz.func169,Tryz.ntmps169
 go_wp2_with fail
 go_loopg [4] 15 (fun g s wr=>∃ k v:Nat,g=15 - k∧s=.int .i64 (k:Int)∧k≤15∧v=2 ^ k∧Gi 7 v w wr)
 case atStart=>exact ⟨0,1,rfl,rfl,by omega,rfl,HI1.out⟩
 case round =>
  clear HI1 c00 f00
  obtain ⟨k,v,rfl,rfl,hk4,hv,I⟩:=hrel
  by_cases hk:k < 15
  ·have cz:=(I.cell (by omega)).1
   have fz:=(I.cell (by omega)).2
   have hvl:v≤16384:=by
    rw [hv]
    exact Nat.pow_le_pow_right (n:=2) (by omega) (show k≤14 by omega)
   have hv2:v * 2=2 ^ (k + 1):=by rw [hv,bM]
   have k1:(k:Int) < 15:=by omega
   have hv3:(v:Int)≤16384:=by omega
   have I2:=I.next (v * 2)
   have HI2:=aA I2
   have uJ:=aA hv2
   clear I I2 hv hv2 hvl
   go_wp2_with fail
   go_roundg (15 - (k + 1))
   case measure=>omega
   case rel =>
    refine ⟨k + 1,v * 2,rfl,by go_num,by omega,uJ.out,?_⟩
    have:=HI2.out
    simpa using this
  ·have hke:k=15:=by omega
   subst hke
   have hz:zeros.set 7 v=dg (2 ^ 127):=by rw [hv];decide +kernel
   have bz:=I.bz
   rw [hz] at bz
   have BZ:=aA bz
   have BR:=aA I.br
   have BL:=aA I.below
   have HI:=aA (fK false (dg (2 ^ 127)) (gD _))
   have HS:=aA (iG false false zeros (dg (2 ^ 127)) rfl (gD _))
   clear I bz hz hv
   go_wp2_with (first | (refine wpList_load_row rfl 214 (.tmp 3) rfl (w.heap.size + 1) rfl _ _ _ _ BZ.out aD rfl HI.out ?_) | (refine dQ rfl 214 (.tmp 2) (.tmp 25) rfl w.heap.size _ _ (eP false (dg (2 ^ 127))) rfl rfl BR.out HI.out HS.out (gV _ _) ?_))
   refine aO (v:=.agg (eP false (dg (2 ^ 127)))) (results_cell_row rfl _ _ w.heap.size _ _ _ _ rfl (setRow_heap _ _ _ _ _ _ BR.out) aD rfl HI.out) rfl ?_
   exact ⟨rfl,Below.row BL.out (aB _) _⟩
theorem YN (w:World):Calls Tryz.prog 169 #[.int .i64 128] w (qB false (dg (2 ^ 128)) w):=by
 have hI0:=tw0 8 w rfl
 have hI1:Gi 8 1 w ((w.alloc (.cells (eP false zeros) 214)).alloc (.cells (eP false (zeros.set 8 1)) 214)):=⟨dW (aG _ _),heap_alloc2_new _ _ _,by go_grown⟩
 have c00:=(hI0.cell (by omega)).1
 have f00:=(hI0.cell (by omega)).2
 have DV:eP false zeros=#[.bool false,.int .u64 0,.int .u64 0,.int .u64 0,.int .u64 0,.int .u64 0,.int .u64 0,.int .u64 0,.int .u64 0,.int .u64 0,.int .u64 0,.int .u64 0,.int .u64 0,.int .u64 0,.int .u64 0,.int .u64 0,.int .u64 0,.int .u64 0,.int .u64 0,.int .u64 0,.int .u64 0]:=rfl
 rw [DV] at c00 f00
 have HI1:=aA hI1
 clear hI0 hI1 DV
 go_enter Tryz.func169,Tryz.ntmps169
 go_wp2_with fail
 go_loopg [4] 0 (fun g s wr=>∃ k v:Nat,g=0 - k∧s=.int .i64 (k:Int)∧k≤0∧v=2 ^ k∧Gi 8 v w wr)
 case atStart=>exact ⟨0,1,rfl,rfl,by omega,rfl,HI1.out⟩
 case round =>
  clear HI1 c00 f00
  obtain ⟨k,v,rfl,rfl,hk4,hv,I⟩:=hrel
  have hke:k=0:=by omega
  subst hke
  have hz:zeros.set 8 v=dg (2 ^ 128):=by rw [hv];decide +kernel
  have bz:=I.bz
  rw [hz] at bz
  have BZ:=aA bz
  have BR:=aA I.br
  have BL:=aA I.below
  have HI:=aA (fK false (dg (2 ^ 128)) (gD _))
  have HS:=aA (iG false false zeros (dg (2 ^ 128)) rfl (gD _))
  clear I bz hz hv
  go_wp2_with (first | (refine wpList_load_row rfl 214 (.tmp 3) rfl (w.heap.size + 1) rfl _ _ _ _ BZ.out aD rfl HI.out ?_) | (refine dQ rfl 214 (.tmp 2) (.tmp 25) rfl w.heap.size _ _ (eP false (dg (2 ^ 128))) rfl rfl BR.out HI.out HS.out (gV _ _) ?_))
  refine aO (v:=.agg (eP false (dg (2 ^ 128)))) (results_cell_row rfl _ _ w.heap.size _ _ _ _ rfl (setRow_heap _ _ _ _ _ _ BR.out) aD rfl HI.out) rfl ?_
  exact ⟨rfl,Below.row BL.out (aB _) _⟩
theorem Ic (w:World):Calls Tryz.prog 169 #[.int .i64 127] w (GH (2 ^ 127) w):=(YO w).mono fun e w' ⟨he,hb⟩=>⟨by rw [he];exact congrArg (fun a=>Ending.returned (Value.agg a)) (AB (by decide) (by congr 1)),hb⟩
theorem Ib (w:World):Calls Tryz.prog 169 #[.int .i64 128] w (GH (2 ^ 128) w):=(YN w).mono fun e w' ⟨he,hb⟩=>⟨by rw [he];exact congrArg (fun a=>Ending.returned (Value.agg a)) (AB (by decide) (by congr 1)),hb⟩
theorem uV:∀ (d:List Nat) (k v:Nat),k < d.length→num (d.set k v) + d.getD k 0 * 65536 ^ k=num d + v * 65536 ^ k
 | [],k,v,h=>by simp at h
 | x :: d,0,v,h=>by
  simp only [List.set_cons_zero,num,List.getD_cons_zero,Nat.pow_zero,Nat.mul_one]
  omega
 | x :: d,k + 1,v,h=>by
  have ih:=uV d k v (by simpa using h)
  simp only [List.set_cons_succ,num,List.getD_cons_succ]
  rw [bM,←Nat.mul_assoc,←Nat.mul_assoc]
  generalize d.getD k 0 * 65536 ^ k=A at *
  generalize v * 65536 ^ k=B at *
  omega
theorem Di {d:List Nat} (h:Dg d) (k:Nat) {v:Nat} (hv:v < 65536):Dg (d.set k v):=by
 refine ⟨by rw [List.length_set];exact h.1,fun x hx=>?_⟩
 rcases List.mem_or_eq_of_mem_set hx with hx | rfl
 ·exact h.2 x hx
 ·exact hv
theorem KN {d:List Nat} (h:Dg d) (k:Nat):d.getD k 0 < 65536:=by
 rw [aS]
 by_cases hk:k < d.length
 ·rw [aJ hk]
  exact h.2 _ (List.getElem_mem hk)
 ·rw [List.getElem?_eq_none (by omega)]
  simp
theorem zU (l:List Nat) (k p:Nat) (x:Nat) (hk:k < l.length):(l.set k x).getD p 0=if k=p then x else l.getD p 0:=by
 simp only [aS,List.getElem?_set]
 split
 ·subst_vars
  simp [hk]
 ·rfl
structure Pr (m n i j c:Nat) (d:List Nat):Prop where
 hd:Dg d
 eq:num d + c * 65536 ^ (i + j)=m % 65536 ^ i * n + m / 65536 ^ i % 65536 * (n % 65536 ^ j) * 65536 ^ i
 hc:c < 65536
 up:∀ p,i + 9≤p→d.getD p 0=0
theorem Pr.next {m n i j c a b s:Nat} {d:List Nat} (h:Pr m n i j c d) (hij:i + j < 20) (hj:j < 9) (ha:m / 65536 ^ i % 65536=a) (hb:n / 65536 ^ j % 65536=b) (hs:s=d.getD (i + j) 0 + a * b + c) :
  Pr m n i (j + 1) (s / 65536) (d.set (i + j) (s % 65536)):=by
 have hz:=KN h.hd (i + j)
 have hab:a * b≤65535 * 65535:=Nat.mul_le_mul (by omega) (by omega)
 have hc:=h.hc
 refine ⟨Di h.hd _ (by omega),?_,by omega,fun p hp=>?_⟩
 ·have e1:=uV d (i + j) (s % 65536) (by rw [h.hd.1];exact hij)
  have e2:=h.eq
  rw [ha] at e2 ⊢
  have e3:n % 65536 ^ (j + 1)=n % 65536 ^ j + 65536 ^ j * b:=by rw [Nat.mod_pow_succ,hb]
  have e4:a * (65536 ^ j * b) * 65536 ^ i=a * b * 65536 ^ (i + j):=by rw [Nat.pow_add];ac_rfl
  have e5:65536 ^ (i + (j + 1))=65536 ^ (i + j) * 65536:=by rw [←bM];rfl
  rw [e3,Nat.mul_add,Nat.add_mul,e4,e5]
  have e6:s / 65536 * (65536 ^ (i + j) * 65536) + s % 65536 * 65536 ^ (i + j)=s * 65536 ^ (i + j):=by
   rw [bN (65536 ^ (i + j)) 65536,←Nat.mul_assoc,←Nat.add_mul,Nat.div_add_mod']
  have e7:s * 65536 ^ (i + j)=d.getD (i + j) 0 * 65536 ^ (i + j) + a * b * 65536 ^ (i + j) + c * 65536 ^ (i + j):=by rw [hs,Nat.add_mul,Nat.add_mul]
  generalize s / 65536 * (65536 ^ (i + j) * 65536)=A1 at *
  generalize s % 65536 * 65536 ^ (i + j)=A2 at *
  generalize s * 65536 ^ (i + j)=A3 at *
  generalize d.getD (i + j) 0 * 65536 ^ (i + j)=A4 at *
  generalize a * b * 65536 ^ (i + j)=A5 at *
  generalize c * 65536 ^ (i + j)=A6 at *
  generalize a * (n % 65536 ^ j) * 65536 ^ i=A7 at *
  generalize m % 65536 ^ i * n=A8 at *
  omega
 ·rw [zU _ _ _ _ (by rw [h.hd.1];exact hij),aX (by omega)]
  exact h.up p hp
theorem Pr.row {m n i c:Nat} {d:List Nat} (h:Pr m n i 9 c d) (hi:i < 9) (hn:n < 65536 ^ 9):Pr m n (i + 1) 0 0 (d.set (i + 9) c):=by
 refine ⟨Di h.hd _ h.hc,?_,by omega,fun p hp=>?_⟩
 ·have e1:=uV d (i + 9) c (by rw [h.hd.1];omega)
  have e2:=h.eq
  rw [h.up (i + 9) (by omega),Nat.zero_mul] at e1
  rw [Nat.mod_eq_of_lt hn] at e2
  rw [Nat.mod_pow_succ,Nat.zero_mul,Nat.pow_zero,Nat.mod_one,Nat.mul_zero,Nat.zero_mul,Nat.add_mul]
  have e3:65536 ^ i * (m / 65536 ^ i % 65536) * n=m / 65536 ^ i % 65536 * n * 65536 ^ i:=by ac_rfl
  rw [e3]
  omega
 ·rw [zU _ _ _ _ (by rw [h.hd.1];omega),aX (by omega)]
  exact h.up p (by omega)
theorem Pr.start (m n:Nat):Pr m n 0 0 0 zeros:=by
 refine ⟨rZ 0,by simp [Nat.mod_one,num,zeros],by omega,fun p hp=>?_⟩
 rw [aS,zeros,List.getElem?_replicate]
 split <;> rfl
theorem Pr.done {m n:Nat} {d:List Nat} (h:Pr m n 9 0 0 d) (hm:m < 65536 ^ 9):d=dg (m * n):=by
 have e:=h.eq
 rw [Nat.mod_eq_of_lt hm,Nat.pow_zero,Nat.mod_one,Nat.mul_zero,Nat.zero_mul,Nat.add_zero,Nat.add_zero] at e
 rw [←e]
 exact (Sj h.hd).symm
theorem pK.put {nx ny nz:Bool} {dx dy dz:List Nat} {w W:World} (h:pK nx ny nz dx dy dz w W) (k v:Nat):pK nx ny nz dx dy (dz.set k v) w (W.setCell ⟨w.heap.size + 1 + 1 + 1,1 + k,none⟩ (.int .u64 (v:Int))) :=
 ⟨by rw [aH _ _ _ _ (by show _≠w.heap.size + 1 + 1 + 1;omega)];exact h.bx,by rw [aH _ _ _ _ (by show _≠w.heap.size + 1 + 1 + 1;omega)];exact h.wO,by rw [aH _ _ _ _ (by show _≠w.heap.size + 1 + 1 + 1;omega)];exact h.br,
  by rw [aK _ _ _ _ _ _ h.bz,GA],h.below.setCell (p:=⟨w.heap.size + 1 + 1 + 1,1 + k,none⟩) (by show _≤w.heap.size + 1 + 1 + 1;omega) _⟩
theorem pK.drewN {nx ny nz:Bool} {dx dy dz:List Nat} {w W:World} (h:pK nx ny nz dx dy dz w W) (q:Nat):pK nx ny nz dx dy dz w (W.drewN q):=h.up (fG _ _ q)
def MORel (nx ny:Bool) (m n:Nat) (w:World) (g:Nat) (s:Value) (W:World):Prop:=∃ (i:Nat) (d:List Nat),g=9 - i∧s=.int .i64 (i:Int)∧i≤9∧Pr m n i 0 0 d∧pK nx ny false (dg m) (dg n) d w W
def MIRel (nx ny:Bool) (m n i:Nat) (w:World) (g:Nat) (s7 s8:Value) (W:World):Prop:=∃ (j c:Nat) (d:List Nat),g=9 - j∧s7=.int .u64 (c:Int)∧s8=.int .i64 (j:Int)∧j≤9∧Pr m n i j c d∧pK nx ny false (dg m) (dg n) d w W
theorem Ay (nx ny:Bool) (m n:Nat) (w:World) (hm:Hid (m < 65536 ^ 9)) (hn:Hid (n < 65536 ^ 9)) (sg:Bool) (hsg:Hid ((!(nx == ny) && !(dg (m * n) == zeros))=sg)) :
  Calls Tryz.prog 157 #[.agg (eP nx (dg m)),.agg (eP ny (dg n))] w (qB sg (dg (m * n)) w):=by
 have HI0:=aA (ED nx ny (dg m) (dg n) w)
 have TI:=hn
 go_enter Tryz.func157,Tryz.ntmps157
 go_wp2_with fail
 go_loopg [6] 9 (MORel nx ny m n w)
 case atStart=>exact ⟨0,zeros,rfl,rfl,by omega,Pr.start m n,HI0.out⟩
 case round =>
  clear HI0
  obtain ⟨i,d,rfl,rfl,hi9,P,I⟩:=hrel
  by_cases hi:i < 9
  ·have HP:=aA P
   have HI:=aA I
   have i1:(i:Int) < 9:=by omega
   clear P I
   go_wp2_with fail
   go_loopg [7,8] 9 (MIRel nx ny m n i w)
   case atStart=>exact ⟨0,0,d,rfl,rfl,rfl,by omega,HP.out,HI.out⟩
   case round =>
    clear HP HI
    obtain ⟨j,c,d,rfl,rfl,rfl,hj9,P,I⟩:=hrel
    by_cases hj:j < 9
    ·obtain ⟨k,hk⟩:∃ k,i + j=k:=⟨_,rfl⟩
     obtain ⟨a,ha⟩:∃ a,m / 65536 ^ i % 65536=a:=⟨_,rfl⟩
     obtain ⟨b,hb⟩:∃ b,n / 65536 ^ j % 65536=b:=⟨_,rfl⟩
     obtain ⟨z,hz⟩:∃ z,d.getD k 0=z:=⟨_,rfl⟩
     have al:a < 65536:=by omega
     have bl:b < 65536:=by omega
     have zl:z < 65536:=by rw [←hz];exact KN P.hd k
     have cl:=P.hc
     have cx:wr.cell? ⟨w.heap.size,1 + i,none⟩=some (.int .u64 (a:Int)):=by rw [aF _ _ _ _ _ _ I.bx,jW _ _ _ (by rw [gD];omega)];unfold dg;rw [wJ _ _ _ (by omega),ha]
     have cy:wr.cell? ⟨w.heap.size + 1,1 + j,none⟩=some (.int .u64 (b:Int)):=by rw [aF _ _ _ _ _ _ I.wO,jW _ _ _ (by rw [gD];omega)];unfold dg;rw [wJ _ _ _ (by omega),hb]
     have cz:wr.cell? ⟨w.heap.size + 1 + 1 + 1,1 + k,none⟩=some (.int .u64 (z:Int)):=by rw [aF _ _ _ _ _ _ I.bz,jW _ _ _ (by rw [P.hd.1];omega),hz]
     have fz:wr.frozen? ⟨w.heap.size + 1 + 1 + 1,1 + k,none⟩=false:=dU I.bz
     have hab:a * b≤65535 * 65535:=Nat.mul_le_mul (by omega) (by omega)
     obtain ⟨p,hp⟩:∃ p,a * b=p:=⟨_,rfl⟩
     rw [hp] at hab
     obtain ⟨q,hq⟩:∃ q,z + p=q:=⟨_,rfl⟩
     obtain ⟨s,hs⟩:∃ s,q + c=s:=⟨_,rfl⟩
     have N:=P.next (a:=a) (b:=b) (s:=s) (by omega) hj ha hb (by rw [hk,hz,hp,hq,hs])
     rw [hk] at N
     have HN:=aA N
     have NI:=aA (fun q=>(I.drewN q).put k (s % 65536))
     have j1:(j:Int) < 9:=by omega
     have j0:(0:Int)≤(j:Int):=by omega
     have i0:(0:Int)≤(i:Int):=by omega
     have k0:(0:Int)≤(k:Int):=by omega
     have k1:(k:Int) < 20:=by omega
     have i2:(i:Int) < 20:=by omega
     have j2:(j:Int) < 20:=by omega
     have E0:IntKind.i64.wrap ((i:Int) + (j:Int))=(k:Int):=by rw [aZ];omega
     have E00:(i:Int) + (j:Int)=(k:Int):=by omega
     have pz:((a:Int) * (b:Int))=(p:Int):=by rw [←hp];push_cast;rfl
     have E1:IntKind.u64.wrap ((a:Int) * (b:Int))=(p:Int):=by rw [pz,aU];omega
     have E2:IntKind.u64.wrap ((z:Int) + (p:Int))=(q:Int):=by rw [aU];omega
     have E3:IntKind.u64.wrap ((q:Int) + (c:Int))=(s:Int):=by rw [aU];omega
     have SL:=aA (show s < 4300000000 by omega)
     have HK:=aA hk
     clear P I ha hb hz hab hp hq hs N al bl zl cl pz hk
     go_wp2_with fail
     go_quiet (fail)
     clear E0 E1 E2 E3 cx cy
     go_wp2_with fail
     go_roundg (9 - (j + 1))
     case measure=>omega
     case rel =>
      exact ⟨j + 1,s / 65536,_,rfl,by rw [show IntKind.u64.wrap ((s:Int) / 65536)=((s / 65536:Nat):Int) by rw [aU];have:=SL.out;omega],by go_num,by omega,HN.out,by have:=NI.out nq;simpa using this⟩
    ·obtain rfl:j=9:=by omega
     have j1:¬ (((9:Nat):Int) < 9):=by omega
     have R:=aA (P.row hi (TI.out))
     have RI:=aA (I.put (i + 9) c)
     obtain ⟨k,hk⟩:∃ k,i + 9=k:=⟨_,rfl⟩
     obtain ⟨z,hz⟩:∃ z,d.getD k 0=z:=⟨_,rfl⟩
     have cz:wr.cell? ⟨w.heap.size + 1 + 1 + 1,1 + k,none⟩=some (.int .u64 (z:Int)):=by rw [aF _ _ _ _ _ _ I.bz,jW _ _ _ (by rw [P.hd.1];omega),hz]
     have fz:wr.frozen? ⟨w.heap.size + 1 + 1 + 1,1 + k,none⟩=false:=dU I.bz
     rw [hk] at R RI
     have i0:(0:Int)≤(i:Int):=by omega
     have k0:(0:Int)≤(k:Int):=by omega
     have k1:(k:Int) < 20:=by omega
     have E0:IntKind.i64.wrap ((i:Int) + 9)=(k:Int):=by rw [aZ];omega
     have E00:(i:Int) + 9=(k:Int):=by omega
     clear P I hz hk
     go_wp2_with fail
     go_roundg (9 - (i + 1))
     case measure=>omega
     case rel=>exact ⟨i + 1,_,rfl,by go_num,by omega,R.out,RI.out⟩
  ·obtain rfl:i=9:=by omega
   have i1:¬ (((9:Nat):Int) < 9):=by omega
   obtain rfl:=P.done hm.out
   have HII:=aA I
   obtain ⟨g0,g1,g2,g3⟩:=I.heads
   have BZ:=aA I.bz
   have IZ:=aA (fK false (dg (m * n)) (gD _))
   have IS:=aA (fK sg (dg (m * n)) (gD _))
   have SR:=aA (iG false sg zeros (dg (m * n)) rfl (gD _))
   have NN:=aA (fun w=>mG false (dg (m * n)) w (gD _))
   clear P I
   by_cases hs:nx=ny
   ·obtain rfl:sg=false:=by have:=hsg.out;simp [hs] at this;exact this
    subst hs
    have I3:=HII.out.sign false
    have B3:=aA I3.bz
    have R3:=aA I3.br
    have L3:=aA I3.below
    clear I3
    go_wp2_with (first | (refine wpList_load_row rfl 214 (.tmp 5) rfl (w.heap.size + 1 + 1 + 1) rfl _ _ _ _ B3.out aD rfl IS.out ?_) | (refine dQ rfl 214 (.tmp 4) (.tmp 61) rfl (w.heap.size + 1 + 1) _ _ (eP false (dg (m * n))) rfl rfl R3.out IS.out SR.out (gV _ _) ?_))
    refine aO (v:=.agg (eP false (dg (m * n)))) (results_cell_row rfl _ _ (w.heap.size + 1 + 1) _ _ _ _ rfl (setRow_heap _ _ _ _ _ _ R3.out) aD rfl IS.out) rfl ?_
    exact ⟨rfl,Below.row L3.out (by omega) _⟩
   ·have hs1:(nx == ny)=false:=by simpa using hs
    have hs2:(nx != ny)=true:=by simpa using hs
    have hz:(!(dg (m * n) == zeros))=sg:=by have:=hsg.out;rw [hs1] at this;simpa using this
    have HZ:=aA hz
    clear hz
    cases nx <;> cases ny <;> first | exact absurd rfl hs | skip
    all_goals
     go_wp2_with (refine iT (by kernel_rfl) 214 (.tmp 5) rfl (w.heap.size + 1 + 1 + 1) rfl _ _ _ _ BZ.out aD rfl IZ.out ?_)
     refine (NN.out _).mono ?_
     rintro e w4 ⟨rfl,hb4⟩
     have I4:=HII.out.up hb4
     obtain ⟨n0,n1,n2,n3⟩:=I4.heads
     have I5:=I4.sign sg
     have B5:=aA I5.bz
     have R3:=aA I5.br
     have L3:=aA I5.below
     have hz:=HZ.out
     clear I4 I5 hb4 g0 g1 g2 g3
     generalize (dg (m * n) == zeros)=zq at hz ⊢
     go_wp2_with (first | (refine wpList_load_row rfl 214 (.tmp 5) rfl (w.heap.size + 1 + 1 + 1) rfl _ _ _ _ B5.out aD rfl IS.out ?_) | (refine dQ rfl 214 (.tmp 4) (.tmp 61) rfl (w.heap.size + 1 + 1) _ _ (eP sg (dg (m * n))) rfl rfl R3.out IS.out SR.out (gV _ _) ?_))
     refine aO (v:=.agg (eP sg (dg (m * n)))) (results_cell_row rfl _ _ (w.heap.size + 1 + 1) _ _ _ _ rfl (setRow_heap _ _ _ _ _ _ R3.out) aD rfl IS.out) rfl ?_
     exact ⟨rfl,Below.row L3.out (by omega) _⟩
theorem Nj (x y:Int) (w:World) (hx:x.natAbs < 65536 ^ 9) (hy:y.natAbs < 65536 ^ 9):Calls Tryz.prog 157 #[.agg (bv x),.agg (bv y)] w (GH (x * y) w):=by
 have hlt:x.natAbs * y.natAbs < BB:=by
  unfold BB
  calc x.natAbs * y.natAbs < 65536 ^ 9 * 65536 ^ 9:=Nat.mul_lt_mul'' hx hy
   _≤65536 ^ 20:=by decide
 refine (Ay (decide (x < 0)) (decide (y < 0)) x.natAbs y.natAbs w (aA hx) (aA hy) (decide (x * y < 0)) (aA ?_)).mono ?_
 ·rw [oF hlt,Bool.eq_iff_iff]
  have h0:x.natAbs * y.natAbs=(x * y).natAbs:=(Int.natAbs_mul x y).symm
  rw [h0]
  simp only [Bool.and_eq_true,Bool.not_eq_true',beq_eq_false_iff_ne,ne_eq,bY,decide_eq_true_eq,decide_eq_false_iff_not]
  rcases Int.lt_trichotomy x 0 with hx0 | hx0 | hx0
  ·rcases Int.lt_trichotomy y 0 with hy0 | hy0 | hy0
   ·have:=Int.mul_pos_of_neg_of_neg hx0 hy0
    omega
   ·subst hy0;simp
   ·have:=Int.mul_neg_of_neg_of_pos hx0 hy0
    omega
  ·subst hx0;simp
  ·rcases Int.lt_trichotomy y 0 with hy0 | hy0 | hy0
   ·have:=Int.mul_neg_of_pos_of_neg hx0 hy0
    omega
   ·subst hy0;simp
   ·have:=Int.mul_pos hx0 hy0
    omega
 ·rintro e w' ⟨rfl,hb⟩
  exact ⟨by rw [AB (z:=x * y) rfl (by rw [Int.natAbs_mul])],hb⟩
def dZ (g:Nat) (z:Int) (W:World):Prop:=W.heap[g]?=some (.cells (bv z) 214 (0,0))
theorem dZ.below {W X:World} {g:Nat} {z:Int} (hb:Below W.heap.size W X) (h:dZ g z W):dZ g z X:=dV hb h
theorem eD (z:Int):(Tryz.prog.info? 214).map (·.size)=some (bv z).size:=fK _ _ (gD _)
theorem gI (x z:Int):(bv x).size=(bv z).size:=iG _ _ _ _ (gD _) (gD _)
theorem gZ (z:Int):(bv z).all (·.oneCell')=true:=gV _ _
theorem dZ.head {g:Nat} {z:Int} {W:World} (h:dZ g z W):W.cell? ⟨g,0,none⟩=some (.bool (decide (z < 0))):=by rw [aF _ _ _ _ _ _ h];exact sH _ _
theorem dZ.Si {g:Nat} {z:Int} {W:World} (h:dZ g z W) (k:Nat) (hk:k < 20):W.cell? ⟨g,1 + k,none⟩=some (.int .u64 ((z.natAbs / 65536 ^ k % 65536:Nat):Int)):=by
 rw [aF _ _ _ _ _ _ h]
 unfold bv
 rw [jW _ _ _ (by rw [gD];exact hk)]
 unfold dg
 rw [wJ _ _ _ hk]
theorem VF (x y n z:Int) (b:Bool) (w:World) (cN:Hid (pO 168 #[.agg (bv y)] (.agg (bv n)))) (cA:Hid (pO 158 #[.agg (bv x),.agg (bv n)] (.agg (bv z)))) (hz:Hid (decide (z < 0)=b)) :
  Calls Tryz.prog 170 #[.agg (bv x),.agg (bv y)] w fun e w'=>e=.returned (.bool b)∧Below w.heap.size w w':=by
 go_enter Tryz.func170,Tryz.ntmps170
 go_wp2_with fail
 have rX:dZ w.heap.size x ((w.alloc (.cells (bv x) 214)).alloc (.cells (bv y) 214)):=dW (aG _ _)
 have rY:dZ (w.heap.size + 1) y ((w.alloc (.cells (bv x) 214)).alloc (.cells (bv y) 214)):=heap_alloc2_new _ _ _
 have xE:Below w.heap.size w ((w.alloc (.cells (bv x) 214)).alloc (.cells (bv y) 214)):=by go_grown
 generalize ((w.alloc (.cells (bv x) 214)).alloc (.cells (bv y) 214))=V at rX rY xE ⊢
 have HX:=aA rX
 have HY:=aA rY
 have XP:=aA xE
 clear rX rY xE
 try rename_i KK Gh
 have HT:∀ (Bq:Nat) (Wf:World),dZ Bq z Wf→Below V.heap.size V Wf→KK { tmps:=#[.agg (bv x),.agg (bv y),.pointer (some ⟨w.heap.size,0,none⟩),.pointer (some ⟨w.heap.size + 1,0,none⟩),.bool false,.pointer (some ⟨Bq,0,none⟩),.agg (bv x),.agg (bv y),.agg (bv n),.agg (bv z),undef,undef],defers:=[] } Wf:=by
  intro Bq Wf hq hb
  refine Gh _ _ ?_
  have HB2:=aA (dY XP.out hb)
  have hc:=hq.head
  rw [hz.out] at hc
  clear Gh hq hb HX HY XP
  go_wp2_with fail
  go_ret
  exact ⟨rfl,HB2.out⟩
 refine (bG (n:=5)).1 (fD (F:=Fence.wide) (S:=fun X=>Below V.heap.size V X) (by kernel_rfl) (fG _ _ 1) (fun hHeld=>?_))
 refine dP (fun _=>trivial) (by kernel_rfl) (i:=0) (oi:=_) (v:=.agg (bv x)) rfl (by kernel_rfl) (by kernel_rfl) (by kernel_rfl) (fun _ _ _ h=>h) (by assumption) (Or.inl ⟨by kernel_rfl,?_⟩) ?_
 ·intro wz hSw;exact eO 214 (.tmp 2) (by kernel_rfl) (w.heap.size) (by kernel_rfl) _ _ _ _ (dZ.below hSw HX.out) aD (by kernel_rfl) (eD _)
 try simp only [aQ]
 refine dP (fun _=>trivial) (by kernel_rfl) (i:=1) (oi:=_) (v:=.agg (bv y)) rfl (by kernel_rfl) (by kernel_rfl) (by kernel_rfl) (fun _ _ _ h=>h) (by assumption) (Or.inl ⟨by kernel_rfl,?_⟩) ?_
 ·intro wz hSw;exact eO 214 (.tmp 3) (by kernel_rfl) (w.heap.size + 1) (by kernel_rfl) _ _ _ _ (dZ.below hSw HY.out) aD (by kernel_rfl) (eD _)
 try simp only [aQ]
 refine kL (fun _=>trivial) (i:=2) (j:=4) (o:=_) (o2:=_) (by kernel_rfl) rfl rfl (fun K hK=>?_) (fun K hK=>?_)
 ·go_simp
  refine ⟨trivial,aW.2 ((cN.out _).mono ?_)⟩
  rintro e x1 ⟨rfl,hb1⟩
  dsimp only
  refine hK.out _ _ (dY hHeld hb1) (fun hHeld=>?_)
  clear hK K
  try simp only [aQ]
  refine kL (fun _=>trivial) (i:=3) (j:=4) (o:=_) (o2:=_) (by kernel_rfl) rfl rfl (fun K hK=>?_) (fun K hK=>?_)
  ·go_simp
   refine ⟨trivial,aW.2 ((cA.out _).mono ?_)⟩
   rintro e x2 ⟨rfl,hb2⟩
   dsimp only
   refine hK.out _ _ (dY hHeld hb2) (fun hHeld=>?_)
   clear hK K
   try simp only [aQ]
   refine dX (fun _=>trivial) (i:=4) (o:=_) (by kernel_rfl) rfl (fun K hK=>?_)
   have Zr:V.heap.size≤x2.heap.size:=hHeld.size
   go_simp
   have hrow:=aG (x2) ((.cells #[.bool false,.int .u64 0,.int .u64 0,.int .u64 0,.int .u64 0,.int .u64 0,.int .u64 0,.int .u64 0,.int .u64 0,.int .u64 0,.int .u64 0,.int .u64 0,.int .u64 0,.int .u64 0,.int .u64 0,.int .u64 0,.int .u64 0,.int .u64 0,.int .u64 0,.int .u64 0,.int .u64 0] 214))
   refine hK.out _ _ (hHeld.alloc hHeld.size _) (fun hHeld=>?_)
   clear hK K
   try simp only [aQ]
   refine dX (fun _=>trivial) (i:=5) (o:=_) (by kernel_rfl) rfl (fun K hK=>?_)
   rw [aT (by kernel_rfl)]
   refine eY (fun _=>trivial) 214 (.tmp 5) (.tmp 9) (by kernel_rfl) (x2.heap.size) _ _ (bv z) (by kernel_rfl) (by kernel_rfl) hrow (eD _) (gI 0 _) (gZ _) ?_
   refine hK.out _ _ (Below.row hHeld Zr _) (fun hHeld=>?_)
   clear hK K
   try simp only [aQ]
   refine fC (by kernel_rfl) ?_ _
   exact HT (x2.heap.size) _ (setRow_heap _ _ _ _ _ _ hrow) hHeld
  ·have Zr:V.heap.size≤x1.heap.size:=hHeld.size
   go_simp
   have hrow:=aG (x1) ((.cells #[.bool false,.int .u64 0,.int .u64 0,.int .u64 0,.int .u64 0,.int .u64 0,.int .u64 0,.int .u64 0,.int .u64 0,.int .u64 0,.int .u64 0,.int .u64 0,.int .u64 0,.int .u64 0,.int .u64 0,.int .u64 0,.int .u64 0,.int .u64 0,.int .u64 0,.int .u64 0,.int .u64 0] 214))
   refine hK.out _ _ (hHeld.alloc hHeld.size _) (fun hHeld=>?_)
   clear hK K
   try simp only [aQ]
   refine dX (fun _=>trivial) (i:=3) (o:=_) (by kernel_rfl) rfl (fun K hK=>?_)
   go_simp
   refine ⟨trivial,aW.2 ((cA.out _).mono ?_)⟩
   rintro e x2 ⟨rfl,hb2⟩
   dsimp only
   replace hrow:=dV hb2 hrow
   refine hK.out _ _ (dY hHeld hb2) (fun hHeld=>?_)
   clear hK K
   try simp only [aQ]
   refine dX (fun _=>trivial) (i:=5) (o:=_) (by kernel_rfl) rfl (fun K hK=>?_)
   rw [aT (by kernel_rfl)]
   refine eY (fun _=>trivial) 214 (.tmp 5) (.tmp 9) (by kernel_rfl) (x1.heap.size) _ _ (bv z) (by kernel_rfl) (by kernel_rfl) hrow (eD _) (gI 0 _) (gZ _) ?_
   refine hK.out _ _ (Below.row hHeld Zr _) (fun hHeld=>?_)
   clear hK K
   try simp only [aQ]
   refine fC (by kernel_rfl) ?_ _
   exact HT (x1.heap.size) _ (setRow_heap _ _ _ _ _ _ hrow) hHeld
 ·have Zr:V.heap.size≤V.heap.size:=hHeld.size
  go_simp
  have hrow:=aG (V.drew) ((.cells #[.bool false,.int .u64 0,.int .u64 0,.int .u64 0,.int .u64 0,.int .u64 0,.int .u64 0,.int .u64 0,.int .u64 0,.int .u64 0,.int .u64 0,.int .u64 0,.int .u64 0,.int .u64 0,.int .u64 0,.int .u64 0,.int .u64 0,.int .u64 0,.int .u64 0,.int .u64 0,.int .u64 0] 214))
  refine hK.out _ _ (hHeld.alloc hHeld.size _) (fun hHeld=>?_)
  clear hK K
  try simp only [aQ]
  refine dX (fun _=>trivial) (i:=2) (o:=_) (by kernel_rfl) rfl (fun K hK=>?_)
  go_simp
  refine ⟨trivial,aW.2 ((cN.out _).mono ?_)⟩
  rintro e x1 ⟨rfl,hb1⟩
  dsimp only
  replace hrow:=dV hb1 hrow
  refine hK.out _ _ (dY hHeld hb1) (fun hHeld=>?_)
  clear hK K
  try simp only [aQ]
  refine dX (fun _=>trivial) (i:=3) (o:=_) (by kernel_rfl) rfl (fun K hK=>?_)
  go_simp
  refine ⟨trivial,aW.2 ((cA.out _).mono ?_)⟩
  rintro e x2 ⟨rfl,hb2⟩
  dsimp only
  replace hrow:=dV hb2 hrow
  refine hK.out _ _ (dY hHeld hb2) (fun hHeld=>?_)
  clear hK K
  try simp only [aQ]
  refine dX (fun _=>trivial) (i:=5) (o:=_) (by kernel_rfl) rfl (fun K hK=>?_)
  rw [aT (by kernel_rfl)]
  refine eY (fun _=>trivial) 214 (.tmp 5) (.tmp 9) (by kernel_rfl) (V.heap.size) _ _ (bv z) (by kernel_rfl) (by kernel_rfl) hrow (eD _) (gI 0 _) (gZ _) ?_
  refine hK.out _ _ (Below.row hHeld Zr _) (fun hHeld=>?_)
  clear hK K
  try simp only [aQ]
  refine fC (by kernel_rfl) ?_ _
  exact HT (V.heap.size) _ (setRow_heap _ _ _ _ _ _ hrow) hHeld
theorem Bh (x y:Int) (w:World) (h:x.natAbs + y.natAbs < BB):Calls Tryz.prog 170 #[.agg (bv x),.agg (bv y)] w fun e w'=>e=.returned (.bool (decide (x < y)))∧Below w.heap.size w w' :=
 VF x y (-y) (x + -y) _ w (aA fun w=>Av y w (by omega)) (aA fun w=>KS x (-y) w (by omega)) (aA (by rw [bY];omega))
structure FrI (h:Int) (l:Nat) (p:List Nat) (w W:World):Prop where
 bw:W.heap[w.heap.size]?=some (.cells #[.int .i64 h,.int .u64 l] 220 (0,0))
 br:W.heap[w.heap.size + 1]?=some (.cells (eP false zeros) 214 (0,0))
 bl:W.heap[w.heap.size + 1 + 1]?=some (.cells (eP false (pad p)) 214 (0,0))
 below:Below w.heap.size w W
theorem FrI.next {h:Int} {l:Nat} {p:List Nat} {w W:World} (i:FrI h l p w W) (v:Nat) (hp:p.length < 20):FrI h l (p ++ [v]) w (W.setCell ⟨w.heap.size + 1 + 1,1 + p.length,none⟩ (.int .u64 (v:Int))):=by
 refine ⟨?_,?_,?_,i.below.setCell (p:=⟨w.heap.size + 1 + 1,1 + p.length,none⟩) (by show _≤w.heap.size + 1 + 1;omega) _⟩
 ·rw [aH _ _ _ _ (by show _≠w.heap.size + 1 + 1;omega)];exact i.bw
 ·rw [aH _ _ _ _ (by show _≠w.heap.size + 1 + 1;omega)];exact i.br
 ·rw [aK _ _ _ _ _ _ i.bl,xQ p v false hp]
structure Pm (h:Int) (l:Nat) (w W:World):Prop where
 bw:W.heap[w.heap.size]?=some (.cells #[.int .i64 h,.int .u64 l] 220 (0,0))
 bl:dZ (w.heap.size + 1 + 1) (l:Int) W
 below:Below w.heap.size w W
theorem Pm.up {h:Int} {l:Nat} {w W X:World} (i:Pm h l w W) (hb:Below W.heap.size W X):Pm h l w X:=⟨dV hb i.bw,dZ.below hb i.bl,dY i.below hb⟩
theorem Pm.c0 {h:Int} {l:Nat} {w W:World} (i:Pm h l w W):W.cell? ⟨w.heap.size,0,none⟩=some (.int .i64 h):=by rw [aF _ _ _ _ _ _ i.bw];rfl
theorem Pm.put {h:Int} {l:Nat} {w W:World} (i:Pm h l w W) (c:Array Value):Pm h l w (W.setRow (w.heap.size + 1) c) :=
 ⟨by rw [setRow_other _ _ _ _ (by omega)];exact i.bw,by unfold dZ;rw [setRow_other _ _ _ _ (by omega)];exact i.bl,Below.row i.below (by omega) _⟩
theorem fJ {P:Program} {fn:Func} {p u:Tmp} {ty:TypeId} (h:fn.results=#[.cell p ty,.tmp u]) (tmps:Array Value) (w:World) (g:Nat) (t:TypeId) (cs:Array Value) (fr:Nat×Nat) (d:TypeDesc) (v:Value)
  (hp:tmps.getD p undef=.pointer (some ⟨g,0,none⟩)) (hg:w.heap[g]?=some (.cells cs t fr))
  (hu:P.underlying ty=some d) (hd:(match d with | .struct _ | .array _ _=>true | _=>false)=true) (hi:(P.info? ty).map (·.size)=some cs.size) (hv:tmps.getD u undef=v) :
  (results fn tmps).run P w=.ok (.tuple #[.agg cs,v]) w:=by
 rw [results_cell_tmp h,hp,hv]
 simp [asAddr,Result.andThen,run_loadVar_row w g t ty cs fr d hg hu hd hi]
def WideAt (g:Nat) (h:Int) (l:Nat) (W:World):Prop:=W.heap[g]?=some (.cells #[.int .i64 h,.int .u64 l] 220 (0,0))
theorem WideAt.below {W X:World} {g l:Nat} {h:Int} (hb:Below W.heap.size W X) (i:WideAt g h l W):WideAt g h l X:=dV hb i
theorem WideAt.c0 {W:World} {g l:Nat} {h:Int} (i:WideAt g h l W):W.cell? ⟨g,0,none⟩=some (.int .i64 h):=by rw [aF _ _ _ _ _ _ i];rfl
theorem WideAt.c1 {W:World} {g l:Nat} {h:Int} (i:WideAt g h l W):W.cell? ⟨g,1,none⟩=some (.int .u64 (l:Int)):=by rw [aF _ _ _ _ _ _ i];rfl
theorem WideAt.fr {W:World} {g l:Nat} {h:Int} (i:WideAt g h l W) (j:Nat):W.frozen? ⟨g,j,none⟩=false:=dU i
theorem WideAt.nU {W:World} {g b l:Nat} {a h:Int} (i:WideAt g a b W):WideAt g h l ((W.setCell ⟨g,0,none⟩ (.int .i64 h)).setCell ⟨g,1,none⟩ (.int .u64 (l:Int))):=by
 unfold WideAt
 rw [aK _ _ _ _ _ _ (aK _ _ _ _ _ _ i)]
 rfl
theorem Below.nU {B:Nat} {v W:World} {g:Nat} (hb:Below B v W) (hg:B≤g) (x y:Value):Below B v ((W.setCell ⟨g,0,none⟩ x).setCell ⟨g,1,none⟩ y) :=
 (hb.setCell (p:=⟨g,0,none⟩) hg _).setCell (p:=⟨g,1,none⟩) hg _
theorem lW {F:Fence} {n:Nat} {P:Program} {o:Oper} {a:Act} {w:World} {K:Act→World→Prop} {Q:Exit→Act→World→Prop} (hF:∀ f,F.fn f) (ty:TypeId) (x:Operand) (ho:o.op=.load ty x)
  (g:Nat) (hx:a.eval x=.pointer (some ⟨g,0,none⟩)) (t:TypeId) (cs:Array Value) (fr:Nat×Nat) (d:TypeDesc) (hg:w.heap[g]?=some (.cells cs t fr))
  (hu:P.underlying ty=some d) (hd:(match d with | .struct _ | .array _ _=>true | _=>false)=true) (hi:(P.info? ty).map (·.size)=some cs.size) (h:K (a.put o.dst (.agg cs)) w):Oper.wpIn F n P o a w K Q:=by
 unfold Oper.wpIn
 rw [Oper.semAt_plain F _ _ (by intro c e;rw [ho] at e;cases e)]
 rw [eO ty x ho g hx t cs fr d hg hu hd hi]
 exact ⟨fun f _=>hF f,h⟩
structure ToI (y:Nat) (w W:World):Prop where
 bx:dZ w.heap.size (y:Int) W
 br:WideAt (w.heap.size + 1) 0 0 W
 below:Below w.heap.size w W
structure WO (x:Int) (w W:World):Prop where
 bx:dZ w.heap.size x W
 br:WideAt (w.heap.size + 1) 0 0 W
 below:Below w.heap.size w W
theorem WO.up {x:Int} {w W X:World} (i:WO x w W) (hb:Below W.heap.size W X):WO x w X:=⟨dZ.below hb i.bx,WideAt.below hb i.br,dY i.below hb⟩
theorem WO.put {x:Int} {w W:World} (y:Nat) (i:WO x w W):ToI y w (W.setRow w.heap.size (bv (y:Int))) :=
 ⟨setRow_heap _ _ _ _ _ _ i.bx,by unfold WideAt;rw [setRow_other _ _ _ _ (by omega)];exact i.br,Below.row i.below (aB _) _⟩
def Ol (y:Nat) (w:World) (g:Nat) (s5 s6 s7:Value) (W:World):Prop :=
 ∃ k:Nat,g=k∧s5=.int .u64 ((y / 65536 ^ k % 65536 ^ (4 - k):Nat):Int)∧s6=.int .u64 ((y / 65536 ^ (k + 4) % 65536 ^ (4 - k):Nat):Int)∧s7=.int .i64 ((k:Int) - 1)∧k≤4∧ToI y w W
theorem xM (y k:Nat) (hk:k < 4):y / 65536 ^ k % 65536 ^ (4 - k)=y / 65536 ^ (k + 1) % 65536 ^ (4 - (k + 1)) * 65536 + y / 65536 ^ k % 65536:=by
 have h1:y / 65536 ^ (k + 1)=y / 65536 ^ k / 65536:=by rw [bM,Nat.div_div_eq_div_mul]
 obtain ⟨m,hm⟩:∃ m,4 - (k + 1)=m:=⟨_,rfl⟩
 rw [h1,hm,show 4 - k=m + 1 by omega]
 generalize y / 65536 ^ k=q
 rw [bM,bN (65536 ^ m) 65536,Nat.mod_mul]
 omega
theorem PI (y k:Nat) (hk:1≤k):y % 65536 ^ (4 - k) < 281474976710656:=by
 have h1:y % 65536 ^ (4 - k) < 65536 ^ (4 - k):=cK _ (Nat.pow_pos (by omega))
 have h2:65536 ^ (4 - k)≤65536 ^ 3:=Nat.pow_le_pow_right (by omega) (by omega)
 have h3:(65536:Nat) ^ 3=281474976710656:=by decide
 omega
theorem Pw (x t:Int) (w:World) (cT:Hid (pO 169 #[.int .i64 127] (.agg (bv t)))) (cL:Hid (pO 170 #[.agg (bv x),.agg (bv t)] (.bool false)))
  : Calls Tryz.prog 160 #[.agg (bv x)] w (fun e w'=>e=.returned (.tuple #[.agg #[.int .i64 0,.int .u64 0],.bool false])∧Below w.heap.size w w'):=by
 go_enter Tryz.func160,Tryz.ntmps160
 go_wp2_with fail
 refine (cT.out _).mono ?_
 rintro e w1 ⟨rfl,hb1⟩
 have rX:dZ w.heap.size x (w1.alloc (.cells (bv t) 214)):=dW (dZ.below hb1 (dW (aG _ _)))
 have rR:WideAt (w.heap.size + 1) 0 0 (w1.alloc (.cells (bv t) 214)):=dW (WideAt.below hb1 (heap_alloc2_new _ _ _))
 have rT:dZ w1.heap.size t (w1.alloc (.cells (bv t) 214)):=aG _ _
 have hfalse:Below w.heap.size w w1:=(by go_grown:Below w.heap.size w ((w.alloc (.cells (bv x) 214)).alloc (.cells #[.int .i64 0,.int .u64 0] 220))).trans (hb1.mono (by simp;omega))
 have xE:Below w.heap.size w (w1.alloc (.cells (bv t) 214)):=hfalse.alloc hfalse.size _
 have hsz:w.heap.size + 1 < w1.heap.size:=by have:=hb1.size;simp at this;omega
 clear hb1 hfalse
 go_wp2_with (refine fB rfl 214 (.tmp 4) (.tmp 8) rfl w1.heap.size _ _ (bv t) rfl rfl rfl (eD _) (gI 0 _) (gZ _) ?_)
 generalize (w1.alloc (.cells (bv t) 214))=V at rX rR rT xE ⊢
 generalize w1.heap.size=B at rT hsz ⊢
 have HX:=aA rX
 have HR:=aA rR
 have HT:=aA rT
 have XP:=aA xE
 clear rX rR rT xE
 try rename_i KK Gh
 refine (bG (n:=5)).1 (fD (F:=Fence.wide) (S:=fun X=>Below V.heap.size V X) (by kernel_rfl) (fG _ _ 1) (fun hHeld=>?_))
 refine dP (fun _=>trivial) (by kernel_rfl) (i:=0) (oi:=_) (v:=.agg (bv x)) rfl (by kernel_rfl) (by kernel_rfl) (by kernel_rfl) (fun _ _ _ h=>h) (by assumption) (Or.inl ⟨by kernel_rfl,?_⟩) ?_
 ·intro wz hSw;exact eO 214 (.tmp 1) (by kernel_rfl) (w.heap.size) (by kernel_rfl) _ _ _ _ (dZ.below hSw HX.out) aD (by kernel_rfl) (eD _)
 try simp only [aQ]
 refine dP (fun _=>trivial) (by kernel_rfl) (i:=1) (oi:=_) (v:=.agg (bv t)) rfl (by kernel_rfl) (by kernel_rfl) (by kernel_rfl) (fun _ _ _ h=>h) (by assumption) (Or.inl ⟨by kernel_rfl,?_⟩) ?_
 ·intro wz hSw;exact eO 214 (.tmp 4) (by kernel_rfl) (B) (by kernel_rfl) _ _ _ _ (dZ.below hSw HT.out) aD (by kernel_rfl) (eD _)
 try simp only [aQ]
 refine dX (fun _=>trivial) (i:=2) (o:=_) (by kernel_rfl) rfl (fun K hK=>?_)
 go_simp
 refine ⟨trivial,aW.2 ((cL.out _).mono ?_)⟩
 rintro e x1 ⟨rfl,hb1⟩
 dsimp only
 refine hK.out _ _ (dY hHeld hb1) (fun hHeld=>?_)
 clear hK K
 try simp only [aQ]
 refine dP (fun _=>trivial) (by kernel_rfl) (i:=3) (oi:=_) (v:=?_) rfl (by kernel_rfl) (by kernel_rfl) (by kernel_rfl) (fun _ _ _ h=>h) (by assumption) (Or.inl ⟨by kernel_rfl,?_⟩) ?_
 rotate_left
 ·intro wz hSw;(first | (go_simp;done) | (go_simp;with_reducible rfl))
 try simp only [aQ]
 refine dP (fun _=>trivial) (by kernel_rfl) (i:=4) (oi:=_) (v:=?_) rfl (by kernel_rfl) (by kernel_rfl) (by kernel_rfl) (fun _ _ _ h=>h) (by assumption) (Or.inl ⟨by kernel_rfl,?_⟩) ?_
 rotate_left
 ·intro wz hSw;(first | (go_simp;done) | (go_simp;with_reducible rfl))
 try simp only [aQ]
 refine dP (fun _=>trivial) (by kernel_rfl) (i:=5) (oi:=_) (v:=undef) rfl (by kernel_rfl) (by kernel_rfl) (by kernel_rfl) (fun _ _ _ h=>h) (by assumption) (Or.inr ⟨by kernel_rfl,rfl⟩) ?_
 try simp only [aQ]
 refine dP (fun _=>trivial) (by kernel_rfl) (i:=6) (oi:=_) (v:=undef) rfl (by kernel_rfl) (by kernel_rfl) (by kernel_rfl) (fun _ _ _ h=>h) (by assumption) (Or.inr ⟨by kernel_rfl,rfl⟩) ?_
 try simp only [aQ]
 refine dX (fun _=>trivial) (i:=7) (o:=_) (by kernel_rfl) rfl (fun K hK=>?_)
 go_simp
 refine hK.out _ _ (hHeld) (fun hHeld=>?_)
 clear hK K
 try simp only [aQ]
 refine dX (fun _=>trivial) (i:=8) (o:=_) (by kernel_rfl) rfl (fun K hK=>?_)
 go_simp
 refine hK.out _ _ (hHeld) (fun hHeld=>?_)
 clear hK K
 try simp only [aQ]
 refine dP (fun _=>trivial) (by kernel_rfl) (i:=9) (oi:=_) (v:=?_) rfl (by kernel_rfl) (by kernel_rfl) (by kernel_rfl) (fun _ _ _ h=>h) (by assumption) (Or.inl ⟨by kernel_rfl,?_⟩) ?_
 rotate_left
 ·intro wz hSw;(first | (go_simp;done) | (go_simp;with_reducible rfl))
 try simp only [aQ]
 refine fC (by kernel_rfl) ?_ _
 first | (refine Gh _ _ ?_) | skip
 have RR:=aA (WideAt.below hHeld HR.out)
 have c0:=RR.out.c0
 have c1:=RR.out.c1
 have f0:=RR.out.fr 0
 have f1:=RR.out.fr 1
 have HB:=aA (dY XP.out hHeld)
 clear hHeld
 go_wp2_with fail
 (try simp only [Exit.inBlock,Exit.then])
 refine aO (v:=.tuple #[.agg #[.int .i64 0,.int .u64 0],.bool false]) (fJ rfl _ _ (w.heap.size + 1) _ _ _ _ _ rfl (WideAt.nU (h:=0) (l:=0) RR.out) Tryz.underlying220 rfl (by kernel_rfl) rfl) rfl ?_
 exact ⟨rfl,Below.nU HB.out (by omega) _ _⟩
theorem YT (x t n:Int) (w:World) (cT:Hid (pO 169 #[.int .i64 127] (.agg (bv t)))) (cL:Hid (pO 170 #[.agg (bv x),.agg (bv t)] (.bool true))) (cN:Hid (pO 168 #[.agg (bv t)] (.agg (bv n)))) (Du:Hid (pO 170 #[.agg (bv x),.agg (bv n)] (.bool true)))
  : Calls Tryz.prog 160 #[.agg (bv x)] w (fun e w'=>e=.returned (.tuple #[.agg #[.int .i64 0,.int .u64 0],.bool false])∧Below w.heap.size w w'):=by
 go_enter Tryz.func160,Tryz.ntmps160
 go_wp2_with fail
 refine (cT.out _).mono ?_
 rintro e w1 ⟨rfl,hb1⟩
 have rX:dZ w.heap.size x (w1.alloc (.cells (bv t) 214)):=dW (dZ.below hb1 (dW (aG _ _)))
 have rR:WideAt (w.heap.size + 1) 0 0 (w1.alloc (.cells (bv t) 214)):=dW (WideAt.below hb1 (heap_alloc2_new _ _ _))
 have rT:dZ w1.heap.size t (w1.alloc (.cells (bv t) 214)):=aG _ _
 have rQ:Below w.heap.size w w1:=(by go_grown:Below w.heap.size w ((w.alloc (.cells (bv x) 214)).alloc (.cells #[.int .i64 0,.int .u64 0] 220))).trans (hb1.mono (by simp;omega))
 have xE:Below w.heap.size w (w1.alloc (.cells (bv t) 214)):=rQ.alloc rQ.size _
 have hsz:w.heap.size + 1 < w1.heap.size:=by have:=hb1.size;simp at this;omega
 clear hb1 rQ
 go_wp2_with (refine fB rfl 214 (.tmp 4) (.tmp 8) rfl w1.heap.size _ _ (bv t) rfl rfl rfl (eD _) (gI 0 _) (gZ _) ?_)
 generalize (w1.alloc (.cells (bv t) 214))=V at rX rR rT xE ⊢
 generalize w1.heap.size=B at rT hsz ⊢
 have HX:=aA rX
 have HR:=aA rR
 have HT:=aA rT
 have XP:=aA xE
 clear rX rR rT xE
 try rename_i KK Gh
 refine (bG (n:=5)).1 (fD (F:=Fence.wide) (S:=fun X=>Below V.heap.size V X) (by kernel_rfl) (fG _ _ 1) (fun hHeld=>?_))
 refine dP (fun _=>trivial) (by kernel_rfl) (i:=0) (oi:=_) (v:=.agg (bv x)) rfl (by kernel_rfl) (by kernel_rfl) (by kernel_rfl) (fun _ _ _ h=>h) (by assumption) (Or.inl ⟨by kernel_rfl,?_⟩) ?_
 ·intro wz hSw;exact eO 214 (.tmp 1) (by kernel_rfl) (w.heap.size) (by kernel_rfl) _ _ _ _ (dZ.below hSw HX.out) aD (by kernel_rfl) (eD _)
 try simp only [aQ]
 refine dP (fun _=>trivial) (by kernel_rfl) (i:=1) (oi:=_) (v:=.agg (bv t)) rfl (by kernel_rfl) (by kernel_rfl) (by kernel_rfl) (fun _ _ _ h=>h) (by assumption) (Or.inl ⟨by kernel_rfl,?_⟩) ?_
 ·intro wz hSw;exact eO 214 (.tmp 4) (by kernel_rfl) (B) (by kernel_rfl) _ _ _ _ (dZ.below hSw HT.out) aD (by kernel_rfl) (eD _)
 try simp only [aQ]
 refine dX (fun _=>trivial) (i:=2) (o:=_) (by kernel_rfl) rfl (fun K hK=>?_)
 go_simp
 refine ⟨trivial,aW.2 ((cL.out _).mono ?_)⟩
 rintro e x1 ⟨rfl,hb1⟩
 dsimp only
 refine hK.out _ _ (dY hHeld hb1) (fun hHeld=>?_)
 clear hK K
 try simp only [aQ]
 refine dP (fun _=>trivial) (by kernel_rfl) (i:=3) (oi:=_) (v:=?_) rfl (by kernel_rfl) (by kernel_rfl) (by kernel_rfl) (fun _ _ _ h=>h) (by assumption) (Or.inl ⟨by kernel_rfl,?_⟩) ?_
 rotate_left
 ·intro wz hSw;(first | (go_simp;done) | (go_simp;with_reducible rfl))
 try simp only [aQ]
 refine dP (fun _=>trivial) (by kernel_rfl) (i:=4) (oi:=_) (v:=?_) rfl (by kernel_rfl) (by kernel_rfl) (by kernel_rfl) (fun _ _ _ h=>h) (by assumption) (Or.inl ⟨by kernel_rfl,?_⟩) ?_
 rotate_left
 ·intro wz hSw;(first | (go_simp;done) | (go_simp;with_reducible rfl))
 try simp only [aQ]
 refine dP (fun _=>trivial) (by kernel_rfl) (i:=5) (oi:=_) (v:=.agg (bv x)) rfl (by kernel_rfl) (by kernel_rfl) (by kernel_rfl) (fun _ _ _ h=>h) (by assumption) (Or.inl ⟨by kernel_rfl,?_⟩) ?_
 ·intro wz hSw;exact eO 214 (.tmp 1) (by kernel_rfl) (w.heap.size) (by kernel_rfl) _ _ _ _ (dZ.below hSw HX.out) aD (by kernel_rfl) (eD _)
 try simp only [aQ]
 refine dP (fun _=>trivial) (by kernel_rfl) (i:=6) (oi:=_) (v:=.agg (bv t)) rfl (by kernel_rfl) (by kernel_rfl) (by kernel_rfl) (fun _ _ _ h=>h) (by assumption) (Or.inl ⟨by kernel_rfl,?_⟩) ?_
 ·intro wz hSw;exact eO 214 (.tmp 4) (by kernel_rfl) (B) (by kernel_rfl) _ _ _ _ (dZ.below hSw HT.out) aD (by kernel_rfl) (eD _)
 try simp only [aQ]
 refine dX (fun _=>trivial) (i:=7) (o:=_) (by kernel_rfl) rfl (fun K hK=>?_)
 go_simp
 refine ⟨trivial,aW.2 ((cN.out _).mono ?_)⟩
 rintro e x2 ⟨rfl,hb2⟩
 dsimp only
 refine hK.out _ _ (dY hHeld hb2) (fun hHeld=>?_)
 clear hK K
 try simp only [aQ]
 refine dX (fun _=>trivial) (i:=8) (o:=_) (by kernel_rfl) rfl (fun K hK=>?_)
 go_simp
 refine ⟨trivial,aW.2 ((Du.out _).mono ?_)⟩
 rintro e x3 ⟨rfl,hb3⟩
 dsimp only
 refine hK.out _ _ (dY hHeld hb3) (fun hHeld=>?_)
 clear hK K
 try simp only [aQ]
 refine dP (fun _=>trivial) (by kernel_rfl) (i:=9) (oi:=_) (v:=?_) rfl (by kernel_rfl) (by kernel_rfl) (by kernel_rfl) (fun _ _ _ h=>h) (by assumption) (Or.inl ⟨by kernel_rfl,?_⟩) ?_
 rotate_left
 ·intro wz hSw;(first | (go_simp;done) | (go_simp;with_reducible rfl))
 try simp only [aQ]
 refine fC (by kernel_rfl) ?_ _
 first | (refine Gh _ _ ?_) | skip
 have RR:=aA (WideAt.below hHeld HR.out)
 have c0:=RR.out.c0
 have c1:=RR.out.c1
 have f0:=RR.out.fr 0
 have f1:=RR.out.fr 1
 have HB:=aA (dY XP.out hHeld)
 clear hHeld
 go_wp2_with fail
 (try simp only [Exit.inBlock,Exit.then])
 refine aO (v:=.tuple #[.agg #[.int .i64 0,.int .u64 0],.bool false]) (fJ rfl _ _ (w.heap.size + 1) _ _ _ _ _ rfl (WideAt.nU (h:=0) (l:=0) RR.out) Tryz.underlying220 rfl (by kernel_rfl) rfl) rfl ?_
 exact ⟨rfl,Below.nU HB.out (by omega) _ _⟩
theorem Pt (x t n:Int) (y lo hi:Nat) (h:Int) (w:World) (cT:Hid (pO 169 #[.int .i64 127] (.agg (bv t)))) (cL:Hid (pO 170 #[.agg (bv x),.agg (bv t)] (.bool true))) (cN:Hid (pO 168 #[.agg (bv t)] (.agg (bv n)))) (Du:Hid (pO 170 #[.agg (bv x),.agg (bv n)] (.bool false))) (hlo:Hid (y % 65536 ^ 4=lo)) (hhi:Hid (y / 65536 ^ 4 % 65536 ^ 4=hi)) (hh:IntKind.i64.wrap (hi:Int)=h) (hxy:Hid (x=(y:Int)))
  : Calls Tryz.prog 160 #[.agg (bv x)] w (fun e w'=>e=.returned (.tuple #[.agg #[.int .i64 h,.int .u64 lo],.bool true])∧Below w.heap.size w w'):=by
 go_enter Tryz.func160,Tryz.ntmps160
 go_wp2_with fail
 refine (cT.out _).mono ?_
 rintro e w1 ⟨rfl,hb1⟩
 have rX:dZ w.heap.size x (w1.alloc (.cells (bv t) 214)):=dW (dZ.below hb1 (dW (aG _ _)))
 have rR:WideAt (w.heap.size + 1) 0 0 (w1.alloc (.cells (bv t) 214)):=dW (WideAt.below hb1 (heap_alloc2_new _ _ _))
 have rT:dZ w1.heap.size t (w1.alloc (.cells (bv t) 214)):=aG _ _
 have rQ:Below w.heap.size w w1:=(by go_grown:Below w.heap.size w ((w.alloc (.cells (bv x) 214)).alloc (.cells #[.int .i64 0,.int .u64 0] 220))).trans (hb1.mono (by simp;omega))
 have xE:Below w.heap.size w (w1.alloc (.cells (bv t) 214)):=rQ.alloc rQ.size _
 have hsz:w.heap.size + 1 < w1.heap.size:=by have:=hb1.size;simp at this;omega
 clear hb1 rQ
 go_wp2_with (refine fB rfl 214 (.tmp 4) (.tmp 8) rfl w1.heap.size _ _ (bv t) rfl rfl rfl (eD _) (gI 0 _) (gZ _) ?_)
 generalize (w1.alloc (.cells (bv t) 214))=V at rX rR rT xE ⊢
 generalize w1.heap.size=B at rT hsz ⊢
 have HX:=aA rX
 have HR:=aA rR
 have HT:=aA rT
 have XP:=aA xE
 clear rX rR rT xE
 try rename_i KK Gh
 refine (bG (n:=5)).1 (fD (F:=Fence.wide) (S:=fun X=>Below V.heap.size V X) (by kernel_rfl) (fG _ _ 1) (fun hHeld=>?_))
 refine dP (fun _=>trivial) (by kernel_rfl) (i:=0) (oi:=_) (v:=.agg (bv x)) rfl (by kernel_rfl) (by kernel_rfl) (by kernel_rfl) (fun _ _ _ h=>h) (by assumption) (Or.inl ⟨by kernel_rfl,?_⟩) ?_
 ·intro wz hSw;exact eO 214 (.tmp 1) (by kernel_rfl) (w.heap.size) (by kernel_rfl) _ _ _ _ (dZ.below hSw HX.out) aD (by kernel_rfl) (eD _)
 try simp only [aQ]
 refine dP (fun _=>trivial) (by kernel_rfl) (i:=1) (oi:=_) (v:=.agg (bv t)) rfl (by kernel_rfl) (by kernel_rfl) (by kernel_rfl) (fun _ _ _ h=>h) (by assumption) (Or.inl ⟨by kernel_rfl,?_⟩) ?_
 ·intro wz hSw;exact eO 214 (.tmp 4) (by kernel_rfl) (B) (by kernel_rfl) _ _ _ _ (dZ.below hSw HT.out) aD (by kernel_rfl) (eD _)
 try simp only [aQ]
 refine dX (fun _=>trivial) (i:=2) (o:=_) (by kernel_rfl) rfl (fun K hK=>?_)
 go_simp
 refine ⟨trivial,aW.2 ((cL.out _).mono ?_)⟩
 rintro e x1 ⟨rfl,hb1⟩
 dsimp only
 refine hK.out _ _ (dY hHeld hb1) (fun hHeld=>?_)
 clear hK K
 try simp only [aQ]
 refine dP (fun _=>trivial) (by kernel_rfl) (i:=3) (oi:=_) (v:=?_) rfl (by kernel_rfl) (by kernel_rfl) (by kernel_rfl) (fun _ _ _ h=>h) (by assumption) (Or.inl ⟨by kernel_rfl,?_⟩) ?_
 rotate_left
 ·intro wz hSw;(first | (go_simp;done) | (go_simp;with_reducible rfl))
 try simp only [aQ]
 refine dP (fun _=>trivial) (by kernel_rfl) (i:=4) (oi:=_) (v:=?_) rfl (by kernel_rfl) (by kernel_rfl) (by kernel_rfl) (fun _ _ _ h=>h) (by assumption) (Or.inl ⟨by kernel_rfl,?_⟩) ?_
 rotate_left
 ·intro wz hSw;(first | (go_simp;done) | (go_simp;with_reducible rfl))
 try simp only [aQ]
 refine dP (fun _=>trivial) (by kernel_rfl) (i:=5) (oi:=_) (v:=.agg (bv x)) rfl (by kernel_rfl) (by kernel_rfl) (by kernel_rfl) (fun _ _ _ h=>h) (by assumption) (Or.inl ⟨by kernel_rfl,?_⟩) ?_
 ·intro wz hSw;exact eO 214 (.tmp 1) (by kernel_rfl) (w.heap.size) (by kernel_rfl) _ _ _ _ (dZ.below hSw HX.out) aD (by kernel_rfl) (eD _)
 try simp only [aQ]
 refine dP (fun _=>trivial) (by kernel_rfl) (i:=6) (oi:=_) (v:=.agg (bv t)) rfl (by kernel_rfl) (by kernel_rfl) (by kernel_rfl) (fun _ _ _ h=>h) (by assumption) (Or.inl ⟨by kernel_rfl,?_⟩) ?_
 ·intro wz hSw;exact eO 214 (.tmp 4) (by kernel_rfl) (B) (by kernel_rfl) _ _ _ _ (dZ.below hSw HT.out) aD (by kernel_rfl) (eD _)
 try simp only [aQ]
 refine dX (fun _=>trivial) (i:=7) (o:=_) (by kernel_rfl) rfl (fun K hK=>?_)
 go_simp
 refine ⟨trivial,aW.2 ((cN.out _).mono ?_)⟩
 rintro e x2 ⟨rfl,hb2⟩
 dsimp only
 refine hK.out _ _ (dY hHeld hb2) (fun hHeld=>?_)
 clear hK K
 try simp only [aQ]
 refine dX (fun _=>trivial) (i:=8) (o:=_) (by kernel_rfl) rfl (fun K hK=>?_)
 go_simp
 refine ⟨trivial,aW.2 ((Du.out _).mono ?_)⟩
 rintro e x3 ⟨rfl,hb3⟩
 dsimp only
 refine hK.out _ _ (dY hHeld hb3) (fun hHeld=>?_)
 clear hK K
 try simp only [aQ]
 refine dP (fun _=>trivial) (by kernel_rfl) (i:=9) (oi:=_) (v:=?_) rfl (by kernel_rfl) (by kernel_rfl) (by kernel_rfl) (fun _ _ _ h=>h) (by assumption) (Or.inl ⟨by kernel_rfl,?_⟩) ?_
 rotate_left
 ·intro wz hSw;(first | (go_simp;done) | (go_simp;with_reducible rfl))
 try simp only [aQ]
 refine fC (by kernel_rfl) ?_ _
 first | (refine Gh _ _ ?_) | skip
 have Nc:=dZ.below hHeld HX.out
 have Wd:=WideAt.below hHeld HR.out
 have HB:=dY XP.out hHeld
 rw [hxy.out] at Nc
 have hd:=Nc.head
 rw [aN (by omega)] at hd
 have HI0:Hid (ToI y w x3):=aA ⟨Nc,Wd,HB⟩
 clear hHeld HX HT HR XP Nc Wd HB hsz
 go_wp2_with fail
 go_loopg [5,6,7] 4 (Ol y w)
 case atStart=>exact ⟨4,rfl,by simp [Nat.mod_one],by simp [Nat.mod_one],rfl,by omega,HI0.out⟩
 case round =>
  clear HI0
  obtain ⟨k,rfl,rfl,rfl,rfl,hk4,I⟩:=hrel
  cases gk with
  | succ k =>
   obtain ⟨a,ha⟩:∃ a,y / 65536 ^ (k + 1) % 65536 ^ (4 - (k + 1))=a:=⟨_,rfl⟩
   obtain ⟨b,hb⟩:∃ b,y / 65536 ^ (k + 1 + 4) % 65536 ^ (4 - (k + 1))=b:=⟨_,rfl⟩
   obtain ⟨d,hd⟩:∃ d,y / 65536 ^ k % 65536=d:=⟨_,rfl⟩
   obtain ⟨f,hf⟩:∃ f,y / 65536 ^ (k + 4) % 65536=f:=⟨_,rfl⟩
   obtain ⟨k4,hk5⟩:∃ k4,k + 4=k4:=⟨_,rfl⟩
   have al:a < 281474976710656:=by rw [←ha];exact PI _ _ (by omega)
   have bl:b < 281474976710656:=by rw [←hb];exact PI _ _ (by omega)
   have dl:d < 65536:=by omega
   have fl:f < 65536:=by omega
   have N1:Hid (y / 65536 ^ k % 65536 ^ (4 - k)=a * 65536 + d):=aA (by rw [xM y k (by omega),ha,hd])
   have N2:Hid (y / 65536 ^ (k + 4) % 65536 ^ (4 - k)=b * 65536 + f):=aA (by
    have:=xM (y / 65536 ^ 4) k (by omega)
    rw [Nat.div_div_eq_div_mul,Nat.div_div_eq_div_mul,←Nat.pow_add,←Nat.pow_add,Nat.add_comm 4 k,show 4 + (k + 1)=k + 1 + 4 by omega,hb,hf] at this
    exact this)
   have cz:wr.cell? ⟨w.heap.size,1 + k,none⟩=some (.int .u64 (d:Int)):=by rw [I.bx.Si k (by omega),bW,hd]
   have cy:wr.cell? ⟨w.heap.size,1 + k4,none⟩=some (.int .u64 (f:Int)):=by rw [I.bx.Si k4 (by omega),bW,←hk5,hf]
   have s1:(((k + 1:Nat):Int) - 1)=(k:Int):=by omega
   have HI:=aA I
   have k0:(0:Int)≤(k:Int):=by omega
   have k1:(k:Int) < 20:=by omega
   have k00:(0:Int)≤(k4:Int):=by omega
   have k11:(k4:Int) < 20:=by omega
   have E0:IntKind.i64.wrap ((k:Int) + 4)=(k4:Int):=by rw [aZ];omega
   have E00:(k:Int) + 4=(k4:Int):=by omega
   have E1:IntKind.u64.wrap ((a:Int) * 65536)=((a * 65536:Nat):Int):=by rw [aU];omega
   have E2:IntKind.u64.wrap (((a * 65536:Nat):Int) + (d:Int))=((a * 65536 + d:Nat):Int):=by rw [aU];omega
   have E3:IntKind.u64.wrap ((b:Int) * 65536)=((b * 65536:Nat):Int):=by rw [aU];omega
   have E4:IntKind.u64.wrap (((b * 65536:Nat):Int) + (f:Int))=((b * 65536 + f:Nat):Int):=by rw [aU];omega
   obtain ⟨A1,hA1⟩:∃ A1,a * 65536=A1:=⟨_,rfl⟩
   obtain ⟨A2,hA2⟩:∃ A2,A1 + d=A2:=⟨_,rfl⟩
   obtain ⟨B1,hB1⟩:∃ B1,b * 65536=B1:=⟨_,rfl⟩
   obtain ⟨B2,hB2⟩:∃ B2,B1 + f=B2:=⟨_,rfl⟩
   rw [hA1] at E1 E2
   rw [hA2] at E2
   rw [hB1] at E3 E4
   rw [hB2] at E4
   rw [ha,hb,s1]
   have N3:Hid (y / 65536 ^ k % 65536 ^ (4 - k)=A2):=aA (by rw [N1.out,hA1,hA2])
   have N4:Hid (y / 65536 ^ (k + 4) % 65536 ^ (4 - k)=B2):=aA (by rw [N2.out,hB1,hB2])
   clear I ha hb hd hf hk5 s1 hA1 hA2 hB1 hB2 N1 N2 al bl dl fl
   go_wp2_with fail
   go_roundg k
   case measure=>omega
   case rel =>
    refine ⟨k,rfl,?_,?_,?_,by omega,HI.out⟩
    ·rw [N3.out]
    ·rw [N4.out]
    ·go_num
  | zero =>
   have HI:=aA I
   have e1:y / 65536 ^ 0 % 65536 ^ (4 - 0)=lo:=by rw [Nat.pow_zero,Nat.div_one];exact hlo.out
   have e2:y / 65536 ^ (0 + 4) % 65536 ^ (4 - 0)=hi:=hhi.out
   rw [e1,e2]
   have BR:=aA I.br
   clear I e1 e2
   have n0:¬ (0:Int)≤((0:Nat):Int) - 1:=by omega
   have c0:=BR.out.c0
   have c1:=BR.out.c1
   have f0:=BR.out.fr 0
   have f1:=BR.out.fr 1
   go_wp2_with fail
   (try simp only [Exit.inBlock,Exit.then])
   refine aO (v:=.tuple #[.agg #[.int .i64 h,.int .u64 lo],.bool true]) (fJ rfl _ _ (w.heap.size + 1) _ _ _ _ _ rfl (WideAt.nU (h:=h) (l:=lo) BR.out) Tryz.underlying220 rfl (by kernel_rfl) rfl) rfl ?_
   exact ⟨rfl,Below.nU HI.out.below (by omega) _ _⟩
theorem Pv (x t n t2:Int) (y lo hi:Nat) (h:Int) (w:World) (cT:Hid (pO 169 #[.int .i64 127] (.agg (bv t)))) (cL:Hid (pO 170 #[.agg (bv x),.agg (bv t)] (.bool true))) (cN:Hid (pO 168 #[.agg (bv t)] (.agg (bv n)))) (Du:Hid (pO 170 #[.agg (bv x),.agg (bv n)] (.bool false))) (hlo:Hid (y % 65536 ^ 4=lo)) (hhi:Hid (y / 65536 ^ 4 % 65536 ^ 4=hi)) (hh:IntKind.i64.wrap (hi:Int)=h) (hneg:Hid (x < 0)) (cT2:Hid (pO 169 #[.int .i64 128] (.agg (bv t2)))) (cA:Hid (pO 158 #[.agg (bv x),.agg (bv t2)] (.agg (bv (y:Int)))))
  : Calls Tryz.prog 160 #[.agg (bv x)] w (fun e w'=>e=.returned (.tuple #[.agg #[.int .i64 h,.int .u64 lo],.bool true])∧Below w.heap.size w w'):=by
 go_enter Tryz.func160,Tryz.ntmps160
 go_wp2_with fail
 refine (cT.out _).mono ?_
 rintro e w1 ⟨rfl,hb1⟩
 have rX:dZ w.heap.size x (w1.alloc (.cells (bv t) 214)):=dW (dZ.below hb1 (dW (aG _ _)))
 have rR:WideAt (w.heap.size + 1) 0 0 (w1.alloc (.cells (bv t) 214)):=dW (WideAt.below hb1 (heap_alloc2_new _ _ _))
 have rT:dZ w1.heap.size t (w1.alloc (.cells (bv t) 214)):=aG _ _
 have rQ:Below w.heap.size w w1:=(by go_grown:Below w.heap.size w ((w.alloc (.cells (bv x) 214)).alloc (.cells #[.int .i64 0,.int .u64 0] 220))).trans (hb1.mono (by simp;omega))
 have xE:Below w.heap.size w (w1.alloc (.cells (bv t) 214)):=rQ.alloc rQ.size _
 have hsz:w.heap.size + 1 < w1.heap.size:=by have:=hb1.size;simp at this;omega
 clear hb1 rQ
 go_wp2_with (refine fB rfl 214 (.tmp 4) (.tmp 8) rfl w1.heap.size _ _ (bv t) rfl rfl rfl (eD _) (gI 0 _) (gZ _) ?_)
 generalize (w1.alloc (.cells (bv t) 214))=V at rX rR rT xE ⊢
 generalize w1.heap.size=B at rT hsz ⊢
 have HX:=aA rX
 have HR:=aA rR
 have HT:=aA rT
 have XP:=aA xE
 clear rX rR rT xE
 try rename_i KK Gh
 refine (bG (n:=5)).1 (fD (F:=Fence.wide) (S:=fun X=>Below V.heap.size V X) (by kernel_rfl) (fG _ _ 1) (fun hHeld=>?_))
 refine dP (fun _=>trivial) (by kernel_rfl) (i:=0) (oi:=_) (v:=.agg (bv x)) rfl (by kernel_rfl) (by kernel_rfl) (by kernel_rfl) (fun _ _ _ h=>h) (by assumption) (Or.inl ⟨by kernel_rfl,?_⟩) ?_
 ·intro wz hSw;exact eO 214 (.tmp 1) (by kernel_rfl) (w.heap.size) (by kernel_rfl) _ _ _ _ (dZ.below hSw HX.out) aD (by kernel_rfl) (eD _)
 try simp only [aQ]
 refine dP (fun _=>trivial) (by kernel_rfl) (i:=1) (oi:=_) (v:=.agg (bv t)) rfl (by kernel_rfl) (by kernel_rfl) (by kernel_rfl) (fun _ _ _ h=>h) (by assumption) (Or.inl ⟨by kernel_rfl,?_⟩) ?_
 ·intro wz hSw;exact eO 214 (.tmp 4) (by kernel_rfl) (B) (by kernel_rfl) _ _ _ _ (dZ.below hSw HT.out) aD (by kernel_rfl) (eD _)
 try simp only [aQ]
 refine dX (fun _=>trivial) (i:=2) (o:=_) (by kernel_rfl) rfl (fun K hK=>?_)
 go_simp
 refine ⟨trivial,aW.2 ((cL.out _).mono ?_)⟩
 rintro e x1 ⟨rfl,hb1⟩
 dsimp only
 refine hK.out _ _ (dY hHeld hb1) (fun hHeld=>?_)
 clear hK K
 try simp only [aQ]
 refine dP (fun _=>trivial) (by kernel_rfl) (i:=3) (oi:=_) (v:=?_) rfl (by kernel_rfl) (by kernel_rfl) (by kernel_rfl) (fun _ _ _ h=>h) (by assumption) (Or.inl ⟨by kernel_rfl,?_⟩) ?_
 rotate_left
 ·intro wz hSw;(first | (go_simp;done) | (go_simp;with_reducible rfl))
 try simp only [aQ]
 refine dP (fun _=>trivial) (by kernel_rfl) (i:=4) (oi:=_) (v:=?_) rfl (by kernel_rfl) (by kernel_rfl) (by kernel_rfl) (fun _ _ _ h=>h) (by assumption) (Or.inl ⟨by kernel_rfl,?_⟩) ?_
 rotate_left
 ·intro wz hSw;(first | (go_simp;done) | (go_simp;with_reducible rfl))
 try simp only [aQ]
 refine dP (fun _=>trivial) (by kernel_rfl) (i:=5) (oi:=_) (v:=.agg (bv x)) rfl (by kernel_rfl) (by kernel_rfl) (by kernel_rfl) (fun _ _ _ h=>h) (by assumption) (Or.inl ⟨by kernel_rfl,?_⟩) ?_
 ·intro wz hSw;exact eO 214 (.tmp 1) (by kernel_rfl) (w.heap.size) (by kernel_rfl) _ _ _ _ (dZ.below hSw HX.out) aD (by kernel_rfl) (eD _)
 try simp only [aQ]
 refine dP (fun _=>trivial) (by kernel_rfl) (i:=6) (oi:=_) (v:=.agg (bv t)) rfl (by kernel_rfl) (by kernel_rfl) (by kernel_rfl) (fun _ _ _ h=>h) (by assumption) (Or.inl ⟨by kernel_rfl,?_⟩) ?_
 ·intro wz hSw;exact eO 214 (.tmp 4) (by kernel_rfl) (B) (by kernel_rfl) _ _ _ _ (dZ.below hSw HT.out) aD (by kernel_rfl) (eD _)
 try simp only [aQ]
 refine dX (fun _=>trivial) (i:=7) (o:=_) (by kernel_rfl) rfl (fun K hK=>?_)
 go_simp
 refine ⟨trivial,aW.2 ((cN.out _).mono ?_)⟩
 rintro e x2 ⟨rfl,hb2⟩
 dsimp only
 refine hK.out _ _ (dY hHeld hb2) (fun hHeld=>?_)
 clear hK K
 try simp only [aQ]
 refine dX (fun _=>trivial) (i:=8) (o:=_) (by kernel_rfl) rfl (fun K hK=>?_)
 go_simp
 refine ⟨trivial,aW.2 ((Du.out _).mono ?_)⟩
 rintro e x3 ⟨rfl,hb3⟩
 dsimp only
 refine hK.out _ _ (dY hHeld hb3) (fun hHeld=>?_)
 clear hK K
 try simp only [aQ]
 refine dP (fun _=>trivial) (by kernel_rfl) (i:=9) (oi:=_) (v:=?_) rfl (by kernel_rfl) (by kernel_rfl) (by kernel_rfl) (fun _ _ _ h=>h) (by assumption) (Or.inl ⟨by kernel_rfl,?_⟩) ?_
 rotate_left
 ·intro wz hSw;(first | (go_simp;done) | (go_simp;with_reducible rfl))
 try simp only [aQ]
 refine fC (by kernel_rfl) ?_ _
 first | (refine Gh _ _ ?_) | skip
 have Nc:=dZ.below hHeld HX.out
 have Wd:=WideAt.below hHeld HR.out
 have HB:=dY XP.out hHeld
 have hd:=Nc.head
 rw [aV hneg.out] at hd
 have WV:=aA Nc
 have HR2:=aA Wd
 have Ga:=aA HB
 clear hHeld HX HT HR XP Nc Wd HB hsz
 go_wp2_with fail
 try rename_i KK2 hKK2
 have HTT:∀ (X:World),ToI y w X→KK2 { tmps:=#[.agg (bv x),.pointer (some ⟨w.heap.size,0,none⟩),.pointer (some ⟨w.heap.size + 1,0,none⟩),.bool false,.pointer (some ⟨B,0,none⟩),undef,undef,undef,.agg (bv t),.agg (bv x),.agg (bv t),.bool true,.bool false,.bool false,.agg (bv x),.agg (bv t),.agg (bv n),.bool false,.bool false,undef,.pointer (some ⟨w.heap.size,0,none⟩),.bool true,.agg (bv x),.agg (bv t2),.agg (bv (y:Int)),undef,undef,undef,undef,undef,undef,undef,undef,undef,undef,undef,undef,undef,undef,undef,undef,undef,undef,undef,undef,undef,undef,undef],defers:=[] } X:=by
  intro X hX
  refine hKK2 _ _ ?_
  have HI0:=aA hX
  clear hX
  go_wp2_with fail
  go_loopg [5,6,7] 4 (Ol y w)
  case atStart=>exact ⟨4,rfl,by simp [Nat.mod_one],by simp [Nat.mod_one],rfl,by omega,HI0.out⟩
  case round =>
   clear HI0
   obtain ⟨k,rfl,rfl,rfl,rfl,hk4,I⟩:=hrel
   cases gk with
   | succ k =>
    obtain ⟨a,ha⟩:∃ a,y / 65536 ^ (k + 1) % 65536 ^ (4 - (k + 1))=a:=⟨_,rfl⟩
    obtain ⟨b,hb⟩:∃ b,y / 65536 ^ (k + 1 + 4) % 65536 ^ (4 - (k + 1))=b:=⟨_,rfl⟩
    obtain ⟨d,hd⟩:∃ d,y / 65536 ^ k % 65536=d:=⟨_,rfl⟩
    obtain ⟨f,hf⟩:∃ f,y / 65536 ^ (k + 4) % 65536=f:=⟨_,rfl⟩
    obtain ⟨k4,hk5⟩:∃ k4,k + 4=k4:=⟨_,rfl⟩
    have al:a < 281474976710656:=by rw [←ha];exact PI _ _ (by omega)
    have bl:b < 281474976710656:=by rw [←hb];exact PI _ _ (by omega)
    have dl:d < 65536:=by omega
    have fl:f < 65536:=by omega
    have N1:Hid (y / 65536 ^ k % 65536 ^ (4 - k)=a * 65536 + d):=aA (by rw [xM y k (by omega),ha,hd])
    have N2:Hid (y / 65536 ^ (k + 4) % 65536 ^ (4 - k)=b * 65536 + f):=aA (by
     have:=xM (y / 65536 ^ 4) k (by omega)
     rw [Nat.div_div_eq_div_mul,Nat.div_div_eq_div_mul,←Nat.pow_add,←Nat.pow_add,Nat.add_comm 4 k,show 4 + (k + 1)=k + 1 + 4 by omega,hb,hf] at this
     exact this)
    have cz:wr.cell? ⟨w.heap.size,1 + k,none⟩=some (.int .u64 (d:Int)):=by rw [I.bx.Si k (by omega),bW,hd]
    have cy:wr.cell? ⟨w.heap.size,1 + k4,none⟩=some (.int .u64 (f:Int)):=by rw [I.bx.Si k4 (by omega),bW,←hk5,hf]
    have s1:(((k + 1:Nat):Int) - 1)=(k:Int):=by omega
    have HI:=aA I
    have k0:(0:Int)≤(k:Int):=by omega
    have k1:(k:Int) < 20:=by omega
    have k00:(0:Int)≤(k4:Int):=by omega
    have k11:(k4:Int) < 20:=by omega
    have E0:IntKind.i64.wrap ((k:Int) + 4)=(k4:Int):=by rw [aZ];omega
    have E00:(k:Int) + 4=(k4:Int):=by omega
    have E1:IntKind.u64.wrap ((a:Int) * 65536)=((a * 65536:Nat):Int):=by rw [aU];omega
    have E2:IntKind.u64.wrap (((a * 65536:Nat):Int) + (d:Int))=((a * 65536 + d:Nat):Int):=by rw [aU];omega
    have E3:IntKind.u64.wrap ((b:Int) * 65536)=((b * 65536:Nat):Int):=by rw [aU];omega
    have E4:IntKind.u64.wrap (((b * 65536:Nat):Int) + (f:Int))=((b * 65536 + f:Nat):Int):=by rw [aU];omega
    obtain ⟨A1,hA1⟩:∃ A1,a * 65536=A1:=⟨_,rfl⟩
    obtain ⟨A2,hA2⟩:∃ A2,A1 + d=A2:=⟨_,rfl⟩
    obtain ⟨B1,hB1⟩:∃ B1,b * 65536=B1:=⟨_,rfl⟩
    obtain ⟨B2,hB2⟩:∃ B2,B1 + f=B2:=⟨_,rfl⟩
    rw [hA1] at E1 E2
    rw [hA2] at E2
    rw [hB1] at E3 E4
    rw [hB2] at E4
    rw [ha,hb,s1]
    have N3:Hid (y / 65536 ^ k % 65536 ^ (4 - k)=A2):=aA (by rw [N1.out,hA1,hA2])
    have N4:Hid (y / 65536 ^ (k + 4) % 65536 ^ (4 - k)=B2):=aA (by rw [N2.out,hB1,hB2])
    clear I ha hb hd hf hk5 s1 hA1 hA2 hB1 hB2 N1 N2 al bl dl fl
    go_wp2_with fail
    go_roundg k
    case measure=>omega
    case rel =>
     refine ⟨k,rfl,?_,?_,?_,by omega,HI.out⟩
     ·rw [N3.out]
     ·rw [N4.out]
     ·go_num
   | zero =>
    have HI:=aA I
    have e1:y / 65536 ^ 0 % 65536 ^ (4 - 0)=lo:=by rw [Nat.pow_zero,Nat.div_one];exact hlo.out
    have e2:y / 65536 ^ (0 + 4) % 65536 ^ (4 - 0)=hi:=hhi.out
    rw [e1,e2]
    have BR:=aA I.br
    clear I e1 e2
    have n0:¬ (0:Int)≤((0:Nat):Int) - 1:=by omega
    have c0:=BR.out.c0
    have c1:=BR.out.c1
    have f0:=BR.out.fr 0
    have f1:=BR.out.fr 1
    go_wp2_with fail
    (try simp only [Exit.inBlock,Exit.then])
    refine aO (v:=.tuple #[.agg #[.int .i64 h,.int .u64 lo],.bool true]) (fJ rfl _ _ (w.heap.size + 1) _ _ _ _ _ rfl (WideAt.nU (h:=h) (l:=lo) BR.out) Tryz.underlying220 rfl (by kernel_rfl) rfl) rfl ?_
    exact ⟨rfl,Below.nU HI.out.below (by omega) _ _⟩
 refine (bG (n:=5)).1 (fD (F:=Fence.wide) (S:=fun X=>True) (by kernel_rfl) trivial (fun hHeld=>?_))
 clear hHeld
 have hs0:WO x w x3.drew:=WO.up ⟨WV.out,HR2.out,Ga.out⟩ (fG _ _ 1)
 refine kL (fun _=>trivial) (i:=0) (j:=1) (o:=_) (o2:=_) (by kernel_rfl) rfl rfl (fun K hK=>?_) (fun K hK=>?_)
 ·rw [aT (by kernel_rfl)]
  refine lW (fun _=>trivial) 214 (.tmp 1) (by kernel_rfl) (w.heap.size) (by kernel_rfl) _ (bv x) _ _ hs0.bx aD (by kernel_rfl) (eD _) ?_
  refine hK.out _ _ trivial (fun _=>?_)
  clear hK K
  try simp only [aQ]
  refine dX (fun _=>trivial) (i:=1) (o:=_) (by kernel_rfl) rfl (fun K hK=>?_)
  go_simp
  refine ⟨trivial,aW.2 ((cT2.out _).mono ?_)⟩
  rintro e x4 ⟨rfl,hb4⟩
  dsimp only
  have hs1:=WO.up hs0 hb4
  refine hK.out _ _ (trivial) (fun hHeld=>?_)
  clear hK K
  try simp only [aQ]
  refine dX (fun _=>trivial) (i:=2) (o:=_) (by kernel_rfl) rfl (fun K hK=>?_)
  go_simp
  refine ⟨trivial,aW.2 ((cA.out _).mono ?_)⟩
  rintro e x5 ⟨rfl,hb5⟩
  dsimp only
  have hs2:=WO.up hs1 hb5
  refine hK.out _ _ (trivial) (fun hHeld=>?_)
  clear hK K
  try simp only [aQ]
  refine dX (fun _=>trivial) (i:=3) (o:=_) (by kernel_rfl) rfl (fun K hK=>?_)
  rw [aT (by kernel_rfl)]
  refine eY (fun _=>trivial) 214 (.tmp 1) (.tmp 24) (by kernel_rfl) (w.heap.size) _ _ (bv (y:Int)) (by kernel_rfl) (by kernel_rfl) hs2.bx (eD _) (gI _ _) (gZ _) ?_
  refine hK.out _ _ trivial (fun _=>?_)
  clear hK K
  try simp only [aQ]
  exact fC (by kernel_rfl) (HTT _ (WO.put y hs2)) _
 ·go_simp
  refine ⟨trivial,aW.2 ((cT2.out _).mono ?_)⟩
  rintro e x4 ⟨rfl,hb4⟩
  dsimp only
  have hs1:=WO.up hs0 hb4
  refine hK.out _ _ (trivial) (fun hHeld=>?_)
  clear hK K
  try simp only [aQ]
  refine dX (fun _=>trivial) (i:=0) (o:=_) (by kernel_rfl) rfl (fun K hK=>?_)
  rw [aT (by kernel_rfl)]
  refine lW (fun _=>trivial) 214 (.tmp 1) (by kernel_rfl) (w.heap.size) (by kernel_rfl) _ (bv x) _ _ hs1.bx aD (by kernel_rfl) (eD _) ?_
  refine hK.out _ _ trivial (fun _=>?_)
  clear hK K
  try simp only [aQ]
  refine dX (fun _=>trivial) (i:=2) (o:=_) (by kernel_rfl) rfl (fun K hK=>?_)
  go_simp
  refine ⟨trivial,aW.2 ((cA.out _).mono ?_)⟩
  rintro e x5 ⟨rfl,hb5⟩
  dsimp only
  have hs2:=WO.up hs1 hb5
  refine hK.out _ _ (trivial) (fun hHeld=>?_)
  clear hK K
  try simp only [aQ]
  refine dX (fun _=>trivial) (i:=3) (o:=_) (by kernel_rfl) rfl (fun K hK=>?_)
  rw [aT (by kernel_rfl)]
  refine eY (fun _=>trivial) 214 (.tmp 1) (.tmp 24) (by kernel_rfl) (w.heap.size) _ _ (bv (y:Int)) (by kernel_rfl) (by kernel_rfl) hs2.bx (eD _) (gI _ _) (gZ _) ?_
  refine hK.out _ _ trivial (fun _=>?_)
  clear hK K
  try simp only [aQ]
  exact fC (by kernel_rfl) (HTT _ (WO.put y hs2)) _
def RetT (x:Int) (w:World) (e:Ending) (w':World):Prop:=∃ h:Int,∃ l:Nat,e=.returned (.tuple #[.agg #[.int .i64 h,.int .u64 l],.bool (decide (In x))])∧At (tF x) h l∧Below w.heap.size w w'
theorem to_z (x:Int) (w:World) (hx:x.natAbs < 65536 ^ 18):Calls Tryz.prog 160 #[.agg (bv x)] w (RetT x w):=by
 have e127:(2:Int) ^ 127=170141183460469231731687303715884105728:=by decide
 have e128:(2:Int) ^ 128=340282366920938463463374607431768211456:=by decide
 have e4:(65536:Nat) ^ 4=18446744073709551616:=by decide
 have e18:(65536:Nat) ^ 18 < BB - 340282366920938463463374607431768211456:=by decide
 have cT:Hid (pO 169 #[.int .i64 127] (.agg (bv (2 ^ 127)))):=aA fun w=>Ic w
 have cT2:Hid (pO 169 #[.int .i64 128] (.agg (bv (2 ^ 128)))):=aA fun w=>Ib w
 have cN:Hid (pO 168 #[.agg (bv (2 ^ 127))] (.agg (bv (-2 ^ 127)))):=aA fun w=>Av _ w (by decide)
 have cL:=fun w=>Bh x (2 ^ 127) w (by rw [e127];omega)
 have Du:=fun w=>Bh x (-2 ^ 127) w (by rw [e127];omega)
 by_cases h1:x < 2 ^ 127
 ·rw [aV h1] at cL
  by_cases h2:x < -2 ^ 127
  ·rw [aV h2] at Du
   refine (YT x (2 ^ 127) (-2 ^ 127) w cT (aA cL) cN (aA Du)).mono ?_
   rintro e w' ⟨rfl,hb⟩
   have hn:¬ In x:=by unfold In;rw [e127] at h2;omega
   exact ⟨0,0,by rw [aN hn];rfl,by unfold tF;rw [aX hn];exact At.zero,hb⟩
  ·rw [aN h2] at Du
   have hn:In x:=by unfold In;rw [e127] at h1 h2;omega
   rw [e127] at h1 h2
   by_cases h0:x < 0
   ·obtain ⟨y,hy⟩:∃ y:Nat,x + 2 ^ 128=(y:Int):=⟨(x + 2 ^ 128).natAbs,by rw [e128];omega⟩
    have hy2:=hy
    rw [e128] at hy2
    obtain ⟨lo,hlo⟩:∃ lo,y % 65536 ^ 4=lo:=⟨_,rfl⟩
    obtain ⟨hi,hhi⟩:∃ hi,y / 65536 ^ 4 % 65536 ^ 4=hi:=⟨_,rfl⟩
    have hlo2:=hlo
    have hhi2:=hhi
    rw [e4] at hlo2 hhi2
    have hh:IntKind.i64.wrap (hi:Int)=(hi:Int) - 18446744073709551616:=by rw [aZ];omega
    refine (Pv x (2 ^ 127) (-2 ^ 127) (2 ^ 128) y lo hi _ w cT (aA cL) cN (aA Du) (aA hlo) (aA hhi) hh (aA h0) cT2 (aA fun w=>by
     have:=KS x (2 ^ 128) w (by rw [e128];omega)
     rw [hy] at this
     exact this)).mono ?_
    rintro e w' ⟨rfl,hb⟩
    exact ⟨_,_,by rw [aV hn],by unfold tF;rw [aT hn];unfold At;omega,hb⟩
   ·obtain ⟨y,hy⟩:∃ y:Nat,x=(y:Int):=⟨x.natAbs,by omega⟩
    obtain ⟨lo,hlo⟩:∃ lo,y % 65536 ^ 4=lo:=⟨_,rfl⟩
    obtain ⟨hi,hhi⟩:∃ hi,y / 65536 ^ 4 % 65536 ^ 4=hi:=⟨_,rfl⟩
    have hlo2:=hlo
    have hhi2:=hhi
    rw [e4] at hlo2 hhi2
    have hh:IntKind.i64.wrap (hi:Int)=(hi:Int):=by rw [aZ];omega
    refine (Pt x (2 ^ 127) (-2 ^ 127) y lo hi _ w cT (aA cL) cN (aA Du) (aA hlo) (aA hhi) hh (aA hy)).mono ?_
    rintro e w' ⟨rfl,hb⟩
    exact ⟨_,_,by rw [aV hn],by unfold tF;rw [aT hn];unfold At;omega,hb⟩
 ·rw [aN h1] at cL
  refine (Pw x (2 ^ 127) w cT (aA cL)).mono ?_
  rintro e w' ⟨rfl,hb⟩
  have hn:¬ In x:=by unfold In;rw [e127] at h1;omega
  exact ⟨0,0,by rw [aN hn];rfl,by unfold tF;rw [aX hn];exact At.zero,hb⟩
theorem dZ.ZK {g:Nat} {z:Int} {W:World} (h:dZ g z W) (b:Bool):(W.setCell ⟨g,0,none⟩ (.bool b)).heap[g]?=some (.cells (eP b (dg z.natAbs)) 214 (0,0)):=by
 rw [aK _ _ _ _ _ _ h]
 unfold bv
 rw [sG]
theorem dZ.neg {g:Nat} {q:Nat} {W:World} (h:dZ g (q:Int) W) (b:Bool) (z:Int) (hz:decide (z < 0)=b) (hq:z.natAbs=q):dZ g z (W.setCell ⟨g,0,none⟩ (.bool b)):=by
 have:=h.ZK b
 unfold dZ bv
 rw [hz,hq,this,bW]
theorem Sk (r b:Nat) (hb:b≤1) (hr:r % 2=0):(dg r).set 0 (r % 65536 + b)=dg (r + b):=by
 unfold dg
 rw [show lX 20 r=r % 65536 :: lX 19 (r / 65536) from rfl,show lX 20 (r + b)=(r + b) % 65536 :: lX 19 ((r + b) / 65536) from rfl,List.set_cons_zero,show (r + b) % 65536=r % 65536 + b by omega,show (r + b) / 65536=r / 65536 by omega]
theorem dZ.inc {g r b:Nat} {W:World} (h:dZ g (r:Int) W) (hb:b≤1) (hr:r % 2=0):dZ g ((r + b:Nat):Int) (W.setCell ⟨g,1,none⟩ (.int .u64 ((r % 65536 + b:Nat):Int))):=by
 unfold dZ
 rw [show (1:Nat)=1 + 0 from rfl,aK _ _ _ _ _ _ h]
 unfold bv
 rw [GA,bW,bW,Sk r b hb hr]
 congr 3
theorem dZ.row {g:Nat} {z:Int} {W:World} (h:dZ g z W) (y:Int):dZ g y (W.setRow g (bv y)):=setRow_heap _ _ _ _ _ _ h
theorem dZ.other {g k:Nat} {z:Int} {W:World} (h:dZ g z W) (hk:g≠k) (c:Array Value):dZ g z (W.setRow k c):=by unfold dZ;rw [setRow_other _ _ _ _ hk];exact h
theorem dZ.iX {g k j:Nat} {z:Int} {W:World} (h:dZ g z W) (hk:g≠k) (v:Value):dZ g z (W.setCell ⟨k,j,none⟩ v):=by unfold dZ;rw [aH _ _ _ _ (by show g≠k;exact hk)];exact h
theorem sD (n:Nat):bv (n:Int)=eP false (dg n):=by
 unfold bv
 rw [aN (by omega),bW]
theorem Ba (a b:Nat) (w:World):Calls Tryz.prog 165 #[.agg (bv (a:Int)),.agg (bv (b:Int))] w (GH ((a + b:Nat):Int) w):=by
 have:=uY false false (dg a) (dg b) w (rZ _) (rZ _)
 rw [Ec,←sD,←sD] at this
 refine this.mono ?_
 rintro e w' ⟨rfl,hb⟩
 exact ⟨by rw [sD],hb⟩
theorem Rb (a b:Nat) (w:World) (ha:a < BB) (hb:b < BB):Calls Tryz.prog 166 #[.agg (bv (a:Int)),.agg (bv (b:Int))] w fun e w'=>e=.returned (.bool (decide (a < b)))∧Below w.heap.size w w':=by
 have:=JQ false false (dg a) (dg b) w (gD _) (gD _)
 rw [QN ha hb,←sD,←sD] at this
 exact this
theorem Sv (a b:Nat) (w:World) (h:b≤a):Calls Tryz.prog 167 #[.agg (bv (a:Int)),.agg (bv (b:Int))] w (GH ((a - b:Nat):Int) w):=by
 have:=AQ false false (dg a) (dg b) w (rZ _) (rZ _)
 rw [MF h,←sD,←sD] at this
 refine this.mono ?_
 rintro e w' ⟨rfl,hb⟩
 exact ⟨by rw [sD],hb⟩
theorem zD (z:Int) (b:Bool) (w:World) (hz:z.natAbs < BB) (hb:decide (z=0)=b):Calls Tryz.prog 164 #[.agg (bv z)] w fun e w'=>e=.returned (.bool b)∧Below w.heap.size w w':=by
 have:=mG (decide (z < 0)) (dg z.natAbs) w (gD _)
 rw [oF hz] at this
 rw [show b=decide (z.natAbs=0) by rw [←hb,bY];omega]
 exact this
structure uH (x c:Int) (n q r B:Nat) (w W:World):Prop where
 bx:dZ w.heap.size x W
 bc:dZ (w.heap.size + 1) c W
 r1:dZ (w.heap.size + 1 + 1) 0 W
 r2:dZ (w.heap.size + 1 + 1 + 1) 0 W
 bq:dZ B (q:Int) W
 br:dZ (B + 1) (r:Int) W
 bd:dZ (B + 1 + 1) (n:Int) W
 hB:w.heap.size + 1 + 1 + 1 < B
 below:Below w.heap.size w W
theorem uH.up {x c:Int} {n q r B:Nat} {w W X:World} (i:uH x c n q r B w W) (hb:Below W.heap.size W X):uH x c n q r B w X :=
 ⟨dZ.below hb i.bx,dZ.below hb i.bc,dZ.below hb i.r1,dZ.below hb i.r2,dZ.below hb i.bq,dZ.below hb i.br,dZ.below hb i.bd,i.hB,dY i.below hb⟩
theorem uH.Wh {x c:Int} {n q r B:Nat} {w W:World} (i:uH x c n q r B w W) (s:Nat):uH x c n q s B w (W.setRow (B + 1) (bv (s:Int))):=by
 have hB:=i.hB
 exact ⟨i.bx.other (by omega) _,i.bc.other (by omega) _,i.r1.other (by omega) _,i.r2.other (by omega) _,i.bq.other (by omega) _,i.br.row _,i.bd.other (by omega) _,hB,Below.row i.below (by omega) _⟩
theorem uH.Qj {x c:Int} {n q r B:Nat} {w W:World} (i:uH x c n q r B w W) (s:Nat):uH x c n s r B w (W.setRow B (bv (s:Int))):=by
 have hB:=i.hB
 exact ⟨i.bx.other (by omega) _,i.bc.other (by omega) _,i.r1.other (by omega) _,i.r2.other (by omega) _,i.bq.row _,i.br.other (by omega) _,i.bd.other (by omega) _,hB,Below.row i.below (by omega) _⟩
theorem uH.incR {x c:Int} {n q r B:Nat} {w W:World} (i:uH x c n q r B w W) {b:Nat} (hb:b≤1) (hr:r % 2=0):uH x c n q (r + b) B w (W.setCell ⟨B + 1,1,none⟩ (.int .u64 ((r % 65536 + b:Nat):Int))):=by
 have hB:=i.hB
 exact ⟨i.bx.iX (by omega) _,i.bc.iX (by omega) _,i.r1.iX (by omega) _,i.r2.iX (by omega) _,i.bq.iX (by omega) _,i.br.inc hb hr,i.bd.iX (by omega) _,hB,i.below.setCell (p:=⟨B + 1,1,none⟩) (by show _≤B + 1;omega) _⟩
theorem uH.incQ {x c:Int} {n q r B:Nat} {w W:World} (i:uH x c n q r B w W) (hr:q % 2=0):uH x c n (q + 1) r B w (W.setCell ⟨B,1,none⟩ (.int .u64 ((q % 65536 + 1:Nat):Int))):=by
 have hB:=i.hB
 exact ⟨i.bx.iX (by omega) _,i.bc.iX (by omega) _,i.r1.iX (by omega) _,i.r2.iX (by omega) _,i.bq.inc (by omega) hr,i.br.iX (by omega) _,i.bd.iX (by omega) _,hB,i.below.setCell (p:=⟨B,1,none⟩) (by show _≤B;omega) _⟩
def DoRel (x c:Int) (m n B:Nat) (w:World) (g:Nat) (s:Value) (W:World):Prop :=
 g≤144∧s=.int .i64 ((g:Int) - 1)∧uH x c n (m / 2 ^ g / n) (m / 2 ^ g % n) B w W
def DiRel (x c:Int) (n q r B D e:Nat) (w:World) (g:Nat) (s11 s12:Value) (W:World):Prop :=
 ∃ j:Nat,g=e - j∧s11=.int .u64 ((D / 2 ^ j:Nat):Int)∧s12=.int .i64 (j:Int)∧j≤e∧uH x c n q r B w W
theorem Kt {m n k q r b:Nat} (hn:0 < n) (hq:m / 2 ^ (k + 1) / n=q) (hr:m / 2 ^ (k + 1) % n=r) (hb:m / 2 ^ k % 2=b) :
  (r + r + b < n→m / 2 ^ k / n=q + q∧m / 2 ^ k % n=r + r + b)∧(¬ r + r + b < n→m / 2 ^ k / n=q + q + 1∧m / 2 ^ k % n=r + r + b - n):=by
 have h1:m / 2 ^ (k + 1)=m / 2 ^ k / 2:=by rw [bM,Nat.div_div_eq_div_mul]
 rw [h1] at hq hr
 generalize m / 2 ^ k=M at *
 have h2:=Nat.div_add_mod (M / 2) n
 rw [hq,hr] at h2
 have hrn:r < n:=by rw [←hr];exact cK _ hn
 have h3:n * (q + q)=n * q + n * q:=Nat.mul_add _ _ _
 have h4:n * (q + q + 1)=n * q + n * q + n:=by rw [Nat.mul_add,h3,Nat.mul_one]
 refine ⟨fun h=>(Nat.div_mod_unique hn).2 ⟨?_,h⟩,fun h=>(Nat.div_mod_unique hn).2 ⟨?_,by omega⟩⟩
 ·omega
 ·omega
theorem Rx (m k:Nat):m / 65536 ^ (k / 16) % 65536 / 2 ^ (k % 16) % 2=m / 2 ^ k % 2:=by
 have e1:(65536:Nat) ^ (k / 16)=2 ^ (16 * (k / 16)):=by rw [show (65536:Nat)=2 ^ 16 by decide,←Nat.pow_mul]
 have e2:k=16 * (k / 16) + k % 16:=by omega
 have e3:m / 2 ^ k=m / 2 ^ (16 * (k / 16)) / 2 ^ (k % 16):=by
  conv=>lhs;rw [e2,Nat.pow_add,←Nat.div_div_eq_div_mul]
 rw [e1,e3]
 generalize m / 2 ^ (16 * (k / 16))=u
 have e4:(65536:Nat)=2 ^ (k % 16) * 2 ^ (16 - k % 16):=by rw [←Nat.pow_add,show k % 16 + (16 - k % 16)=16 by omega]
 rw [e4,Nat.mod_mul_right_div_self,show 16 - k % 16=1 + (15 - k % 16) by omega,Nat.pow_add,Nat.pow_one,Nat.mod_mul_right_mod]
theorem dv_le {m n r k:Nat} (hn:0 < n) (h:m / 2 ^ k % n=r):r < n:=by rw [←h];exact cK _ hn
end Fx
end Go.Proofs.YtbbhmhihpdmoiaaGreat
